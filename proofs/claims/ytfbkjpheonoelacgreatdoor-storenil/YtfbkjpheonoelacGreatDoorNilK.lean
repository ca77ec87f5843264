/- topiarylaw.StoreNil says true. No condition. -/
import Derived.Test.YtfbkjpheonoelacGreatDoorBase
import Derived.Test.YtfbkjpheonoelacGreatDoorChecked
import Derived.Lib.Builder
namespace Go.Proofs.YtfbkjpheonoelacGreatDoor
open Go.ChangeShapes Go.WideShapes Go.ChangeAt Go.RowKit
set_option maxRecDepth 100000

attribute [local go_sem] cell_set

theorem refusal_any (c : Int) (w : World) :
    Calls Tryz.prog 47 #[.int .i64 c] w fun e w' => e = .returned (.agg #[.int .i64 c, .int .i64 0, .string ⟨#[]⟩]) ∧ Below w.heap.size w w' := by
  go_enter Tryz.func47, Tryz.ntmps47
  go_wp2_with fail
  refine bodyPost_ret (v := .agg #[.int .i64 c, .int .i64 0, .string ⟨#[]⟩]) (by simp [results, Tryz.results47, go_sem]) rfl ⟨rfl, Below.alloc1 _ _⟩

theorem doNil_any (c0 c1 : Value) (w : World) :
    Calls Tryz.prog 19 #[.pointer none, .agg #[c0, c1]] w fun e w' => e = .returned (.agg #[.int .i64 3, .int .i64 0, .string ⟨#[]⟩]) ∧ Below w.heap.size w w' := by
  have HR : Hid (∀ W, Calls Tryz.prog 47 #[.int .i64 3] W fun e w' => e = .returned (.agg #[.int .i64 3, .int .i64 0, .string ⟨#[]⟩]) ∧ Below W.heap.size W w') := refusal_any 3
  have hb : Below w.heap.size w ((w.alloc (.cells #[c0, c1] 35)).alloc (.cells #[.int .i64 0, .int .i64 0, .string ⟨#[]⟩] 38)) := (Below.alloc1 w _).alloc (by simp) _
  have hr : ((w.alloc (.cells #[c0, c1] 35)).alloc (.cells #[.int .i64 0, .int .i64 0, .string ⟨#[]⟩] 38)).heap[w.heap.size + 1]? = some (.cells #[.int .i64 0, .int .i64 0, .string ⟨#[]⟩] 38 (0, 0)) := by
    have e := heap_alloc_new (w.alloc (.cells #[c0, c1] 35)) (.cells #[.int .i64 0, .int .i64 0, .string ⟨#[]⟩] 38)
    rw [World.size_alloc] at e
    exact e
  go_enter Tryz.func19, Tryz.ntmps19
  go_wp2_with fail
  generalize (w.alloc (.cells #[c0, c1] 35)).alloc (.cells #[.int .i64 0, .int .i64 0, .string ⟨#[]⟩] 38) = W at hb hr ⊢
  refine (HR.out W).mono ?_
  rintro e w1 ⟨rfl, hb1⟩
  have hlt : w.heap.size + 1 < W.heap.size := by
    rcases Nat.lt_or_ge (w.heap.size + 1) W.heap.size with h | h
    · exact h
    · rw [Array.getElem?_eq_none h] at hr; cases hr
  have hr1 := (hb1.block _ hlt).trans hr
  have r0 : w1.cell? ⟨w.heap.size + 1, 0, none⟩ = some (.int .i64 0) := by rw [Lib.cell_of_heap hr1]; rfl
  have r1 : w1.cell? ⟨w.heap.size + 1, 1, none⟩ = some (.int .i64 0) := by rw [Lib.cell_of_heap hr1]; rfl
  have r2 : w1.cell? ⟨w.heap.size + 1, 2, none⟩ = some (.string ⟨#[]⟩) := by rw [Lib.cell_of_heap hr1]; rfl
  have f0 : w1.frozen? ⟨w.heap.size + 1, 0, none⟩ = false := Lib.frozen_of_heap hr1 0
  have f1 : w1.frozen? ⟨w.heap.size + 1, 1, none⟩ = false := Lib.frozen_of_heap hr1 1
  have f2 : w1.frozen? ⟨w.heap.size + 1, 2, none⟩ = false := Lib.frozen_of_heap hr1 2
  have hB : Below w.heap.size w w1 := hb.trans (hb1.mono hb.size)
  clear HR hr hr1 hb hb1
  go_wp2_with fail
  refine bodyPost_ret (v := .agg #[.int .i64 3, .int .i64 0, .string ⟨#[]⟩]) (by simp [results, Tryz.results19, go_sem, cell_set, r0, r1, r2, World.cell?_setCell_other]) rfl ⟨rfl, ?_⟩
  exact ((hB.setCell (p := ⟨w.heap.size + 1, 0, none⟩) (by show w.heap.size ≤ w.heap.size + 1; omega) _).setCell (p := ⟨w.heap.size + 1, 1, none⟩) (by show w.heap.size ≤ w.heap.size + 1; omega) _).setCell (p := ⟨w.heap.size + 1, 2, none⟩) (by show w.heap.size ≤ w.heap.size + 1; omega) _

theorem docNil_any (w : World) :
    Calls Tryz.prog 20 #[.pointer none] w fun e w' => e = .returned (.agg #[.slice none 0 0]) ∧ Below w.heap.size w w' := by
  go_enter Tryz.func20, Tryz.ntmps20
  go_wp2_with fail
  refine bodyPost_ret (v := .agg #[.slice none 0 0]) (by simp [results, Tryz.results20, go_sem]) rfl ⟨rfl, Below.alloc1 _ _⟩

theorem field_nil (w : World) : (Instr.field 42 (.agg #[.slice none 0 0]) 0).run Tryz.prog w = .ok (.slice none 0 0) w := by
  simp [Instr.field, part, asAgg, go_sem]

theorem storeNil_any (c0 c1 : Value) (w : World) :
    Calls Tryz.prog 4 #[.agg #[c0, c1]] w fun e w' => e = .returned (.bool true) ∧ Below w.heap.size w w' := by
  have hb := Below.alloc1 w (.cells #[c0, c1] 35)
  have HD : Hid (∀ W, Calls Tryz.prog 19 #[.pointer none, .agg #[c0, c1]] W fun e w' => e = .returned (.agg #[.int .i64 3, .int .i64 0, .string ⟨#[]⟩]) ∧ Below W.heap.size W w') := doNil_any c0 c1
  go_enter Tryz.func4, Tryz.ntmps4
  go_wp2_with fail
  refine (HD.out _).mono ?_
  rintro e w1 ⟨rfl, hb1⟩
  have hB : Below w.heap.size w w1 := hb.trans (hb1.mono hb.size)
  clear HD hb1 hb
  go_wp2_with fail
  refine (docNil_any w1).mono ?_
  rintro e w2 ⟨rfl, hb2⟩
  have hfn := field_nil w2
  go_wp2_with fail
  go_ret
  exact ⟨rfl, hB.trans (hb2.mono hB.size)⟩

end Go.Proofs.YtfbkjpheonoelacGreatDoor
