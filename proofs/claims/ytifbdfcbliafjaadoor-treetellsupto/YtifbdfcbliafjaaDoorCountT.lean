/- tree.takeLast at the waiting groups of a counter: the last one, and the rest stays. No condition. -/
import Derived.Test.YtifbdfcbliafjaaDoorSizeM
import Derived.Test.YtifbdfcbliafjaaDoorTakeL
namespace Go.Proofs.YtifbdfcbliafjaaDoor
open Go.ChangeShapes Go.WideShapes Go.ChangeAt Go.RowKit
set_option maxRecDepth 100000

def groupCells : List (Value × Nat) → List Value
  | [] => []
  | x :: r => x.1 :: .int .i64 (x.2 : Int) :: groupCells r

theorem groupCells_length (l : List (Value × Nat)) : (groupCells l).length = l.length * 2 := by
  induction l with
  | nil => rfl
  | cons x r ih => simp [groupCells, ih]; omega

theorem groupCells_append (l m : List (Value × Nat)) : groupCells (l ++ m) = groupCells l ++ groupCells m := by
  induction l with
  | nil => rfl
  | cons x r ih => simp [groupCells, ih]

/-- The front of a row of the call's own. -/
theorem ownsRow_front {w : World} {B : Nat} {e : TypeId} {size g cap n : Nat} {xs ys : List Value} (h : w.ownsRow B e size (.slice (some ⟨g, 0, none⟩) (n + 1) cap) (n + 1) (xs ++ ys)) (hx : xs.length = n * size) :
    w.ownsRow B e size (.slice (some ⟨g, 0, none⟩) n cap) n xs := by
  obtain ⟨h1, h2⟩ := h
  rcases h2 with ⟨h0, _⟩ | ⟨g', cap', cur, hv, hg, hh, hn, hcap, hsz, htake⟩
  · cases h0
  · cases hv
    refine ⟨hx, Or.inr ⟨g, cap, cur, rfl, hg, hh, by omega, hcap, hsz, ?_⟩⟩
    have e1 : cur.toList.take (n * size) = (cur.toList.take ((n + 1) * size)).take (n * size) := by
      rw [List.take_take, Nat.min_eq_left (Nat.mul_le_mul_right _ (by omega))]
    rw [e1, htake, ← hx, List.take_left]

/-- A counter of the call's own at block cb: depth, count, the waiting groups. -/
structure Cst (B cb : Nat) (w : World) (dd cc : Nat) (v : Value) (G : List (Value × Nat)) : Prop where
  base : B ≤ cb
  held : w.heap[cb]? = some (.cells #[.int .i64 (dd : Int), .int .i64 (cc : Int), v] 47 (0, 0))
  own : w.ownsRow B 69 2 v G.length (groupCells G)
  slices : ∀ x ∈ G, ∃ a l c, x.1 = .slice a l c

theorem Cst.lt {B cb : Nat} {w : World} {dd cc : Nat} {v : Value} {G : List (Value × Nat)} (h : Cst B cb w dd cc v G) : cb < w.heap.size := by
  rcases Nat.lt_or_ge cb w.heap.size with h' | h'
  · exact h'
  · have := h.held; simp [Array.getElem?_eq_none h'] at this

theorem Cst.apart {B cb : Nat} {w : World} {dd cc : Nat} {v : Value} {G : List (Value × Nat)} (h : Cst B cb w dd cc v G) : v.ownBlock ≠ some cb := by
  intro e
  obtain ⟨_, c, fz, hc⟩ := ownsRow_type h.own e
  rw [h.held] at hc
  simp at hc

theorem Cst.shape {B cb : Nat} {w : World} {dd cc : Nat} {v : Value} {G : List (Value × Nat)} (h : Cst B cb w dd cc v G) : ∃ a c, v = .slice a G.length c := by
  rcases h.own.2 with ⟨hv, h0⟩ | ⟨g, cap, cur, hv, _⟩
  · exact ⟨none, 0, by rw [hv, h0]⟩
  · exact ⟨_, _, hv⟩

theorem takeG_any (B cb : Nat) (w : World) (dd cc : Nat) (v : Value) (G : List (Value × Nat)) (x : Value) (d : Nat) (h : Cst B cb w dd cc v (G ++ [(x, d)])) (hBw : B ≤ w.heap.size) :
    Calls Tryd.prog 45 #[.pointer (some ⟨cb, 2, none⟩)] w fun e w' => e = .returned (.agg #[x, .int .i64 (d : Int)]) ∧ ∃ v', Cst B cb w' dd cc v' G ∧ v'.ownBlock = v.ownBlock ∧ (∀ b, b < w.heap.size → b ≠ cb → w'.heap[b]? = w.heap[b]?) ∧ Below B w w' := by
  have hap := h.apart
  have hlt := h.lt
  obtain ⟨hB, hj, hown, hsl⟩ := h
  obtain ⟨xa, xl, xc, hx⟩ := hsl (x, d) (by simp)
  simp only at hx
  subst hx
  rcases hown.2 with ⟨_, h0⟩ | ⟨g, cap, cur, rfl, hg, hh, hc, hm, hs, ht⟩
  · simp at h0
  have hlen : (G ++ [(Value.slice xa xl xc, d)]).length = G.length + 1 := by simp
  rw [hlen] at hown hj hc ht
  have c2 : w.cell? ⟨cb, 2, none⟩ = some (.slice (some ⟨g, 0, none⟩) (G.length + 1) cap) := by rw [Lib.cell_of_heap hj]; rfl
  have f2 : w.frozen? ⟨cb, 2, none⟩ = false := Lib.frozen_of_heap hj 2
  have hgl := groupCells_length G
  have k0 : w.cell? ⟨g, G.length * 2, none⟩ = some (.slice xa xl xc) := by
    rw [World.ownsRow.cellAt hown _ (by omega), groupCells_append, List.getElem?_append_right (by omega), hgl]; simp [groupCells]
  have k1 : w.cell? ⟨g, G.length * 2 + 1, none⟩ = some (.int .i64 (d : Int)) := by
    rw [World.ownsRow.cellAt hown _ (by omega), groupCells_append, List.getElem?_append_right (by omega), hgl]; simp [groupCells]
  have hgs : g < w.heap.size := World.block_lt_of_cell? w _ k0
  unfold maxLen at hm
  have HJ : Hid (w.heap[cb]? = some (.cells #[.int .i64 (dd : Int), .int .i64 (cc : Int), .slice (some ⟨g, 0, none⟩) (G.length + 1) cap] 47 (0, 0))) := hj
  clear hj hgl
  go_enter Tryd.func45, Tryd.ntmps45
  go_wp2_with fail
  have hk : ∀ b, b < w.heap.size → b ≠ cb → (((w.setCell ⟨cb, 2, none⟩ (.slice (some ⟨g, 0, none⟩) G.length cap)).alloc (.cells #[.slice xa xl xc, .int .i64 (d : Int)] 69)).alloc (.cells #[.slice xa xl xc, .int .i64 (d : Int)] 69)).heap[b]? = w.heap[b]? := by
    intro b hb hbc
    rw [Lib.alloc_old _ _ _ (by simp; omega), Lib.alloc_old _ _ _ (by simp; omega), Below.heap_setCell _ _ _ _ hbc]
  have hgc : g ≠ cb := fun e => hap (by rw [e]; rfl)
  refine bodyPost_ret (v := .agg #[.slice xa xl xc, .int .i64 (d : Int)]) (by simp [results, Tryd.results45, go_sem]) rfl ⟨rfl, .slice (some ⟨g, 0, none⟩) G.length cap, ⟨hB, ?_, ?_, fun y hy => hsl y (by simp [hy])⟩, ?_, hk, ?_⟩
  · rw [Lib.alloc_old _ _ _ (by simp; omega), Lib.alloc_old _ _ _ (by simp; omega)]
    simp [World.setCell, Array.getElem?_modify, HJ.out]
  · rw [groupCells_append] at hown
    exact ownsRow_heap (ownsRow_front hown (groupCells_length G)) fun b hb => by cases hb; exact hk g hgs hgc
  · rfl
  · exact ((((Below.refl B w).setCell hB _).alloc (by simp; omega) _).alloc (by simp; omega) _)
end Go.Proofs.YtifbdfcbliafjaaDoor
