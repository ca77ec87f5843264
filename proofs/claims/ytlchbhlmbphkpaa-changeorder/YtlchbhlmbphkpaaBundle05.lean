/- topiaryref.CopyTrees and CopyTree: the same trees in new memory. Condition: at most 2^20 trees and attributes in each list. -/
import Derived.Test.YtlchbhlmbphkpaaBundle04
import Derived.Deep.RegionLaw
namespace Go.Proofs.Ytlchbhlmbphkpaa
open Go.ChangeShapes Go.WideShapes Go.ChangeAt Go.RowKit
set_option maxRecDepth 100000

/-- The copy of a list of attributes, as a step of a region that draws. -/
theorem step_attrs {ops : Array Oper} {o : Oper} {a : Act} {w : World} {K : Act → World → Prop} {Q : Exit → Act → World → Prop} {E : Prop}
    (hg : o.guard = none) (x : Operand) (hop : o.op = Op.call { callee := Callee.builtin Builtin.append, args := #[.const (.slice none 0 0), x], argTypes := #[39, 39] })
    (S : Nat → Prop) (v : Value) (l : List (ByteArray × ByteArray)) (hx : a.eval x = v) (h : Attrs S w v l) (hl : l.length ≤ 1048576)
    (hK : ∀ v' w', Attrs (OwnS w.heap.size 44 w') w' v' l → Below w.heap.size w w' → K (a.put o.dst v') w') :
    if Region.wanted o (yielded ops a.tmps) = true then Oper.wp Try.prog o a w K Q else E := by
  have hw : Region.wanted o (yielded ops a.tmps) = true := by simp [Region.wanted, hg]
  rw [if_pos hw]
  obtain ⟨i0, hi, hz0, hz1, hz2⟩ := info_parts attrInfo
  obtain ⟨ad, cap, rfl, h2, h3, h4⟩ := h
  have hs : a.eval (.const (.slice none 0 0)) = .slice none 0 0 := rfl
  cases ad with
  | none =>
    have hn : l = [] := by
      apply Classical.byContradiction; intro hne
      obtain ⟨b, o, ha, _⟩ := h4 hne
      cases ha
    subst hn
    have hrun : (Builtin.append_ #[39, 39] o.type #[.slice none 0 0, .slice none 0 cap]).run Try.prog w = .ok (.slice none 0 0) w := by
      simp [Builtin.append_, run_underlying Try.underlying39, sizeOf, typeInfo, hi, Builtin.lenOf, Builtin.firstCells]
    simp only [List.length_nil] at hx
    unfold Oper.wp
    simp [execOp, hop, resolve, invoke, builtin, hs, hx, hrun, Result.andThen]
    exact hK _ _ ⟨none, 0, rfl, Nat.le_refl _, Nat.zero_le _, fun hne => absurd rfl hne⟩ (Below.refl _ _)
  | some ad =>
    have hcells : ∀ j u, (attrCells l)[j]? = some u → w.cell? (ad.add j) = some u := by
      by_cases hne : l = []
      · subst hne; intro j u hj; simp [attrCells] at hj
      · obtain ⟨b, o, ha, _, hc⟩ := h4 hne
        cases ha
        intro j u hj
        rw [Addr.add_lit]
        exact Attrs.cells hc j u hj
    obtain ⟨v', w', hrun, r1, r2, _⟩ := run_append_own (P := Try.prog) w w.heap.size 39 o.type 44 i0 _ 2 32 Try.underlying39 hi hz0 hz1 hz2 rfl (by decide) (.slice none 0 0) 0 [] (World.ownsRow_nil w _ _ _) ad l.length cap (attrCells l) (attrCells_length l) hcells (attrCells_one l) (by unfold maxLen; omega) (by omega) (Nat.le_refl _)
    unfold Oper.wp
    simp [execOp, hop, resolve, invoke, builtin, hs, hx, hrun, Result.andThen]
    refine hK _ _ (Attrs.of_owns (by simpa using r1)) ((Below.refl _ w).grown r2 (Nat.le_refl _) (fun k hk => by simp [Value.ownBlock] at hk))

/-- A call of a Go function, as a step of a region that draws. -/
theorem step_enter {P : Program} {ops : Array Oper} {o : Oper} {a : Act} {w : World} {K : Act → World → Prop} {Q : Exit → Act → World → Prop} {E : Prop}
    (hg : o.guard = none) (f : FuncId) (args : Array Value) (hrun : (execOp a.eval o).run P w = .ok (.enter f args) w)
    (R : Value → World → Prop) (hc : Calls P f args w fun e w' => ∃ r, e = .returned r ∧ R r w')
    (hK : ∀ r w', R r w' → K (a.put o.dst r) w') :
    if Region.wanted o (yielded ops a.tmps) = true then Oper.wp P o a w K Q else E := by
  have hw : Region.wanted o (yielded ops a.tmps) = true := by simp [Region.wanted, hg]
  rw [if_pos hw]
  unfold Oper.wp
  rw [hrun, Oper.upon_enter]
  refine hc.mono ?_
  rintro e w' ⟨r, rfl, hr⟩
  exact hK r w' hr

/-- A boxed tree at n and the room for the answer behind it. -/
structure Boxed (n : Nat) (tx : Bool) (s : ByteArray) (aa ka : Option Addr) (al ac kl kc : Nat) (w : World) : Prop where
  c0 : w.cell? ⟨n, 0, none⟩ = some (.bool tx)
  c1 : w.cell? ⟨n, 1, none⟩ = some (.string s)
  c2 : w.cell? ⟨n, 2, none⟩ = some (.slice aa al ac)
  c3 : w.cell? ⟨n, 3, none⟩ = some (.slice ka kl kc)
  f : ∀ j, w.frozen? ⟨n, j, none⟩ = false
  r0 : w.cell? ⟨n + 1, 0, none⟩ = some (.bool false)
  r1 : w.cell? ⟨n + 1, 1, none⟩ = some (.string ⟨#[]⟩)
  r2 : w.cell? ⟨n + 1, 2, none⟩ = some (.slice none 0 0)
  r3 : w.cell? ⟨n + 1, 3, none⟩ = some (.slice none 0 0)
  rf : ∀ j, w.frozen? ⟨n + 1, j, none⟩ = false

theorem Boxed.later {n B : Nat} {tx : Bool} {s : ByteArray} {aa ka : Option Addr} {al ac kl kc : Nat} {w w' : World} (h : Boxed n tx s aa ka al ac kl kc w) (hb : Below B w w') (hn : n + 1 < B) : Boxed n tx s aa ka al ac kl kc w' where
  c0 := by rw [hb.cell (p := ⟨n, 0, none⟩) (by simp only; omega)]; exact h.c0
  c1 := by rw [hb.cell (p := ⟨n, 1, none⟩) (by simp only; omega)]; exact h.c1
  c2 := by rw [hb.cell (p := ⟨n, 2, none⟩) (by simp only; omega)]; exact h.c2
  c3 := by rw [hb.cell (p := ⟨n, 3, none⟩) (by simp only; omega)]; exact h.c3
  f := fun j => by rw [hb.frozen (p := ⟨n, j, none⟩) (by simp only; omega)]; exact h.f j
  r0 := by rw [hb.cell (p := ⟨n + 1, 0, none⟩) (by simp only; omega)]; exact h.r0
  r1 := by rw [hb.cell (p := ⟨n + 1, 1, none⟩) (by simp only; omega)]; exact h.r1
  r2 := by rw [hb.cell (p := ⟨n + 1, 2, none⟩) (by simp only; omega)]; exact h.r2
  r3 := by rw [hb.cell (p := ⟨n + 1, 3, none⟩) (by simp only; omega)]; exact h.r3
  rf := fun j => by rw [hb.frozen (p := ⟨n + 1, j, none⟩) (by simp only; omega)]; exact h.rf j

theorem Boxed.start (w : World) (tx : Bool) (s : ByteArray) (aa ka : Option Addr) (al ac kl kc : Nat) :
    Boxed w.heap.size tx s aa ka al ac kl kc ((w.alloc (.cells #[.bool tx, .string s, .slice aa al ac, .slice ka kl kc] 47)).alloc (.cells #[.bool false, .string ⟨#[]⟩, .slice none 0 0, .slice none 0 0] 47)) := by
  constructor <;> first | (simp [go_sem]; done) | (intro j; simp [go_sem]; done)

attribute [local go_sem] cell_set

end Go.Proofs.Ytlchbhlmbphkpaa

