/- tree.takeLast at the waiting pairs of a comparer: the last one, and the rest stays. No condition. -/
import Derived.Test.YtifbdfcbliafjaaDoorLikeM
import Derived.Test.YtifbdfcbliafjaaDoorSizeM
import Derived.Test.YtifbdfcbliafjaaDoorTakeL
import Derived.Test.YtifbdfcbliafjaaDoorCountT
namespace Go.Proofs.YtifbdfcbliafjaaDoor
open Go.ChangeShapes Go.WideShapes Go.ChangeAt Go.RowKit
set_option maxRecDepth 100000

def pairCells : List (Value × Value) → List Value
  | [] => []
  | x :: r => x.1 :: x.2 :: pairCells r

theorem pairCells_length (l : List (Value × Value)) : (pairCells l).length = l.length * 2 := by
  induction l with
  | nil => rfl
  | cons x r ih => simp [pairCells, ih]; omega

theorem pairCells_append (l m : List (Value × Value)) : pairCells (l ++ m) = pairCells l ++ pairCells m := by
  induction l with
  | nil => rfl
  | cons x r ih => simp [pairCells, ih]

/-- A comparer of the call's own at block cb: the waiting pairs. -/
structure Pst (B cb : Nat) (w : World) (v : Value) (G : List (Value × Value)) : Prop where
  base : B ≤ cb
  held : w.heap[cb]? = some (.cells #[v] 57 (0, 0))
  own : w.ownsRow B 82 2 v G.length (pairCells G)
  slices : ∀ x ∈ G, (∃ a l c, x.1 = .slice a l c) ∧ ∃ a l c, x.2 = .slice a l c

theorem Pst.lt {B cb : Nat} {w : World} {v : Value} {G : List (Value × Value)} (h : Pst B cb w v G) : cb < w.heap.size := by
  rcases Nat.lt_or_ge cb w.heap.size with h' | h'
  · exact h'
  · have := h.held; simp [Array.getElem?_eq_none h'] at this

theorem Pst.apart {B cb : Nat} {w : World} {v : Value} {G : List (Value × Value)} (h : Pst B cb w v G) : v.ownBlock ≠ some cb := by
  intro e
  obtain ⟨_, c, fz, hc⟩ := ownsRow_type h.own e
  rw [h.held] at hc
  simp at hc

theorem Pst.shape {B cb : Nat} {w : World} {v : Value} {G : List (Value × Value)} (h : Pst B cb w v G) : ∃ a c, v = .slice a G.length c := by
  rcases h.own.2 with ⟨hv, h0⟩ | ⟨g, cap, cur, hv, _⟩
  · exact ⟨none, 0, by rw [hv, h0]⟩
  · exact ⟨_, _, hv⟩

theorem Pst.later {B cb : Nat} {w w' : World} {v : Value} {G : List (Value × Value)} (h : Pst B cb w v G) (hb : Below w.heap.size w w') : Pst B cb w' v G :=
  ⟨h.base, by rw [hb.block cb h.lt]; exact h.held, ownsRow_later h.own hb, h.slices⟩

theorem takeP_any (B cb : Nat) (w : World) (v : Value) (G : List (Value × Value)) (x y : Value) (h : Pst B cb w v (G ++ [(x, y)])) (hBw : B ≤ w.heap.size) :
    Calls Tryd.prog 55 #[.pointer (some ⟨cb, 0, none⟩)] w fun e w' => e = .returned (.agg #[x, y]) ∧ ∃ v', Pst B cb w' v' G ∧ v'.ownBlock = v.ownBlock ∧ (∀ b, b < w.heap.size → b ≠ cb → w'.heap[b]? = w.heap[b]?) ∧ Below B w w' := by
  have hap := h.apart
  have hlt := h.lt
  obtain ⟨hB, hj, hown, hsl⟩ := h
  obtain ⟨⟨xa, xl, xc, hx⟩, ya, yl, yc, hy⟩ := hsl (x, y) (by simp)
  simp only at hx hy
  subst hx
  subst hy
  rcases hown.2 with ⟨_, h0⟩ | ⟨g, cap, cur, rfl, hg, hh, hc, hm, hs, ht⟩
  · simp at h0
  have hlen : (G ++ [(Value.slice xa xl xc, Value.slice ya yl yc)]).length = G.length + 1 := by simp
  rw [hlen] at hown hj hc ht
  have c2 : w.cell? ⟨cb, 0, none⟩ = some (.slice (some ⟨g, 0, none⟩) (G.length + 1) cap) := by rw [Lib.cell_of_heap hj]; rfl
  have f2 : w.frozen? ⟨cb, 0, none⟩ = false := Lib.frozen_of_heap hj 0
  have hgl := pairCells_length G
  have k0 : w.cell? ⟨g, G.length * 2, none⟩ = some (.slice xa xl xc) := by
    rw [World.ownsRow.cellAt hown _ (by omega), pairCells_append, List.getElem?_append_right (by omega), hgl]; simp [pairCells]
  have k1 : w.cell? ⟨g, G.length * 2 + 1, none⟩ = some (.slice ya yl yc) := by
    rw [World.ownsRow.cellAt hown _ (by omega), pairCells_append, List.getElem?_append_right (by omega), hgl]; simp [pairCells]
  have hgs : g < w.heap.size := World.block_lt_of_cell? w _ k0
  unfold maxLen at hm
  have HJ : Hid (w.heap[cb]? = some (.cells #[.slice (some ⟨g, 0, none⟩) (G.length + 1) cap] 57 (0, 0))) := hj
  clear hj hgl
  go_enter Tryd.func55, Tryd.ntmps55
  go_wp2_with fail
  have hk : ∀ b, b < w.heap.size → b ≠ cb → (((w.setCell ⟨cb, 0, none⟩ (.slice (some ⟨g, 0, none⟩) G.length cap)).alloc (.cells #[.slice xa xl xc, .slice ya yl yc] 82)).alloc (.cells #[.slice xa xl xc, .slice ya yl yc] 82)).heap[b]? = w.heap[b]? := by
    intro b hb hbc
    rw [Lib.alloc_old _ _ _ (by simp; omega), Lib.alloc_old _ _ _ (by simp; omega), Below.heap_setCell _ _ _ _ hbc]
  have hgc : g ≠ cb := fun e => hap (by rw [e]; rfl)
  refine bodyPost_ret (v := .agg #[.slice xa xl xc, .slice ya yl yc]) (by simp [results, Tryd.results55, go_sem]) rfl ⟨rfl, .slice (some ⟨g, 0, none⟩) G.length cap, ⟨hB, ?_, ?_, fun y hy => hsl y (by simp [hy])⟩, ?_, hk, ?_⟩
  · rw [Lib.alloc_old _ _ _ (by simp; omega), Lib.alloc_old _ _ _ (by simp; omega)]
    simp [World.setCell, Array.getElem?_modify, HJ.out]
  · rw [pairCells_append] at hown
    exact ownsRow_heap (ownsRow_front hown (pairCells_length G)) fun b hb => by cases hb; exact hk g hgs hgc
  · rfl
  · exact ((((Below.refl B w).setCell hB _).alloc (by simp; omega) _).alloc (by simp; omega) _)
end Go.Proofs.YtifbdfcbliafjaaDoor
