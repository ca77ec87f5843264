/- A change of a list written anew. No condition. -/
import Derived.Test.YtlchbhlmbphkpaaBundle23
namespace Go.Proofs.Ytlchbhlmbphkpaa
open Go.ChangeShapes Go.WideShapes Go.ChangeAt Go.RowKit
set_option maxRecDepth 100000

/-- Five cells written. -/
def put5 (w : World) (b p : Nat) (v0 v1 v2 v3 v4 : Value) : World := ((((w.setCell ⟨b, p, none⟩ v0).setCell ⟨b, p + 1, none⟩ v1).setCell ⟨b, p + 2, none⟩ v2).setCell ⟨b, p + 3, none⟩ v3).setCell ⟨b, p + 4, none⟩ v4

theorem far_cell {b p q : Nat} (h : p ≠ q) : (⟨b, p, none⟩ : Addr) ≠ ⟨b, q, none⟩ := by intro e; injection e with _ e; exact h e

theorem put5_other {w : World} {b p q : Nat} {v0 v1 v2 v3 v4 : Value} (h : q < p ∨ p + 5 ≤ q) : (put5 w b p v0 v1 v2 v3 v4).cell? ⟨b, q, none⟩ = w.cell? ⟨b, q, none⟩ := by
  unfold put5
  rw [World.cell?_setCell_other _ _ _ _ (far_cell (by omega)), World.cell?_setCell_other _ _ _ _ (far_cell (by omega)), World.cell?_setCell_other _ _ _ _ (far_cell (by omega)), World.cell?_setCell_other _ _ _ _ (far_cell (by omega)), World.cell?_setCell_other _ _ _ _ (far_cell (by omega))]

theorem put5_block {w : World} {b p c : Nat} {v0 v1 v2 v3 v4 : Value} (h : c ≠ b) : (put5 w b p v0 v1 v2 v3 v4).heap[c]? = w.heap[c]? := by
  unfold put5
  rw [blk_set_ne h, blk_set_ne h, blk_set_ne h, blk_set_ne h, blk_set_ne h]

theorem put5_size (w : World) (b p : Nat) (v0 v1 v2 v3 v4 : Value) : (put5 w b p v0 v1 v2 v3 v4).heap.size = w.heap.size := by
  unfold put5
  simp only [World.size_setCell]

theorem put5_below {B b p : Nat} {w0 w : World} {v0 v1 v2 v3 v4 : Value} (h : Below B w0 w) (hb : B ≤ b) : Below B w0 (put5 w b p v0 v1 v2 v3 v4) := by
  unfold put5
  exact ((((h.setCell (p := ⟨b, p, none⟩) hb _).setCell (p := ⟨b, p + 1, none⟩) hb _).setCell (p := ⟨b, p + 2, none⟩) hb _).setCell (p := ⟨b, p + 3, none⟩) hb _).setCell (p := ⟨b, p + 4, none⟩) hb _

theorem put5_frozen (w : World) (b p q : Nat) (v0 v1 v2 v3 v4 : Value) : (put5 w b p v0 v1 v2 v3 v4).frozen? ⟨b, q, none⟩ = w.frozen? ⟨b, q, none⟩ := by
  unfold put5
  rw [World.frozen?_setCell, World.frozen?_setCell, World.frozen?_setCell, World.frozen?_setCell, World.frozen?_setCell]

theorem heap_drew (w : World) (b : Nat) : w.drew.heap[b]? = w.heap[b]? := rfl
theorem cell_drew (w : World) (a : Addr) : w.drew.cell? a = w.cell? a := rfl
theorem frozen_drew (w : World) (a : Addr) : w.drew.frozen? a = w.frozen? a := rfl

theorem put5_at {w : World} {b p : Nat} {v0 v1 v2 v3 v4 u0 u1 u2 u3 u4 : Value} (h0 : w.cell? ⟨b, p, none⟩ = some u0) (h1 : w.cell? ⟨b, p + 1, none⟩ = some u1) (h2 : w.cell? ⟨b, p + 2, none⟩ = some u2) (h3 : w.cell? ⟨b, p + 3, none⟩ = some u3) (h4 : w.cell? ⟨b, p + 4, none⟩ = some u4) :
    (put5 w b p v0 v1 v2 v3 v4).cell? ⟨b, p, none⟩ = some v0 ∧ (put5 w b p v0 v1 v2 v3 v4).cell? ⟨b, p + 1, none⟩ = some v1 ∧ (put5 w b p v0 v1 v2 v3 v4).cell? ⟨b, p + 2, none⟩ = some v2 ∧ (put5 w b p v0 v1 v2 v3 v4).cell? ⟨b, p + 3, none⟩ = some v3 ∧ (put5 w b p v0 v1 v2 v3 v4).cell? ⟨b, p + 4, none⟩ = some v4 := by
  have sm : ∀ (W : World) (a : Addr) (v u : Value), W.cell? a = some u → (W.setCell a v).cell? a = some v := fun W a v u h => cell_set (by rw [h]; rfl)
  have ot : ∀ (W : World) (q r : Nat) (v u : Value), q ≠ r → W.cell? ⟨b, r, none⟩ = some u → (W.setCell ⟨b, q, none⟩ v).cell? ⟨b, r, none⟩ = some u := fun W q r v u hne h => by rw [World.cell?_setCell_other _ _ _ _ (far_cell hne)]; exact h
  unfold put5
  refine ⟨?_, ?_, ?_, ?_, ?_⟩
  · exact ot _ _ _ _ _ (by omega) (ot _ _ _ _ _ (by omega) (ot _ _ _ _ _ (by omega) (ot _ _ _ _ _ (by omega) (sm _ _ _ _ h0))))
  · exact ot _ _ _ _ _ (by omega) (ot _ _ _ _ _ (by omega) (ot _ _ _ _ _ (by omega) (sm _ _ _ _ (ot _ _ _ _ _ (by omega) h1))))
  · exact ot _ _ _ _ _ (by omega) (ot _ _ _ _ _ (by omega) (sm _ _ _ _ (ot _ _ _ _ _ (by omega) (ot _ _ _ _ _ (by omega) h2))))
  · exact ot _ _ _ _ _ (by omega) (sm _ _ _ _ (ot _ _ _ _ _ (by omega) (ot _ _ _ _ _ (by omega) (ot _ _ _ _ _ (by omega) h3))))
  · exact sm _ _ _ _ (ot _ _ _ _ _ (by omega) (ot _ _ _ _ _ (by omega) (ot _ _ _ _ _ (by omega) (ot _ _ _ _ _ (by omega) h4))))

theorem OpsR.put {T : Nat → Prop} {w : World} {n g o len cap : Nat} {l : List Opn} (h : OpsR (fun b => b = g) T w n (.slice (some ⟨g, o, none⟩) len cap) l) (hg : ∀ b, T b → b ≠ g) {i : Nat} (hi : i < l.length) (t : Opn) {ca : Option Addr} {cc : Nat} (hT : Trees T w n (.slice ca t.content.length cc) t.content) :
    OpsR (fun b => b = g) T (put5 w g (o + i * 5) (.int .i64 t.kind) (.int .i64 t.target) (.slice ca t.content.length cc) (.string t.name) (.string t.s)) n (.slice (some ⟨g, o, none⟩) len cap) (l.set i t) := by
  obtain ⟨a, c, h1, h2, h3, h4⟩ := h
  injection h1 with h1a h1b h1c
  subst h1a h1b h1c
  obtain ⟨b2, o2, hab, _, hc⟩ := h4 (by intro e; rw [e] at hi; simp at hi)
  injection hab with hab
  injection hab with hb2 ho2
  subst hb2 ho2
  have keep : ∀ (k : Nat) (v : Value) (ts : List Tr), Trees T w k v ts → Trees T (put5 w g (o + i * 5) (.int .i64 t.kind) (.int .i64 t.target) (.slice ca t.content.length cc) (.string t.name) (.string t.s)) k v ts := fun k v ts hh => Trees.carry (fun b hb => ⟨hb, put5_block (hg b hb)⟩) k hh
  refine ⟨_, cap, by rw [List.length_set], by rw [List.length_set]; exact h2, h3, fun _ => ⟨g, o, rfl, rfl, fun j x hx => ?_⟩⟩
  by_cases hij : i = j
  · subst hij
    rw [List.getElem?_set_self hi] at hx
    obtain rfl := Option.some.inj hx
    obtain ⟨ca', cc', c0, c1, c2, c3, c4, _⟩ := hc i l[i] (List.getElem?_eq_getElem hi)
    obtain ⟨d0, d1, d2, d3, d4⟩ := put5_at (v0 := .int .i64 t.kind) (v1 := .int .i64 t.target) (v2 := .slice ca t.content.length cc) (v3 := .string t.name) (v4 := .string t.s) c0 c1 c2 c3 c4
    exact ⟨ca, cc, d0, d1, d2, d3, d4, keep _ _ _ hT⟩
  · rw [List.getElem?_set_ne hij] at hx
    obtain ⟨ca', cc', c0, c1, c2, c3, c4, hT'⟩ := hc j x hx
    have hq : ∀ c, c < 5 → o + j * 5 + c < o + i * 5 ∨ o + i * 5 + 5 ≤ o + j * 5 + c := by
      intro c hc
      rcases Nat.lt_or_ge j i with h | h
      · left; omega
      · right; omega
    refine ⟨ca', cc', ?_, ?_, ?_, ?_, ?_, keep _ _ _ hT'⟩
    · exact (put5_other (hq 0 (by omega))).trans c0
    · exact (put5_other (hq 1 (by omega))).trans c1
    · exact (put5_other (hq 2 (by omega))).trans c2
    · exact (put5_other (hq 3 (by omega))).trans c3
    · exact (put5_other (hq 4 (by omega))).trans c4
end Go.Proofs.Ytlchbhlmbphkpaa

