/- tree.Good, for every tree, and four trees written out. Condition: texts of at most 2^63 letters, which every text has. -/
import Derived.Test.YtmbmfomeiioijaaOnceM
namespace Go.Proofs.Ytmbmfomeiioijaa
open Go.ChangeShapes Go.WideShapes Go.ChangeAt Go.RowKit
set_option maxRecDepth 100000

/-- A list of trees laid out in one block. -/
theorem Trees.of_block {S : Nat → Prop} {w : World} {n g len cap : Nat} {cs : Array Value} {e : TypeId} {fz : Nat × Nat} {ts : List Tr} {qs : List (Bool × ByteArray × Value × Value)} (hh : w.heap[g]? = some (.cells cs e fz)) (hcs : cs.toList = quadCells qs) (hl : len = ts.length) (hq : qs.length = ts.length) (hc : len ≤ cap) (hm : cap ≤ maxLen)
    (he : ∀ (i : Nat) (q : Bool × ByteArray × Value × Value) (t : Tr), qs[i]? = some q → ts[i]? = some t → q.1 = t.text ∧ q.2.1 = t.s ∧ Attrs S w q.2.2.1 t.attrs ∧ Trees S w n q.2.2.2 t.kids) :
    Trees (fun b => S b ∨ b = g) w (n + 1) (.slice (some ⟨g, 0, none⟩) len cap) ts := by
  subst hl
  refine ⟨_, _, rfl, hc, hm, fun _ => ⟨g, 0, rfl, Or.inr rfl, fun i t ht => ?_⟩⟩
  have hi : i < ts.length := by
    rcases Nat.lt_or_ge i ts.length with h | h
    · exact h
    · rw [List.getElem?_eq_none h] at ht; cases ht
  obtain ⟨q, hqi⟩ : ∃ q, qs[i]? = some q := ⟨qs[i]'(by omega), by simp [hq, hi]⟩
  obtain ⟨a, b, c, d⟩ := he i q t hqi ht
  obtain ⟨g0, g1, g2, g3⟩ := quadCells_get qs i q hqi
  have hcell : ∀ j, w.cell? ⟨g, j, none⟩ = (quadCells qs)[j]? := by
    intro j; rw [Lib.cell_of_heap hh, ← hcs]; simp
  refine ⟨q.2.2.1, q.2.2.2, ?_, ?_, ?_, ?_, c.carry (fun b hb => ⟨Or.inl hb, rfl⟩), Trees.carry (fun b hb => ⟨Or.inl hb, rfl⟩) n d⟩
  · rw [Nat.zero_add, hcell, g0, a]
  · rw [Nat.zero_add, hcell, g1, b]
  · rw [Nat.zero_add, hcell, g2]
  · rw [Nat.zero_add, hcell, g3]

def goodB (t : Tr) : Bool := !t.text && contentB [t]

theorem good_any (S : Nat → Prop) (n : Nat) (va vk : Value) (t : Tr) (w : World) (h : Attrs S w va t.attrs) (hk : Trees S w n vk t.kids) (hx : TextsN (n + 1) [t]) :
    Calls Try.prog 17 #[.agg #[.bool t.text, .string t.s, va, vk]] w fun e w' => e = .returned (.bool (goodB t)) ∧ Below w.heap.size w w' := by
  obtain ⟨aa, ac, rfl⟩ := h.shape
  obtain ⟨ka, kc, rfl, _, _⟩ := Trees.shape n hk
  cases htx : t.text with
  | true =>
    go_enter Try.func17, Try.ntmps17
    go_wp2_with fail
    go_ret
    exact ⟨by simp [goodB, htx], Below.alloc1 _ _⟩
  | false =>
    go_enter Try.func17, Try.ntmps17
    go_wp2_with fail
    have hb : ∀ X Y, Below w.heap.size w ((w.alloc X).alloc Y) := fun X Y => (Below.alloc1 w X).alloc (by simp) Y
    refine (content_any (fun b => S b ∨ b = w.heap.size + 1) (n + 1) _ [t] _ (Trees.of_block (e := 29) (fz := (0, 0)) (qs := [(false, t.s, .slice aa t.attrs.length ac, .slice ka t.kids.length kc)]) ?_ rfl rfl rfl (Nat.le_refl _) (by unfold maxLen; simp) ?_) hx).mono ?_
    · have := heap_alloc_new (w.alloc (.cells #[.bool false, .string t.s, .slice aa t.attrs.length ac, .slice ka t.kids.length kc] 29)) (.cells #[.bool false, .string t.s, .slice aa t.attrs.length ac, .slice ka t.kids.length kc] 29)
      rw [World.size_alloc] at this
      exact this
    · intro i q t' hq ht'
      cases i with
      | zero =>
        simp at hq ht'
        subst hq ht'
        exact ⟨htx.symm, rfl, h.later (hb _ _), Trees.later (hb _ _) n hk⟩
      | succ i => simp at ht'
    rintro e w1 ⟨rfl, hb1⟩
    go_wp2_with fail
    go_ret
    exact ⟨by simp [goodB, htx], (hb _ _).trans (hb1.mono (by simp; omega))⟩

def tA : Tr := ⟨false, ⟨#[97]⟩, [], []⟩
def tNone : Tr := ⟨false, ⟨#[]⟩, [], []⟩
def tFour : List Tr := [⟨true, ⟨#[97]⟩, [], []⟩, ⟨true, ⟨#[]⟩, [], []⟩, ⟨true, ⟨#[98]⟩, [], []⟩, ⟨false, ⟨#[99]⟩, [], []⟩]

theorem good_a : goodB tA = true := by decide
theorem good_none : goodB tNone = false := by decide
theorem join_four : joinB 0 tFour = [⟨true, ⟨#[97, 98]⟩, [], []⟩, ⟨false, ⟨#[99]⟩, [], []⟩] := by rfl
theorem small_four : Small 1 tFour := by
  refine ⟨by decide, by decide, ?_⟩
  intro t ht
  simp [tFour] at ht
  rcases ht with rfl | rfl | rfl | rfl <;> exact ⟨by decide, by decide, trivial⟩

theorem four_each {w : World} : ∀ (i : Nat) (q : Bool × ByteArray × Value × Value) (t : Tr), ([(true, ⟨#[97]⟩, .slice none 0 0, .slice none 0 0), (true, ⟨#[]⟩, .slice none 0 0, .slice none 0 0), (true, ⟨#[98]⟩, .slice none 0 0, .slice none 0 0), (false, ⟨#[99]⟩, .slice none 0 0, .slice none 0 0)] : List (Bool × ByteArray × Value × Value))[i]? = some q → tFour[i]? = some t →
    q.1 = t.text ∧ q.2.1 = t.s ∧ Attrs (fun _ => False) w q.2.2.1 t.attrs ∧ Trees (fun _ => False) w 0 q.2.2.2 t.kids := by
  intro i q t hq ht
  match i, hq, ht with
  | 0, hq, ht | 1, hq, ht | 2, hq, ht | 3, hq, ht =>
    simp [tFour] at hq ht
    subst hq ht
    exact ⟨rfl, rfl, Attrs.nil, rfl, none, 0, rfl, Nat.zero_le _⟩
  | i + 4, hq, _ => simp at hq

end Go.Proofs.Ytmbmfomeiioijaa
