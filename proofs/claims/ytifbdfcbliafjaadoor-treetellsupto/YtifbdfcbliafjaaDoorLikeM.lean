/- When two lists of trees are alike, as a function on plain data. No condition. -/
import Derived.Test.YtifbdfcbliafjaaDoorBase
import Derived.Laws.Strings
namespace Go.Proofs.YtifbdfcbliafjaaDoor
set_option maxRecDepth 100000

theorem bytes_ne {a b : ByteArray} (h : a ≠ b) : (a.toList == b.toList) = false := by
  rw [ByteArray.toList_eq, ByteArray.toList_eq]
  apply beq_eq_false_iff_ne.2
  intro e
  apply h
  cases a; cases b
  simp at e
  subst e
  rfl

theorem bytes_dec (a b : ByteArray) : decide (a = b) = (a.toList == b.toList) := by
  by_cases h : a = b
  · subst h; simp
  · rw [bytes_ne h]; exact decide_eq_false h

def aloneB (t u : Tr) : Bool := t.text == u.text && decide (t.s = u.s) && decide (t.attrs = u.attrs)

/-- Whether two lists of trees, at most n deep, are alike. -/
def likeB : Nat → List Tr → List Tr → Bool
  | 0, ts, us => decide (ts.length = us.length)
  | n + 1, ts, us => decide (ts.length = us.length) && (ts.zip us).all fun p => aloneB p.1 p.2 && likeB n p.1.kids p.2.kids

/-- The same of the first k alone. -/
def preB (n : Nat) (ts us : List Tr) (k : Nat) : Bool := ((ts.zip us).take k).all fun p => aloneB p.1 p.2 && likeB n p.1.kids p.2.kids

theorem preB_zero (n : Nat) (ts us : List Tr) : preB n ts us 0 = true := by simp [preB]

theorem preB_succ {n k : Nat} {ts us : List Tr} {t u : Tr} (ht : ts[k]? = some t) (hu : us[k]? = some u) :
    preB n ts us (k + 1) = (preB n ts us k && (aloneB t u && likeB n t.kids u.kids)) := by
  have hz : (ts.zip us)[k]? = some (t, u) := by rw [List.getElem?_zip_eq_some]; exact ⟨ht, hu⟩
  obtain ⟨hk, hz'⟩ := List.getElem?_eq_some_iff.1 hz
  unfold preB
  rw [List.take_succ_eq_append_getElem hk, List.all_append, hz']
  simp

theorem likeB_pre {n : Nat} {ts us : List Tr} (h : ts.length = us.length) : likeB (n + 1) ts us = preB n ts us ts.length := by
  have hl : (ts.zip us).length = ts.length := by simp [List.length_zip, h]
  unfold preB
  rw [← hl, List.take_length]
  simp [likeB, h]

theorem likeB_len {n : Nat} {ts us : List Tr} (h : ts.length ≠ us.length) : likeB n ts us = false := by
  cases n <;> simp [likeB, h]

theorem likeB_nil (n : Nat) : likeB n [] [] = true := by
  cases n <;> simp [likeB]

/-- A tree that differs from its fellow tells the lists apart. -/
theorem likeB_no {n k : Nat} {ts us : List Tr} {t u : Tr} (ht : ts[k]? = some t) (hu : us[k]? = some u) (h : (aloneB t u && likeB n t.kids u.kids) = false) : likeB (n + 1) ts us = false := by
  have hz : (ts.zip us)[k]? = some (t, u) := by rw [List.getElem?_zip_eq_some]; exact ⟨ht, hu⟩
  have hm := List.mem_of_getElem? hz
  cases hb : likeB (n + 1) ts us with
  | false => rfl
  | true =>
    simp only [likeB, Bool.and_eq_true, List.all_eq_true] at hb
    have := hb.2 (t, u) hm
    rw [← Bool.and_eq_true] at this
    simp only at this
    rw [h] at this
    cases this
end Go.Proofs.YtifbdfcbliafjaaDoor
