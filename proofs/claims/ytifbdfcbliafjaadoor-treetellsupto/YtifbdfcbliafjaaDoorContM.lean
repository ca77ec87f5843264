/- What tree.roomBehind leaves, in terms of depth, count and what is right. No condition. -/
import Derived.Test.YtifbdfcbliafjaaDoorSizeM
import Derived.Test.YtifbdfcbliafjaaDoorRefRight
import Derived.Test.YtifbdfcbliafjaaDoorLit
namespace Go.Proofs.YtifbdfcbliafjaaDoor
open Go.ChangeShapes Go.WideShapes Go.ChangeAt Go.RowKit
set_option maxRecDepth 100000

theorem rgt_nil (n : Nat) : rgt n [] = true := by cases n <;> rfl

theorem right_kids {n : Nat} {t : Tr} (h : rightB t = true) : (t.text || rgt n t.kids) = rgt n t.kids := by
  cases htt : t.text with
  | false => rfl
  | true =>
    have : t.kids = [] := by
      simp [rightB, htt] at h
      exact h.2
    rw [this, rgt_nil]; rfl

theorem rl_eq (d n : Nat) (f : Int → List Tr → Int)
    (hf : ∀ room k, 0 ≤ room → Deep n k → f room k = if dep n k ≤ d ∧ (cnt n k : Int) ≤ room ∧ rgt n k = true then room - cnt n k else -1) :
    ∀ (l : List Tr) (p : Bool) (room : Int), 0 ≤ room → Deep (n + 1) l →
      rl f p room l = if dep n (nx l) ≤ d ∧ (cnt n (nx l) : Int) ≤ room ∧ rgL (rgt n) p l = true then room - cnt n (nx l) else -1 := by
  intro l
  induction l with
  | nil =>
    intro p room h0 _
    rw [nx_nil, dep_nil, cnt_nil, if_pos ⟨Nat.zero_le _, by simpa using h0, rfl⟩]
    simp [rl]
  | cons t r ih =>
    intro p room h0 hd
    have hk : Deep n t.kids := hd t (List.mem_cons_self ..)
    have hr : Deep (n + 1) r := fun x hx => hd x (List.mem_cons_of_mem _ hx)
    rw [nx_cons, dep_append, cnt_append]
    unfold rl
    have hfk := hf room t.kids h0 hk
    by_cases hA : (!rightB t || (p && t.text)) = true
    · rw [if_pos hA, if_neg]
      rintro ⟨_, _, h3⟩
      unfold rgL at h3
      cases h1 : rightB t <;> cases h2 : (p && t.text) <;> simp [h1, h2] at hA h3
    · rw [if_neg hA]
      have h1 : rightB t = true := by cases h : rightB t <;> simp [h] at hA ⊢
      have h2 : (p && t.text) = false := by cases h : (p && t.text) <;> simp [h] at hA ⊢
      have hg : rgL (rgt n) p (t :: r) = (rgt n t.kids && rgL (rgt n) t.text r) := by
        show (rightB t && !(p && t.text) && (t.text || rgt n t.kids) && rgL (rgt n) t.text r) = _
        rw [h1, h2, right_kids h1]; rfl
      rw [hg]
      by_cases hK : dep n t.kids ≤ d ∧ (cnt n t.kids : Int) ≤ room ∧ rgt n t.kids = true
      · rw [if_pos hK] at hfk
        rw [hfk, if_neg (by omega), ih t.text (room - cnt n t.kids) (by omega) hr]
        by_cases hR : dep n (nx r) ≤ d ∧ (cnt n (nx r) : Int) ≤ room - cnt n t.kids ∧ rgL (rgt n) t.text r = true
        · rw [if_pos hR, if_pos ⟨by omega, by push_cast; omega, by rw [hK.2.2, hR.2.2]; rfl⟩]
          push_cast; omega
        · rw [if_neg hR, if_neg]
          rintro ⟨a, b, c⟩
          rw [hK.2.2] at c
          exact hR ⟨by omega, by push_cast at b; omega, by simpa using c⟩
      · rw [if_neg hK] at hfk
        rw [hfk, if_pos (by decide), if_neg]
        rintro ⟨a, b, c⟩
        simp only [Bool.and_eq_true] at c
        exact hK ⟨by omega, by push_cast at b; omega, c.1⟩

theorem rb_eq : ∀ (d n : Nat) (l : List Tr) (room : Int), 0 ≤ room → Deep n l →
    rb d room l = if dep n l ≤ d ∧ (cnt n l : Int) ≤ room ∧ rgt n l = true then room - cnt n l else -1 := by
  intro d
  induction d with
  | zero =>
    intro n l room h0 hd
    unfold rb
    cases l with
    | nil => simp [dep_nil, cnt_nil, rgt_nil]; omega
    | cons t r =>
      cases n with
      | zero => cases (show t :: r = [] from hd)
      | succ n =>
        rw [if_neg (by simp), if_neg]
        rintro ⟨a, _⟩
        rw [dep_cons] at a; omega
  | succ d ih =>
    intro n l room h0 hd
    unfold rb
    cases l with
    | nil => simp [dep_nil, cnt_nil, rgt_nil]; omega
    | cons t r =>
      cases n with
      | zero => cases (show t :: r = [] from hd)
      | succ n =>
        rw [if_neg (by simp)]
        generalize hl : t :: r = l at *
        have hne : l ≠ [] := by rw [← hl]; simp
        rw [dep_nx n l hne, cnt_nx n l]
        by_cases hrm : room < (l.length : Int)
        · rw [if_pos hrm, if_neg]
          rintro ⟨_, b, _⟩
          push_cast at b; omega
        · rw [if_neg hrm, rl_eq d n (rb d) (fun room k h hk => ih n k room h hk) l false (room - l.length) (by omega) hd]
          by_cases hR : dep n (nx l) ≤ d ∧ (cnt n (nx l) : Int) ≤ room - l.length ∧ rgL (rgt n) false l = true
          · rw [if_pos hR, if_pos ⟨by omega, by push_cast; omega, hR.2.2⟩]; push_cast; omega
          · rw [if_neg hR, if_neg]
            rintro ⟨a, b, c⟩
            exact hR ⟨by omega, by push_cast at b; omega, c⟩

theorem contentB_eq {n : Nat} {l : List Tr} (hd : Deep n l) : contentB l = (decide (dep n l ≤ 8) && decide (cnt n l ≤ 80) && rgt n l) := by
  unfold contentB
  rw [rb_eq 8 n l 80 (by decide) hd]
  by_cases h : dep n l ≤ 8 ∧ (cnt n l : Int) ≤ 80 ∧ rgt n l = true
  · rw [if_pos h]
    have h2 : cnt n l ≤ 80 := by omega
    simp [h.1, h2, h.2.2]
    omega
  · rw [if_neg h]
    cases hr : rgt n l with
    | false => simp
    | true =>
      have : ¬ (dep n l ≤ 8 ∧ cnt n l ≤ 80) := fun ⟨a, b⟩ => h ⟨a, by omega, hr⟩
      by_cases h1 : dep n l ≤ 8
      · have h2 : ¬ cnt n l ≤ 80 := fun b => this ⟨h1, b⟩
        simp [h2]
      · simp [h1]

theorem goodB_eq {n : Nat} {t : Tr} (hd : Deep n t.kids) : goodB t = (!t.text && decide (dep (n + 1) [t] < 9) && decide (cnt (n + 1) [t] < 81) && rgt (n + 1) [t]) := by
  have h : Deep (n + 1) [t] := by intro x hx; simp at hx; subst hx; exact hd
  unfold goodB
  rw [contentB_eq h]
  have e1 : decide (dep (n + 1) [t] ≤ 8) = decide (dep (n + 1) [t] < 9) := by congr 1; apply propext; omega
  have e2 : decide (cnt (n + 1) [t] ≤ 80) = decide (cnt (n + 1) [t] < 81) := by congr 1; apply propext; omega
  rw [e1, e2, Bool.and_assoc, Bool.and_assoc, Bool.and_assoc]
end Go.Proofs.YtifbdfcbliafjaaDoor
