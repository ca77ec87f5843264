/- tree.rightAlone, for every tree. Condition: texts of at most 2^63 letters, which every text has. -/
import Derived.Test.YtmbmfomeiioijaaGoodA
import Derived.Test.YtmbmfomeiioijaaMath
namespace Go.Proofs.Ytmbmfomeiioijaa
open Go.ChangeShapes Go.WideShapes Go.ChangeAt Go.RowKit
set_option maxRecDepth 100000

def rightB (t : Tr) : Bool :=
  if t.text then !t.s.toList.isEmpty && plainB t.s && decide (t.attrs.length = 0) && decide (t.kids.length = 0)
  else nameB t.s && attrsB t.attrs

/-- Bounds on the texts of a tree. -/
def Texts (t : Tr) : Prop := t.s.size ≤ maxLen ∧ ∀ x ∈ t.attrs, x.1.size ≤ maxLen ∧ x.2.size ≤ maxLen

theorem rightAlone_any (S : Nat → Prop) (va : Value) (ka : Option Addr) (kc : Nat) (t : Tr) (w : World) (h : Attrs S w va t.attrs) (hx : Texts t) :
    Calls Try.prog 44 #[.agg #[.bool t.text, .string t.s, va, .slice ka t.kids.length kc]] w fun e w' => e = .returned (.bool (rightB t)) ∧ Below w.heap.size w w' := by
  obtain ⟨aa, ac, rfl⟩ := h.shape
  cases htx : t.text with
  | false =>
    have HR : Hid (rightB t = (nameB t.s && attrsB t.attrs)) := by show _ = _; simp [rightB, htx]
    cases hn : nameB t.s with
    | false =>
      go_enter Try.func44, Try.ntmps44
      go_wp2_with fail
      refine (named_any t.s _ hx.1).mono ?_
      rintro e w' ⟨rfl, rfl⟩
      rw [hn]
      go_wp2_with fail
      go_ret
      exact ⟨by rw [HR.out, hn]; rfl, Below.alloc1 _ _⟩
    | true =>
      go_enter Try.func44, Try.ntmps44
      go_wp2_with fail
      refine (named_any t.s _ hx.1).mono ?_
      rintro e w' ⟨rfl, rfl⟩
      rw [hn]
      go_wp2_with fail
      refine (goodAttrs_any S _ t.attrs _ (h.later (Below.alloc1 _ _)) hx.2).mono ?_
      rintro e w1 ⟨rfl, hb⟩
      go_wp2_with fail
      go_ret
      exact ⟨by rw [HR.out, hn]; rfl, (Below.alloc1 _ _).trans (hb.mono (by simp))⟩
  | true =>
    cases he : t.s.toList.isEmpty with
    | true =>
      go_enter Try.func44, Try.ntmps44
      go_wp2_with fail
      go_ret
      exact ⟨by simp [rightB, htx, he], Below.alloc1 _ _⟩
    | false =>
      cases hp : plainB t.s with
      | false =>
        go_enter Try.func44, Try.ntmps44
        go_wp2_with fail
        refine (plain_any t.s _ hx.1).mono ?_
        rintro e w' ⟨rfl, rfl⟩
        rw [hp]
        go_wp2_with fail
        go_ret
        exact ⟨by simp [rightB, htx, hp], Below.alloc1 _ _⟩
      | true =>
        by_cases hal : t.attrs.length = 0
        · have hal' : ((t.attrs.length : Int) == 0) = true := by simpa using hal
          by_cases hkl : t.kids.length = 0
          · have hkl' : ((t.kids.length : Int) == 0) = true := by simpa using hkl
            have HR : Hid (rightB t = true) := by show _ = _; simp [rightB, htx, he, hp, List.eq_nil_of_length_eq_zero hal, List.eq_nil_of_length_eq_zero hkl]
            clear hal hkl
            go_enter Try.func44, Try.ntmps44
            go_wp2_with fail
            refine (plain_any t.s _ hx.1).mono ?_
            rintro e w' ⟨rfl, rfl⟩
            rw [hp]
            go_wp2_with fail
            go_ret
            exact ⟨by rw [HR.out]; rfl, Below.alloc1 _ _⟩
          · have hkl' : ((t.kids.length : Int) == 0) = false := by simpa using hkl
            have HR : Hid (rightB t = false) := by show _ = _; simp [rightB, htx]; intro _ _ _ h; exact hkl (by rw [h]; rfl)
            clear hal hkl
            go_enter Try.func44, Try.ntmps44
            go_wp2_with fail
            refine (plain_any t.s _ hx.1).mono ?_
            rintro e w' ⟨rfl, rfl⟩
            rw [hp]
            go_wp2_with fail
            go_ret
            exact ⟨by rw [HR.out]; rfl, Below.alloc1 _ _⟩
        · have hal' : ((t.attrs.length : Int) == 0) = false := by simpa using hal
          have HR : Hid (rightB t = false) := by show _ = _; simp [rightB, htx]; intro _ _ h; exact absurd (by rw [h]; rfl) hal
          clear hal
          go_enter Try.func44, Try.ntmps44
          go_wp2_with fail
          refine (plain_any t.s _ hx.1).mono ?_
          rintro e w' ⟨rfl, rfl⟩
          rw [hp]
          go_wp2_with fail
          go_ret
          exact ⟨by rw [HR.out]; rfl, Below.alloc1 _ _⟩
end Go.Proofs.Ytmbmfomeiioijaa
