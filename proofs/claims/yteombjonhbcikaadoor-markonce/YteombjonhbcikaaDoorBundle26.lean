/- topiarykeep.marks: mark answers. Condition: the variable marks holds the four marks. -/
import Derived.Test.YteombjonhbcikaaDoorBundle20
import Derived.Test.YteombjonhbcikaaDoorBundle24
import Derived.Test.YteombjonhbcikaaDoorBundle25
namespace Go.Proofs.YteombjonhbcikaaDoor
open Go.ChangeShapes Go.WideShapes Go.ChangeAt Go.RowKit
set_option maxRecDepth 100000

attribute [local go_sem] cell_set

theorem parse_texts (s : List UInt8) : TextsN (s.length + 1) [(parseR s).1] := by
  have hz : TextsN (s.length + 1) [zeroT] := by
    intro t ht
    simp only [List.mem_singleton] at ht
    subst ht
    exact ⟨⟨Nat.zero_le _, by intro x hx; simp [zeroT] at hx⟩, (ShortN.nil 0 s.length).texts (Nat.zero_le _)⟩
  unfold parseR
  split
  · exact hz
  · rename_i h
    split
    · exact hz
    · refine ShortN.texts (M := 2501) (by unfold maxLen; omega) _ _ ?_
      intro t ht
      simp only [List.mem_singleton] at ht
      subst ht
      exact one_short (M := 2500) (treesF_short 2500 s.length) _ (by show s.length ≤ _; omega)

def marksT : Tr := ⟨false, ⟨#[97]⟩, [(⟨#[98]⟩, ⟨#[60]⟩)], [⟨true, ⟨#[120]⟩, [], []⟩, ⟨false, ⟨#[99]⟩, [], []⟩]⟩
def marksS : List UInt8 := [60, 97, 32, 98, 61, 34, 38, 108, 116, 59, 34, 62, 120, 60, 99, 47, 62, 60, 47, 97, 62]

theorem marksT_deep : Deep 1 marksT.kids := by
  intro t ht
  simp only [marksT, List.mem_cons, List.not_mem_nil, or_false] at ht
  rcases ht with rfl | rfl <;> rfl
theorem marksT_good : goodB marksT = true := by kernel_rfl
theorem marks_parsed : parseR marksS = (marksT, 0) := by
  have := parse_back marksT_deep marksT_good (by decide)
  exact this
theorem marks_printed : printR 21 marksT = (⟨#[60, 97, 32, 98, 61, 34, 38, 108, 116, 59, 34, 62, 120, 60, 99, 47, 62, 60, 47, 97, 62]⟩, 0) := by kernel_rfl

set_option maxHeartbeats 1000000 in
theorem marksK_any (w : World) (hM : Marks w) : Calls Tryd.prog 27 #[] w fun e w' => e = .returned (.bool true) ∧ Below w.heap.size w w' := by
  have HC : Hid (Calls Tryd.prog 28 #[.string ⟨#[60, 97, 32, 98, 61, 34, 38, 108, 116, 59, 34, 62, 120, 60, 99, 47, 62, 60, 47, 97, 62]⟩] w fun e w' =>
      ∃ va vk, e = .returned (.tuple #[.agg #[.bool marksT.text, .string marksT.s, va, vk], .int .i64 0]) ∧ Attrs (fun b => w.heap.size ≤ b) w' va marksT.attrs ∧ Trees (fun b => w.heap.size ≤ b) w' 21 vk marksT.kids ∧ Below w.heap.size w w') := by
    have := parse_any marksS w hM (by decide)
    rw [marks_parsed] at this
    exact this
  have HX : Hid (TextsN 22 [marksT]) := by have := parse_texts marksS; rw [marks_parsed] at this; exact this
  have HM : Hid (Marks w) := hM
  clear hM
  go_enter Tryd.func27, Tryd.ntmps27
  go_wp2_with fail
  refine (Calls.mono HC.out ?_)
  rintro e w1 ⟨va, vk, rfl, hA1, hK1, hB1⟩
  obtain ⟨aa, ac, rfl⟩ := hA1.shape
  obtain ⟨ka, kc, rfl, _, _⟩ := Trees.shape 21 hK1
  have hb2 := Below.alloc1 w1 (.cells #[.bool marksT.text, .string marksT.s, .slice aa marksT.attrs.length ac, .slice ka marksT.kids.length kc] 25)
  have hB2 : Below w.heap.size w _ := hB1.trans (hb2.mono hB1.size)
  have HP := printOf_any _ 21 _ _ marksT _ (hA1.later hb2) (Trees.later hb2 21 hK1) (HM.out.later hB2 HM.out.lt) HX.out
  rw [marks_printed] at HP
  have HPP : Hid _ := HP
  clear HC HP
  go_wp2_with fail
  refine (Calls.mono HPP.out ?_)
  rintro e w2 ⟨rfl, hb3⟩
  have hB3 := hB2.trans (hb3.mono hB2.size)
  clear HPP hb2 hA1 hK1
  go_wp2_with fail
  go_ret
  exact ⟨rfl, hB3⟩
end Go.Proofs.YteombjonhbcikaaDoor

