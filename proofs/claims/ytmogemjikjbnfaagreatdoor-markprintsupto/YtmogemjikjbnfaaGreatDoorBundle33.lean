/- topiarykeep.MarkBack and MarkOnce answer true. Condition: the variable marks holds the four marks. -/
import Derived.Test.YtmogemjikjbnfaaGreatDoorBundle27
import Derived.Test.YtmogemjikjbnfaaGreatDoorBundle07
import Derived.Test.YtmogemjikjbnfaaGreatDoorBundle32
namespace Go.Proofs.YtmogemjikjbnfaaGreatDoor
open Go.ChangeShapes Go.WideShapes Go.ChangeAt Go.RowKit
set_option maxRecDepth 100000

attribute [local go_sem] cell_set

theorem printR_cases (n : Nat) (t : Tr) : (goodB t = false ∧ printR n t = (⟨#[]⟩, 1)) ∨ (goodB t = true ∧ printR n t = (⟨#[]⟩, 2)) ∨ (goodB t = true ∧ (oneP (showL n t.kids) t).length ≤ 2500 ∧ printR n t = (bytesOf (oneP (showL n t.kids) t), 0)) := by
  unfold printR
  cases hg : goodB t with
  | false => left; simp
  | true =>
    right
    by_cases hl : 2500 < (oneP (showL n t.kids) t).length
    · left; simp [hl]
    · right; exact ⟨rfl, by omega, by simp [hl, bytesOf]⟩

end Go.Proofs.YtmogemjikjbnfaaGreatDoor

