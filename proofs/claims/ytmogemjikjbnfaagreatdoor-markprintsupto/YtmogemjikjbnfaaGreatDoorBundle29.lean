/- Bundled: MarkPrF MarkPrG. What each says stands ahead of it. -/
import Derived.Test.YtmogemjikjbnfaaGreatDoorRows
import Derived.JoinedOf
import Derived.KernelRfl
/- What the row of MarkPrints says of the program, each fact by itself (together they pass the memory lid). -/
namespace Go.Proofs.YtmogemjikjbnfaaGreatDoor
set_option maxRecDepth 100000

theorem markPrintsF1 : (Rows.markPrintsUptoRow.inPlace == Tryz.prog.inPlace 3) = true := by kernel_rfl
theorem markPrintsF2 : (Rows.markPrintsUptoRow.unfollowed == Tryz.prog.unfollowed 3) = true := by kernel_rfl
theorem markPrintsF3 : (Rows.markPrintsUptoRow.recurses == Tryz.prog.recurses 3) = true := by kernel_rfl
theorem markPrintsF4 : (Rows.markPrintsUptoRow.named == Tryz.prog.varsNamed 3) = true := by kernel_rfl
end Go.Proofs.YtmogemjikjbnfaaGreatDoor

/- The rest of what the row of MarkPrints says of the program. -/
namespace Go.Proofs.YtmogemjikjbnfaaGreatDoor
set_option maxRecDepth 100000

theorem markPrints_closed : joinedFacts Tryz.prog 3 Tryz.f3 (Rows.OpenSpec.upto Rows.markPrintsSpec).bare Rows.markPrintsUptoRow = true := by
  unfold joinedFacts
  simp only [Bool.and_eq_true]
  repeat' apply And.intro
  all_goals first
    | with_reducible exact markPrintsF1
    | with_reducible exact markPrintsF2
    | with_reducible exact markPrintsF3
    | with_reducible exact markPrintsF4
    | kernel_rfl
end Go.Proofs.YtmogemjikjbnfaaGreatDoor

