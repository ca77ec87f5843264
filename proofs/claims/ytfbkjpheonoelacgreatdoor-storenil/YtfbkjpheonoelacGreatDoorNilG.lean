/- The rest of what the row of StoreNil says of the program. -/
import Derived.Test.YtfbkjpheonoelacGreatDoorNilF
namespace Go.Proofs.YtfbkjpheonoelacGreatDoor
set_option maxRecDepth 100000

theorem nil_closed : joinedFacts Tryz.prog 4 Tryz.f4 (OpenSpec.ofChange Rows.storeNilSpec).bare Rows.storeNilRow = true := by
  unfold joinedFacts
  simp only [Bool.and_eq_true]
  repeat' apply And.intro
  all_goals first
    | with_reducible exact nilF1
    | with_reducible exact nilF2
    | with_reducible exact nilF3
    | with_reducible exact nilF4
    | kernel_rfl
end Go.Proofs.YtfbkjpheonoelacGreatDoor
