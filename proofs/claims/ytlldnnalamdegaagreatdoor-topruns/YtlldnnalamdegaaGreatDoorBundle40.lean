/- Bundled: TRunF TRunG. What each says stands ahead of it. -/
import Derived.Test.YtlldnnalamdegaaGreatDoorRows
import Derived.JoinedOf
namespace Go.Proofs.YtlldnnalamdegaaGreatDoor
set_option maxRecDepth 100000
theorem topRunsF1:(Rows.topRunsRow.inPlace==Tryz.prog.inPlace 3)=true:=by kernel_rfl
theorem topRunsF2:(Rows.topRunsRow.unfollowed==Tryz.prog.unfollowed 3)=true:=by kernel_rfl
theorem topRunsF3:(Rows.topRunsRow.recurses==Tryz.prog.recurses 3)=true:=by kernel_rfl
theorem topRunsF4:(Rows.topRunsRow.named==Tryz.prog.varsNamed 3)=true:=by kernel_rfl
theorem topRuns_closed:joinedFacts Tryz.prog 3 Tryz.f3 (OpenSpec.ofChange Rows.topRunsSpec).bare Rows.topRunsRow=true:=by
 unfold joinedFacts;simp only[Bool.and_eq_true]
 repeat' apply And.intro
 all_goals first
  | with_reducible exact topRunsF1
  | with_reducible exact topRunsF2
  | with_reducible exact topRunsF3
  | with_reducible exact topRunsF4
  | kernel_rfl
end Go.Proofs.YtlldnnalamdegaaGreatDoor
