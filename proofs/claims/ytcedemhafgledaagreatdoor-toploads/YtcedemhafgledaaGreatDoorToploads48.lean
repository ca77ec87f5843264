/- Bundled: TLoadF TLoadG. What each says stands ahead of it. -/
import Derived.Test.YtcedemhafgledaaGreatDoorRows
import Derived.JoinedOf
namespace Go.Proofs.YtcedemhafgledaaGreatDoor
set_option maxRecDepth 100000
theorem topLoadsF1:(Rows.topLoadsRow.inPlace==Tryz.prog.inPlace 4)=true:=by kernel_rfl
theorem topLoadsF2:(Rows.topLoadsRow.unfollowed==Tryz.prog.unfollowed 4)=true:=by kernel_rfl
theorem topLoadsF3:(Rows.topLoadsRow.recurses==Tryz.prog.recurses 4)=true:=by kernel_rfl
theorem topLoadsF4:(Rows.topLoadsRow.named==Tryz.prog.varsNamed 4)=true:=by kernel_rfl
theorem topLoads_closed:joinedFacts Tryz.prog 4 Tryz.f4 (OpenSpec.ofChange Rows.topLoadsSpec).bare Rows.topLoadsRow=true:=by
 unfold joinedFacts;simp only[Bool.and_eq_true]
 repeat' apply And.intro
 all_goals first
  | with_reducible exact topLoadsF1
  | with_reducible exact topLoadsF2
  | with_reducible exact topLoadsF3
  | with_reducible exact topLoadsF4
  | kernel_rfl
end Go.Proofs.YtcedemhafgledaaGreatDoor
