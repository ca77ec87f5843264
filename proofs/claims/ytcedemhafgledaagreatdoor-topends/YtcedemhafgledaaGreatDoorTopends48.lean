/- Bundled: TEndF TEndG. What each says stands ahead of it. -/
import Derived.Test.YtcedemhafgledaaGreatDoorRows
import Derived.JoinedOf
namespace Go.Proofs.YtcedemhafgledaaGreatDoor
set_option maxRecDepth 100000
theorem topEndsF1:(Rows.topEndsRow.inPlace==Tryz.prog.inPlace 5)=true:=by kernel_rfl
theorem topEndsF2:(Rows.topEndsRow.unfollowed==Tryz.prog.unfollowed 5)=true:=by kernel_rfl
theorem topEndsF3:(Rows.topEndsRow.recurses==Tryz.prog.recurses 5)=true:=by kernel_rfl
theorem topEndsF4:(Rows.topEndsRow.named==Tryz.prog.varsNamed 5)=true:=by kernel_rfl
theorem topEnds_closed:joinedFacts Tryz.prog 5 Tryz.f5 (OpenSpec.ofChange Rows.topEndsSpec).bare Rows.topEndsRow=true:=by
 unfold joinedFacts;simp only[Bool.and_eq_true]
 repeat' apply And.intro
 all_goals first
  | with_reducible exact topEndsF1
  | with_reducible exact topEndsF2
  | with_reducible exact topEndsF3
  | with_reducible exact topEndsF4
  | kernel_rfl
end Go.Proofs.YtcedemhafgledaaGreatDoor
