/- Bundled: TOrdF TOrdG. What each says stands ahead of it. -/
import Derived.Test.YtcgknjhpgikckaaGreatDoorRows
import Derived.JoinedOf
namespace Go.Proofs.YtcgknjhpgikckaaGreatDoor
set_option maxRecDepth 100000
theorem topOrderF1:(Rows.topOrderRow.inPlace==Tryz.prog.inPlace 3)=true:=by kernel_rfl
theorem topOrderF2:(Rows.topOrderRow.unfollowed==Tryz.prog.unfollowed 3)=true:=by kernel_rfl
theorem topOrderF3:(Rows.topOrderRow.recurses==Tryz.prog.recurses 3)=true:=by kernel_rfl
theorem topOrderF4:(Rows.topOrderRow.named==Tryz.prog.varsNamed 3)=true:=by kernel_rfl
theorem topOrder_closed:joinedFacts Tryz.prog 3 Tryz.f3 (OpenSpec.ofChange Rows.topOrderSpec).bare Rows.topOrderRow=true:=by
 unfold joinedFacts;simp only[Bool.and_eq_true]
 repeat' apply And.intro
 all_goals first
  | with_reducible exact topOrderF1
  | with_reducible exact topOrderF2
  | with_reducible exact topOrderF3
  | with_reducible exact topOrderF4
  | kernel_rfl
end Go.Proofs.YtcgknjhpgikckaaGreatDoor
