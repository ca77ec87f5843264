/- Bundled: TNamF TNamG. What each says stands ahead of it. -/
import Derived.Test.YtecimajafhoibaaGreatDoorRows
import Derived.JoinedOf
namespace Go.Proofs.YtecimajafhoibaaGreatDoor
set_option maxRecDepth 100000
theorem topNamesF1:(Rows.topNamesRow.inPlace==Tryz.prog.inPlace 3)=true:=by kernel_rfl
theorem topNamesF2:(Rows.topNamesRow.unfollowed==Tryz.prog.unfollowed 3)=true:=by kernel_rfl
theorem topNamesF3:(Rows.topNamesRow.recurses==Tryz.prog.recurses 3)=true:=by kernel_rfl
theorem topNamesF4:(Rows.topNamesRow.named==Tryz.prog.varsNamed 3)=true:=by kernel_rfl
theorem topNames_closed:joinedFacts Tryz.prog 3 Tryz.f3 (OpenSpec.ofChange Rows.topNamesSpec).bare Rows.topNamesRow=true:=by
 unfold joinedFacts;simp only[Bool.and_eq_true]
 repeat' apply And.intro
 all_goals first
  | with_reducible exact topNamesF1
  | with_reducible exact topNamesF2
  | with_reducible exact topNamesF3
  | with_reducible exact topNamesF4
  | kernel_rfl
end Go.Proofs.YtecimajafhoibaaGreatDoor
