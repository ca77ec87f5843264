/- Bundled: AppF AppG. What each says stands ahead of it. -/
import Derived.Test.YtnppmdpmippcoaaGreatDoorRows
import Derived.JoinedOf
namespace Go.Proofs.YtnppmdpmippcoaaGreatDoor
set_option maxRecDepth 100000
theorem changeAppliesF1:(Rows.changeAppliesUptoRow.inPlace==Tryz.prog.inPlace 4)=true:=by kernel_rfl
theorem changeAppliesF2:(Rows.changeAppliesUptoRow.unfollowed==Tryz.prog.unfollowed 4)=true:=by kernel_rfl
theorem changeAppliesF3:(Rows.changeAppliesUptoRow.recurses==Tryz.prog.recurses 4)=true:=by kernel_rfl
theorem changeAppliesF4:(Rows.changeAppliesUptoRow.named==Tryz.prog.varsNamed 4)=true:=by kernel_rfl
theorem changeApplies_closed:joinedFacts Tryz.prog 4 Tryz.f4 (Rows.OpenSpec.upto Rows.changeAppliesSpec).bare Rows.changeAppliesUptoRow=true:=by
 unfold joinedFacts;simp only[Bool.and_eq_true]
 repeat' apply And.intro
 all_goals first
  | with_reducible exact changeAppliesF1
  | with_reducible exact changeAppliesF2
  | with_reducible exact changeAppliesF3
  | with_reducible exact changeAppliesF4
  | kernel_rfl
end Go.Proofs.YtnppmdpmippcoaaGreatDoor
