/- Bundled: ChkF ChkG. What each says stands ahead of it. -/
import Derived.Test.YtnppmdpmippcoaaGreatDoorRows
import Derived.JoinedOf
namespace Go.Proofs.YtnppmdpmippcoaaGreatDoor
set_option maxRecDepth 100000
theorem changeChecksF1:(Rows.changeChecksUptoRow.inPlace==Tryz.prog.inPlace 3)=true:=by kernel_rfl
theorem changeChecksF2:(Rows.changeChecksUptoRow.unfollowed==Tryz.prog.unfollowed 3)=true:=by kernel_rfl
theorem changeChecksF3:(Rows.changeChecksUptoRow.recurses==Tryz.prog.recurses 3)=true:=by kernel_rfl
theorem changeChecksF4:(Rows.changeChecksUptoRow.named==Tryz.prog.varsNamed 3)=true:=by kernel_rfl
theorem changeChecks_closed:joinedFacts Tryz.prog 3 Tryz.f3 (Rows.OpenSpec.upto Rows.changeChecksSpec).bare Rows.changeChecksUptoRow=true:=by
 unfold joinedFacts;simp only[Bool.and_eq_true]
 repeat' apply And.intro
 all_goals first
  | with_reducible exact changeChecksF1
  | with_reducible exact changeChecksF2
  | with_reducible exact changeChecksF3
  | with_reducible exact changeChecksF4
  | kernel_rfl
end Go.Proofs.YtnppmdpmippcoaaGreatDoor
