/- Bundled: SLinF SLinG. What each says stands ahead of it. -/
import Derived.Test.YtfplhcicbbhljaaGreatDoorRows
import Derived.JoinedOf
namespace Go.Proofs.YtfplhcicbbhljaaGreatDoor
set_option maxRecDepth 100000
theorem storeLinesF1:(Rows.storeLinesUptoRow.inPlace==Tryz.prog.inPlace 3)=true:=by kernel_rfl
theorem storeLinesF2:(Rows.storeLinesUptoRow.unfollowed==Tryz.prog.unfollowed 3)=true:=by kernel_rfl
theorem storeLinesF3:(Rows.storeLinesUptoRow.recurses==Tryz.prog.recurses 3)=true:=by kernel_rfl
theorem storeLinesF4:(Rows.storeLinesUptoRow.named==Tryz.prog.varsNamed 3)=true:=by kernel_rfl
theorem storeLines_closed:joinedFacts Tryz.prog 3 Tryz.f3 (Rows.OpenSpec.upto Rows.storeLinesSpec).bare Rows.storeLinesUptoRow=true:=by
 unfold joinedFacts;simp only[Bool.and_eq_true]
 repeat' apply And.intro
 all_goals first
  | with_reducible exact storeLinesF1
  | with_reducible exact storeLinesF2
  | with_reducible exact storeLinesF3
  | with_reducible exact storeLinesF4
  | kernel_rfl
end Go.Proofs.YtfplhcicbbhljaaGreatDoor
