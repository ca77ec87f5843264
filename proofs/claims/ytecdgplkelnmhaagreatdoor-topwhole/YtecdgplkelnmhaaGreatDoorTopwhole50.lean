/- Bundled: TWholeF TWholeG. What each says stands ahead of it. -/
import Derived.Test.YtecdgplkelnmhaaGreatDoorRows
import Derived.JoinedOf
namespace Go.Proofs.YtecdgplkelnmhaaGreatDoor
set_option maxRecDepth 100000
theorem topWholeF1:(Rows.topWholeRow.inPlace==Tryz.prog.inPlace 4)=true:=by kernel_rfl
theorem topWholeF2:(Rows.topWholeRow.unfollowed==Tryz.prog.unfollowed 4)=true:=by kernel_rfl
theorem topWholeF3:(Rows.topWholeRow.recurses==Tryz.prog.recurses 4)=true:=by kernel_rfl
theorem topWholeF4:(Rows.topWholeRow.named==Tryz.prog.varsNamed 4)=true:=by kernel_rfl
theorem topWhole_closed:joinedFacts Tryz.prog 4 Tryz.f4 (OpenSpec.ofChange Rows.topWholeSpec).bare Rows.topWholeRow=true:=by
 unfold joinedFacts;simp only[Bool.and_eq_true]
 repeat' apply And.intro
 all_goals first
  | with_reducible exact topWholeF1
  | with_reducible exact topWholeF2
  | with_reducible exact topWholeF3
  | with_reducible exact topWholeF4
  | kernel_rfl
end Go.Proofs.YtecdgplkelnmhaaGreatDoor
