/- Bundled: TRefF TRefG. What each says stands ahead of it. -/
import Derived.Test.YtecdgplkelnmhaaGreatDoorRows
import Derived.JoinedOf
namespace Go.Proofs.YtecdgplkelnmhaaGreatDoor
set_option maxRecDepth 100000
theorem topRefusedF1:(Rows.topRefusedRow.inPlace==Tryz.prog.inPlace 5)=true:=by kernel_rfl
theorem topRefusedF2:(Rows.topRefusedRow.unfollowed==Tryz.prog.unfollowed 5)=true:=by kernel_rfl
theorem topRefusedF3:(Rows.topRefusedRow.recurses==Tryz.prog.recurses 5)=true:=by kernel_rfl
theorem topRefusedF4:(Rows.topRefusedRow.named==Tryz.prog.varsNamed 5)=true:=by kernel_rfl
theorem topRefused_closed:joinedFacts Tryz.prog 5 Tryz.f5 (OpenSpec.ofChange Rows.topRefusedSpec).bare Rows.topRefusedRow=true:=by
 unfold joinedFacts;simp only[Bool.and_eq_true]
 repeat' apply And.intro
 all_goals first
  | with_reducible exact topRefusedF1
  | with_reducible exact topRefusedF2
  | with_reducible exact topRefusedF3
  | with_reducible exact topRefusedF4
  | kernel_rfl
end Go.Proofs.YtecdgplkelnmhaaGreatDoor
