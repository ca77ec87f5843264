/- Bundled: TGoodF TGoodG. What each says stands ahead of it. -/
import Derived.Test.YtecdgplkelnmhaaGreatDoorRows
import Derived.JoinedOf
namespace Go.Proofs.YtecdgplkelnmhaaGreatDoor
set_option maxRecDepth 100000
theorem topGoodF1:(Rows.topGoodRow.inPlace==Tryz.prog.inPlace 3)=true:=by kernel_rfl
theorem topGoodF2:(Rows.topGoodRow.unfollowed==Tryz.prog.unfollowed 3)=true:=by kernel_rfl
theorem topGoodF3:(Rows.topGoodRow.recurses==Tryz.prog.recurses 3)=true:=by kernel_rfl
theorem topGoodF4:(Rows.topGoodRow.named==Tryz.prog.varsNamed 3)=true:=by kernel_rfl
theorem topGood_closed:joinedFacts Tryz.prog 3 Tryz.f3 (OpenSpec.ofChange Rows.topGoodSpec).bare Rows.topGoodRow=true:=by
 unfold joinedFacts;simp only[Bool.and_eq_true]
 repeat' apply And.intro
 all_goals first
  | with_reducible exact topGoodF1
  | with_reducible exact topGoodF2
  | with_reducible exact topGoodF3
  | with_reducible exact topGoodF4
  | kernel_rfl
end Go.Proofs.YtecdgplkelnmhaaGreatDoor
