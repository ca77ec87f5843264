/- Bundled: MPatF MPatG. What each says stands ahead of it. -/
import Derived.Test.YtkbhckhbgalaoaaGreatDoorRows
import Derived.JoinedOf
namespace Go.Proofs.YtkbhckhbgalaoaaGreatDoor
set_option maxRecDepth 100000
theorem markPartsF1:(Rows.markPartsRow.inPlace==Tryz.prog.inPlace 4)=true:=by kernel_rfl
theorem markPartsF2:(Rows.markPartsRow.unfollowed==Tryz.prog.unfollowed 4)=true:=by kernel_rfl
theorem markPartsF3:(Rows.markPartsRow.recurses==Tryz.prog.recurses 4)=true:=by kernel_rfl
theorem markPartsF4:(Rows.markPartsRow.named==Tryz.prog.varsNamed 4)=true:=by kernel_rfl
theorem markParts_closed:joinedFacts Tryz.prog 4 Tryz.f4 (OpenSpec.ofChange Rows.markPartsSpec).bare Rows.markPartsRow=true:=by
 unfold joinedFacts;simp only[Bool.and_eq_true]
 repeat' apply And.intro
 all_goals first
  | with_reducible exact markPartsF1
  | with_reducible exact markPartsF2
  | with_reducible exact markPartsF3
  | with_reducible exact markPartsF4
  | kernel_rfl
end Go.Proofs.YtkbhckhbgalaoaaGreatDoor
