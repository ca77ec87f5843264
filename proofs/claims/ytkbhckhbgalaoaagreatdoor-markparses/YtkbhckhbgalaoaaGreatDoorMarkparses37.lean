/- Bundled: MPasF MPasG. What each says stands ahead of it. -/
import Derived.Test.YtkbhckhbgalaoaaGreatDoorRows
import Derived.JoinedOf
namespace Go.Proofs.YtkbhckhbgalaoaaGreatDoor
set_option maxRecDepth 100000
theorem markParsesF1:(Rows.markParsesRow.inPlace==Tryz.prog.inPlace 3)=true:=by kernel_rfl
theorem markParsesF2:(Rows.markParsesRow.unfollowed==Tryz.prog.unfollowed 3)=true:=by kernel_rfl
theorem markParsesF3:(Rows.markParsesRow.recurses==Tryz.prog.recurses 3)=true:=by kernel_rfl
theorem markParsesF4:(Rows.markParsesRow.named==Tryz.prog.varsNamed 3)=true:=by kernel_rfl
theorem markParses_closed:joinedFacts Tryz.prog 3 Tryz.f3 (OpenSpec.ofChange Rows.markParsesSpec).bare Rows.markParsesRow=true:=by
 unfold joinedFacts;simp only[Bool.and_eq_true]
 repeat' apply And.intro
 all_goals first
  | with_reducible exact markParsesF1
  | with_reducible exact markParsesF2
  | with_reducible exact markParsesF3
  | with_reducible exact markParsesF4
  | kernel_rfl
end Go.Proofs.YtkbhckhbgalaoaaGreatDoor
