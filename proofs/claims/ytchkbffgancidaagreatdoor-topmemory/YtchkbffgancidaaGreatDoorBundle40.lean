/- Bundled: TMemF TMemG. What each says stands ahead of it. -/
import Derived.Test.YtchkbffgancidaaGreatDoorRows
import Derived.JoinedOf
namespace Go.Proofs.YtchkbffgancidaaGreatDoor
set_option maxRecDepth 100000
theorem topMemoryF1:(Rows.topMemoryRow.inPlace==Tryz.prog.inPlace 3)=true:=by kernel_rfl
theorem topMemoryF2:(Rows.topMemoryRow.unfollowed==Tryz.prog.unfollowed 3)=true:=by kernel_rfl
theorem topMemoryF3:(Rows.topMemoryRow.recurses==Tryz.prog.recurses 3)=true:=by kernel_rfl
theorem topMemoryF4:(Rows.topMemoryRow.named==Tryz.prog.varsNamed 3)=true:=by kernel_rfl
theorem topMemory_closed:joinedFacts Tryz.prog 3 Tryz.f3 (OpenSpec.ofChange Rows.topMemorySpec).bare Rows.topMemoryRow=true:=by
 unfold joinedFacts;simp only[Bool.and_eq_true]
 repeat' apply And.intro
 all_goals first
  | with_reducible exact topMemoryF1
  | with_reducible exact topMemoryF2
  | with_reducible exact topMemoryF3
  | with_reducible exact topMemoryF4
  | kernel_rfl
end Go.Proofs.YtchkbffgancidaaGreatDoor
