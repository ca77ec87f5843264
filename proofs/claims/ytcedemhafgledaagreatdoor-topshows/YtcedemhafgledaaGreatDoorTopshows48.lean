/- Bundled: TShowF TShowG. What each says stands ahead of it. -/
import Derived.Test.YtcedemhafgledaaGreatDoorRows
import Derived.JoinedOf
namespace Go.Proofs.YtcedemhafgledaaGreatDoor
set_option maxRecDepth 100000
theorem topShowsF1:(Rows.topShowsRow.inPlace==Tryz.prog.inPlace 3)=true:=by kernel_rfl
theorem topShowsF2:(Rows.topShowsRow.unfollowed==Tryz.prog.unfollowed 3)=true:=by kernel_rfl
theorem topShowsF3:(Rows.topShowsRow.recurses==Tryz.prog.recurses 3)=true:=by kernel_rfl
theorem topShowsF4:(Rows.topShowsRow.named==Tryz.prog.varsNamed 3)=true:=by kernel_rfl
theorem topShows_closed:joinedFacts Tryz.prog 3 Tryz.f3 (OpenSpec.ofChange Rows.topShowsSpec).bare Rows.topShowsRow=true:=by
 unfold joinedFacts;simp only[Bool.and_eq_true]
 repeat' apply And.intro
 all_goals first
  | with_reducible exact topShowsF1
  | with_reducible exact topShowsF2
  | with_reducible exact topShowsF3
  | with_reducible exact topShowsF4
  | kernel_rfl
end Go.Proofs.YtcedemhafgledaaGreatDoor
