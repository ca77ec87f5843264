/- Bundled: TakeL Kids KidsS KidsW Joined. What each says stands ahead of it. -/
import Derived.Test.YtkbhckhbgalaoaaGreatDoorBundle11
import Derived.WalkSmall
/- tree.takeLast at the waiting lists of a joiner: the last one, and the rest stays. No condition. -/
namespace Go.Proofs.YtkbhckhbgalaoaaGreatDoor
open Go.ChangeShapes Go.WideShapes Go.ChangeAt Go.RowKit
set_option maxRecDepth 100000
end Go.Proofs.YtkbhckhbgalaoaaGreatDoor
namespace Go.Proofs.YtkbhckhbgalaoaaGreatDoor
open Go.ChangeShapes Go.WideShapes Go.ChangeAt Go.RowKit
set_option maxRecDepth 100000
def cnt:Nat→List Tr→Nat
 | 0,_=>0
 | n+1,ts=>(ts.map fun t=>1+cnt n t.kids).sum
theorem q8 (n:Nat):cnt n []=0:=by cases n<;>rfl
theorem zz (n:Nat)(t:Tr)(r:List Tr):cnt (n+1) (t::r)=1+cnt n t.kids+cnt (n+1) r:=by simp[cnt]
end Go.Proofs.YtkbhckhbgalaoaaGreatDoor
/- One round of joinKids' loop keeps what its state says. No condition. -/
namespace Go.Proofs.YtkbhckhbgalaoaaGreatDoor
open Go.ChangeShapes Go.WideShapes Go.ChangeAt Go.RowKit
set_option maxRecDepth 100000
end Go.Proofs.YtkbhckhbgalaoaaGreatDoor
namespace Go.Proofs.YtkbhckhbgalaoaaGreatDoor
open Go.ChangeShapes Go.WideShapes Go.ChangeAt Go.RowKit
set_option maxRecDepth 100000
section
attribute [local go_sem] qi
end
end Go.Proofs.YtkbhckhbgalaoaaGreatDoor
/- tree.Joined: for every list of trees, what it answers is the joined list, in new memory. Condition: at most 2^20 trees, letters, attributes. -/
namespace Go.Proofs.YtkbhckhbgalaoaaGreatDoor
open Go.ChangeShapes Go.WideShapes Go.ChangeAt Go.RowKit
set_option maxRecDepth 100000
end Go.Proofs.YtkbhckhbgalaoaaGreatDoor
