/- What joinKids leaves behind: lists that are joined to the bottom but for those that wait; how one round of its loop keeps that. No condition. -/
import Derived.Test.YtfdbipeidmpciaaDoorFive04
import Derived.WalkSmall
namespace Go.Proofs.YtfdbipeidmpciaaDoor
open Go.ChangeShapes Go.WideShapes Go.ChangeAt Go.RowKit
set_option maxRecDepth 100000
def cnt:Nat→List Tr→Nat
 | 0,_=>0
 | n+1,ts=>(ts.map fun t=>1+cnt n t.kids).sum
theorem qH (n:Nat):cnt n []=0:=by cases n<;>rfl
theorem zz (n:Nat)(t:Tr)(r:List Tr):cnt (n+1) (t::r)=1+cnt n t.kids+cnt (n+1) r:=by simp[cnt]
end Go.Proofs.YtfdbipeidmpciaaDoor
