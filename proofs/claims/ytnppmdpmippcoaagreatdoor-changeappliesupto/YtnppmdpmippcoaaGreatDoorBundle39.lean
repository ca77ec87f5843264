/- An argument of type api.Tree opened; depths brought to one; what the bound gives. No condition. -/
import Derived.Test.YtnppmdpmippcoaaGreatDoorBundle38
import Derived.Test.YtnppmdpmippcoaaGreatDoorBundle09
namespace Go.Proofs.YtnppmdpmippcoaaGreatDoor
open Go.ChangeShapes Go.WideShapes Go.ChangeAt Go.RowKit
set_option maxRecDepth 100000
section
section
variable {H : Type} {enc : TypeId × Value → H} {W : World}
end
theorem wt_tex:∀ (n:Nat)(ts:List Tr),wt n ts≤1048576→TexN n ts:=by
 intro n
 induction n with
 | zero=>intro ts _;trivial
 | succ n ih =>
   intro ts h t ht;have h1:1+t.s.size+(t.attrs.map awt).sum+wt n t.kids≤wt (n+1) ts:=YR (fun t:Tr=>1+t.s.size+(t.attrs.map awt).sum+wt n t.kids) ht
   refine ⟨by unfold maxLen;omega,fun x hx=>?_,ih t.kids (by omega)⟩
   have h2:=YR awt hx;have h3:x.1.size+x.2.size≤awt x:=by unfold awt;omega
   constructor<;>(unfold maxLen;omega)
end
end Go.Proofs.YtnppmdpmippcoaaGreatDoor
