/- How a list of trees that came in is opened: from its reading to the trees that lie there, with what its bulk bounds. No condition. -/
import Derived.Test.YtchkbffgancidaaGreatDoorRows
import Derived.Test.YtchkbffgancidaaGreatDoorBundle18
import Derived.Lib.SmallJoins
namespace Go.Proofs.YtchkbffgancidaaGreatDoor
open Go.ChangeShapes Go.WideShapes Go.ChangeAt Go.RowKit
set_option maxRecDepth 100000
section
theorem ZU {α:Type}{p:Nat→α→Prop}:∀ (n:Nat),(∀ i,i<n→∃ y,p i y)→∃ l:List α,l.length=n∧∀ i y,l[i]?=some y→p i y:=by
 intro n
 induction n with
 | zero=>intro _;exact ⟨[],rfl,fun i y h=>by simp at h⟩
 | succ n ih =>
   intro h;obtain ⟨l,hl,hp⟩:=ih (fun i hi=>h i (by omega))
   obtain ⟨y,hy⟩:=h n (by omega)
   refine ⟨l++[y],by simp[hl],fun i z hz=>?_⟩
   rcases Nat.lt_or_ge i l.length with hi|hi
   · rw[List.getElem?_append_left hi]at hz;exact hp i z hz
   · rw[List.getElem?_append_right hi]at hz
     have h0:i-l.length=0:=by
      rcases Nat.eq_zero_or_pos (i-l.length) with h'|h'
      · exact h'
      · rw[List.getElem?_eq_none (by simp;omega)]at hz;cases hz
     rw[h0]at hz
     simp at hz
     subst hz;have:i=n:=by omega
     rw[this];exact hy
section
variable {H : Type} {enc : TypeId × Value → H} {W : World}
end
end
end Go.Proofs.YtchkbffgancidaaGreatDoor
