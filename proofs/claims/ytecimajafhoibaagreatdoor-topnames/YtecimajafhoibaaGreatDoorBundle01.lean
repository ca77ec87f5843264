/- Marked texts and printed trees as functions on plain data. No condition. -/
import Derived.Test.YtecimajafhoibaaGreatDoorBundle00
import Derived.Lib.Bytealg
namespace Go.Proofs.YtecimajafhoibaaGreatDoor
set_option maxRecDepth 100000
def jO (v:Bool)(c:UInt8):List UInt8 :=
 if c=60 then [38,108,116,59] else if c=62 then [38,103,116,59] else if c=38 then [38,97,109,112,59] else if (v&&c==34)=true then [38,113,117,111,116,59] else [c]
def zV (v:Bool)(l:List UInt8):List UInt8:=l.flatMap (jO v)
def xC (v:Bool):List UInt8:=if v then [60,62,38,34] else [60,62,38]
theorem V1 (v:Bool)(l:List UInt8)(c:UInt8):zV v (l++[c])=zV v l++jO v c:=by simp[zV]
theorem qbN (v:Bool)(c:UInt8):(jO v c).length≤6:=by
 unfold jO
 split
 · simp
 split
 · simp
 split
 · simp
 split
 · simp
 · simp
theorem ZT (v:Bool)(l:List UInt8):(zV v l).length≤6*l.length:=by
 induction l with
 | nil=>simp[zV]
 | cons c r ih =>
   have h1:=qbN v c;have h2:(zV v (c::r)).length=(jO v c).length+(zV v r).length:=by simp[zV]
   rw[h2,List.length_cons];omega
theorem qal (v:Bool)(c:UInt8) :
 (Lib.indexByte (xC v) c=0∧jO v c=[38,108,116,59])∨(Lib.indexByte (xC v) c=1∧jO v c=[38,103,116,59]) ∨
 (Lib.indexByte (xC v) c=2∧jO v c=[38,97,109,112,59])∨(Lib.indexByte (xC v) c=3∧jO v c=[38,113,117,111,116,59])∨(Lib.indexByte (xC v) c=-1∧jO v c=[c]):=by
 by_cases h0:c=60
 · subst h0;left;cases v<;>decide
 by_cases h1:c=62
 · subst h1;right;left;cases v<;>decide
 by_cases h2:c=38
 · subst h2;right;right;left;cases v<;>decide
 have n0:((60:UInt8)==c)=false:=by simpa using fun e=>h0 e.symm
 have n1:((62:UInt8)==c)=false:=by simpa using fun e=>h1 e.symm
 have n2:((38:UInt8)==c)=false:=by simpa using fun e=>h2 e.symm
 by_cases h3:(v&&c==34)=true
 · right;right;right;left
   simp only[Bool.and_eq_true,beq_iff_eq]at h3
   obtain ⟨rfl,rfl⟩:=h3
   decide
 · right;right;right;right
   have hm:jO v c=[c]:=by simp only[jO,h0,h1,h2,if_false];rw[if_neg h3]
   refine ⟨?_,hm⟩;cases v with
   | false=>simp[xC,Lib.indexByte,n0,n1,n2]
   | true =>
     have n3:((34:UInt8)==c)=false:=by
      have:¬ c=34:=by simpa using h3
      simpa using fun e=>this e.symm
     simp[xC,Lib.indexByte,n0,n1,n2,n3]
def qE (x:ByteArray × ByteArray):List UInt8:=32::x.1.data.toList++[61,34]++zV true x.2.data.toList++[34]
def yx (inner:List UInt8)(t:Tr):List UInt8 :=
 if t.text then zV false t.s.data.toList else
  60::t.s.data.toList++t.attrs.flatMap qE++(if t.kids.isEmpty then [47,62] else 62::inner++[60,47]++t.s.data.toList++[62])
def showL:Nat→List Tr→List UInt8
 | 0,_=>[]
 | n+1,ts=>ts.flatMap fun t=>yx (showL n t.kids) t
theorem Jh (n:Nat)(ts:List Tr)(t:Tr):showL (n+1) (ts++[t])=showL (n+1) ts++yx (showL n t.kids) t:=by simp[showL]
end Go.Proofs.YtecimajafhoibaaGreatDoor
