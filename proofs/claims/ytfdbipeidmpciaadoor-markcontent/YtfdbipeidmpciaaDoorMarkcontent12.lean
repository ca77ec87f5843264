/- Marked texts and printed trees as functions on plain data. No condition. -/
import Derived.Test.YtfdbipeidmpciaaDoorFive00
import Derived.Lib.Bytealg
namespace Go.Proofs.YtfdbipeidmpciaaDoor
set_option maxRecDepth 100000
def zb (v:Bool)(c:UInt8):List UInt8 :=
 if c=60 then [38,108,116,59] else if c=62 then [38,103,116,59] else if c=38 then [38,97,109,112,59] else if (v&&c==34)=true then [38,113,117,111,116,59] else [c]
def qA (v:Bool)(l:List UInt8):List UInt8:=l.flatMap (zb v)
def yg (v:Bool):List UInt8:=if v then [60,62,38,34] else [60,62,38]
theorem Yz (v:Bool)(l:List UInt8)(c:UInt8):qA v (l++[c])=qA v l++zb v c:=by simp[qA]
theorem Jy (v:Bool)(c:UInt8):(zb v c).length≤6:=by
 unfold zb
 split
 · simp
 split
 · simp
 split
 · simp
 split
 · simp
 · simp
theorem j1 (v:Bool)(l:List UInt8):(qA v l).length≤6*l.length:=by
 induction l with
 | nil=>simp[qA]
 | cons c r ih =>
   have h1:=Jy v c;have h2:(qA v (c::r)).length=(zb v c).length+(qA v r).length:=by simp[qA]
   rw[h2,List.length_cons];omega
theorem YO (v:Bool)(c:UInt8) :
 (Lib.indexByte (yg v) c=0∧zb v c=[38,108,116,59])∨(Lib.indexByte (yg v) c=1∧zb v c=[38,103,116,59]) ∨
 (Lib.indexByte (yg v) c=2∧zb v c=[38,97,109,112,59])∨(Lib.indexByte (yg v) c=3∧zb v c=[38,113,117,111,116,59])∨(Lib.indexByte (yg v) c=-1∧zb v c=[c]):=by
 by_cases h0:c=60
 · subst h0;left;cases v<;>decide
 by_cases h1:c=62
 · subst h1;right;left;cases v<;>decide
 by_cases h2:c=38
 · subst h2;right;right;left;cases v<;>decide
 have n0:((60:UInt8)==c)=false:=by simpa using fun e=>h0 e.symm
 have n1:((62:UInt8)==c)=false:=by simpa using fun e=>h1 e.symm
 have n2:((38:UInt8)==c)=false:=by simpa using fun e=>h2 e.symm
 by_cases h3:(v&&c==34)=true
 · right;right;right;left
   simp only[Bool.and_eq_true,beq_iff_eq]at h3
   obtain ⟨rfl,rfl⟩:=h3
   decide
 · right;right;right;right
   have hm:zb v c=[c]:=by simp only[zb,h0,h1,h2,if_false];rw[if_neg h3]
   refine ⟨?_,hm⟩;cases v with
   | false=>simp[yg,Lib.indexByte,n0,n1,n2]
   | true =>
     have n3:((34:UInt8)==c)=false:=by
      have:¬ c=34:=by simpa using h3
      simpa using fun e=>this e.symm
     simp[yg,Lib.indexByte,n0,n1,n2,n3]
def qm (x:ByteArray × ByteArray):List UInt8:=32::x.1.data.toList++[61,34]++qA true x.2.data.toList++[34]
def qB (inner:List UInt8)(t:Tr):List UInt8 :=
 if t.text then qA false t.s.data.toList else
  60::t.s.data.toList++t.attrs.flatMap qm++(if t.kids.isEmpty then [47,62] else 62::inner++[60,47]++t.s.data.toList++[62])
def showL:Nat→List Tr→List UInt8
 | 0,_=>[]
 | n+1,ts=>ts.flatMap fun t=>qB (showL n t.kids) t
theorem xZ (n:Nat)(ts:List Tr)(t:Tr):showL (n+1) (ts++[t])=showL (n+1) ts++qB (showL n t.kids) t:=by simp[showL]
end Go.Proofs.YtfdbipeidmpciaaDoor
