/- The reader's elements and trees, as functions on plain data. No condition. -/
import Derived.Test.YtkbhckhbgalaoaaGreatDoorBundle13
import Derived.Test.YtkbhckhbgalaoaaGreatDoorBundle14
namespace Go.Proofs.YtkbhckhbgalaoaaGreatDoor
set_option maxRecDepth 100000
def Rs.elemIn (rec:Rs→List Tr × Rs)(nm:List UInt8)(l:List (List UInt8 × List UInt8))(r:Rs):Tr × Rs :=
 if r.ahead [47,62] then (⟨false,qa nm,asB (sortA l),[]⟩,r.take [47,62])
 else (⟨false,qa nm,asB (sortA l),(rec (r.must [62])).1⟩,((((rec (r.must [62])).2.must [60,47]).must nm).skip).must [62])
def Rs.elem (rec:Rs→List Tr × Rs)(r:Rs):Tr × Rs :=
 Rs.elemIn rec (r.must [60]).nameOf (r.must [60]).name.attrs.1 (r.must [60]).name.attrs.2.skip
def Rs.one (rec:Rs→List Tr × Rs)(r:Rs):Tr × Rs :=
 if r.ahead [60] then r.elem rec else (⟨true,qa (r.text textEnds).1,[],[]⟩,(r.text textEnds).2)
def treesF:Nat→Rs→List Tr × Rs
 | 0,r=>([],r)
 | f+1,r=>jd Rs.treeAhead (Rs.one (treesF f)) r
theorem YJ {rec:Rs→List Tr × Rs}(h:∀ r,(rec r).2.le r)(nm:List UInt8)(l:List (List UInt8 × List UInt8))(r:Rs):(Rs.elemIn rec nm l r).2.le r:=by
 unfold Rs.elemIn
 split
 · exact Xi _ _
 · exact (qU _ _).trans ((q9 _).trans ((qU _ _).trans ((qU _ _).trans ((h _).trans (qU _ _)))))
theorem Yv {rec:Rs→List Tr × Rs}(h:∀ r,(rec r).2.le r)(r:Rs):(r.elem rec).2.le (r.must [60]) :=
 (YJ h _ _ _).trans ((q9 _).trans ((xq _).trans (zY _)))
theorem Z7 {rec:Rs→List Tr × Rs}(h:∀ r,(rec r).2.le r)(r:Rs):(r.one rec).2.le r:=by
 unfold Rs.one
 split
 · exact (Yv h r).trans (qU _ _)
 · exact xn _ _
theorem treesF_le:∀ (f:Nat)(r:Rs),(treesF f r).2.le r:=by
 intro f
 induction f with
 | zero=>intro r;exact Rs.le.refl r
 | succ f ih=>intro r;exact QM (fun r _=>Z7 ih r) _ r
theorem j4 {r:Rs}{p:List UInt8}(h:r.ahead p=true):r.wrong=false:=by
 unfold Rs.ahead at h;simp only[Bool.and_eq_true,Bool.not_eq_true']at h;exact h.1
theorem Qz {r:Rs}{p:List UInt8}(h:r.ahead p=true)(hp:0<p.length):(r.must p).rest.length<r.rest.length:=by
 have hl:p.length≤r.rest.length:=xR (by unfold Rs.ahead at h;simp only[Bool.and_eq_true]at h;exact h.2)
 unfold Rs.must;rw[if_pos h];simp;omega
theorem Q7 {r:Rs}(h:r.treeAhead=true)(h2:r.ahead [60]=false):r.goesOn textEnds=true:=by
 unfold Rs.treeAhead at h
 simp only[Bool.and_eq_true,Bool.not_eq_true',decide_eq_true_eq]at h
 obtain ⟨⟨⟨h1,h3⟩,_⟩,h5⟩:=h;unfold Rs.goesOn;cases hr:r.rest with
 | nil=>exact absurd hr h3
 | cons c l =>
   have n1:((60:UInt8)==c)=false:=by
    cases he:((60:UInt8)==c) with
    | false=>rfl
    | true=>simp[Rs.ahead,h1,hr,List.isPrefixOf]at h2;simp at he;exact absurd he h2
   have n2:((62:UInt8)==c)=false:=by
    cases he:((62:UInt8)==c) with
    | false=>rfl
    | true=>simp[Rs.ahead,h1,hr,List.isPrefixOf]at h5;simp at he;exact absurd he h5
   simp[h1,textEnds,Lib.indexByte,n1,n2]
theorem xM {rec:Rs→List Tr × Rs}(h:∀ r,(rec r).2.le r)(r:Rs)(ha:r.treeAhead=true):(r.one rec).2.left<r.left:=by
 unfold Rs.one
 by_cases h2:r.ahead [60]=true
 · rw[if_pos h2];exact Nat.lt_of_le_of_lt (Yv h r).left (QS (Qz h2 (by decide)) (j4 h2))
 · rw[if_neg h2];have hg:=Q7 ha (by simpa using h2)
   rw[zD hg];exact Nat.lt_of_le_of_lt (xn r.sign.2 textEnds).left (jh hg)
theorem q4 {f:Nat}{r:Rs}(h:r.treeAhead=false):treesF f r=([],r):=by
 cases f with
 | zero=>rfl
 | succ f=>exact QN h
theorem zk {f:Nat}{r:Rs}(h:r.treeAhead=true):treesF (f+1) r=((r.one (treesF f)).1::(treesF (f+1) (r.one (treesF f)).2).1,(treesF (f+1) (r.one (treesF f)).2).2):=QO (xM (treesF_le f)) h
end Go.Proofs.YtkbhckhbgalaoaaGreatDoor
