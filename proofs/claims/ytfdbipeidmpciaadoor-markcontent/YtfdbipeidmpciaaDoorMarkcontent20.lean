/- Bundled: SortF ReadE Elem TreeR TreesR. What each says stands ahead of it. -/
import Derived.Test.YtfdbipeidmpciaaDoorMarkcontent18
import Derived.Test.YtfdbipeidmpciaaDoorMarkcontent19
import Derived.Shelf.SlSortCmp.NoneTotal
namespace Go.Proofs.YtfdbipeidmpciaaDoor
open Go.ChangeShapes Go.WideShapes Go.ChangeAt Go.RowKit Go.Sort
set_option maxRecDepth 100000
def Qh (x:List UInt8 × List UInt8):List Value:=[.string (bytesOf x.1),.string (bytesOf x.2)]
theorem attrAgg:∀ w,(isAgg 69).run Tryd.prog w=.ok true w:=fun _=>by rfl
theorem attrSize:∀ w,(Go.sizeOf 69).run Tryd.prog w=.ok 2 w:=fun _=>by rfl
theorem ZB (x y:List UInt8 × List UInt8)(W:World) :
 Calls Tryd.prog 127 #[.agg #[.string (bytesOf x.1),.string (bytesOf x.2)],.agg #[.string (bytesOf y.1),.string (bytesOf y.2)]] W fun e w'=>e=.returned (.int .i64 (Qd x y))∧∃ q os',w'=grow (W.drewN q) os':=by
 have HC:Hid (∀ W',Calls Tryd.prog 128 #[.string (bytesOf x.1),.string (bytesOf y.1)] W' fun e w'=>e=.returned (.int .i64 (Qd x y))∧w'=W'):=fun W'=>Tryd.strings_Compare (bytesOf x.1) (bytesOf y.1) W'
 obtain ⟨r,hr⟩:∃ r,Qd x y=r:=⟨_,rfl⟩;rw[hr]at HC ⊢
 clear hr
 go_enter Tryd.func127,Tryd.ntmps127
 go_wp2_with fail;refine (Calls.mono (HC.out _) ?_);rintro e w' ⟨rfl,rfl⟩;go_wp2_with fail;go_ret;exact ⟨rfl,0,_,by rw[alloc_eq_grow,alloc_eq_grow,grow_grow];rfl⟩
theorem xL (l:List (List UInt8 × List UInt8))(j:Nat)(hj:j<l.length*2):(attrCells (asB l))[j]?=some ((flatK Qh 2 l.toArray)[j]!):=by
 have hi:j / 2<l.length:=by omega
 rw[get_flatK Qh 2 l.toArray j (by simpa using hj)]
 have hx:(asB l)[j / 2]?=some (bytesOf l[j / 2].1,bytesOf l[j / 2].2):=by simp[asB,hi]
 obtain ⟨g0,g1⟩:=z8 (asB l) (j / 2) _ hx;rw[getElem!_pos _ (j / 2) (by simpa using hi)]
 by_cases hp:j % 2=0
 · have e : j / 2 * 2 = j := by omega
   rw[e]at g0
   rw[g0,hp];rfl
 · have e : j / 2 * 2 + 1 = j := by omega
   have hp1:j % 2=1:=by omega
   rw[e]at g1
   rw[g1,hp1];rfl
theorem JJ (l:List (List UInt8 × List UInt8))(cur:Array Value)(cap:Nat)(hc:cur.size=cap*2)(hl:l.length≤cap) :
 (putCells id 0 (flatK Qh 2 l.toArray) cur).size=cap*2∧(putCells id 0 (flatK Qh 2 l.toArray) cur).toList.take (l.length*2)=attrCells (asB l):=by
 refine ⟨by simp[putCells,hc],?_⟩
 apply List.ext_getElem?
 intro j
 by_cases hj:j<l.length*2
 · rw[xL l j hj, List.getElem?_take_of_lt hj];have hjc:j<cur.size:=by omega
   simp[putCells,hjc,hj]
 · rw[List.getElem?_take_eq_none (by omega),List.getElem?_eq_none (by rw[qL,jt];omega)]
theorem Xd (w:World)(g n:Nat)(d:List (List UInt8 × List UInt8))(os:Array Obj)(cur:Array Value)(hg:w.heap[g]?=some (.cells cur 69 (0,0))) :
 (sortWorldK Qh 2 w g 0 n d.toArray os).heap[g]?=some (.cells (putCells id 0 (flatK Qh 2 d.toArray) cur) 69 (0,0)) ∧
 (∀ x,x<w.heap.size→x≠g→(sortWorldK Qh 2 w g 0 n d.toArray os).heap[x]?=w.heap[x]?):=by
 have hlt:=ze hg
 constructor
 · unfold sortWorldK;rw[heap_grow_old _ _ (by simp[putRowK,putRow,mapBlock,Sort.ahead,hlt])]
   simp[putRowK,putRow,mapBlock,Sort.ahead,Array.getElem?_modify,hg,onCells]
 · intro x hx hne;unfold sortWorldK;rw[heap_grow_old _ _ (by simp[putRowK,putRow,mapBlock,Sort.ahead,hx])]
   have:¬ g=x:=fun e=>hne e.symm
   simp[putRowK,putRow,mapBlock,Sort.ahead,Array.getElem?_modify,this]
theorem Zj (Bs:Nat)(v:Value)(l:List (List UInt8 × List UInt8))(w:World)(h:w.ownsRow Bs 69 2 v l.length (attrCells (asB l)))(hl:l.length≤1099511627777) :
 Calls Tryd.prog 126 #[v,.func (.func 127) #[] #[]] w fun e w'=>e=.returned (.tuple #[])∧w'.ownsRow Bs 69 2 v l.length (attrCells (asB (sortA l))) ∧
  (∀ x,x<w.heap.size→v.ownBlock≠some x→w'.heap[x]?=w.heap[x]?)∧Below Bs w w':=by
 have h0:=h
 rcases h.2 with ⟨rfl,hn⟩|⟨g,cap,cur,rfl,hB,hg,hc,hm,hs,ht⟩
 · have : l = [] := List.eq_nil_of_length_eq_zero hn;subst this;have e:sortA []=[]:=List.eq_nil_of_length_eq_zero (zq []);refine (AnyF.slices_SortFunc_none { Tryd.sortA with } none 0 (.func (.func 127) #[] #[]) w).mono ?_
   rintro e1 w' ⟨rfl,rfl⟩;rw[e];exact ⟨rfl,h0,fun _ _ _=>rfl,Below.refl _ _⟩
 · have eg : ∀ args w, (callFunc 127 args).run Tryd.prog w = .ok (.enter 127 args) w := enters_of Tryd.func127 (by kernel_rfl) rfl
   have hH:HoldsK Qh 2 w g 0 l.toArray:=by
    intro j hj;have hj2:j<l.length*2:=by simpa using hj
    refine ⟨?_,?_⟩
    · rw[Nat.zero_add, World.ownsRow.cellAt h0 j hj2];exact xL l j hj2
    · exact fH9 hg _
   have hcon:=AnyQ.slices_SortFunc_eq Tryd.sortA 2 attrAgg attrSize Qh (fun _=>rfl) (fun x v hv=>by simp[Qh]at hv;rcases hv with rfl|rfl<;>rfl) Qd swoA 127 #[] g 0 cap l.toArray w eg (fun _ _ _ _ x y=>ZB x y _) hH (ze hg) (by simp;omega)
   refine Calls.mono hcon ?_;rintro e w' ⟨rfl,n,os,rfl⟩;have hsrt:pdq (ltOf Qd) l.toArray 0 l.toArray.size (Lib.bitLen l.toArray.size) true true=(sortA l).toArray:=by simp[sortA]
   rw[hsrt];obtain ⟨k1,k2⟩:=Xd w g n (sortA l) os cur hg;obtain ⟨k3,k4⟩:=JJ (sortA l) cur cap hs (by rw[zq];exact hc)
   refine ⟨rfl,⟨by rw[qL,jt,zq],Or.inr ⟨g,cap,_,rfl,hB,k1,hc,hm,k3,by rw[←zq l];exact k4⟩⟩,?_,?_⟩
   · intro x hx hne;exact k2 x hx (fun e=>hne (by rw[e];rfl))
   · refine ⟨rfl, rfl, rfl, ?_, fun x hx => ?_⟩
     · simp[sortWorldK,putRowK,putRow,mapBlock,Sort.ahead]
     · rcases Nat.lt_or_ge x w.heap.size with h' | h'
       · exact k2 x h' (by omega)
       · exact absurd (ze hg) (by omega)
end Go.Proofs.YtfdbipeidmpciaaDoor
namespace Go.Proofs.YtfdbipeidmpciaaDoor
set_option maxRecDepth 100000
def Rs.elemIn (rec:Rs→List Tr × Rs)(nm:List UInt8)(l:List (List UInt8 × List UInt8))(r:Rs):Tr × Rs :=
 if r.ahead [47,62] then (⟨false,bytesOf nm,asB (sortA l),[]⟩,r.take [47,62])
 else (⟨false,bytesOf nm,asB (sortA l),(rec (r.must [62])).1⟩,((((rec (r.must [62])).2.must [60,47]).must nm).skip).must [62])
def Rs.elem (rec:Rs→List Tr × Rs)(r:Rs):Tr × Rs :=
 Rs.elemIn rec (r.must [60]).nameOf (r.must [60]).name.attrs.1 (r.must [60]).name.attrs.2.skip
def Rs.one (rec:Rs→List Tr × Rs)(r:Rs):Tr × Rs :=
 if r.ahead [60] then r.elem rec else (⟨true,bytesOf (r.text textEnds).1,[],[]⟩,(r.text textEnds).2)
def treesF:Nat→Rs→List Tr × Rs
 | 0,r=>([],r)
 | f+1,r=>jd Rs.treeAhead (Rs.one (treesF f)) r
theorem Jl {rec:Rs→List Tr × Rs}(h:∀ r,(rec r).2.le r)(nm:List UInt8)(l:List (List UInt8 × List UInt8))(r:Rs):(Rs.elemIn rec nm l r).2.le r:=by
 unfold Rs.elemIn
 split
 · exact X6 _ _
 · exact (qR _ _).trans ((q7 _).trans ((qR _ _).trans ((qR _ _).trans ((h _).trans (qR _ _)))))
theorem Y8 {rec:Rs→List Tr × Rs}(h:∀ r,(rec r).2.le r)(r:Rs):(r.elem rec).2.le (r.must [60]) :=
 (Jl h _ _ _).trans ((q7 _).trans ((xF _).trans (zH _)))
theorem YF {rec:Rs→List Tr × Rs}(h:∀ r,(rec r).2.le r)(r:Rs):(r.one rec).2.le r:=by
 unfold Rs.one
 split
 · exact (Y8 h r).trans (qR _ _)
 · exact xz _ _
theorem treesF_le:∀ (f:Nat) (r:Rs),(treesF f r).2.le r:=by
 intro f
 induction f with
 | zero=>intro r;exact Rs.le.refl r
 | succ f ih=>intro r;exact QO (fun r _=>YF ih r) _ r
theorem Zr {r:Rs}{p:List UInt8}(h:r.ahead p=true):r.wrong=false:=by
 unfold Rs.ahead at h;simp only[Bool.and_eq_true,Bool.not_eq_true']at h;exact h.1
theorem QD {r:Rs}{p:List UInt8}(h:r.ahead p=true)(hp:0<p.length):(r.must p).rest.length<r.rest.length:=by
 have hl:p.length≤r.rest.length:=xX (by unfold Rs.ahead at h;simp only[Bool.and_eq_true]at h;exact h.2)
 unfold Rs.must;rw[if_pos h];simp;omega
theorem Zn {r:Rs}(h:r.treeAhead=true)(h2:r.ahead [60]=false):r.goesOn textEnds=true:=by
 unfold Rs.treeAhead at h
 simp only[Bool.and_eq_true,Bool.not_eq_true',decide_eq_true_eq]at h
 obtain ⟨⟨⟨h1,h3⟩,_⟩,h5⟩:=h;unfold Rs.goesOn;cases hr:r.rest with
 | nil=>exact absurd hr h3
 | cons c l =>
   have n1:((60:UInt8)==c)=false:=by
    cases he:((60:UInt8)==c) with
    | false=>rfl
    | true=>simp[Rs.ahead,h1,hr,List.isPrefixOf]at h2;simp at he;exact absurd he h2
   have n2:((62:UInt8)==c)=false:=by
    cases he:((62:UInt8)==c) with
    | false=>rfl
    | true=>simp[Rs.ahead,h1,hr,List.isPrefixOf]at h5;simp at he;exact absurd he h5
   simp[h1,textEnds,Lib.indexByte,n1,n2]
theorem ZT {rec:Rs→List Tr × Rs}(h:∀ r,(rec r).2.le r)(r:Rs)(ha:r.treeAhead=true):(r.one rec).2.left<r.left:=by
 unfold Rs.one
 by_cases h2:r.ahead [60]=true
 · rw[if_pos h2];exact Nat.lt_of_le_of_lt (Y8 h r).left (Q6 (QD h2 (by decide)) (Zr h2))
 · rw[if_neg h2];have hg:=Zn ha (by simpa using h2)
   rw[Zm hg];exact Nat.lt_of_le_of_lt (xz r.sign.2 textEnds).left (jg hg)
theorem j9 {f:Nat}{r:Rs}(h:r.treeAhead=false):treesF f r=([],r):=by
 cases f with
 | zero=>rfl
 | succ f=>exact QP h
theorem QL {f:Nat}{r:Rs}(h:r.treeAhead=true):treesF (f+1) r=((r.one (treesF f)).1::(treesF (f+1) (r.one (treesF f)).2).1,(treesF (f+1) (r.one (treesF f)).2).2):=QQ (ZT (treesF_le f)) h
end Go.Proofs.YtfdbipeidmpciaaDoor
namespace Go.Proofs.YtfdbipeidmpciaaDoor
open Go.ChangeShapes Go.WideShapes Go.ChangeAt Go.RowKit
set_option maxRecDepth 100000
section
attribute [local go_sem] qg
def zE (f:Nat):Prop:=∀ (B rb:Nat) (r:Rs) (w:World),Rd B rb r w→qx w→0<B→B≤w.heap.size→r.rest.length≤1099511627776→r.rest.length<f →
 Calls Tryd.prog 65 #[.pointer (some ⟨rb,0,none⟩)] w fun e w'=>∃ v,e=.returned v∧qb (fun b=>w.heap.size≤b) w' f v (treesF f r).1∧Rd B rb (treesF f r).2 w'∧RFr B rb w w'
theorem qe.reader {N B rb:Nat}{w w':World}{v:Value}{l:List (ByteArray × ByteArray)}(h:qe (fun b=>N≤b) w v l)(hF:RFr B rb w w')(hrb:rb<N):qe (fun b=>N≤b) w' v l :=
 h.bounded.carry fun b hb=>⟨hb.1,hF.frame b hb.2 (by have:=hb.1;omega)⟩
theorem qb.reader {N B rb n:Nat}{w w':World}{v:Value}{l:List Tr}(h:qb (fun b=>N≤b) w n v l)(hF:RFr B rb w w')(hrb:rb<N):qb (fun b=>N≤b) w' n v l :=
 qb.carry (fun b hb=>⟨hb.1,hF.frame b hb.2 (by have:=hb.1;omega)⟩) n (qb.bounded n h)
theorem qe.ofRow {N:Nat}{w:World}{v:Value}{l:List (ByteArray × ByteArray)}(h:w.ownsRow N 69 2 v l.length (attrCells l)):qe (fun b=>N≤b) w v l :=
 (qe.of_owns h).carry fun _ hb=>⟨hb.1,rfl⟩
theorem qe.set {N b k:Nat}{u:Value}{w:World}{v:Value}{l:List (ByteArray × ByteArray)}(h:qe (fun b=>N≤b) w v l)(hb:b<N):qe (fun b=>N≤b) (w.setCell ⟨b,k,none⟩ u) v l :=
 h.carry fun x hx=>⟨hx,qj (by omega)⟩
theorem qb.set {N b k n:Nat}{u:Value}{w:World}{v:Value}{l:List Tr}(h:qb (fun b=>N≤b) w n v l)(hb:b<N):qb (fun b=>N≤b) (w.setCell ⟨b,k,none⟩ u) n v l :=
 qb.carry (fun x hx=>⟨hx,qj (by omega)⟩) n h
theorem qe.wider {N M:Nat}{w:World}{v:Value}{l:List (ByteArray × ByteArray)}(h:qe (fun b=>N≤b) w v l)(hb:M≤N):qe (fun b=>M≤b) w v l :=
 h.carry fun _ hx=>⟨Nat.le_trans hb hx,rfl⟩
theorem qb.wider {N M n:Nat}{w:World}{v:Value}{l:List Tr}(h:qb (fun b=>N≤b) w n v l)(hb:M≤N):qb (fun b=>M≤b) w n v l :=
 qb.carry (fun _ hx=>⟨Nat.le_trans hb hx,rfl⟩) n h
theorem Y0 {α:Type}{more:Rs→Bool}{step:Rs→α × Rs}(hless:∀ r,more r=true→(step r).2.left<r.left):∀ (f:Nat) (r:Rs),(qJ more step f r).1.length≤r.left:=by
 intro f
 induction f with
 | zero=>intro r;simp[qJ]
 | succ f ih =>
   intro r;unfold qJ
   split
   · rename_i h
     have h1:=hless r h;have h2:=ih (step r).2;simp;omega
   · simp
theorem Zw (r:Rs)(h:r.rest.length≤1099511627776):r.attrs.1.length≤1099511627777:=by
 have h1:r.attrs.1.length≤r.left:=Y0 jY _ r;have h2:=jO r;omega
set_option maxHeartbeats 2000000 in
theorem XK (f:Nat)(ih:zE f)(B rb:Nat)(r:Rs)(w:World)(h:Rd B rb r w)(hM:qx w)(hgB:0<B)(hBw:B≤w.heap.size)(hs:r.rest.length≤1099511627776)(ha:r.ahead [60]=true)(hf:r.rest.length≤f) :
 Calls Tryd.prog 98 #[.pointer (some ⟨rb,0,none⟩)] w fun e w'=>∃ va vk,e=.returned (.agg #[.bool (r.elem (treesF f)).1.text,.string (r.elem (treesF f)).1.s,va,vk]) ∧
  qe (fun b=>w.heap.size≤b) w' va (r.elem (treesF f)).1.attrs∧qb (fun b=>w.heap.size≤b) w' f vk (r.elem (treesF f)).1.kids∧Rd B rb (r.elem (treesF f)).2 w'∧RFr B rb w w':=by
 have HM:Hid (qx w):=hM;have IH:Hid (zE f):=ih;have hrb:=h.lt;have hb1:=Below.alloc1 w (.cells #[.bool false,.string ⟨#[]⟩,.slice none 0 0,.slice none 0 0] 25);have hx1:=heap_alloc_new w (.cells #[.bool false,.string ⟨#[]⟩,.slice none 0 0,.slice none 0 0] 25);have hR1:=h.later hb1;have hF1:RFr B rb w _:=RFr.later hBw hb1;have HE:Hid (r.elem (treesF f)=Rs.elemIn (treesF f) (r.must [60]).nameOf (r.must [60]).name.attrs.1 (r.must [60]).name.attrs.2.skip):=rfl;have HL2:Hid ((r.must [60]).rest.length<r.rest.length):=QD ha (by decide)
 have HLE:Hid (r.rest.length≤1099511627776∧r.rest.length≤f):=⟨hs,hf⟩;clear h hM hs ih ha hf
 go_enter Tryd.func98,Tryd.ntmps98
 go_wp2_with fail
 generalize w.alloc (.cells #[.bool false,.string ⟨#[]⟩,.slice none 0 0,.slice none 0 0] 25)=W1 at hb1 hx1 hR1 hF1 ⊢
 have hsz1:=hb1.size;refine (Calls.mono (zT B rb r [60] W1 hR1 HLE.out.1) ?_);rintro e w2 ⟨rfl,hR2,k2⟩;have hx2:=k2.box hx1 (by omega)
 have hF2:=hF1.trans k2;have hsz2:=hF2.below.size;clear hR1 hx1 hF1 k2 hb1;obtain ⟨r2,hr2⟩:∃ r2,r.must [60]=r2:=⟨_,rfl⟩;rw[hr2]at HE HL2 hR2
 clear hr2;have HLL:Hid (r2.rest.length≤1099511627776):=by show _≤_;have:=HL2.out;have:=HLE.out.1;omega
 go_wp2_with fail;refine (Calls.mono (ZR B rb r2 w2 hR2 (by omega) HLL.out) ?_)
 rintro e w3 ⟨rfl,hR3,k3⟩;have hx3:=k3.box hx2 (by omega)
 have hF3:=hF2.trans k3;have hsz3:=hF3.below.size;clear hR2 hx2 hF2 k3;go_wp2_with fail;obtain ⟨nm,hnm⟩:∃ nm,r2.nameOf=nm:=⟨_,rfl⟩;rw[hnm]at HE ⊢
 clear hnm;have HN3:Hid (r2.name.rest.length≤r2.rest.length):=(zH r2).1;obtain ⟨r3,hr3⟩:∃ r3,r2.name=r3:=⟨_,rfl⟩;rw[hr3]at HE hR3 HN3
 clear hr3;have hb4:=Below.alloc1 w3 (.cells #[.bool false,.string (bytesOf nm),.slice none 0 0,.slice none 0 0] 25);have hy4:=heap_alloc_new w3 (.cells #[.bool false,.string (bytesOf nm),.slice none 0 0,.slice none 0 0] 25);have hz4:(w3.alloc (.cells #[.bool false,.string (bytesOf nm),.slice none 0 0,.slice none 0 0] 25)).heap.size=w3.heap.size+1:=by simp
 generalize w3.alloc (.cells #[.bool false,.string (bytesOf nm),.slice none 0 0,.slice none 0 0] 25)=W4 at hb4 hy4 hz4 ⊢
 have hR4:=hR3.later hb4;have hw3:=ze hx3;have hx4:=(hb4.block w.heap.size hw3).trans hx3;have hF4:=hF3.trans (RFr.later (rb:=rb) (B:=B) (by omega) hb4)
 clear hR3 hx3 hF3 hb4;refine (Calls.mono (Qn B rb r3 W4 hR4 (HM.out.later hF4.below hgB) hgB (by omega) (by have:=HLL.out;have:=HN3.out;omega)) ?_)
 rintro e w5 ⟨va,rfl,hO5,hR5,k5⟩;have hx5:=k5.box hx4 (by omega)
 have hy5:=k5.box hy4 (by omega)
 have hF5:=hF4.trans k5;have hsz5:=k5.below.size;clear hR4 hx4 hy4 hF4 k5;have HN5:Hid (r3.attrs.2.rest.length≤r2.rest.length):=Nat.le_trans (xF r3).1 HN3.out
 have HL5:Hid (r3.attrs.1.length≤1099511627777):=by
  show _≤_
  exact Zw r3 (by have:=HLL.out;have:=HN3.out;omega)
 obtain ⟨l,hl⟩:∃ l,r3.attrs.1=l:=⟨_,rfl⟩;obtain ⟨r5,hr5⟩:∃ r5,r3.attrs.2=r5:=⟨_,rfl⟩;rw[hl]at HE HL5 hO5
 rw[hr5]at HE hR5 HN5
 clear hl hr5
 obtain ⟨aa,an,ac,rfl⟩:∃ a n c,va=.slice a n c:=by
  rcases hO5.2 with ⟨hv,_⟩|⟨g,cap,cur,hv,_⟩
  · exact ⟨_,_,_,hv⟩
  · exact ⟨_,_,_,hv⟩
 have q2:w5.cell? ⟨w3.heap.size,2,none⟩=some (.slice none 0 0):=by rw[cH9 hy5];rfl
 have q2f:w5.frozen? ⟨w3.heap.size,2,none⟩=false:=fH9 hy5 2;go_wp2_with fail;have hne:∀ x,(Value.slice aa an ac).ownBlock=some x→w3.heap.size+1≤x:=fun x hx=>by have:=(hO5.lt x hx).1;omega
 have hO6:(w5.setCell ⟨w3.heap.size,2,none⟩ (.slice aa an ac)).ownsRow W4.heap.size 69 2 (.slice aa an ac) l.length (attrCells (asB l)):=qo hO5 (fun x hx=>qj (by have:=hne x hx;omega))
 have hy6:(w5.setCell ⟨w3.heap.size,2,none⟩ (.slice aa an ac)).heap[w3.heap.size]?=some (.cells #[.bool false,.string (bytesOf nm),.slice aa an ac,.slice none 0 0] 25 (0,0)):=by simp[World.setCell,Array.getElem?_modify,hy5]
 have hx6:(w5.setCell ⟨w3.heap.size,2,none⟩ (.slice aa an ac)).heap[w.heap.size]?=some (.cells #[.bool false,.string ⟨#[]⟩,.slice none 0 0,.slice none 0 0] 25 (0,0)):=by rw[qj (by omega)];exact hx5
 have hR6:Rd B rb r5 (w5.setCell ⟨w3.heap.size,2,none⟩ (.slice aa an ac)):=⟨hR5.base,by rw[qj (by omega)];exact hR5.held⟩
 have hF6:RFr B rb w (w5.setCell ⟨w3.heap.size,2,none⟩ (.slice aa an ac)):=hF5.own ((Below.refl _ w5).setCell (p:=⟨w3.heap.size,2,none⟩) hsz3 _) hBw;have hsz6:w5.heap.size≤(w5.setCell ⟨w3.heap.size,2,none⟩ (.slice aa an ac)).heap.size:=((Below.refl 0 w5).setCell (p:=⟨w3.heap.size,2,none⟩) (nZ9 _) _).size
 generalize w5.setCell ⟨w3.heap.size,2,none⟩ (.slice aa an ac)=W6 at hO6 hy6 hx6 hR6 hF6 hsz6 ⊢
 clear hR5 hx5 hy5 hF5 q2 q2f hO5;refine (Calls.mono (Zj W4.heap.size (.slice aa an ac) l W6 hO6 HL5.out) ?_);rintro e w7 ⟨rfl,hO7,k7,b7⟩;have hy7:=(k7 w3.heap.size (ze hy6) (fun e=>by have:=hne _ e;omega)).trans hy6
 have hx7:=(k7 w.heap.size (ze hx6) (fun e=>by have:=hne _ e;omega)).trans hx6
 have hR7:Rd B rb r5 w7:=⟨hR6.base,(k7 rb hR6.lt (fun e=>by have:=hne _ e;omega)).trans hR6.held⟩
 have hF7:RFr B rb w w7:=hF6.own (b7.mono (by omega)) hBw
 have hA7:qe (fun b=>W4.heap.size≤b) w7 (.slice aa an ac) (asB (sortA l)):=qe.ofRow (by rw[jt,zq];exact hO7)
 have hsz7:=b7.size;clear hR6 hx6 hy6 hF6 hO6 hO7 k7 b7;go_wp2_with fail;refine (Calls.mono (x5 B rb r5 w7 hR7 (by omega)) ?_)
 rintro e w8 ⟨rfl,hR8,k8⟩;have hx8:=k8.box hx7 (by omega)
 have hy8:=k8.box hy7 (by omega)
 have hF8:=hF7.trans k8;have hA8:=hA7.reader k8 (by omega)
 have hsz8:=k8.below.size;clear hR7 hx7 hy7 hF7 k8 hA7;have HN8:Hid (r5.skip.rest.length≤r2.rest.length):=Nat.le_trans (q7 r5).1 HN5.out;obtain ⟨r8,hr8⟩:∃ r8,r5.skip=r8:=⟨_,rfl⟩;rw[hr8]at HE hR8 HN8
 clear hr8;go_wp2_with fail;refine (Calls.mono (yt B rb r8 [47,62] w8 hR8 (by have:=HLL.out;have:=HN8.out;omega)) ?_)
 rintro e w9 ⟨rfl,hR9,k9⟩;have hx9:=k9.box hx8 (by omega)
 have hy9:=k9.box hy8 (by omega)
 have hF9:=hF8.trans k9;have hA9:=hA8.reader k9 (by omega)
 have hsz9:=k9.below.size;clear hR8 hx8 hy8 hF8 k9 hA8;obtain ⟨q,hq⟩:∃ q,r8.ahead [47,62]=q:=⟨_,rfl⟩;rw[hq];cases q with
 | true =>
   have HE2:Hid (r.elem (treesF f)=(⟨false,bytesOf nm,asB (sortA l),[]⟩,r8.take [47,62])):=by show _=_;rw[HE.out,Rs.elemIn,if_pos hq]
   clear HE hq;have q0:w9.cell? ⟨w3.heap.size,0,none⟩=some (.bool false):=by rw[cH9 hy9];rfl
   have q1:w9.cell? ⟨w3.heap.size,1,none⟩=some (.string (bytesOf nm)):=by rw[cH9 hy9];rfl
   have q2:w9.cell? ⟨w3.heap.size,2,none⟩=some (.slice aa an ac):=by rw[cH9 hy9];rfl
   have q3:w9.cell? ⟨w3.heap.size,3,none⟩=some (.slice none 0 0):=by rw[cH9 hy9];rfl
   have p0:w9.cell? ⟨w.heap.size,0,none⟩=some (.bool false):=by rw[cH9 hx9];rfl
   have p1:w9.cell? ⟨w.heap.size,1,none⟩=some (.string ⟨#[]⟩):=by rw[cH9 hx9];rfl
   have p2:w9.cell? ⟨w.heap.size,2,none⟩=some (.slice none 0 0):=by rw[cH9 hx9];rfl
   have p3:w9.cell? ⟨w.heap.size,3,none⟩=some (.slice none 0 0):=by rw[cH9 hx9];rfl
   have f0:w9.frozen? ⟨w.heap.size,0,none⟩=false:=fH9 hx9 0;have f1:w9.frozen? ⟨w.heap.size,1,none⟩=false:=fH9 hx9 1;have f2:w9.frozen? ⟨w.heap.size,2,none⟩=false:=fH9 hx9 2;have f3:w9.frozen? ⟨w.heap.size,3,none⟩=false:=fH9 hx9 3;go_wp2_with fail;refine bodyPost_ret (v:=.agg #[.bool false,.string (bytesOf nm),.slice aa an ac,.slice none 0 0]) (by simp[results,Tryd.results98,go_sem,qg,p0,p1,p2,p3,World.cell?_setCell_other]) rfl ⟨.slice aa an ac,.slice none 0 0,?_,?_,?_,?_,?_⟩
   · rw[HE2.out]
   · rw[HE2.out];exact ((((hA9.set (by omega)).set (by omega)).set (by omega)).set (by omega)).wider (by omega)
   · rw[HE2.out];exact qb.nil _ ⟨none,0,rfl,nZ9 _⟩
   · rw[HE2.out];exact ⟨hR9.base,by rw[qj (by omega),qj (by omega),qj (by omega),qj (by omega)];exact hR9.held⟩
   · exact hF9.own (((((Below.refl _ w9).setCell (p:=⟨w.heap.size,0,none⟩) (nR9 _) _).setCell (p:=⟨w.heap.size,1,none⟩) (nR9 _) _).setCell (p:=⟨w.heap.size,2,none⟩) (nR9 _) _).setCell (p:=⟨w.heap.size,3,none⟩) (nR9 _) _) hBw
 | false =>
   have HE2:Hid (r.elem (treesF f)=(⟨false,bytesOf nm,asB (sortA l),(treesF f (r8.must [62])).1⟩,((((treesF f (r8.must [62])).2.must [60,47]).must nm).skip).must [62])):=by show _=_;rw[HE.out,Rs.elemIn,if_neg (by rw[hq];decide)]
   rw[jP hq]at hR9
   clear HE hq;go_wp2_with fail;refine (Calls.mono (zT B rb r8 [62] w9 hR9 (by have:=HLL.out;have:=HN8.out;omega)) ?_)
   rintro e w10 ⟨rfl,hR10,k10⟩;have hx10:=k10.box hx9 (by omega)
   have hy10:=k10.box hy9 (by omega)
   have hF10:=hF9.trans k10;have hA10:=hA9.reader k10 (by omega)
   have hsz10:=k10.below.size;clear hR9 hx9 hy9 hF9 k10 hA9;have HN10:Hid ((r8.must [62]).rest.length≤r2.rest.length):=Nat.le_trans (qR r8 _).1 HN8.out;obtain ⟨r10,hr10⟩:∃ r10,r8.must [62]=r10:=⟨_,rfl⟩;rw[hr10]at HE2 hR10 HN10
   clear hr10;go_wp2_with fail;refine (Calls.mono (IH.out B rb r10 w10 hR10 (HM.out.later hF10.below hgB) hgB (by omega) (by have:=HLL.out;have:=HN10.out;omega) (by have:=HL2.out;have:=HN10.out;have:=HLE.out.2;omega)) ?_)
   rintro e w11 ⟨vk,rfl,hK11,hR11,k11⟩;have hx11:=k11.box hx10 (by omega)
   have hy11:=k11.box hy10 (by omega)
   have hF11:=hF10.trans k11;have hA11:=hA10.reader k11 (by omega)
   have hsz11:=k11.below.size;clear hR10 hx10 hy10 hF10 k11 hA10;have HN11:Hid ((treesF f r10).2.rest.length≤r2.rest.length):=Nat.le_trans (treesF_le f r10).1 HN10.out;obtain ⟨ks,hks⟩:∃ ks,(treesF f r10).1=ks:=⟨_,rfl⟩;obtain ⟨r11,hr11⟩:∃ r11,(treesF f r10).2=r11:=⟨_,rfl⟩;rw[hks]at HE2 hK11
   rw[hr11]at HE2 hR11 HN11
   clear hks hr11;obtain ⟨ka,kc,rfl,_,_⟩:=qb.shape f hK11;have q3:w11.cell? ⟨w3.heap.size,3,none⟩=some (.slice none 0 0):=by rw[cH9 hy11];rfl
   have q3f:w11.frozen? ⟨w3.heap.size,3,none⟩=false:=fH9 hy11 3;go_wp2_with fail;have hK12:qb (fun b=>w10.heap.size≤b) (w11.setCell ⟨w3.heap.size,3,none⟩ (.slice ka ks.length kc)) f (.slice ka ks.length kc) ks:=hK11.set (by omega)
   have hA12:qe (fun b=>W4.heap.size≤b) (w11.setCell ⟨w3.heap.size,3,none⟩ (.slice ka ks.length kc)) (.slice aa an ac) (asB (sortA l)):=hA11.set (by omega)
   have hy12:(w11.setCell ⟨w3.heap.size,3,none⟩ (.slice ka ks.length kc)).heap[w3.heap.size]?=some (.cells #[.bool false,.string (bytesOf nm),.slice aa an ac,.slice ka ks.length kc] 25 (0,0)):=by simp[World.setCell,Array.getElem?_modify,hy11]
   have hx12:(w11.setCell ⟨w3.heap.size,3,none⟩ (.slice ka ks.length kc)).heap[w.heap.size]?=some (.cells #[.bool false,.string ⟨#[]⟩,.slice none 0 0,.slice none 0 0] 25 (0,0)):=by rw[qj (by omega)];exact hx11
   have hR12:Rd B rb r11 (w11.setCell ⟨w3.heap.size,3,none⟩ (.slice ka ks.length kc)):=⟨hR11.base,by rw[qj (by omega)];exact hR11.held⟩
   have hF12:RFr B rb w (w11.setCell ⟨w3.heap.size,3,none⟩ (.slice ka ks.length kc)):=hF11.own ((Below.refl _ w11).setCell (p:=⟨w3.heap.size,3,none⟩) hsz3 _) hBw;have hsz12:w11.heap.size≤(w11.setCell ⟨w3.heap.size,3,none⟩ (.slice ka ks.length kc)).heap.size:=((Below.refl 0 w11).setCell (p:=⟨w3.heap.size,3,none⟩) (nZ9 _) _).size
   generalize w11.setCell ⟨w3.heap.size,3,none⟩ (.slice ka ks.length kc)=W12 at hK12 hA12 hy12 hx12 hR12 hF12 hsz12 ⊢
   clear hR11 hx11 hy11 hF11 q3 q3f hA11 hK11;refine (Calls.mono (zT B rb r11 [60,47] W12 hR12 (by have:=HLL.out;have:=HN11.out;omega)) ?_)
   rintro e w13 ⟨rfl,hR13,k13⟩;have hx13:=k13.box hx12 (by omega)
   have hy13:=k13.box hy12 (by omega)
   have hF13:=hF12.trans k13;have hA13:=hA12.reader k13 (by omega)
   have hK13:=hK12.reader k13 (by omega)
   have hsz13:=k13.below.size;clear hR12 hx12 hy12 hF12 k13 hA12 hK12;have HN13:Hid ((r11.must [60,47]).rest.length≤r2.rest.length):=Nat.le_trans (qR r11 _).1 HN11.out;obtain ⟨r13,hr13⟩:∃ r13,r11.must [60,47]=r13:=⟨_,rfl⟩;rw[hr13]at HE2 hR13 HN13
   clear hr13;have q1:w13.cell? ⟨w3.heap.size,1,none⟩=some (.string (bytesOf nm)):=by rw[cH9 hy13];rfl
   go_wp2_with fail;refine (Calls.mono (zT B rb r13 nm w13 hR13 (by have:=HLL.out;have:=HN13.out;omega)) ?_)
   rintro e w14 ⟨rfl,hR14,k14⟩;have hx14:=k14.box hx13 (by omega)
   have hy14:=k14.box hy13 (by omega)
   have hF14:=hF13.trans k14;have hA14:=hA13.reader k14 (by omega)
   have hK14:=hK13.reader k14 (by omega)
   have hsz14:=k14.below.size;clear hR13 hx13 hy13 hF13 k14 hA13 hK13 q1;have HN14:Hid ((r13.must nm).rest.length≤r2.rest.length):=Nat.le_trans (qR r13 _).1 HN13.out;obtain ⟨r14,hr14⟩:∃ r14,r13.must nm=r14:=⟨_,rfl⟩;rw[hr14]at HE2 hR14 HN14
   clear hr14;go_wp2_with fail;refine (Calls.mono (x5 B rb r14 w14 hR14 (by omega)) ?_)
   rintro e w15 ⟨rfl,hR15,k15⟩;have hx15:=k15.box hx14 (by omega)
   have hy15:=k15.box hy14 (by omega)
   have hF15:=hF14.trans k15;have hA15:=hA14.reader k15 (by omega)
   have hK15:=hK14.reader k15 (by omega)
   have hsz15:=k15.below.size;clear hR14 hx14 hy14 hF14 k15 hA14 hK14;have HN15:Hid (r14.skip.rest.length≤r2.rest.length):=Nat.le_trans (q7 r14).1 HN14.out;obtain ⟨r15,hr15⟩:∃ r15,r14.skip=r15:=⟨_,rfl⟩;rw[hr15]at HE2 hR15 HN15
   clear hr15;go_wp2_with fail;refine (Calls.mono (zT B rb r15 [62] w15 hR15 (by have:=HLL.out;have:=HN15.out;omega)) ?_)
   rintro e w16 ⟨rfl,hR16,k16⟩;have hx16:=k16.box hx15 (by omega)
   have hy16:=k16.box hy15 (by omega)
   have hF16:=hF15.trans k16;have hA16:=hA15.reader k16 (by omega)
   have hK16:=hK15.reader k16 (by omega)
   have hsz16:=k16.below.size;clear hR15 hx15 hy15 hF15 k16 hA15 hK15;have q0:w16.cell? ⟨w3.heap.size,0,none⟩=some (.bool false):=by rw[cH9 hy16];rfl
   have q1:w16.cell? ⟨w3.heap.size,1,none⟩=some (.string (bytesOf nm)):=by rw[cH9 hy16];rfl
   have q2:w16.cell? ⟨w3.heap.size,2,none⟩=some (.slice aa an ac):=by rw[cH9 hy16];rfl
   have q3:w16.cell? ⟨w3.heap.size,3,none⟩=some (.slice ka ks.length kc):=by rw[cH9 hy16];rfl
   have p0:w16.cell? ⟨w.heap.size,0,none⟩=some (.bool false):=by rw[cH9 hx16];rfl
   have p1:w16.cell? ⟨w.heap.size,1,none⟩=some (.string ⟨#[]⟩):=by rw[cH9 hx16];rfl
   have p2:w16.cell? ⟨w.heap.size,2,none⟩=some (.slice none 0 0):=by rw[cH9 hx16];rfl
   have p3:w16.cell? ⟨w.heap.size,3,none⟩=some (.slice none 0 0):=by rw[cH9 hx16];rfl
   have f0:w16.frozen? ⟨w.heap.size,0,none⟩=false:=fH9 hx16 0;have f1:w16.frozen? ⟨w.heap.size,1,none⟩=false:=fH9 hx16 1;have f2:w16.frozen? ⟨w.heap.size,2,none⟩=false:=fH9 hx16 2;have f3:w16.frozen? ⟨w.heap.size,3,none⟩=false:=fH9 hx16 3;go_wp2_with fail;refine bodyPost_ret (v:=.agg #[.bool false,.string (bytesOf nm),.slice aa an ac,.slice ka ks.length kc]) (by simp[results,Tryd.results98,go_sem,qg,p0,p1,p2,p3,World.cell?_setCell_other]) rfl ⟨.slice aa an ac,.slice ka ks.length kc,?_,?_,?_,?_,?_⟩
   · rw[HE2.out]
   · rw[HE2.out];exact ((((hA16.set (by omega)).set (by omega)).set (by omega)).set (by omega)).wider (by omega)
   · rw[HE2.out];exact ((((hK16.set (by omega)).set (by omega)).set (by omega)).set (by omega)).wider (by omega)
   · rw[HE2.out];exact ⟨hR16.base,by rw[qj (by omega),qj (by omega),qj (by omega),qj (by omega)];exact hR16.held⟩
   · exact hF16.own (((((Below.refl _ w16).setCell (p:=⟨w.heap.size,0,none⟩) (nR9 _) _).setCell (p:=⟨w.heap.size,1,none⟩) (nR9 _) _).setCell (p:=⟨w.heap.size,2,none⟩) (nR9 _) _).setCell (p:=⟨w.heap.size,3,none⟩) (nR9 _) _) hBw
end
section
attribute [local go_sem] qg
set_option maxHeartbeats 1000000 in
theorem Qq (B rb:Nat)(r:Rs)(w:World)(h:Rd B rb r w)(hs:r.rest.length≤1099511627776) :
 Calls Tryd.prog 101 #[.pointer (some ⟨rb,0,none⟩)] w fun e w'=>e=.returned (.bool r.treeAhead)∧w'=w:=by
 have c0:=h.c0;have c1:=h.c1;have HA1:Hid (Calls Tryd.prog 97 #[.pointer (some ⟨rb,0,none⟩),.string ⟨#[60,47]⟩] w fun e w'=>e=.returned (.bool (r.ahead [60,47]))∧w'=w):=zx B rb r [60,47] w h hs
 have HA2:Hid (Calls Tryd.prog 97 #[.pointer (some ⟨rb,0,none⟩),.string ⟨#[62]⟩] w fun e w'=>e=.returned (.bool (r.ahead [62]))∧w'=w):=zx B rb r [62] w h hs
 have HT:Hid (r.treeAhead=(!r.wrong&&decide (r.rest≠[])&&!r.ahead [60,47]&&!r.ahead [62])):=rfl;have hem:=yi r.rest;clear h hs;obtain ⟨q1,hq1⟩:∃ q,r.ahead [60,47]=q:=⟨_,rfl⟩;obtain ⟨q2,hq2⟩:∃ q,r.ahead [62]=q:=⟨_,rfl⟩;obtain ⟨q0,hq0⟩:∃ q,r.wrong=q:=⟨_,rfl⟩;obtain ⟨t,ht⟩:∃ t,r.treeAhead=t:=⟨_,rfl⟩;rw[hq1]at HA1 HT
 rw[hq2]at HA2 HT
 rw[hq0]at c1 HT
 rw[ht]at HT ⊢
 clear hq1 hq2 hq0 ht;cases q0 with
 | true =>
   have HT2:Hid (t=false):=by show _=_;rw[HT.out];rfl
   clear HT
   go_enter Tryd.func101,Tryd.ntmps101
   go_wp2_with fail;go_ret;exact ⟨by rw[HT2.out];rfl,rfl⟩
 | false =>
   cases hr:r.rest with
   | nil =>
     have HT2:Hid (t=false):=by show _=_;rw[HT.out,hr];rfl
     rw[hr]at hem c0
     simp only[List.isEmpty_nil]at hem
     clear HT hr
     go_enter Tryd.func101,Tryd.ntmps101
     go_wp2_with fail;go_ret;exact ⟨by rw[HT2.out];rfl,rfl⟩
   | cons c l =>
     have HT2:Hid (t=(!q1&&!q2)):=by show _=_;rw[HT.out,hr];simp
     rw[hr]at hem c0
     simp only[List.isEmpty_cons]at hem
     clear HT hr;cases q1 with
     | true =>
       have HT3:Hid (t=false):=by show _=_;rw[HT2.out];rfl
       clear HT2
       go_enter Tryd.func101,Tryd.ntmps101
       go_wp2_with fail;refine (Calls.mono HA1.out ?_);rintro e w1 ⟨rfl,rfl⟩;go_wp2_with fail;go_ret;exact ⟨by rw[HT3.out];rfl,rfl⟩
     | false =>
       have HT3:Hid (t=!q2):=by show _=_;rw[HT2.out];rfl
       clear HT2
       go_enter Tryd.func101,Tryd.ntmps101
       go_wp2_with fail;refine (Calls.mono HA1.out ?_);rintro e w1 ⟨rfl,rfl⟩;go_wp2_with fail;refine (Calls.mono HA2.out ?_);rintro e w1 ⟨rfl,rfl⟩;go_wp2_with fail;go_ret;exact ⟨by rw[HT3.out];rfl,rfl⟩
theorem JU (B rb:Nat)(r:Rs)(w:World)(h:Rd B rb r w)(hM:qx w)(hgB:0<B)(hBw:B≤w.heap.size)(hs:r.rest.length≤1099511627776) :
 Calls Tryd.prog 99 #[.pointer (some ⟨rb,0,none⟩)] w fun e w'=>e=.returned (.string (bytesOf (r.text textEnds).1))∧Rd B rb (r.text textEnds).2 w'∧RFr B rb w w':=by
 have HC:Hid (Calls Tryd.prog 131 #[.pointer (some ⟨rb,0,none⟩),.string ⟨#[60,62]⟩] w fun e w'=>e=.returned (.string (bytesOf (r.text textEnds).1))∧Rd B rb (r.text textEnds).2 w'∧RFr B rb w w'):=QC textEnds B rb r w h hM hgB hBw hs
 clear h hM hs
 go_enter Tryd.func99,Tryd.ntmps99
 go_wp2_with fail;refine (Calls.mono HC.out ?_);rintro e w1 ⟨rfl,h1,h2⟩;go_wp2_with fail;go_ret;exact ⟨rfl,h1,h2⟩
set_option maxHeartbeats 1000000 in
theorem Xq (f:Nat)(ih:zE f)(B rb:Nat)(r:Rs)(w:World)(h:Rd B rb r w)(hM:qx w)(hgB:0<B)(hBw:B≤w.heap.size)(hs:r.rest.length≤1099511627776)(hf:r.rest.length≤f) :
 Calls Tryd.prog 63 #[.pointer (some ⟨rb,0,none⟩)] w fun e w'=>∃ va vk,e=.returned (.agg #[.bool (r.one (treesF f)).1.text,.string (r.one (treesF f)).1.s,va,vk]) ∧
  qe (fun b=>w.heap.size≤b) w' va (r.one (treesF f)).1.attrs∧qb (fun b=>w.heap.size≤b) w' f vk (r.one (treesF f)).1.kids∧Rd B rb (r.one (treesF f)).2 w'∧RFr B rb w w':=by
 have hrb:=h.lt;have hb1:=Below.alloc1 w (.cells #[.bool false,.string ⟨#[]⟩,.slice none 0 0,.slice none 0 0] 25);have hx1:=heap_alloc_new w (.cells #[.bool false,.string ⟨#[]⟩,.slice none 0 0,.slice none 0 0] 25);have hR1:=h.later hb1;have hF1:RFr B rb w _:=RFr.later hBw hb1;have hM1:=hM.later hb1 hM.lt;have hz1:(w.alloc (.cells #[.bool false,.string ⟨#[]⟩,.slice none 0 0,.slice none 0 0] 25)).heap.size=w.heap.size+1:=by simp
 have HO:Hid (r.one (treesF f)=if r.ahead [60] then r.elem (treesF f) else (⟨true,bytesOf (r.text textEnds).1,[],[]⟩,(r.text textEnds).2)):=rfl
 have HB:Hid (zE f∧r.rest.length≤1099511627776∧r.rest.length≤f):=⟨ih,hs,hf⟩;clear h hM hs ih hf
 go_enter Tryd.func63,Tryd.ntmps63
 go_wp2_with fail
 generalize w.alloc (.cells #[.bool false,.string ⟨#[]⟩,.slice none 0 0,.slice none 0 0] 25)=W1 at hb1 hx1 hR1 hF1 hM1 hz1 ⊢
 refine (Calls.mono (zx B rb r [60] W1 hR1 HB.out.2.1) ?_);rintro e w1 ⟨rfl,rfl⟩;obtain ⟨q,hq⟩:∃ q,r.ahead [60]=q:=⟨_,rfl⟩;rw[hq];cases q with
 | true =>
   have HO2:Hid (r.one (treesF f)=r.elem (treesF f)):=by show _=_;rw[HO.out,if_pos hq]
   have HC:Hid _:=XK f HB.out.1 B rb r w1 hR1 hM1 hgB (by omega) HB.out.2.1 hq HB.out.2.2
   clear HO hq;go_wp2_with fail;refine (Calls.mono HC.out ?_);rintro e w2 ⟨va,vk,rfl,hA2,hK2,hR2,k2⟩;have hx2:=k2.box hx1 (by omega)
   have hF2:=hF1.trans k2;obtain ⟨aa,ac,rfl⟩:=hA2.shape;obtain ⟨ka,kc,rfl,_,_⟩:=qb.shape f hK2;have p0:w2.cell? ⟨w.heap.size,0,none⟩=some (.bool false):=by rw[cH9 hx2];rfl
   have p1:w2.cell? ⟨w.heap.size,1,none⟩=some (.string ⟨#[]⟩):=by rw[cH9 hx2];rfl
   have p2:w2.cell? ⟨w.heap.size,2,none⟩=some (.slice none 0 0):=by rw[cH9 hx2];rfl
   have p3:w2.cell? ⟨w.heap.size,3,none⟩=some (.slice none 0 0):=by rw[cH9 hx2];rfl
   have f0:w2.frozen? ⟨w.heap.size,0,none⟩=false:=fH9 hx2 0;have f1:w2.frozen? ⟨w.heap.size,1,none⟩=false:=fH9 hx2 1;have f2:w2.frozen? ⟨w.heap.size,2,none⟩=false:=fH9 hx2 2;have f3:w2.frozen? ⟨w.heap.size,3,none⟩=false:=fH9 hx2 3;obtain ⟨t,ht⟩:∃ t,r.elem (treesF f)=t:=⟨_,rfl⟩;rw[ht]at hA2 hK2 hR2 HO2 ⊢
   clear ht;go_wp2_with fail;refine bodyPost_ret (v:=.agg #[.bool t.1.text,.string t.1.s,.slice aa t.1.attrs.length ac,.slice ka t.1.kids.length kc]) (by simp[results,Tryd.results63,go_sem,qg,p0,p1,p2,p3,World.cell?_setCell_other]) rfl ⟨.slice aa t.1.attrs.length ac,.slice ka t.1.kids.length kc,?_,?_,?_,?_,?_⟩
   · rw[HO2.out]
   · rw[HO2.out];exact ((((hA2.set (by omega)).set (by omega)).set (by omega)).set (by omega)).wider (by omega)
   · rw[HO2.out];exact ((((hK2.set (by omega)).set (by omega)).set (by omega)).set (by omega)).wider (by omega)
   · rw[HO2.out];exact ⟨hR2.base,by rw[qj (by omega),qj (by omega),qj (by omega),qj (by omega)];exact hR2.held⟩
   · exact hF2.own (((((Below.refl _ w2).setCell (p:=⟨w.heap.size,0,none⟩) (nR9 _) _).setCell (p:=⟨w.heap.size,1,none⟩) (nR9 _) _).setCell (p:=⟨w.heap.size,2,none⟩) (nR9 _) _).setCell (p:=⟨w.heap.size,3,none⟩) (nR9 _) _) hBw
 | false =>
   have HO2:Hid (r.one (treesF f)=(⟨true,bytesOf (r.text textEnds).1,[],[]⟩,(r.text textEnds).2)):=by show _=_;rw[HO.out,if_neg (by rw[hq];decide)]
   have HC:Hid _:=JU B rb r w1 hR1 hM1 hgB (by omega) HB.out.2.1
   clear HO hq;go_wp2_with fail;refine (Calls.mono HC.out ?_);rintro e w2 ⟨rfl,hR2,k2⟩;have hx2:=k2.box hx1 (by omega)
   have hF2:=hF1.trans k2;have p0:w2.cell? ⟨w.heap.size,0,none⟩=some (.bool false):=by rw[cH9 hx2];rfl
   have p1:w2.cell? ⟨w.heap.size,1,none⟩=some (.string ⟨#[]⟩):=by rw[cH9 hx2];rfl
   have p2:w2.cell? ⟨w.heap.size,2,none⟩=some (.slice none 0 0):=by rw[cH9 hx2];rfl
   have p3:w2.cell? ⟨w.heap.size,3,none⟩=some (.slice none 0 0):=by rw[cH9 hx2];rfl
   have f0:w2.frozen? ⟨w.heap.size,0,none⟩=false:=fH9 hx2 0;have f1:w2.frozen? ⟨w.heap.size,1,none⟩=false:=fH9 hx2 1;have f2:w2.frozen? ⟨w.heap.size,2,none⟩=false:=fH9 hx2 2;have f3:w2.frozen? ⟨w.heap.size,3,none⟩=false:=fH9 hx2 3;obtain ⟨t,ht⟩:∃ t,r.text textEnds=t:=⟨_,rfl⟩;rw[ht]at hR2 HO2 ⊢
   clear ht;go_wp2_with fail;refine bodyPost_ret (v:=.agg #[.bool true,.string (bytesOf t.1),.slice none 0 0,.slice none 0 0]) (by simp[results,Tryd.results63,go_sem,qg,p0,p1,p2,p3,World.cell?_setCell_other]) rfl ⟨.slice none 0 0,.slice none 0 0,?_,?_,?_,?_,?_⟩
   · rw[HO2.out]
   · rw[HO2.out];exact qe.nil
   · rw[HO2.out];exact qb.nil _ ⟨none,0,rfl,nZ9 _⟩
   · rw[HO2.out];exact ⟨hR2.base,by rw[qj (by omega),qj (by omega),qj (by omega),qj (by omega)];exact hR2.held⟩
   · exact hF2.own (((((Below.refl _ w2).setCell (p:=⟨w.heap.size,0,none⟩) (nR9 _) _).setCell (p:=⟨w.heap.size,1,none⟩) (nR9 _) _).setCell (p:=⟨w.heap.size,2,none⟩) (nR9 _) _).setCell (p:=⟨w.heap.size,3,none⟩) (nR9 _) _) hBw
end
section
attribute [local go_sem] qg
theorem qS.reader {n B' rb B:Nat}{w w':World}{v:Value}{us:List Tr}{qs:List (Bool × ByteArray × Value × Value)}(h:qS (fun _=>False) n B' w v us qs)(hF:RFr B rb w w')(hrb:rb<B'):qS (fun _=>False) n B' w' v us qs:=by
 have carry:∀ b,Oth (fun _=>False) B' w v b→Oth (fun _=>False) B' w' v b∧w'.heap[b]?=w.heap[b]?:=by
  intro b hb;refine ⟨⟨hb.1,Nat.lt_of_lt_of_le hb.2.1 hF.below.size,hb.2.2⟩,hF.frame b hb.2.1 ?_⟩
  rcases hb.1 with h1|h1
  · exact h1.elim
  · omega
 exact ⟨h.len,xY h.own hF hrb,fun i q t hq ht=>by
  obtain ⟨a,b,c,d⟩:=h.each i q t hq ht;exact ⟨a,b,c.carry carry,qb.carry carry n d⟩⟩
set_option maxHeartbeats 1000000 in
theorem Ze (f:Nat)(ih:zE f)(B rb:Nat)(r:Rs)(w:World)(h:Rd B rb r w)(hM:qx w)(hgB:0<B)(hBw:B≤w.heap.size)(hs:r.rest.length≤1099511627776)(hf:r.rest.length≤f) :
 Calls Tryd.prog 100 #[.func (.func 101) #[.pointer (some ⟨rb,0,none⟩)] #[],.func (.func 63) #[.pointer (some ⟨rb,0,none⟩)] #[]] w fun e w' =>
  ∃ v,e=.returned v∧qb (fun b=>w.heap.size≤b) w' (f+1) v (treesF (f+1) r).1∧Rd B rb (treesF (f+1) r).2 w'∧RFr B rb w w':=by
 obtain ⟨i0,hi,hz0,hz1,hz2⟩:=info_parts treeInfo;have hrb:=h.lt;have IH:Hid (zE f):=ih;have HR:Hid (Rd B rb r w):=h;have HM:Hid (qx w):=hM;have HN:Hid (r.rest.length≤1099511627776∧r.rest.length≤f):=⟨hs,hf⟩;clear h hM hs hf ih
 go_enter Tryd.func100,Tryd.ntmps100
 go_wp2_with fail
 go_loopg [5] r.left (fun g v wr=>∃ (r':Rs) (us:List Tr) (qs:List (Bool × ByteArray × Value × Value)),r'.left=g∧treesF (f+1) r=(us++(treesF (f+1) r').1,(treesF (f+1) r').2)∧us.length+r'.left≤r.left∧r'.rest.length≤r.rest.length∧Rd B rb r' wr∧RFr B rb w wr∧qS (fun _=>False) f w.heap.size wr v us qs)
 case atStart =>
  exact ⟨r,[],[],rfl,rfl,by simp,nR9 _,HR.out,RFr.refl _ _ _,qS.nil _ _ _ _⟩
 case round =>
  obtain ⟨r',us,qs,hg,htx,hlen,hrl,hRd,hF,hG⟩:=hrel;have HT:Hid (treesF (f+1) r=(us++(treesF (f+1) r').1,(treesF (f+1) r').2)):=htx;have HLE:Hid (us.length+r'.left≤r.left∧r'.rest.length≤r.rest.length∧r'.left=gk):=⟨hlen,hrl,hg⟩;have HRd:Hid (Rd B rb r' wr):=hRd;have HG:Hid (qS (fun _=>False) f w.heap.size wr u5 us qs):=hG
  have hsz:=hF.below.size;have HA:Hid _:=Qq B rb r' wr hRd (Nat.le_trans hrl HN.out.1);have HAT:Hid _:=Xq f IH.out B rb r' wr hRd (HM.out.later hF.below hgB) hgB (by omega) (Nat.le_trans hrl HN.out.1) (Nat.le_trans hrl HN.out.2)
  clear htx hlen hrl hg hRd;obtain ⟨q,hq⟩:∃ q,r'.treeAhead=q:=⟨_,rfl⟩;rw[hq]at HA
  obtain ⟨ja,jc,rfl⟩:=hG.shape;clear hG;cases q with
  | false =>
    have HE:Hid (treesF (f+1) r=(us,r')):=by show _=_;rw[HT.out,j9 hq];simp
    clear hq HAT;go_wp2_with fail;refine (Calls.mono HA.out ?_);rintro e w1 ⟨rfl,rfl⟩;go_wp2_with fail;go_ret;refine ⟨_,rfl,?_,by rw[HE.out];exact HRd.out,hF⟩
    rw[HE.out];refine qb.carry (fun b hb=>⟨?_,rfl⟩) (f+1) HG.out.done
    rcases hb with hb|hb
    · exact hb.elim
    · exact hb
  | true =>
    have HON:Hid _:=QL (f:=f) hq;have HLS:Hid _:=ZT (treesF_le f) r' hq;clear hq;go_wp2_with fail;refine (Calls.mono HA.out ?_);rintro e w1 ⟨rfl,rfl⟩;go_wp2_with fail;refine (Calls.mono HAT.out ?_);rintro e w2 ⟨va,vk,rfl,hA2,hK2,hR2,k2⟩;obtain ⟨aa,ac,rfl⟩:=hA2.shape;obtain ⟨ka,kc,rfl,_,_⟩:=qb.shape f hK2;have hG2:=HG.out.reader k2 hrb;have hF2:=hF.trans k2;have hsz2:=k2.below.size;have hln:us.length≤1099511627777:=by have:=HLE.out.1;have:=jO r;have:=HN.out.1;omega
    have HNW:Hid ((r'.one (treesF f)).2.rest.length≤r'.rest.length):=(YF (treesF_le f) r').1;clear HAT k2;obtain ⟨t,ht⟩:∃ t,(r'.one (treesF f)).1=t:=⟨_,rfl⟩;obtain ⟨r2,hr2⟩:∃ r2,(r'.one (treesF f)).2=r2:=⟨_,rfl⟩;rw[ht]at hA2 hK2 HON ⊢
    rw[hr2]at hR2 HON HLS HNW
    clear ht hr2;have hown1:=hG2.own;go_wp2_with (at_builtin;refine wpList_append_own_at _ rfl _ _ 23 rfl w.heap.size 25 i0 _ 4 72 Tryd.underlying23 hi hz0 hz1 hz2 rfl (by decide) _ _ _ rfl (hown1.alloc _) ⟨w2.heap.size,0,none⟩ 1 1 [.bool t.text,.string t.s,.slice aa t.attrs.length ac,.slice ka t.kids.length kc] rfl ?qc1 ?qc2 ?qc3 ?qc4 ?qc5 ?qc6 ?_)
    case qc1 => rfl
    case qc2 => exact yW _ _ _ _ _ _
    case qc3 => intro u hu;simp at hu;rcases hu with rfl|rfl|rfl|rfl<;>rfl
    case qc4 => unfold maxLen;omega
    case qc5 => omega
    case qc6 => simp;omega
    intro v' w3 hown' hgrow _ hat';have hG3:=hG2.later (Below.alloc1 w2 (.cells #[.bool t.text,.string t.s,.slice aa t.attrs.length ac,.slice ka t.kids.length kc] 25));have hfr:=HG.out.fresh (w':=w2.alloc (.cells #[.bool t.text,.string t.s,.slice aa t.attrs.length ac,.slice ka t.kids.length kc] 25)) (nR9 _) hsz
    have hG4:=hG3.snoc (t:=t) (q:=(t.text,t.s,.slice aa t.attrs.length ac,.slice ka t.kids.length kc)) hown' hgrow (by rw[World.size_alloc];exact hat') rfl rfl
     ((hA2.later (Below.alloc1 w2 _)).bounded.carry (fun b hb=>⟨hfr b ⟨hb.1,hb.2⟩,rfl⟩))
     (qb.carry (fun b hb=>⟨hfr b ⟨hb.1,hb.2⟩,rfl⟩) f (qb.bounded f (qb.later (Below.alloc1 w2 _) f hK2)))
    have hB3:Below w.heap.size w2 w3:=((Below.refl w.heap.size w2).alloc (by omega) _).grown hgrow (by simp;omega) (fun k hk=>(hG3.own.lt k hk).1)
    obtain ⟨va',vc',rfl⟩:=hG4.shape;clear hown' hgrow hat' hown1 hfr hG3 hA2 hK2;have HG4:Hid _:=hG4;clear hG4 hG2;go_wp2_with fail
    go_roundg r2.left
    case measure => have:=HLS.out;have:=HLE.out.2.2;omega
    case rel =>
     refine ⟨r2,us++[t],_,rfl,?_,?_,?_,hR2.own hB3 hrb,hF2.own hB3 hBw,HG4.out⟩
     · rw[HT.out,HON.out];simp
     · have:=HLE.out.1;have:=HLS.out;simp;omega
     · exact Nat.le_trans HNW.out HLE.out.2.1
theorem YZ (f:Nat)(ih:zE f):zE (f+1):=by
 intro B rb r w h hM hgB hBw hs hf;have HC:Hid _:=Ze f ih B rb r w h hM hgB hBw hs (by omega)
 clear h hM hs hf ih
 go_enter Tryd.func65,Tryd.ntmps65
 go_wp2_with fail;refine (Calls.mono HC.out ?_);rintro e w1 ⟨v,rfl,h1,h2,h3⟩;go_wp2_with fail;go_ret;exact ⟨v,rfl,h1,h2,h3⟩
theorem QM (f:Nat):zE f:=by
 induction f with
 | zero=>intro B rb r w _ _ _ _ _ hf;omega
 | succ f ih=>exact YZ f ih
end
end Go.Proofs.YtfdbipeidmpciaaDoor
