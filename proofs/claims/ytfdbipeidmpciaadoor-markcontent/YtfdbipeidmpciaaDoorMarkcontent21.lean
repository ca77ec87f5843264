/- Bundled: ParseM PrintT Print BackM BackT Same. What each says stands ahead of it. -/
import Derived.Test.YtfdbipeidmpciaaDoorMarkcontent20
import Derived.Test.YtfdbipeidmpciaaDoorFive10
namespace Go.Proofs.YtfdbipeidmpciaaDoor
open Go.RowKit
set_option maxRecDepth 100000
theorem x9 {α:Type}{more:Rs→Bool}{step:Rs→α × Rs}{P:α→Prop}{M:Nat}(hstep:∀ r,more r=true→r.rest.length≤M→P (step r).1)(hle:∀ r,more r=true→(step r).2.le r) :
 ∀ (f:Nat) (r:Rs),r.rest.length≤M→∀ x∈(qJ more step f r).1,P x:=by
 intro f
 induction f with
 | zero=>intro r _ x hx;simp[qJ]at hx
 | succ f ih =>
   intro r hr x hx;unfold qJ at hx
   split at hx
   · rename_i h
     simp only[List.mem_cons]at hx
     rcases hx with rfl|hx
     · exact hstep r h hr
     · exact ih _ (Nat.le_trans (hle r h).1 hr) x hx
   · simp at hx
theorem jq (p:UInt8→Bool)(l:List UInt8):(l.takeWhile p).length≤l.length:=by
 induction l with
 | nil=>simp
 | cons c r ih=>rw[List.takeWhile_cons];split<;>simp<;>omega
theorem JA (ends:List UInt8):∀ (f:Nat) (r:Rs),(Rs.meant ends f r).1.length≤r.left:=by
 intro f
 induction f with
 | zero=>intro r;simp[Rs.meant]
 | succ f ih =>
   intro r;unfold Rs.meant
   split
   · rename_i h
     have h1:=jg h;have h2:=ih r.sign.2;simp;omega
   · simp
theorem Z7 (r:Rs)(ends:List UInt8):(r.text ends).1.length≤r.rest.length+1:=Nat.le_trans (JA _ _ r) (jO r)
theorem Yc {M:Nat}(r:Rs)(h:r.rest.length≤M):r.attr.1.1.length≤M+1∧r.attr.1.2.length≤M+1:=by
 have h1:=(q7 r).1;have h2:=jq ql r.skip.rest;have h3:=Z7 (r.skip.name.must [61,34]) valueEnds;have h4:=((qR r.skip.name [61,34]).trans ((zH _).trans (q7 r))).1;exact ⟨by show (r.skip.rest.takeWhile ql).length≤_;omega,by show ((r.skip.name.must [61,34]).text valueEnds).1.length≤_;omega⟩
def JZ (M:Nat)(t:Tr):Prop:=t.s.size≤M∧∀ x∈t.attrs,x.1.size≤M∧x.2.size≤M
def zi (M:Nat):Nat→List Tr→Prop
 | 0,_=>True
 | n+1,ts=>∀ t∈ts,JZ M t∧zi M n t.kids
theorem zi.texts {M:Nat}(hM:M≤maxLen):∀ (n:Nat) (ts:List Tr),zi M n ts→TextsN n ts:=by
 intro n
 induction n with
 | zero=>intro ts _;trivial
 | succ n ih =>
   intro ts h t ht;obtain ⟨⟨h1,h2⟩,h3⟩:=h t ht;exact ⟨⟨Nat.le_trans h1 hM,fun x hx=>⟨Nat.le_trans (h2 x hx).1 hM,Nat.le_trans (h2 x hx).2 hM⟩⟩,ih _ h3⟩
theorem zi.nil (M n:Nat):zi M n []:=by cases n with|zero=>trivial|succ n=>intro t ht;simp at ht
theorem j2 {M f:Nat}(ih:∀ r,r.rest.length≤M→zi (M+1) f (treesF f r).1)(r:Rs)(h:r.rest.length≤M):JZ (M+1) (r.one (treesF f)).1∧zi (M+1) f (r.one (treesF f)).1.kids:=by
 unfold Rs.one
 by_cases h2:r.ahead [60]=true
 · rw[if_pos h2];unfold Rs.elem;have h3:=(qR r [60]).1
   have hat:∀ x∈(r.must [60]).name.attrs.1,x.1.length≤M+1∧x.2.length≤M+1 :=
    x9 (fun r _ hr=>Yc r hr) (fun r _=>(xx r).trans (q7 r)) _ _ (by have:=((zH (r.must [60])).trans (qR r [60])).1;omega)
   have hnm:(bytesOf (r.must [60]).nameOf).size≤M+1:=by
    rw[qk];have:=jq ql (r.must [60]).rest
    show ((r.must [60]).rest.takeWhile ql).length≤_
    omega
   have hsh:∀ x∈asB (sortA (r.must [60]).name.attrs.1),x.1.size≤M+1∧x.2.size≤M+1:=by
    intro x hx;simp only[asB,List.mem_map]at hx
    obtain ⟨y,hy,rfl⟩:=hx;have:=hat y ((yC _).mem_iff.1 hy);simp only[qk];exact this
   unfold Rs.elemIn
   split
   · exact ⟨⟨hnm,hsh⟩,zi.nil _ _⟩
   · exact ⟨⟨hnm,hsh⟩,ih _ (by have:=((qR (r.must [60]).name.attrs.2.skip [62]).trans ((q7 _).trans ((xF _).trans ((zH _).trans (qR r [60]))))).1;omega)⟩
 · rw[if_neg h2];refine ⟨⟨?_,by intro x hx;simp at hx⟩,zi.nil _ _⟩
   rw[qk];have:=Z7 r textEnds;omega
theorem yD (M:Nat):∀ (f:Nat) (r:Rs),r.rest.length≤M→zi (M+1) f (treesF f r).1:=by
 intro f
 induction f with
 | zero=>intro r _;trivial
 | succ f ih =>
   intro r h;exact x9 (P:=fun t=>JZ (M+1) t∧zi (M+1) f t.kids) (fun r _ hr=>j2 ih r hr) (fun r _=>YF (treesF_le f) r) _ r h
def zeroT:Tr:=⟨false,⟨#[]⟩,[],[]⟩
def qE (s:List UInt8):Tr × Int :=
 if 2500<s.length then (zeroT,2)
 else if ((⟨s,false⟩:Rs).one (treesF s.length)).2.wrong||decide (((⟨s,false⟩:Rs).one (treesF s.length)).2.rest≠[])||!qw ((⟨s,false⟩:Rs).one (treesF s.length)).1 then (zeroT,1)
 else (((⟨s,false⟩:Rs).one (treesF s.length)).1,0)
def zW (s:List UInt8):List Tr × Int :=
 if 2500<s.length then ([],2)
 else if (treesF (s.length+1) ⟨s,false⟩).2.wrong||decide ((treesF (s.length+1) ⟨s,false⟩).2.rest≠[])||!zQ (treesF (s.length+1) ⟨s,false⟩).1 then ([],1)
 else ((treesF (s.length+1) ⟨s,false⟩).1,0)
end Go.Proofs.YtfdbipeidmpciaaDoor
namespace Go.Proofs.YtfdbipeidmpciaaDoor
open Go.ChangeShapes Go.WideShapes Go.ChangeAt Go.RowKit
set_option maxRecDepth 100000
theorem data_append (a b:ByteArray):(a++b).data.toList=a.data.toList++b.data.toList:=by
 rw[ByteArray.data_append];simp
theorem Bd.str {B b:Nat}{l m:List UInt8}{s:ByteArray}{v:Value}{w:World}(h:Bd B b (Lib.byteCells l++Lib.strCells s) v w)(hs:s.data.toList=m):Bd B b (Lib.byteCells (l++m)) v w:=by
 rw[Lib.byteCells_append,←hs];exact h
theorem xS (v:Bool)(l:List UInt8):l.length≤(qA v l).length:=by
 induction l with
 | nil=>simp
 | cons c r ih =>
   have h1:1≤(zb v c).length:=by
    unfold zb
    split
    · simp
    split
    · simp
    split
    · simp
    split
    · simp
    · simp
   have h2:(qA v (c::r)).length=(zb v c).length+(qA v r).length:=by simp[qA]
   rw[h2,List.length_cons];omega
theorem zw (s:ByteArray):s.data.toList.length=s.size:=rfl
theorem BFr.cell {B b:Nat}{v v':Value}{w w':World}(h:BFr B b v w v' w'){x o:Nat}(hx:x<w.heap.size)(hb:x≠b)(hv:v.ownBlock≠some x):w'.cell? ⟨x,o,none⟩=w.cell? ⟨x,o,none⟩ :=
 World.cell?_of_block (a:=⟨x,o,none⟩) (h.frame x hx hb hv)
def jC (n:Nat):Prop:=∀ (S:Nat→Prop) (B b:Nat) (bs:List UInt8) (bv:Value) (va vk:Value) (t:Tr) (w:World),(∀ x,S x→x<w.heap.size∧x≠b∧bv.ownBlock≠some x)→qe S w va t.attrs→qb S w n vk t.kids→Bd B b (Lib.byteCells bs) bv w→qx w→0<B→B≤w.heap.size→bs.length+6*(qB (showL n t.kids) t).length≤1099511627776 →
 Calls Tryd.prog 96 #[.pointer (some ⟨b,0,none⟩),.agg #[.bool t.text,.string t.s,va,vk]] w fun e w'=>e=.returned (.tuple #[])∧∃ bv',Bd B b (Lib.byteCells (bs++qB (showL n t.kids) t)) bv' w'∧BFr B b bv w bv' w'
theorem Qy (l:List (ByteArray × ByteArray))(x:ByteArray × ByteArray):(l++[x]).flatMap qm=l.flatMap qm++qm x:=by simp
theorem XL {l:List (ByteArray × ByteArray)}{k:Nat}:((l.take k).flatMap qm).length≤(l.flatMap qm).length:=by
 have e:l.flatMap qm=(l.take k).flatMap qm++(l.drop k).flatMap qm:=by rw[←List.flatMap_append,List.take_append_drop]
 rw[e,List.length_append];omega
theorem X0 {n:Nat}{l:List Tr}{k:Nat}:(showL (n+1) (l.take k)).length≤(showL (n+1) l).length:=by
 have e:showL (n+1) l=showL (n+1) (l.take k)++showL (n+1) (l.drop k):=by unfold showL;rw[←List.flatMap_append,List.take_append_drop]
 rw[e,List.length_append];omega
theorem Qt (x:ByteArray × ByteArray):(qm x).length=1+x.1.size+2+(qA true x.2.data.toList).length+1:=by
 simp[qm];omega
theorem YL (n:Nat)(S:Nat→Prop)(B b:Nat)(bs:List UInt8)(bv:Value)(va vk:Value)(s:ByteArray)(l:List (ByteArray × ByteArray))(ks:List Tr)(w:World)(hA:qe S w va l)(hK:qb S w n vk ks)(hBd:Bd B b (Lib.byteCells bs) bv w)(hM:qx w)(hgB:0<B)(hBw:B≤w.heap.size)
 (hlen:bs.length+6*(qA false s.data.toList).length≤1099511627776) :
 Calls Tryd.prog 96 #[.pointer (some ⟨b,0,none⟩),.agg #[.bool true,.string s,va,vk]] w fun e w'=>e=.returned (.tuple #[])∧∃ bv',Bd B b (Lib.byteCells (bs++qA false s.data.toList)) bv' w'∧BFr B b bv w bv' w':=by
 obtain ⟨aa,ac,rfl⟩:=hA.shape;obtain ⟨ka,kc,rfl,_,hkm⟩:=qb.shape n hK;have hb1:=Below.alloc1 w (.cells #[.bool true,.string s,.slice aa l.length ac,.slice ka ks.length kc] 25);have HC:Hid _:=yG false B b bs s bv (w.alloc (.cells #[.bool true,.string s,.slice aa l.length ac,.slice ka ks.length kc] 25)) (hBd.later hb1) (hM.later hb1 hM.lt) hgB (by simp;omega) (by have:=xS false s.data.toList;rw[zw]at this;omega)
 have HF1:Hid (BFr B b bv w bv (w.alloc (.cells #[.bool true,.string s,.slice aa l.length ac,.slice ka ks.length kc] 25))):=BFr.later hBw hb1;clear hA hK hM hBd
 go_enter Tryd.func96,Tryd.ntmps96
 go_wp2_with fail;refine (Calls.mono HC.out ?_);rintro e w2 ⟨rfl,bv2,hBd2,hF2⟩;go_wp2_with fail
 go_returns
 exact ⟨rfl,bv2,hBd2,HF1.out.trans hF2⟩
set_option maxHeartbeats 2000000 in
theorem YK (n:Nat)(ih:∀ m,n=m+1→jC m)(S:Nat→Prop)(B b:Nat)(bs:List UInt8)(bv:Value)(va vk:Value)(s:ByteArray)(l:List (ByteArray × ByteArray))(ks:List Tr)(w:World)(hS:∀ x,S x→x<w.heap.size∧x≠b∧bv.ownBlock≠some x)(hA:qe S w va l)(hK:qb S w n vk ks)(hBd:Bd B b (Lib.byteCells bs) bv w)(hM:qx w)(hgB:0<B)(hBw:B≤w.heap.size)
 (hlen:bs.length+6*(qB (showL n ks) ⟨false,s,l,ks⟩).length≤1099511627776) :
 Calls Tryd.prog 96 #[.pointer (some ⟨b,0,none⟩),.agg #[.bool false,.string s,va,vk]] w fun e w'=>e=.returned (.tuple #[])∧∃ bv',Bd B b (Lib.byteCells (bs++qB (showL n ks) ⟨false,s,l,ks⟩)) bv' w'∧BFr B b bv w bv' w':=by
 have HIH:Hid (∀ m,n=m+1→jC m):=ih;have HS:Hid (∀ x,S x→x<w.heap.size∧x≠b∧bv.ownBlock≠some x):=hS;have HA:Hid (qe S w va l):=hA;have HK:Hid (qb S w n vk ks):=hK;have HM:Hid (qx w):=hM;have hblt:=hBd.lt;have HROW:Hid (∀ x,bv.ownBlock=some x→x<w.heap.size):=hBd.rowLt
 have hL1:bs.length+6*(1+s.size+(l.flatMap qm).length+2)≤1099511627776:=by
  have:1+s.size+(l.flatMap qm).length+2≤(qB (showL n ks) ⟨false,s,l,ks⟩).length:=by
   simp only[qB,Bool.false_eq_true,if_false,List.length_append,List.length_cons,zw];cases ks with
   | nil=>simp;omega
   | cons k r=>simp;omega
  omega
 obtain ⟨aa,ac,rfl⟩:=hA.shape;obtain ⟨ka,kc,rfl,_,hkm⟩:=qb.shape n hK;obtain ⟨_,_,hae,_,ham,hacells⟩:=hA
 injection hae with hae1 _ hac
 subst hac;subst hae1;have HAC:Hid (l≠[]→∃ b o,aa=some ⟨b,o,none⟩∧S b∧∀ i x,l[i]?=some x→w.cell? ⟨b,o+i*2,none⟩=some (.string x.1)∧w.cell? ⟨b,o+i*2+1,none⟩=some (.string x.2)):=hacells;unfold maxLen at hkm ham
 have hb1:=Below.alloc1 w (.cells #[.bool false,.string s,.slice aa l.length ac,.slice ka ks.length kc] 25);have hX1:=jU.start w (.bool false) (.string s) (.slice aa l.length ac) (.slice ka ks.length kc) 25;have hsz1:(w.alloc (.cells #[.bool false,.string s,.slice aa l.length ac,.slice ka ks.length kc] 25)).heap.size=w.heap.size+1:=by simp
 have HBd1:Hid (Bd B b (Lib.byteCells bs) bv (w.alloc (.cells #[.bool false,.string s,.slice aa l.length ac,.slice ka ks.length kc] 25))):=hBd.later hb1;have hs40:s.size≤1099511627776:=by omega
 clear ih hS hK hM hBd hacells
 go_enter Tryd.func96,Tryd.ntmps96
 go_wp2_with fail;have HL0:Hid (qB (showL n ks) ⟨false,s,l,ks⟩=60::s.data.toList++l.flatMap qm++(if ks.isEmpty then [47,62] else 62::showL n ks++[60,47]++s.data.toList++[62])):=rfl
 generalize w.alloc (.cells #[.bool false,.string s,.slice aa l.length ac,.slice ka ks.length kc] 25)=W1 at hb1 hX1 hsz1 HBd1 ⊢
 have hBW1:B≤W1.heap.size:=by omega
 have HB1:Hid (Below w.heap.size w W1):=hb1;have HX1:Hid (jU W1 w.heap.size (.bool false) (.string s) (.slice aa l.length ac) (.slice ka ks.length kc)):=hX1
 have HBX:Hid (∀ v' w',BFr B b bv W1 v' w'→w'.cell? ⟨w.heap.size,1,none⟩=some (.string s)∧w'.cell? ⟨w.heap.size,2,none⟩=some (.slice aa l.length ac)∧w'.cell? ⟨w.heap.size,3,none⟩=some (.slice ka ks.length kc)):=by
  intro v' w' hF;have h1:w.heap.size<W1.heap.size:=by omega
  have h2:w.heap.size≠b:=by omega
  have h3:bv.ownBlock≠some w.heap.size:=fun e=>by have:=HROW.out _ e;omega
  exact ⟨by rw[hF.cell h1 h2 h3];exact HX1.out.at1,by rw[hF.cell h1 h2 h3];exact HX1.out.at2,by rw[hF.cell h1 h2 h3];exact HX1.out.at3⟩
 have HKEEP:Hid (∀ v' w',BFr B b bv W1 v' w'→∀ x,S x→w'.heap[x]?=w.heap[x]?):=by
  intro v' w' hF x hx;obtain ⟨h1,h2,h3⟩:=HS.out x hx;rw[hF.frame x (by omega) h2 h3,HB1.out.block x h1]
 have HMK:Hid (∀ v' w',BFr B b bv W1 v' w'→qx w'):=fun v' w' hF=>(HM.out.later HB1.out HM.out.lt).later hF.below hgB
 have HF0:Hid (BFr B b bv w bv W1):=BFr.later hBw hb1
 have hw1:=zh B b (Lib.byteCells bs) bv (⟨#[60]⟩++s) W1 HBd1.out (by
  rw[Lib.byteCells_length,ByteArray.size_append]
  show bs.length+(1+s.size)≤_
  omega) hBW1
 refine (Calls.mono hw1 ?_);rintro e w2 ⟨rfl,bv2,hBd2,hF2⟩;have HBd2:Hid (Bd B b (Lib.byteCells (bs++60::s.data.toList)) bv2 w2):=hBd2.str (by rw[data_append];rfl)
 obtain ⟨_,y2,_⟩:=HBX.out _ _ hF2;clear hw1 hX1 hb1 hBd2 HBd1;go_wp2_with fail
 go_loopg [22] l.length (fun g i wr=>∃ (k:Nat) (bw:Value),k+g=l.length∧i=.int .i64 k∧Bd B b (Lib.byteCells (bs++60::s.data.toList++(l.take k).flatMap qm)) bw wr∧BFr B b bv W1 bw wr)
 case atStart => exact ⟨0,bv2,by omega,rfl,by simpa using HBd2.out,hF2⟩
 case round =>
  obtain ⟨k,bw,hk,rfl,hBdk,hFk⟩:=hrel;have HBdk:Hid (Bd B b (Lib.byteCells (bs++60::s.data.toList++(l.take k).flatMap qm)) bw wr):=hBdk;have HFk:Hid (BFr B b bv W1 bw wr):=hFk;have hszr:=hFk.below.size;clear hBdk hFk HBd2 hF2 y2
  by_cases hlt:k<l.length
  · have hne : l ≠ [] := by intro e;subst e;simp at hlt
    obtain ⟨ab,ao,rfl,hs,hcc⟩:=HAC.out hne;obtain ⟨x,hx⟩:∃ x,l[k]?=some x:=⟨l[k],by simp[hlt]⟩
    obtain ⟨c0,c1⟩:=hcc k x hx;have hkp:=HKEEP.out _ _ HFk.out ab hs;rw[←World.cell?_of_block (a:=⟨ab,ao+k*2,none⟩) hkp]at c0
    rw[←World.cell?_of_block (a:=⟨ab,ao+k*2+1,none⟩) hkp]at c1
    have hsn:l.take (k+1)=l.take k++[x]:=by
     rw[List.take_succ_eq_append_getElem hlt];congr 2;simpa[hlt] using hx
    have hq1:((l.take k).flatMap qm).length+(qm x).length≤(l.flatMap qm).length:=by
     have:=XL (l:=l) (k:=k+1);rw[hsn,Qy,List.length_append]at this
     exact this
    rw[Qt]at hq1
    have hmm:=xS true x.2.data.toList;rw[zw]at hmm
    have HSN:Hid ((l.take (k+1)).flatMap qm=(l.take k).flatMap qm++qm x):=by show _=_;rw[hsn,Qy]
    have hlti:(k:Int)<(l.length:Int):=by omega
    have hx1:x.1.size≤1099511627776:=by omega
    have hbk:=Below.alloc1 wr (.cells #[.string x.1,.string x.2] 69);have HBdA:Hid (Bd B b (Lib.byteCells (bs++60::s.data.toList++(l.take k).flatMap qm)) bw (wr.alloc (.cells #[.string x.1,.string x.2] 69))):=HBdk.out.later hbk;have HFA:Hid (BFr B b bw wr bw (wr.alloc (.cells #[.string x.1,.string x.2] 69))):=BFr.later (by omega) hbk
    have hbx1:(wr.alloc (.cells #[.string x.1,.string x.2] 69)).cell? ⟨wr.heap.size,1,none⟩=some (.string x.2):=by simp
    have hszA:(wr.alloc (.cells #[.string x.1,.string x.2] 69)).heap.size=wr.heap.size+1:=by simp
    have hrk:=HBdk.out.rowLt;have hbw:b<wr.heap.size:=HBdk.out.lt;have hrn:bw.ownBlock≠some wr.heap.size:=fun e=>by have:=hrk _ e;omega
    have HRN:Hid (bw.ownBlock≠some wr.heap.size):=hrn;clear hcc hx hsn hkp hrk hrn hbk;go_wp2_with fail
    generalize wr.alloc (.cells #[.string x.1,.string x.2] 69)=WA at HBdA HFA hbx1 hszA ⊢
    have hl3:(Lib.byteCells (bs++60::s.data.toList++(l.take k).flatMap qm)).length=bs.length+(1+s.size)+((l.take k).flatMap qm).length:=by
     rw[Lib.byteCells_length];simp;omega
    have hw3:=zh B b _ bw (⟨#[32]⟩++x.1++⟨#[61,34]⟩) WA HBdA.out (by
     rw[hl3,ByteArray.size_append,ByteArray.size_append]
     show _+(1+x.1.size+2)≤_
     omega) (by omega)
    refine (Calls.mono hw3 ?_);rintro e w3 ⟨rfl,bv3,hBd3,hF3⟩;have HBd3:Hid (Bd B b (Lib.byteCells (bs++60::s.data.toList++(l.take k).flatMap qm++(32::x.1.data.toList++[61,34]))) bv3 w3):=hBd3.str (by rw[data_append,data_append];rfl)
    have z1:w3.cell? ⟨wr.heap.size,1,none⟩=some (.string x.2):=by rw[hF3.cell (by omega) (by omega) HRN.out];exact hbx1
    have HF3:Hid (BFr B b bv W1 bv3 w3):=HFk.out.trans (HFA.out.trans hF3);have hs3:=hF3.below.size;clear hw3 hBd3 hF3;go_wp2_with fail
    have hw4:=yG true B b _ x.2 bv3 w3 HBd3.out (HMK.out _ _ HF3.out) hgB (by omega) (by
     have e:(bs++60::s.data.toList++(l.take k).flatMap qm++(32::x.1.data.toList++[61,34])).length=bs.length+(1+s.size)+((l.take k).flatMap qm).length+(1+x.1.size+2):=by simp;omega
     rw[e];omega)
    refine (Calls.mono hw4 ?_);rintro e w4 ⟨rfl,bv4,hBd4,hF4⟩;have HBd4:Hid _:=hBd4;have HF4:Hid (BFr B b bv W1 bv4 w4):=HF3.out.trans hF4;have hs4:=hF4.below.size;clear hw4 hBd4 hF4;go_wp2_with fail
    have hw5:=zh B b _ bv4 ⟨#[34]⟩ w4 HBd4.out (by
     have e:(Lib.byteCells (bs++60::s.data.toList++(l.take k).flatMap qm++(32::x.1.data.toList++[61,34])++qA true x.2.data.toList)).length=bs.length+(1+s.size)+((l.take k).flatMap qm).length+(1+x.1.size+2)+(qA true x.2.data.toList).length:=by rw[Lib.byteCells_length];simp;omega
     rw[e]
     show _+1≤_
     omega) (by omega)
    refine (Calls.mono hw5 ?_);rintro e w5 ⟨rfl,bv5,hBd5,hF5⟩
    have HBd5:Hid (Bd B b (Lib.byteCells (bs++60::s.data.toList++(l.take (k+1)).flatMap qm)) bv5 w5):=by
     have h:=hBd5.str (m:=[34]) rfl
     show Bd _ _ _ _ _
     rw[HSN.out]
     simpa[qm] using h
    have HF5:Hid (BFr B b bv W1 bv5 w5):=HF4.out.trans hF5;clear hw5 hBd5 hF5;go_wp2_with fail
    go_roundg (l.length-(k+1))
    case measure => omega
    case rel => exact ⟨k+1,bv5,by omega,by go_num,HBd5.out,HF5.out⟩
  · have hkk : k = l.length := by omega
    subst hkk;have HBdE:Hid (Bd B b (Lib.byteCells (bs++60::s.data.toList++l.flatMap qm)) bw wr):=by have:=HBdk.out;rw[List.take_length]at this;exact this
    obtain ⟨wo,hwo⟩:∃ wo,wo=wr:=⟨_,rfl⟩;subst hwo;obtain ⟨y1,y2,y3⟩:=HBX.out _ _ HFk.out
    have hlE:(Lib.byteCells (bs++60::s.data.toList++l.flatMap qm)).length=bs.length+(1+s.size)+(l.flatMap qm).length:=by
     rw[Lib.byteCells_length];simp;omega
    clear HBdk
    by_cases hks:ks=[]
    · subst hks;simp only[List.length_nil]at y3
      have hw6:=zh B b _ bw ⟨#[47,62]⟩ wo HBdE.out (by rw[hlE];show _+2≤_;omega) (by omega)
      have HW6:Hid _:=hw6;clear hw6;go_wp2_with fail;refine (Calls.mono HW6.out ?_);rintro e w6 ⟨rfl,bv6,hBd6,hF6⟩;go_wp2_with fail
      go_returns
      refine ⟨rfl,bv6,?_,HF0.out.trans (HFk.out.trans hF6)⟩;have h:=hBd6.str (m:=[47,62]) rfl;rw[HL0.out]
      simpa using h
    · have hk0:((ks.length:Int)==0)=false:=by
       have:ks.length≠0:=fun e=>hks (List.eq_nil_of_length_eq_zero e)
       have:(ks.length:Int)≠0:=by omega
       simpa using this
      cases n with
      | zero=>exact absurd HK.out.1 hks
      | succ m =>
      have hemp:ks.isEmpty=false:=by cases ks with
       | nil=>exact absurd rfl hks
       | cons _ _=>rfl
      have HL2:Hid (bs.length+6*(1+s.size+(l.flatMap qm).length+(1+(showL (m+1) ks).length+2+s.size+1))≤1099511627776):=by
       show _≤_
       have e:(qB (showL (m+1) ks) ⟨false,s,l,ks⟩).length=1+s.size+(l.flatMap qm).length+(1+(showL (m+1) ks).length+2+s.size+1):=by
        rw[HL0.out,hemp];simp;omega
       rw[e]at hlen;exact hlen
      have hL2:=HL2.out;have hw6:=zh B b _ bw ⟨#[62]⟩ wo HBdE.out (by rw[hlE];show _+1≤_;omega) (by omega)
      have HW6:Hid _:=hw6;clear hw6;go_wp2_with fail;refine (Calls.mono HW6.out ?_);rintro e w6 ⟨rfl,bv6,hBd6,hF6⟩;have HBd6:Hid (Bd B b (Lib.byteCells (bs++60::s.data.toList++l.flatMap qm++[62])) bv6 w6):=hBd6.str (m:=[62]) rfl;have HF6:Hid (BFr B b bv W1 bv6 w6):=HFk.out.trans hF6;obtain ⟨_,_,y6⟩:=HBX.out _ _ HF6.out;clear HW6 hBd6 hF6 y1 y2 y3 HBdE;go_wp2_with fail
      go_loopg [50] ks.length (fun g i wr=>∃ (k:Nat) (bw:Value),k+g=ks.length∧i=.int .i64 k∧Bd B b (Lib.byteCells (bs++60::s.data.toList++l.flatMap qm++[62]++showL (m+1) (ks.take k))) bw wr∧BFr B b bv W1 bw wr)
      case atStart => exact ⟨0,bv6,by omega,rfl,by simpa[showL] using HBd6.out,HF6.out⟩
      case round =>
       obtain ⟨k,bx,hk2,rfl,hBdk,hFx⟩:=hrel;have HBdx:Hid (Bd B b (Lib.byteCells (bs++60::s.data.toList++l.flatMap qm++[62]++showL (m+1) (ks.take k))) bx wr):=hBdk;have HFx:Hid (BFr B b bv W1 bx wr):=hFx;have hszx:=hFx.below.size;clear hBdk hFx HBd6 y6
       by_cases hlt:k<ks.length
       · obtain ⟨_, _, hve, _, _, h4⟩ := HK.out;obtain ⟨kb,ko,hao,hs,hcc⟩:=h4 hks
         injection hve with e1 e2 e3
         subst e1;subst hao;obtain ⟨t,ht⟩:∃ t,ks[k]?=some t:=⟨ks[k],by simp[hlt]⟩
         obtain ⟨xa,xk,c0,c1,c2,c3,hat,hkt⟩:=hcc k t ht;have hkeep:=HKEEP.out _ _ HFx.out;have hkp:=hkeep kb hs;rw[←World.cell?_of_block (a:=⟨kb,ko+k*4,none⟩) hkp]at c0
         rw[←World.cell?_of_block (a:=⟨kb,ko+k*4+1,none⟩) hkp]at c1
         rw[←World.cell?_of_block (a:=⟨kb,ko+k*4+2,none⟩) hkp]at c2
         rw[←World.cell?_of_block (a:=⟨kb,ko+k*4+3,none⟩) hkp]at c3
         have hatr:qe S wr xa t.attrs:=qe.carry hat fun b hb=>⟨hb,hkeep b hb⟩
         have hktr:qb S wr m xk t.kids:=qb.carry (fun b hb=>⟨hb,hkeep b hb⟩) m hkt
         have hsn:ks.take (k+1)=ks.take k++[t]:=by
          rw[List.take_succ_eq_append_getElem hlt];congr 2;simpa[hlt] using ht
         have hq1:(showL (m+1) (ks.take k)).length+(qB (showL m t.kids) t).length≤(showL (m+1) ks).length:=by
          have:=X0 (n:=m) (l:=ks) (k:=k+1);rw[hsn,xZ,List.length_append]at this
          exact this
         have HSN:Hid (showL (m+1) (ks.take (k+1))=showL (m+1) (ks.take k)++qB (showL m t.kids) t):=by show _=_;rw[hsn,xZ]
         have hfree:∀ x,S x→x<wr.heap.size+1∧x≠b∧bx.ownBlock≠some x:=by
          intro x hx;obtain ⟨h1,h2,h3⟩:=HS.out x hx;exact ⟨by omega,h2,HFx.out.free (by omega) h3⟩
         have hbk:∀ o,Below wr.heap.size wr (wr.alloc o):=fun o=>Below.alloc1 wr o
         obtain ⟨ya,yc,rfl⟩:=hatr.shape;obtain ⟨yk,ykc,rfl,_,_⟩:=qb.shape m hktr
         have HCALL:Hid _:=HIH.out m rfl S B b _ bx _ _ t (wr.alloc (.cells #[.bool t.text,.string t.s,.slice ya t.attrs.length yc,.slice yk t.kids.length ykc] 25)) (by simpa using hfree) (hatr.later (hbk _)) (qb.later (hbk _) m hktr) (HBdx.out.later (hbk _)) (HMK.out _ _ (HFx.out.trans (BFr.later (by omega) (hbk _)))) hgB (by simp;omega) (by
          have e:(bs++60::s.data.toList++l.flatMap qm++[62]++showL (m+1) (ks.take k)).length=bs.length+(1+s.size)+(l.flatMap qm).length+1+(showL (m+1) (ks.take k)).length:=by simp;omega
          rw[e];omega)
         have HFA:Hid (BFr B b bx wr bx (wr.alloc (.cells #[.bool t.text,.string t.s,.slice ya t.attrs.length yc,.slice yk t.kids.length ykc] 25))):=BFr.later (by omega) (hbk _)
         have hlti:(k:Int)<(ks.length:Int):=by omega
         clear hat hkt hcc h4 ht hsn hatr hktr hkeep hkp hbk hfree e2 e3;go_wp2_with fail;refine (Calls.mono HCALL.out ?_);rintro e w7 ⟨rfl,bv7,hBd7,hF7⟩;have HBd7:Hid _:=hBd7;have HF7:Hid (BFr B b bv W1 bv7 w7):=HFx.out.trans (HFA.out.trans hF7);clear hBd7 hF7 HCALL;go_wp2_with fail
         go_roundg (ks.length-(k+1))
         case measure => omega
         case rel =>
          refine ⟨k+1,bv7,by omega,by go_num,?_,HF7.out⟩
          rw[HSN.out,←List.append_assoc];exact HBd7.out
       · have hkk : k = ks.length := by omega
         subst hkk;obtain ⟨y1,_,_⟩:=HBX.out _ _ HFx.out;have HBdE:Hid (Bd B b (Lib.byteCells (bs++60::s.data.toList++l.flatMap qm++[62]++showL (m+1) ks)) bx wr):=by have:=HBdx.out;rw[List.take_length]at this;exact this
         have HW8:Hid _:=zh B b _ bx (⟨#[60,47]⟩++s++⟨#[62]⟩) wr HBdE.out (by
          have e:(Lib.byteCells (bs++60::s.data.toList++l.flatMap qm++[62]++showL (m+1) ks)).length=bs.length+(1+s.size)+(l.flatMap qm).length+1+(showL (m+1) ks).length:=by rw[Lib.byteCells_length];simp;omega
          rw[e,ByteArray.size_append,ByteArray.size_append]
          show _+(2+s.size+1)≤_
          omega) (by omega)
         clear HBdx;go_wp2_with fail;refine (Calls.mono HW8.out ?_);rintro e w8 ⟨rfl,bv8,hBd8,hF8⟩;have h:=hBd8.str (m:=[60,47]++s.data.toList++[62]) (by rw[data_append,data_append])
         go_wp2_with fail
         go_returns
         refine ⟨rfl,bv8,?_,HF0.out.trans (HFx.out.trans hF8)⟩;rw[HL0.out,hemp]
         simpa using h
theorem ZY (n:Nat)(ih:∀ m,n=m+1→jC m):jC n:=by
 intro S B b bs bv va vk t w hS hA hK hBd hM hgB hBw hlen;obtain ⟨tx,s,l,ks⟩:=t;cases tx with
 | true=>exact YL n S B b bs bv va vk s l ks w hA hK hBd hM hgB hBw hlen
 | false=>exact YK n ih S B b bs bv va vk s l ks w hS hA hK hBd hM hgB hBw hlen
theorem JI (n:Nat):jC n:=by
  induction n with
  | zero=>exact ZY 0 (fun m h=>by omega)
  | succ n ih => exact ZY (n + 1) (fun m h => by obtain rfl : n = m := by omega
                                                 exact ih)
theorem QE {s:ByteArray}(h:qN s=true):s.size≤8:=by
 simp only[qN,Bool.and_eq_true,decide_eq_true_eq]at h;exact h.1.2
theorem xW {s:ByteArray}(h:qO s=true):s.size≤40:=by
 simp only[qO,Bool.and_eq_true,decide_eq_true_eq]at h;exact h.1
theorem Ye {l:List (ByteArray × ByteArray)}(h:qW l=true):l.length≤4∧∀ x∈l,qN x.1=true∧qO x.2=true:=by
 simp only[qW,Bool.and_eq_true,decide_eq_true_eq,List.all_eq_true]at h
 refine ⟨h.1,fun x hx=>?_⟩
 obtain ⟨i,hi⟩:=List.mem_iff_getElem?.1 hx
 have hil:i<l.length:=by
  rcases Nat.lt_or_ge i l.length with h'|h'
  · exact h'
  · rw[List.getElem?_eq_none h']at hi;cases hi
 have:=h.2 i (by simpa using hil)
 unfold okA at this
 rw[hi]at this
 simp only[Bool.and_eq_true]at this
 exact ⟨this.1.1,this.1.2⟩
theorem Yp (l:List (ByteArray × ByteArray))(h:∀ x∈l,qN x.1=true∧qO x.2=true):(l.flatMap qm).length≤252*l.length:=by
 induction l with
 | nil=>simp
 | cons x r ih =>
   have h1:=ih (fun y hy=>h y (List.mem_cons_of_mem _ hy))
   have h2:=h x List.mem_cons_self;have h3:=QE h2.1;have h4:=xW h2.2;have h5:=j1 true x.2.data.toList;rw[zw]at h5
   have h6:((x::r).flatMap qm).length=(qm x).length+(r.flatMap qm).length:=by simp
   rw[h6,Qt,List.length_cons];omega
theorem QF {inner:List UInt8}{t:Tr}(h:qu t=true):(qB inner t).length≤1100+inner.length:=by
 obtain ⟨tx,s,l,ks⟩:=t;cases tx with
 | true =>
   simp only[qu,if_true,Bool.and_eq_true]at h
   have h1:=xW h.1.1.2;have h2:=j1 false s.data.toList;rw[zw]at h2
   simp only[qB,if_true];omega
 | false =>
   simp only[qu,Bool.false_eq_true,if_false,Bool.and_eq_true]at h
   have h1:=QE h.1;obtain ⟨h2,h3⟩:=Ye h.2;have h4:=Yp l h3
   have h5:(qB inner ⟨false,s,l,ks⟩).length≤1+s.size+(l.flatMap qm).length+(1+inner.length+2+s.size+1):=by
    simp only[qB,Bool.false_eq_true,if_false,List.length_append,List.length_cons,zw]
    split
    · simp;omega
    · simp;omega
   omega
theorem show_bound:∀ (n:Nat) (ts:List Tr),rgt n ts=true→(showL n ts).length≤1100*cnt n ts:=by
 intro n
 induction n with
 | zero=>intro ts _;simp[showL]
 | succ n ih =>
   have hl:∀ (ts:List Tr) (p:Bool),rgL (rgt n) p ts=true→(showL (n+1) ts).length≤1100*cnt (n+1) ts:=by
    intro ts
    induction ts with
    | nil=>intro p _;simp[showL]
    | cons t r ihr =>
      intro p h;simp only[rgL,Bool.and_eq_true]at h
      obtain ⟨⟨⟨h1,_⟩,h2⟩,h3⟩:=h;have h4:=ihr t.text h3;have h5:(showL (n+1) (t::r)).length=(qB (showL n t.kids) t).length+(showL (n+1) r).length:=by simp[showL]
      rw[h5,zz];cases htt:t.text with
      | true =>
        have h6:(qB (showL n t.kids) t).length≤1100:=by
         have:=QF (inner:=[]) h1;have e:qB (showL n t.kids) t=qB [] t:=by simp[qB,htt]
         rw[e];simpa using this
        omega
      | false =>
        rw[htt,Bool.false_or]at h2
        have h6:=ih t.kids h2;have h7:=QF (inner:=showL n t.kids) h1;omega
   intro ts h;exact hl ts false h
theorem yw {n:Nat}{t:Tr}(hd:Deep n t.kids)(h:qw t=true):(qB (showL n t.kids) t).length≤88000:=by
 rw[zS hd]at h
 simp only[Bool.and_eq_true,decide_eq_true_eq]at h
 have h1:=show_bound (n+1) [t] h.2;have h2:showL (n+1) [t]=qB (showL n t.kids) t:=by simp[showL]
 rw[h2]at h1
 have:=h.1.2;omega
theorem JN (S:Nat→Prop)(n:Nat)(va vk:Value)(t:Tr)(w:World)(hA:qe S w va t.attrs)(hK:qb S w n vk t.kids)(hM:qx w)(hlen:(qB (showL n t.kids) t).length≤88000) :
 Calls Tryd.prog 61 #[.agg #[.bool t.text,.string t.s,va,vk]] w fun e w'=>e=.returned (.string ⟨(qB (showL n t.kids) t).toArray⟩)∧Below w.heap.size w w':=by
 have hAb:=hA.bounded;have hKb:=qb.bounded n hK;obtain ⟨aa,ac,rfl⟩:=hA.shape;obtain ⟨ka,kc,rfl,_,_⟩:=qb.shape n hK;have hb0:∀ X Y,Below w.heap.size w ((w.alloc X).alloc Y):=fun X Y=>(Below.alloc1 w X).alloc (by simp) Y
 have hcall:∀ X,Calls Tryd.prog 96 #[.pointer (some ⟨w.heap.size+1,0,none⟩),.agg #[.bool t.text,.string t.s,.slice aa t.attrs.length ac,.slice ka t.kids.length kc]] ((w.alloc X).alloc (.cells #[.pointer none,.slice none 0 0] 99)) fun e w'=>e=.returned (.tuple #[])∧∃ bv',Bd w.heap.size (w.heap.size+1) (Lib.byteCells ([]++qB (showL n t.kids) t)) bv' w'∧Below w.heap.size w w':=by
  intro X;have hsz:((w.alloc X).alloc (.cells #[.pointer none,.slice none 0 0] 99)).heap.size=w.heap.size+1+1:=by simp
  have hbd:Bd w.heap.size (w.heap.size+1) (Lib.byteCells []) (.slice none 0 0) ((w.alloc X).alloc (.cells #[.pointer none,.slice none 0 0] 99)):=by
   refine ⟨by omega,⟨_,Or.inl rfl,?_⟩,World.ownsRow_nil _ _ _ _,by intro e;cases e⟩
   have e:=heap_alloc_new (w.alloc X) (.cells #[.pointer none,.slice none 0 0] 99);rw[World.size_alloc]at e
   exact e
  have:=JI n (fun b=>S b∧b<w.heap.size) w.heap.size (w.heap.size+1) [] (.slice none 0 0) _ _ t ((w.alloc X).alloc (.cells #[.pointer none,.slice none 0 0] 99)) (fun x hx=>⟨by have:=hx.2;omega,by have:=hx.2;omega,by intro e;cases e⟩) (hAb.later (hb0 _ _)) (qb.later (hb0 _ _) n hKb) hbd (hM.later (hb0 _ _) hM.lt) hM.lt (by omega) (by simp only[List.length_nil];omega)
  refine this.mono ?_;rintro e w' ⟨rfl,bv',h1,h2⟩;exact ⟨rfl,bv',h1,(hb0 _ _).trans h2.below⟩
 have HC:Hid _:=hcall;clear hcall hA hK hAb hKb hM hlen;obtain ⟨L,hL⟩:∃ L,qB (showL n t.kids) t=L:=⟨_,rfl⟩;rw[hL]at HC ⊢
 clear hL
 go_enter Tryd.func61,Tryd.ntmps61
 go_wp2_with fail;refine (Calls.mono (HC.out _) ?_);rintro e w2 ⟨rfl,bv,hBd,hB⟩;have hsz:=hB.size;have HS:Hid _:=yM w.heap.size (w.heap.size+1) ([]++L) w2 hBd.is hsz;clear HC hBd;go_wp2_with fail;refine (Calls.mono HS.out ?_);rintro e w3 ⟨rfl,hb3⟩;go_wp2_with fail;go_ret;exact ⟨rfl,hB.trans hb3⟩
def zp (n:Nat)(t:Tr):ByteArray × Int :=
 if qw t then (if 2500<(qB (showL n t.kids) t).length then (⟨#[]⟩,2) else (⟨(qB (showL n t.kids) t).toArray⟩,0)) else (⟨#[]⟩,1)
theorem z7 (S:Nat→Prop)(n:Nat)(va vk:Value)(t:Tr)(w:World)(hA:qe S w va t.attrs)(hK:qb S w n vk t.kids)(hM:qx w)(hx:TextsN (n+1) [t]) :
 Calls Tryd.prog 27 #[.agg #[.bool t.text,.string t.s,va,vk]] w fun e w'=>e=.returned (.tuple #[.string (zp n t).1,.int .i64 (zp n t).2])∧Below w.heap.size w w':=by
 obtain ⟨aa,ac,rfl⟩:=hA.shape;obtain ⟨ka,kc,rfl,_,_⟩:=qb.shape n hK;have hX1:=jU.start w (.bool t.text) (.string t.s) (.slice aa t.attrs.length ac) (.slice ka t.kids.length kc) 25;have hb1:=Below.alloc1 w (.cells #[.bool t.text,.string t.s,.slice aa t.attrs.length ac,.slice ka t.kids.length kc] 25)
 have HG:Hid (∀ W,Below w.heap.size w W→Calls Tryd.prog 19 #[.agg #[.bool t.text,.string t.s,.slice aa t.attrs.length ac,.slice ka t.kids.length kc]] W fun e w'=>e=.returned (.bool (qw t))∧Below W.heap.size W w') :=
  fun W hW=>yj S n _ _ t W (hA.later hW) (qb.later hW n hK) hx
 have HP:Hid (qw t=true→∀ W,Below w.heap.size w W→Calls Tryd.prog 61 #[.agg #[.bool t.text,.string t.s,.slice aa t.attrs.length ac,.slice ka t.kids.length kc]] W fun e w'=>e=.returned (.string ⟨(qB (showL n t.kids) t).toArray⟩)∧Below W.heap.size W w') :=
  fun hg W hW=>JN S n _ _ t W (hA.later hW) (qb.later hW n hK) (hM.later hW hM.lt) (yw (qb.deep n hK) hg)
 have HSH:Hid (qw t=true→(qB (showL n t.kids) t).length≤88000):=fun hg=>yw (qb.deep n hK) hg
 have HR:Hid (zp n t=if qw t then (if 2500<(qB (showL n t.kids) t).length then (⟨#[]⟩,2) else (⟨(qB (showL n t.kids) t).toArray⟩,0)) else (⟨#[]⟩,1)):=rfl
 clear hA hK hM hx;obtain ⟨L,hL⟩:∃ L,qB (showL n t.kids) t=L:=⟨_,rfl⟩;obtain ⟨q,hq⟩:∃ q,qw t=q:=⟨_,rfl⟩;rw[hL]at HP HSH HR
 rw[hq]at HG HP HSH HR
 clear hL hq
 go_enter Tryd.func27,Tryd.ntmps27
 go_wp2_with fail
 generalize w.alloc (.cells #[.bool t.text,.string t.s,.slice aa t.attrs.length ac,.slice ka t.kids.length kc] 25)=W1 at hb1 hX1 ⊢
 refine (Calls.mono (HG.out _ hb1) ?_);rintro e w2 ⟨rfl,hb2⟩;have hX2:=hX1.later hb2 hX1.lt;have hB2:Below w.heap.size w w2:=hb1.trans (hb2.mono hb1.size);have f0:=hX2.at0;have f1:=hX2.at1;have f2:=hX2.at2;have f3:=hX2.at3;clear hX1 hX2 hb1 hb2 HG;cases q with
 | false =>
   go_wp2_with fail
   go_ret2
   exact ⟨by rw[HR.out];rfl,hB2⟩
 | true =>
   have HP2:=HP.out rfl;have HP3:Hid _:=HP2;have hl88:L.length≤88000:=HSH.out rfl;clear HP HP2 HSH;go_wp2_with fail;refine (Calls.mono (HP3.out _ hB2) ?_);rintro e w3 ⟨rfl,hb3⟩;have hB3:Below w.heap.size w w3:=hB2.trans (hb3.mono hB2.size);have hsz:(ByteArray.mk L.toArray).size=L.length:=by simp[ByteArray.size]
   by_cases hlong:2500<L.length
   · have HE : Hid (zp n t = (⟨#[]⟩, 2)) := by show _ = _;rw[HR.out];simp[hlong]
     have hi:(2500:Int)<(L.length:Int):=by omega
     clear HR;go_wp2_with fail
     go_ret2
     exact ⟨by rw[HE.out];rfl,hB3⟩
   · have HE : Hid (zp n t = (⟨L.toArray⟩, 0)) := by show _ = _;rw[HR.out];simp[hlong]
     have hi:¬ (2500:Int)<(L.length:Int):=by omega
     clear HR hlong;go_wp2_with fail
     go_ret2
     exact ⟨by rw[HE.out];rfl,hB3⟩
end Go.Proofs.YtfdbipeidmpciaaDoor
namespace Go.Proofs.YtfdbipeidmpciaaDoor
open Go.RowKit
set_option maxRecDepth 100000
def ju (v:Bool):List UInt8:=if v then valueEnds else textEnds
theorem ZX {c:UInt8}{x:List UInt8}(hc:c≠38)(p:List UInt8):(⟨c::x,false⟩:Rs).ahead (38::p)=false:=by
 have:((38:UInt8)==c)=false:=by simpa using fun e=>hc e.symm
 simp[Rs.ahead,List.isPrefixOf,this]
theorem JO (v:Bool)(c:UInt8)(x:List UInt8):(⟨zb v c++x,false⟩:Rs).sign=(c,⟨x,false⟩)∧(⟨zb v c++x,false⟩:Rs).goesOn (ju v)=true:=by
 by_cases h0:c=60
 · subst h0;cases v<;>exact ⟨rfl,rfl⟩
 by_cases h1:c=62
 · subst h1;cases v<;>exact ⟨rfl,rfl⟩
 by_cases h2:c=38
 · subst h2;cases v<;>exact ⟨rfl,rfl⟩
 by_cases h3:(v&&c==34)=true
 · simp only[Bool.and_eq_true, beq_iff_eq]at h3
   obtain ⟨rfl,rfl⟩:=h3;exact ⟨rfl,rfl⟩
 have hm:zb v c=[c]:=by simp only[zb,h0,h1,h2,if_false];rw[if_neg h3]
 rw[hm]
 constructor
 · show (⟨c :: x, false⟩ : Rs).sign = _
   unfold Rs.sign;simp only[marksL,Rs.signFrom,ZX h2,h2,Bool.false_eq_true,if_false]
 · have n0 : ((60 : UInt8) == c) = false := by simpa using fun e => h0 e.symm
   have n1:((62:UInt8)==c)=false:=by simpa using fun e=>h1 e.symm
   cases v with
   | false=>simp[Rs.goesOn,ju,textEnds,Lib.indexByte,n0,n1]
   | true =>
     have n3:((34:UInt8)==c)=false:=by
      have:¬ c=34:=by simpa using h3
      simpa using fun e=>this e.symm
     simp[Rs.goesOn,ju,valueEnds,Lib.indexByte,n0,n1,n3]
theorem QJ (v:Bool)(l x:List UInt8)(hx:(⟨x,false⟩:Rs).goesOn (ju v)=false):(⟨qA v l++x,false⟩:Rs).text (ju v)=(l,⟨x,false⟩):=by
 induction l with
 | nil=>exact Jf hx
 | cons c l ih =>
   have e:qA v (c::l)++x=zb v c++(qA v l++x):=by simp[qA]
   obtain ⟨h1,h2⟩:=JO v c (qA v l++x);rw[e,Zm h2,h1,ih]
theorem Q7 {c:UInt8}(h:ql c=true):zg c=false:=by
 simp only[ql,Bool.and_eq_true,decide_eq_true_eq]at h
 have h1:¬ c=32:=by intro e;subst e;exact absurd h.1 (by decide)
 have h2:¬ c=10:=by intro e;subst e;exact absurd h.1 (by decide)
 simp[zg,h1,h2]
theorem jp {p:UInt8→Bool}:∀ {l:List UInt8} {c:UInt8} {x:List UInt8},l.all p=true→p c=false→(l++c::x).takeWhile p=l∧(l++c::x).dropWhile p=c::x:=by
 intro l
 induction l with
 | nil=>intro c x _ hc;simp[hc]
 | cons d l ih =>
   intro c x h hc;simp only[List.all_cons,Bool.and_eq_true]at h
   obtain ⟨h1,h2⟩:=ih (x:=x) h.2 hc;simp[h.1,h1,h2]
theorem xT {s:ByteArray}(h:qN s=true):∃ c l,s.data.toList=c::l∧ql c=true∧l.all ql=true:=by
 simp only[qN,Bool.and_eq_true,decide_eq_true_eq]at h
 have h1:=h.1.1;have h2:=h.2;cases hs:s.data.toList with
 | nil =>
   have:s.data.toList.length=0:=by rw[hs];rfl
   rw[Array.length_toList]at this
   have:s.size=0:=this;omega
 | cons c l =>
   rw[hs]at h2
   simp only[List.all_cons,Bool.and_eq_true]at h2
   exact ⟨c,l,rfl,h2.1,h2.2⟩
theorem yy (p x:List UInt8):(⟨p++x,false⟩:Rs).must p=⟨x,false⟩:=by
 have:(⟨p++x,false⟩:Rs).ahead p=true:=by simp[Rs.ahead]
 simp[Rs.must,this]
def yd (x:ByteArray × ByteArray):List UInt8 × List UInt8:=(x.1.data.toList,x.2.data.toList)
theorem Jh {a:ByteArray × ByteArray}(hn:qN a.1=true)(y:List UInt8):(⟨qm a++y,false⟩:Rs).attrAhead=true∧(⟨qm a++y,false⟩:Rs).attr=(yd a,⟨y,false⟩):=by
 obtain ⟨c,l,hs,hc,hl⟩:=xT hn;have hall:(c::l).all ql=true:=by simp[hc,hl]
 have e:qm a++y=32::((c::l)++61::(34::(qA true a.2.data.toList++34::y))):=by simp[qm,hs]
 have hsk:(⟨qm a++y,false⟩:Rs).skip=⟨(c::l)++61::(34::(qA true a.2.data.toList++34::y)),false⟩:=by
  rw[e];simp only[Rs.skip];rw[List.dropWhile_cons,if_pos (by decide),List.cons_append,List.dropWhile_cons,if_neg (by rw[Q7 hc];decide)]
 obtain ⟨t1,t2⟩:=jp (c:=61) (x:=34::(qA true a.2.data.toList++34::y)) hall (by decide)
 constructor
 · have hd:(qm a++y).dropWhile zg=c::(l++61::(34::(qA true a.2.data.toList++34::y))):=by
    have:=congrArg Rs.rest hsk;exact this
   simp only[Rs.attrAhead,hd,hc];rw[e];simp
 · unfold Rs.attr;rw[hsk];have hno:(⟨(c::l)++61::(34::(qA true a.2.data.toList++34::y)),false⟩:Rs).nameOf=c::l:=t1
   have hna:(⟨(c::l)++61::(34::(qA true a.2.data.toList++34::y)),false⟩:Rs).name=⟨[61,34]++(qA true a.2.data.toList++34::y),false⟩:=by
    simp only[Rs.name];rw[t2];rfl
   rw[hno,hna,yy];have htx:=QJ true a.2.data.toList (34::y) rfl;simp only[ju,if_true]at htx
   rw[htx]
   show ((c::l,a.2.data.toList),(⟨[34]++y,false⟩:Rs).must [34])=_
   rw[yy,←hs];rfl
theorem Yd {l:List (ByteArray × ByteArray)}(hn:∀ x∈l,qN x.1=true)(y:List UInt8)(hy:(⟨y,false⟩:Rs).attrAhead=false):(⟨l.flatMap qm++y,false⟩:Rs).attrs=(l.map yd,⟨y,false⟩):=by
 induction l with
 | nil=>exact Zt hy
 | cons a l ih =>
   have e:(a::l).flatMap qm++y=qm a++(l.flatMap qm++y):=by simp
   obtain ⟨h1,h2⟩:=Jh (hn a List.mem_cons_self) (l.flatMap qm++y);rw[e,Zu h1,h2,ih (fun x hx=>hn x (List.mem_cons_of_mem _ hx))]
   rfl
theorem Jg (l:List (ByteArray × ByteArray)):asB (l.map yd)=l:=by
 induction l with
 | nil=>rfl
 | cons a l ih =>
   show (bytesOf a.1.data.toList,bytesOf a.2.data.toList)::asB (l.map yd)=_
   rw[ih,zN,zN]
theorem Yf {l:List (ByteArray × ByteArray)}(h:qW l=true):(l.map yd).Pairwise fun x y=>x.1<y.1:=by
 simp only[qW,Bool.and_eq_true,decide_eq_true_eq,List.all_eq_true]at h
 have step:∀ i,i+1<(l.map yd).length→∀ x y,(l.map yd)[i]?=some x→(l.map yd)[i+1]?=some y→x.1<y.1:=by
  intro i hi x y hx hy;have hk:=h.2 (i+1) (by simpa using hi)
  simp only[List.getElem?_map,Option.map_eq_some_iff]at hx hy
  obtain ⟨a,ha,rfl⟩:=hx;obtain ⟨b,hb,rfl⟩:=hy;unfold okA at hk
  rw[hb]at hk
  simp only[ha,Bool.and_eq_true]at hk
  have:=hk.2;rw[less_lt,decide_eq_true_eq,ByteArray.toList_eq,ByteArray.toList_eq]at this
  exact this
 have gen:∀ (m:List (List UInt8 × List UInt8)),(∀ i,i+1<m.length→∀ x y,m[i]?=some x→m[i+1]?=some y→x.1<y.1)→m.Pairwise fun x y=>x.1<y.1:=by
  intro m
  induction m with
  | nil=>intro _;exact List.Pairwise.nil
  | cons a m ih =>
    intro hs;have hm:=ih (fun i hi x y hx hy=>hs (i+1) (by simpa using hi) x y (by simpa using hx) (by simpa using hy))
    rw[List.pairwise_cons];refine ⟨fun b hb=>?_,hm⟩
    cases m with
    | nil=>simp at hb
    | cons c m =>
      have h1:a.1<c.1:=hs 0 (by simp) a c rfl rfl
      rw[List.mem_cons]at hb
      rcases hb with rfl|hb
      · exact h1
      · rw[List.pairwise_cons]at hm
        exact List.lt_trans h1 (hm.1 b hb)
 exact gen _ step
def J0 (x:List UInt8):Prop:=x=[]∨∃ y,x=60::47::y
theorem J0.no {x:List UInt8}(h:J0 x):(⟨x,false⟩:Rs).treeAhead=false:=by
 rcases h with rfl|⟨y,rfl⟩<;>rfl
theorem XM {x:List UInt8}(h:x=[]∨∃ y,x=60::y):(⟨x,false⟩:Rs).goesOn textEnds=false:=by
 rcases h with rfl|⟨y,rfl⟩<;>rfl
theorem Jm (inner:List UInt8)(t:Tr)(h:t.text=false)(x:List UInt8):∃ y,qB inner t++x=60::y:=by
 simp[qB,h]
theorem xR (c:UInt8):∃ d l,zb false c=d::l∧d≠60∧d≠62:=by
 unfold zb
 split
 · exact ⟨_,_,rfl,by decide,by decide⟩
 split
 · exact ⟨_,_,rfl,by decide,by decide⟩
 split
 · exact ⟨_,_,rfl,by decide,by decide⟩
 · rename_i h0 h1 _
   simp only[Bool.false_and,Bool.false_eq_true,if_false];exact ⟨_,_,rfl,h0,h1⟩
theorem JV {s:List UInt8}(hs:s≠[])(y:List UInt8)(hy:y=[]∨∃ z,y=60::z)(rec:Rs→List Tr × Rs) :
 (⟨qA false s++y,false⟩:Rs).treeAhead=true∧(⟨qA false s++y,false⟩:Rs).one rec=(⟨true,bytesOf s,[],[]⟩,⟨y,false⟩):=by
 cases s with
 | nil=>exact absurd rfl hs
 | cons c s =>
   obtain ⟨d,l,hd,h1,h2⟩:=xR c;have e:qA false (c::s)++y=d::(l++(qA false s++y)):=by simp[qA,hd]
   have n1:((60:UInt8)==d)=false:=by simpa using fun e=>h1 e.symm
   have n2:((62:UInt8)==d)=false:=by simpa using fun e=>h2 e.symm
   have ha:(⟨qA false (c::s)++y,false⟩:Rs).ahead [60]=false:=by rw[e];simp[Rs.ahead,List.isPrefixOf,n1]
   constructor
   · rw[e];simp[Rs.treeAhead,Rs.ahead,List.isPrefixOf,n1,n2]
   · unfold Rs.one;rw[if_neg (by rw[ha];decide)]
     have htx:=QJ false (c::s) y (XM hy);simp only[ju,Bool.false_eq_true,if_false]at htx
     rw[htx]
theorem Je {c:UInt8}{l:List UInt8}(h:zg c=false):(⟨c::l,false⟩:Rs).skip=⟨c::l,false⟩:=by
 simp[Rs.skip,h]
theorem Qx {t:Tr}(ht:t.text=false)(hr:qu t=true)(rec:Rs→List Tr × Rs)(inner y:List UInt8)
 (hrec:t.kids≠[]→∀ z,rec ⟨inner++60::47::z,false⟩=(t.kids,⟨60::47::z,false⟩)) :
 (⟨qB inner t++y,false⟩:Rs).treeAhead=true∧(⟨qB inner t++y,false⟩:Rs).one rec=(t,⟨y,false⟩):=by
 obtain ⟨tx,s,ats,ks⟩:=t;simp only at ht hrec
 subst ht;simp only[qu,Bool.false_eq_true,if_false,Bool.and_eq_true]at hr
 obtain ⟨c,l,hs,hc,hl⟩:=xT hr.1;have hall:(c::l).all ql=true:=by simp[hc,hl]
 have hnames:∀ x∈ats,qN x.1=true:=by
  intro x hx;obtain ⟨i,hi⟩:=List.mem_iff_getElem?.1 hx
  have hil:i<ats.length:=by
   rcases Nat.lt_or_ge i ats.length with h'|h'
   · exact h'
   · rw[List.getElem?_eq_none h']at hi;cases hi
  have h2:=hr.2;simp only[qW,Bool.and_eq_true,decide_eq_true_eq,List.all_eq_true]at h2
  have:=h2.2 i (by simpa using hil)
  unfold okA at this
  rw[hi]at this
  simp only[Bool.and_eq_true]at this
  exact this.1.1
 obtain ⟨tl,htl⟩:∃ tl,(if ks.isEmpty then [47,62] else 62::inner++[60,47]++s.data.toList++[62])++y=tl:=⟨_,rfl⟩
 have htl1:(∃ z,tl=47::62::z)∨∃ z,tl=62::z:=by
  rw[←htl];cases ks with
  | nil=>exact Or.inl ⟨y,rfl⟩
  | cons k ks=>right;simp
 have e:qB inner ⟨false,s,ats,ks⟩++y=[60]++((c::l)++(ats.flatMap qm++tl)):=by
  rw[←htl];simp[qB,hs]
 obtain ⟨d,z,hd,hld⟩:∃ d z,ats.flatMap qm++tl=d::z∧ql d=false:=by
  cases ats with
  | nil=>rcases htl1 with ⟨z,rfl⟩|⟨z,rfl⟩<;>exact ⟨_,_,rfl,by decide⟩
  | cons a ats=>exact ⟨32,_,by simp[qm];rfl,by decide⟩
 have hah:(⟨qB inner ⟨false,s,ats,ks⟩++y,false⟩:Rs).ahead [60]=true:=by rw[e];simp[Rs.ahead]
 have hnc:((47:UInt8)==c)=false:=by
  simp only[ql,Bool.and_eq_true,decide_eq_true_eq]at hc
  have:¬ (47:UInt8)=c:=by intro e;subst e;exact absurd hc.1 (by decide)
  simpa using this
 refine ⟨?_,?_⟩
 · rw[e];simp[Rs.treeAhead,Rs.ahead,List.isPrefixOf,hnc]
 · unfold Rs.one;rw[if_pos hah];unfold Rs.elem;rw[e,yy];obtain ⟨t1,t2⟩:=jp (x:=z) hall hld;rw[←hd]at t1 t2
   have hno:(⟨(c::l)++(ats.flatMap qm++tl),false⟩:Rs).nameOf=c::l:=t1;have hna:(⟨(c::l)++(ats.flatMap qm++tl),false⟩:Rs).name=⟨ats.flatMap qm++tl,false⟩:=by simp only[Rs.name];rw[t2]
   have hat:(⟨ats.flatMap qm++tl,false⟩:Rs).attrs=(ats.map yd,⟨tl,false⟩):=Yd hnames tl (by rcases htl1 with ⟨z,rfl⟩|⟨z,rfl⟩<;>simp[Rs.attrAhead,zg])
   have hsk:(⟨tl,false⟩:Rs).skip=⟨tl,false⟩:=by rcases htl1 with ⟨z,rfl⟩|⟨z,rfl⟩<;>exact Je (by decide)
   rw[hno,hna,hat,hsk];have hso:asB (sortA (ats.map yd))=ats:=by rw[Xy (Yf hr.2),Jg]
   have hnm:bytesOf (c::l)=s:=by rw[←hs];exact zN s
   unfold Rs.elemIn;rw[hso,hnm];cases ks with
   | nil =>
     have htl2:tl=[47,62]++y:=htl.symm;rw[htl2];have h1:(⟨[47,62]++y,false⟩:Rs).ahead [47,62]=true:=by simp[Rs.ahead]
     rw[if_pos h1];unfold Rs.take;rw[if_pos h1];rfl
   | cons k ks =>
     have htl2:tl=[62]++(inner++60::47::((c::l)++([62]++y))):=by rw[←htl];simp[hs]
     rw[htl2];have h1:(⟨[62]++(inner++60::47::((c::l)++([62]++y))),false⟩:Rs).ahead [47,62]=false:=by simp[Rs.ahead,List.isPrefixOf]
     rw[if_neg (by rw[h1];decide),yy,hrec (by simp) _]
     have h2:(⟨60::47::((c::l)++([62]++y)),false⟩:Rs).must [60,47]=⟨(c::l)++([62]++y),false⟩:=yy [60,47] _;simp only[h2];rw[yy,show ([62]++y:List UInt8)=62::y from rfl,Je (by decide)]
     rw[show (62::y:List UInt8)=[62]++y from rfl,yy]
theorem back_list:∀ (n:Nat) (f:Nat) (ts:List Tr) (p:Bool) (x:List UInt8),Deep n ts→(∀ m,n=m+1→rgL (rgt m) p ts=true)→dep n ts≤f→J0 x →
 treesF f ⟨showL n ts++x,false⟩=(ts,⟨x,false⟩):=by
 intro n
 induction n with
 | zero =>
   intro f ts p x hd _ _ hx;have:ts=[]:=hd;subst this;exact j9 hx.no
 | succ n ih =>
   intro f ts
   induction ts with
   | nil=>intro p x _ _ _ hx;exact j9 hx.no
   | cons t r ihr =>
     intro p x hd hg hf hx;have hg1:=hg n rfl;unfold rgL at hg1
     simp only[Bool.and_eq_true,Bool.not_eq_true']at hg1
     obtain ⟨⟨⟨g1,g2⟩,g3⟩,g4⟩:=hg1;rw[q9]at hf
     obtain ⟨f',rfl⟩:∃ f',f=f'+1:=⟨f-1,by omega⟩
     have hrest:=ihr t.text x (fun u hu=>hd u (List.mem_cons_of_mem _ hu)) (fun m hm=>by cases hm;exact g4) (by omega) hx
     have e:showL (n+1) (t::r)++x=qB (showL n t.kids) t++(showL (n+1) r++x):=by simp[showL]
     have hone:(⟨qB (showL n t.kids) t++(showL (n+1) r++x),false⟩:Rs).treeAhead=true∧(⟨qB (showL n t.kids) t++(showL (n+1) r++x),false⟩:Rs).one (treesF f')=(t,⟨showL (n+1) r++x,false⟩):=by
      cases htt:t.text with
      | true =>
        have hy:(showL (n+1) r++x=[])∨∃ z,showL (n+1) r++x=60::z:=by
         cases r with
         | nil =>
           rcases hx with rfl|⟨y,rfl⟩
           · exact Or.inl rfl
           · exact Or.inr ⟨_,rfl⟩
         | cons u r =>
           unfold rgL at g4
           simp only[htt,Bool.and_eq_true,Bool.not_eq_true',Bool.true_and]at g4
           obtain ⟨y,hy⟩:=Jm (showL n u.kids) u g4.1.1.2 (showL (n+1) r++x);exact Or.inr ⟨y,by rw[←hy];simp[showL]⟩
        obtain ⟨tx,s,ats,ks⟩:=t;simp only at htt
        subst htt;simp only[qu,if_true,Bool.and_eq_true,decide_eq_true_eq,Bool.not_eq_true']at g1
        have ha:ats=[]:=List.eq_nil_of_length_eq_zero g1.1.2;have hk:ks=[]:=List.eq_nil_of_length_eq_zero g1.2;subst ha hk
        have hs:s.data.toList≠[]:=by
         intro e;have:=g1.1.1.1;rw[ByteArray.toList_eq]at this
         have e2:s.data=#[]:=by cases hh:s.data;rw[hh]at e;simp at e;subst e;rfl
         rw[e2]at this;simp at this
        have:=JV hs (showL (n+1) r++x) hy (treesF f');rw[zN]at this
        simpa[qB] using this
      | false =>
        refine Qx htt g1 _ _ _ ?_;intro _ z;have hk:rgt n t.kids=true:=by simpa[htt] using g3
        exact ih f' t.kids false _ (hd t List.mem_cons_self) (fun m hm=>by subst hm;exact hk) (by omega) (Or.inr ⟨z,rfl⟩)
     rw[e,QL hone.1,hone.2,hrest]
theorem Jz {s:List UInt8}(h:s≠[]):1≤(qA false s).length:=by
 cases s with
 | nil=>exact absurd rfl h
 | cons c s =>
   obtain ⟨d,l,hd,_⟩:=xR c;simp[qA,hd]
theorem dep_show:∀ (n:Nat) (ts:List Tr) (p:Bool),(∀ m,n=m+1→rgL (rgt m) p ts=true)→dep n ts≤(showL n ts).length:=by
 intro n
 induction n with
 | zero=>intro ts p _;exact nZ9 _
 | succ n ih =>
   intro ts
   induction ts with
   | nil=>intro p _;rw[q5];exact nZ9 _
   | cons t r ihr =>
     intro p hg;have hg1:=hg n rfl;unfold rgL at hg1
     simp only[Bool.and_eq_true,Bool.not_eq_true']at hg1
     obtain ⟨⟨⟨g1,g2⟩,g3⟩,g4⟩:=hg1;have h1:=ihr t.text (fun m hm=>by cases hm;exact g4)
     have h2:(showL (n+1) (t::r)).length=(qB (showL n t.kids) t).length+(showL (n+1) r).length:=by simp[showL]
     have h3:1+dep n t.kids≤(qB (showL n t.kids) t).length:=by
      obtain ⟨tx,s,ats,ks⟩:=t;cases tx with
      | true =>
        simp only[qu,if_true,Bool.and_eq_true,decide_eq_true_eq,Bool.not_eq_true']at g1
        have hk:ks=[]:=List.eq_nil_of_length_eq_zero g1.2
        have hs:s.data.toList≠[]:=by
         intro e;have:=g1.1.1.1;rw[ByteArray.toList_eq]at this
         have e2:s.data=#[]:=by cases hh:s.data;rw[hh]at e;simp at e;subst e;rfl
         rw[e2]at this;simp at this
        simp only[hk,q5,qB,if_true];exact Jz hs
      | false =>
        have h5:rgt n ks=true:=by simpa using g3
        have h4:=ih ks false (fun m hm=>by subst hm;exact h5)
        cases ks with
        | nil=>simp[qB,q5]
        | cons k ks=>simp[qB];omega
     rw[q9,h2];omega
theorem jz {n:Nat}{t:Tr}(hd:Deep n t.kids)(hg:qw t=true)(hl:(qB (showL n t.kids) t).length≤2500):qE (qB (showL n t.kids) t)=(t,0):=by
 have hg2:=hg;rw[zS hd]at hg2
 simp only[Bool.and_eq_true,Bool.not_eq_true',decide_eq_true_eq]at hg2
 obtain ⟨⟨⟨h1,_⟩,_⟩,h4⟩:=hg2;have h5:rgL (rgt n) false [t]=true:=h4;unfold rgL at h5
 simp only[Bool.and_eq_true]at h5
 have hk:rgt n t.kids=true:=by simpa[h1] using h5.1.2
 have hdp:dep n t.kids≤(qB (showL n t.kids) t).length:=by
  have:=dep_show (n+1) [t] false (fun m hm=>by cases hm;exact h4)
  rw[q9]at this
  simp only[showL,List.flatMap_cons,List.flatMap_nil,List.append_nil]at this
  omega
 have hone:=(Qx h1 h5.1.1.1 (treesF (qB (showL n t.kids) t).length) (showL n t.kids) [] (fun _ z =>
  back_list n _ t.kids false _ hd (fun m hm=>by subst hm;exact hk) hdp (Or.inr ⟨z,rfl⟩))).2
 rw[List.append_nil]at hone
 unfold qE;rw[if_neg (by omega),hone]
 simp[hg]
theorem Jj {n:Nat}{ts:List Tr}(hd:Deep n ts)(hg:zQ ts=true)(hl:(showL n ts).length≤2500):zW (showL n ts)=(ts,0):=by
 have hg2:=hg;rw[yO hd]at hg2
 simp only[Bool.and_eq_true,decide_eq_true_eq]at hg2
 obtain ⟨⟨_,_⟩,h4⟩:=hg2;have hr:∀ m,n=m+1→rgL (rgt m) false ts=true:=fun m hm=>by subst hm;exact h4
 have hb:=back_list n ((showL n ts).length+1) ts false [] hd hr (by have:=dep_show n ts false hr;omega) (Or.inl rfl)
 rw[List.append_nil]at hb
 unfold zW;rw[if_neg (by omega),hb]
 simp[hg]
end Go.Proofs.YtfdbipeidmpciaaDoor
namespace Go.Proofs.YtfdbipeidmpciaaDoor
open Go.ChangeShapes Go.WideShapes Go.ChangeAt Go.RowKit
set_option maxRecDepth 100000
def jE (n:Nat):Prop:=∀ (S S':Nat→Prop) (v v':Value) (ts:List Tr) (w:World),qb S w n v ts→qb S' w n v' ts →
 Calls Tryd.prog 32 #[v,v'] w fun e w'=>e=.returned (.bool true)∧Below w.heap.size w w'
def QT (n:Nat):Prop:=∀ (S S':Nat→Prop) (tx:Bool) (s:ByteArray) (va va' vk vk':Value) (l:List (ByteArray × ByteArray)) (ts:List Tr) (w:World),qe S w va l→qe S' w va' l→qb S w n vk ts→qb S' w n vk' ts →
 Calls Tryd.prog 30 #[.agg #[.bool tx,.string s,va,vk],.agg #[.bool tx,.string s,va',vk']] w fun e w'=>e=.returned (.bool true)∧Below w.heap.size w w'
theorem Xu (n:Nat)(h:QT n):jE (n+1):=by
 intro S S' v v' ts w h1 h2;obtain ⟨a,cap,rfl,_,hm,h4⟩:=h1;obtain ⟨a',cap',rfl,_,_,h4'⟩:=h2;unfold maxLen at hm
 have hne:((ts.length:Int) != ts.length)=false:=by simp
 have H:Hid (QT n):=h;clear h
 go_enter Tryd.func32,Tryd.ntmps32
 go_wp2_with fail
 go_loopg [13] ts.length (fun g i wr=>∃ k:Nat,k+g=ts.length∧i=.int .i64 k∧Below w.heap.size w wr)
 case atStart => exact ⟨0,by omega,rfl,Below.refl _ _⟩
 case round =>
  obtain ⟨k,hk,rfl,hB⟩:=hrel
  by_cases hlt:k<ts.length
  · have hne : ts ≠ [] := by intro e;subst e;simp at hlt
    obtain ⟨b,o,rfl,hs,hcc⟩:=h4 hne;obtain ⟨b',o',rfl,hs',hcc'⟩:=h4' hne;obtain ⟨t,ht⟩:∃ t,ts[k]?=some t:=⟨ts[k],by simp[hlt]⟩
    obtain ⟨va,vk,c0,c1,c2,c3,hat,hkt⟩:=hcc k t ht;obtain ⟨va',vk',c0',c1',c2',c3',hat',hkt'⟩:=hcc' k t ht;have hbl:b<w.heap.size:=World.block_lt_of_cell? w _ c0;have hbl':b'<w.heap.size:=World.block_lt_of_cell? w _ c0';rw[←hB.cell (p:=⟨b,o+k*4,none⟩) hbl]at c0
    rw[←hB.cell (p:=⟨b,o+k*4+1,none⟩) hbl]at c1
    rw[←hB.cell (p:=⟨b,o+k*4+2,none⟩) hbl]at c2
    rw[←hB.cell (p:=⟨b,o+k*4+3,none⟩) hbl]at c3
    rw[←hB.cell (p:=⟨b',o'+k*4,none⟩) hbl']at c0'
    rw[←hB.cell (p:=⟨b',o'+k*4+1,none⟩) hbl']at c1'
    rw[←hB.cell (p:=⟨b',o'+k*4+2,none⟩) hbl']at c2'
    rw[←hB.cell (p:=⟨b',o'+k*4+3,none⟩) hbl']at c3'
    have hlti:(k:Int)<(ts.length:Int):=by omega
    clear hcc hcc' h4 h4' ht;go_wp2_with fail
    go_region_with (go_at_call 30;refine (H.out S S' t.text t.s va va' vk vk' t.attrs t.kids wr.drew (hat.later hB.drew) (hat'.later hB.drew) (qb.later hB.drew n hkt) (qb.later hB.drew n hkt')).mono ?_;rintro e w1 ⟨rfl,hb1⟩)
    all_goals
     go_wp2_with fail
     go_roundg (ts.length-(k+1))
     case measure => omega
     case rel => exact ⟨k+1,by omega,by go_num,hB.drew.trans (hb1.mono hB.size)⟩
  · go_wp2_with fail;go_ret;exact ⟨rfl,hB⟩
theorem Jc (n:Nat)(h:jE n):QT n:=by
 intro S S' tx s va va' vk vk' l ts w h1 h2 h3 h4;have H:Hid (jE n):=h;clear h;obtain ⟨ka,kc,rfl,_,_⟩:=qb.shape n h3;obtain ⟨ka',kc',rfl,_,_⟩:=qb.shape n h4;have h1':=h1;have h2':=h2;obtain ⟨a,cap,rfl,_,hm,h5⟩:=h1;obtain ⟨a',cap',rfl,_,_,h5'⟩:=h2;unfold maxLen at hm
 go_enter Tryd.func30,Tryd.ntmps30
 go_wp2_with fail
 go_loopg [30] l.length (fun g i wr=>∃ k:Nat,k+g=l.length∧i=.int .i64 k∧Below w.heap.size w wr∧wr.cell? ⟨w.heap.size,2,none⟩=some (.slice a l.length cap)∧wr.cell? ⟨w.heap.size,3,none⟩=some (.slice ka ts.length kc) ∧
  wr.cell? ⟨w.heap.size+1,2,none⟩=some (.slice a' l.length cap')∧wr.cell? ⟨w.heap.size+1,3,none⟩=some (.slice ka' ts.length kc'))
 case atStart => exact ⟨0,by omega,rfl,(Below.alloc1 w _).alloc (by simp) _,by simp[go_sem],by simp[go_sem],by simp[go_sem],by simp[go_sem]⟩
 case round =>
  obtain ⟨k,hk,rfl,hB,d2,d3,d2',d3'⟩:=hrel
  by_cases hlt:k<l.length
  · have hne : l ≠ [] := by intro e;subst e;simp at hlt
    obtain ⟨b,o,rfl,hs,hcc⟩:=h5 hne;obtain ⟨b',o',rfl,hs',hcc'⟩:=h5' hne;obtain ⟨x,hx⟩:∃ x,l[k]?=some x:=⟨l[k],by simp[hlt]⟩
    obtain ⟨c0,c1⟩:=hcc k x hx;obtain ⟨c0',c1'⟩:=hcc' k x hx;have hbl:b<w.heap.size:=World.block_lt_of_cell? w _ c0;have hbl':b'<w.heap.size:=World.block_lt_of_cell? w _ c0';rw[←hB.cell (p:=⟨b,o+k*2,none⟩) hbl]at c0
    rw[←hB.cell (p:=⟨b,o+k*2+1,none⟩) hbl]at c1
    rw[←hB.cell (p:=⟨b',o'+k*2,none⟩) hbl']at c0'
    rw[←hB.cell (p:=⟨b',o'+k*2+1,none⟩) hbl']at c1'
    have hlti:(k:Int)<(l.length:Int):=by omega
    clear hcc hcc' h5 h5' hx h1' h2';go_wp2_with fail
    go_quiet (fail)
    go_wp2_with fail
    go_roundg (l.length-(k+1))
    case measure => omega
    case rel => exact ⟨k+1,by omega,by go_num,below_drewN hB nq,by simpa using d2,by simpa using d3,by simpa using d2',by simpa using d3'⟩
  · go_wp2_with fail;refine (H.out S S' _ _ ts _ (qb.later hB n h3) (qb.later hB n h4)).mono ?_;rintro e w1 ⟨rfl,hb1⟩;go_wp2_with fail;go_ret;exact ⟨rfl,hB.trans (hb1.mono hB.size)⟩
theorem sames_zero:jE 0:=by
 intro S S' v v' ts w h1 h2;obtain ⟨rfl,a,cap,rfl,_⟩:=h1;obtain ⟨_,a',cap',rfl,_⟩:=h2
 go_enter Tryd.func32,Tryd.ntmps32
 go_wp2_with fail;go_rounds 1;go_ret;exact ⟨rfl,Below.refl _ _⟩
theorem QH (n:Nat):jE n:=by
 induction n with
 | zero=>exact sames_zero
 | succ n ih=>exact Xu n (Jc n ih)
end Go.Proofs.YtfdbipeidmpciaaDoor
