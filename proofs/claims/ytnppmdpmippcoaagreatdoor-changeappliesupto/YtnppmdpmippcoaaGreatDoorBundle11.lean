/- Bundled: LayM DocK DocT DocU LayB DocN Fam DocS Lay DocMk DocB MakeM BenchM BenchP BenchD ChangeM TreeM ApplyM ZipM AttrM KeepM OpsL NGrow WithR. What each says stands ahead of it. -/
import Derived.Test.YtnppmdpmippcoaaGreatDoorBundle10
import Derived.Test.YtnppmdpmippcoaaGreatDoorBundle09
namespace Go.Proofs.YtnppmdpmippcoaaGreatDoor
open Go.ChangeShapes Go.WideShapes Go.ChangeAt Go.RowKit
set_option maxRecDepth 100000
def qB (d:Nat):Nat→List Tr→List Int
 | _,[]=>[]
 | at',k::ks=>(at':Int)::qB d (at'+cnt (d+1) [k]) ks
def qG (d:Nat)(g:Tr→Int→Nat→List Nd)(par:Nat):Nat→List Tr→List Nd
 | _,[]=>[]
 | at',k::ks=>g k par at'++qG d g par (at'+cnt (d+1) [k]) ks
def layF:Nat→Tr→Int→Nat→List Nd
 | 0,t,par,_=>[⟨t.text,t.s,t.attrs,par,[]⟩]
 | d+1,t,par,at'=>⟨t.text,t.s,t.attrs,par,qB d (at'+1) t.kids⟩::qG d (layF d) at' (at'+1) t.kids
theorem qL (d:Nat)(t:Tr):cnt (d+1) [t]=1+cnt d t.kids:=by simp[cnt]
theorem qZ (d:Nat)(t:Tr)(r:List Tr):cnt (d+1) (t::r)=cnt (d+1) [t]+cnt (d+1) r:=by simp[cnt]
theorem jh (d:Nat)(g:Tr→Int→Nat→List Nd)(par:Nat):∀ (a b:List Tr)(at':Nat),qG d g par at' (a++b)=qG d g par at' a++qG d g par (at'+cnt (d+1) a) b:=by
 intro a
 induction a with
 | nil=>intro b at';simp[qG,cnt]
 | cons k a ih =>
   intro b at'
   rw[List.cons_append,qG,qG,ih,qZ d k a,List.append_assoc,Nat.add_assoc]
theorem yM (d:Nat):∀ (a b:List Tr)(at':Nat),qB d at' (a++b)=qB d at' a++qB d (at'+cnt (d+1) a) b:=by
 intro a
 induction a with
 | nil=>intro b at';simp[qB,cnt]
 | cons k a ih =>
   intro b at'
   rw[List.cons_append,qB,qB,ih,qZ d k a,List.cons_append,Nat.add_assoc]
theorem yN (d:Nat):∀ (a:List Tr)(at':Nat),(qB d at' a).length=a.length:=by
 intro a
 induction a with
 | nil=>intro _;rfl
 | cons k a ih=>intro at';simp[qB,ih]
theorem layF_length:∀ (d:Nat)(t:Tr)(par:Int)(at':Nat),Deep d t.kids→(layF d t par at').length=cnt (d+1) [t]:=by
 intro d
 induction d with
 | zero =>
   intro t par at' h
   have:t.kids=[]:=h;rw[qL,this];rfl
 | succ d ih =>
   intro t par at' h
   rw[layF,List.length_cons,qL]
   have:∀ (ts:List Tr) (a:Nat),Deep (d+1) ts→(qG d (layF d) at' a ts).length=cnt (d+1) ts:=by
    intro ts
    induction ts with
    | nil=>intro _ _;rfl
    | cons k ts ih2 =>
      intro a hd;rw[qG,List.length_append,ih k _ _ (hd k List.mem_cons_self),ih2 _ (fun u hu=>hd u (List.mem_cons_of_mem _ hu)),qZ d k ts]
   rw[this t.kids (at'+1) h]
   omega
structure Rw where
 text:Bool
 s:ByteArray
 va:Value
 par:Int
 vk:Value
def rawCells:List Rw→List Value
 | []=>[]
 | r::l=>.bool r.text::.string r.s::r.va::.int .i64 r.par::r.vk::rawCells l
theorem yL (l:List Rw):(rawCells l).length=l.length*5:=by
 induction l with
 | nil=>rfl
 | cons x r ih=>simp[rawCells,ih];omega
theorem zU (l:List Rw):∀ i r,l[i]?=some r→(rawCells l)[i*5]?=some (.bool r.text)∧(rawCells l)[i*5+1]?=some (.string r.s)∧(rawCells l)[i*5+2]?=some r.va∧(rawCells l)[i*5+3]?=some (.int .i64 r.par)∧(rawCells l)[i*5+4]?=some r.vk:=by
 induction l with
 | nil=>intro i x h;simp at h
 | cons y r ih =>
   intro i x h;cases i with
   | zero=>simp at h;subst h;simp[rawCells]
   | succ i =>
     have:=ih i x (by simpa using h)
     rw[show (i+1)*5=i*5+5 from by omega]
     simpa[rawCells] using this
theorem YM (l:List Rw):∀ (i:Nat)(r:Rw),i<l.length→rawCells (l.set i r)=(((((rawCells l).set (i*5) (.bool r.text)).set (i*5+1) (.string r.s)).set (i*5+2) r.va).set (i*5+3) (.int .i64 r.par)).set (i*5+4) r.vk:=by
 induction l with
 | nil=>intro i r h;simp at h
 | cons y l ih =>
   intro i r h;cases i with
   | zero=>simp[rawCells]
   | succ i =>
     rw[List.set_cons_succ,rawCells,ih i r (by simpa using h),show (i+1)*5=i*5+5 from by omega,rawCells]
     rfl
theorem yI (l:List Rw):∀ (i:Nat)(r:Rw)(v:Value),l[i]?=some r→rawCells (l.set i { r with vk:=v })=(rawCells l).set (i*5+4) v:=by
 induction l with
 | nil=>intro i r v h;simp at h
 | cons y l ih =>
   intro i r v h;cases i with
   | zero=>simp at h;subst h;simp[rawCells]
   | succ i =>
     rw[List.set_cons_succ,rawCells,ih i r v (by simpa using h),show (i+1)*5=i*5+5 from by omega,rawCells]
     rfl
def Row (nb:Nat)(ms:List Rw)(w:World):Prop:=w.heap[nb]?=some (.cells (rawCells ms).toArray 43 (0,0))
theorem Row.cells {nb:Nat}{ms:List Rw}{w:World}(h:Row nb ms w){i:Nat}{r:Rw}(hr:ms[i]?=some r):w.cell? ⟨nb,i*5,none⟩=some (.bool r.text)∧w.cell? ⟨nb,i*5+1,none⟩=some (.string r.s)∧w.cell? ⟨nb,i*5+2,none⟩=some r.va∧w.cell? ⟨nb,i*5+3,none⟩=some (.int .i64 r.par)∧w.cell? ⟨nb,i*5+4,none⟩=some r.vk:=by
 obtain ⟨g0,g1,g2,g3,g4⟩:=zU ms i r hr;refine ⟨?_,?_,?_,?_,?_⟩<;>rw[cH9 h]<;>simpa
theorem Row.frozen {nb:Nat}{ms:List Rw}{w:World}(h:Row nb ms w)(k:Nat):w.frozen? ⟨nb,k,none⟩=false:=fH9 h k
theorem Row.set1 {nb:Nat}{cs:List Value}{w:World}{e:TypeId}(h:w.heap[nb]?=some (.cells cs.toArray e (0,0)))(k:Nat)(v:Value):(w.setCell ⟨nb,k,none⟩ v).heap[nb]?=some (.cells (cs.set k v).toArray e (0,0)):=by
 simp[World.setCell,Array.getElem?_modify,h]
theorem Row.put {nb:Nat}{ms:List Rw}{w:World}(h:Row nb ms w){i:Nat}(hi:i<ms.length)(r:Rw):Row nb (ms.set i r) (((((w.setCell ⟨nb,i*5,none⟩ (.bool r.text)).setCell ⟨nb,i*5+1,none⟩ (.string r.s)).setCell ⟨nb,i*5+2,none⟩ r.va).setCell ⟨nb,i*5+3,none⟩ (.int .i64 r.par)).setCell ⟨nb,i*5+4,none⟩ r.vk):=by
 unfold Row;rw[YM ms i r hi];exact Row.set1 (Row.set1 (Row.set1 (Row.set1 (Row.set1 h _ _) _ _) _ _) _ _) _ _
theorem Row.putK {nb:Nat}{ms:List Rw}{w:World}(h:Row nb ms w){i:Nat}{r:Rw}(hr:ms[i]?=some r)(v:Value):Row nb (ms.set i { r with vk:=v }) (w.setCell ⟨nb,i*5+4,none⟩ v):=by
 unfold Row;rw[yI ms i r v hr];exact Row.set1 h _ _
def xV (S:Nat→Prop)(w:World)(r:Rw)(x:Nd):Prop:=r.text=x.text∧r.s=x.s∧r.par=x.parent∧qC S w r.va x.attrs∧zM S w r.vk x.kids
def Laid (S:Nat→Prop)(w:World)(ms:List Rw)(at':Nat)(L:List Nd):Prop:=∀ (i:Nat)(x:Nd),L[i]?=some x→∃ r,ms[at'+i]?=some r∧xV S w r x
theorem xV.carry {S S':Nat→Prop}{w w':World}{r:Rw}{x:Nd}(h:xV S w r x)(hw:∀ b,S b→S' b∧w'.heap[b]?=w.heap[b]?):xV S' w' r x :=
 ⟨h.1,h.2.1,h.2.2.1,h.2.2.2.1.carry hw,h.2.2.2.2.carry hw⟩
theorem xV.bounded {S:Nat→Prop}{w:World}{r:Rw}{x:Nd}(h:xV S w r x):xV (fun b=>S b∧b<w.heap.size) w r x :=
 ⟨h.1,h.2.1,h.2.2.1,h.2.2.2.1.bounded,h.2.2.2.2.bounded⟩
theorem Laid.carry {S S':Nat→Prop}{w w':World}{ms ms':List Rw}{at':Nat}{L:List Nd}(h:Laid S w ms at' L)(hw:∀ b,S b→b<w.heap.size→S' b∧w'.heap[b]?=w.heap[b]?)(hm:∀ i,at'≤i→i<at'+L.length→ms'[i]?=ms[i]?):Laid S' w' ms' at' L:=by
 intro i x hx;obtain ⟨r,hr,hR⟩:=h i x hx
 have hi:i<L.length:=by
  rcases Nat.lt_or_ge i L.length with h'|h'
  · exact h'
  · rw[List.getElem?_eq_none h']at hx;cases hx
 exact ⟨r,by rw[hm _ (by omega) (by omega)];exact hr,hR.bounded.carry fun b hb=>hw b hb.1 hb.2⟩
theorem Laid.append {S:Nat→Prop}{w:World}{ms:List Rw}{at':Nat}{L M:List Nd}(h:Laid S w ms at' L)(k:Laid S w ms (at'+L.length) M):Laid S w ms at' (L++M):=by
 intro i x hx
 rcases Nat.lt_or_ge i L.length with h'|h'
 · rw[List.getElem?_append_left h']at hx;exact h i x hx
 · rw[List.getElem?_append_right h']at hx
   obtain ⟨r,hr,hR⟩:=k (i-L.length) x hx;exact ⟨r,by rw[show at'+i=at'+L.length+(i-L.length) by omega];exact hr,hR⟩
structure LFr (nb cb:Nat) (w w':World):Prop where
 below:Below 0 w w'
 frame:∀ x,x<w.heap.size→x≠nb→x≠cb→w'.heap[x]?=w.heap[x]?
theorem LFr.trans {nb cb:Nat}{w w1 w2:World}(h:LFr nb cb w w1)(k:LFr nb cb w1 w2):LFr nb cb w w2 :=
 ⟨h.below.trans k.below,fun x hx h1 h2=>by rw[k.frame x (Nat.lt_of_lt_of_le hx h.below.size) h1 h2,h.frame x hx h1 h2]⟩
theorem LFr.later {nb cb:Nat}{w w':World}(h:Below w.heap.size w w'):LFr nb cb w w':=⟨h.mono (nZ9 _),fun x hx _ _=>h.block x hx⟩
theorem LFr.putC (nb cb:Nat)(w:World)(k:Nat)(v:Value):LFr nb cb w (w.setCell ⟨cb,k,none⟩ v):=⟨(Below.refl 0 w).setCell (nZ9 _) _,fun _ _ _ h2=>Below.heap_setCell _ _ _ _ h2⟩
def FewN:Nat→List Tr→Prop
 | 0,_=>True
 | n+1,ts=>∀ t∈ts,t.attrs.length≤1048576∧FewN n t.kids
end Go.Proofs.YtnppmdpmippcoaaGreatDoor
namespace Go.Proofs.YtnppmdpmippcoaaGreatDoor
open Go.RowKit
set_option maxRecDepth 100000
def qbt (ns:List Nd)(i:Nat):Prop:=∀ x,ns[i]?=some x→x.kids.length≤ns.length∧∀ k∈x.kids,(i:Int)<k∧k<ns.length
def Vu (ns:List Nd)(a b:Nat):Prop:=a≤b∧b≤ns.length∧∀ i,a≤i→i<b→qbt ns i
theorem JN {ns:List Nd}{G:Nat→Bool × Nat}(hG:∀ m,(G m).1=true→m<(G m).2∧Vu ns m (G m).2) :
 ∀ (ks:List Int) (m:Nat),m≤ns.length→(qU G ks m).1=true→Vu ns m (qU G ks m).2∧ks.length+m≤(qU G ks m).2∧∀ k∈ks,(m:Int)≤k∧k<(qU G ks m).2:=by
 intro ks
 induction ks with
 | nil=>intro m hm _;exact ⟨⟨nR9 _,hm,fun i h1 h2=>absurd h1 (by have:i<m:=h2;omega)⟩,by simp[qU],by intro k hk;simp at hk⟩
 | cons k ks ih =>
   intro m _ h;unfold qU at h ⊢
   by_cases hc:k=(m:Int)∧(G m).1=true
   · rw[if_pos hc]at h ⊢
     obtain ⟨h1,h2,h3,h4⟩:=hG m hc.2;obtain ⟨⟨k1,k2,k3⟩,k4,k5⟩:=ih (G m).2 h3 h;refine ⟨⟨by omega,k2,fun i hi1 hi2=>?_⟩,by simp;omega,fun k' hk'=>?_⟩
     · rcases Nat.lt_or_ge i (G m).2 with h' | h'
       · exact h4 i hi1 h'
       · exact k3 i h' hi2
     · rw[List.mem_cons]at hk'
       rcases hk' with rfl|hk'
       · rw[hc.1];omega
       · have:=k5 k' hk';omega
   · rw[if_neg hc]at h;simp at h
theorem ordF_seg:∀ (f:Nat)(ns:List Nd)(par:Int)(nx:Nat),(ordF f ns par nx).1=true→nx<(ordF f ns par nx).2∧Vu ns nx (ordF f ns par nx).2:=by
 intro f
 induction f with
 | zero=>intro ns par nx h;simp[ordF]at h
 | succ f ih =>
   intro ns par nx h;unfold ordF at h ⊢
   cases hx:ns[nx]? with
   | none=>simp[hx]at h
   | some x =>
     simp only[hx]at h ⊢
     have hlt:nx<ns.length:=by
      rcases Nat.lt_or_ge nx ns.length with h'|h'
      · exact h'
      · rw[List.getElem?_eq_none h']at hx;cases hx
     by_cases hp:x.parent=par
     · rw[if_pos hp]at h ⊢
       obtain ⟨⟨k1,k2,k3⟩,k4,k5⟩:=JN (fun m hm=>ih ns nx m hm) x.kids (nx+1) (by omega) h
       refine ⟨by omega,by omega,k2,fun i hi1 hi2=>?_⟩
       rcases Nat.lt_or_ge nx i with h'|h'
       · exact k3 i h' hi2
       · have : i = nx := by omega
         subst this;intro y hy;rw[hx]at hy
         cases hy;refine ⟨by omega,fun k hk=>?_⟩
         have:=k5 k hk;omega
     · rw[if_neg hp]at h;simp at h
theorem Zu {f:Nat}{ns:List Nd}(h:ordF f ns (-1) 0=(true,ns.length))(hl:ns.length≤80)(ha:∀ x∈ns,x.attrs.length≤4398046511104):Vv ns:=by
 have h1:=ordF_seg f ns (-1) 0 (by rw[h])
 rw[h]at h1
 intro n x hx
 have hlt:n<ns.length:=by
  rcases Nat.lt_or_ge n ns.length with h'|h'
  · exact h'
  · rw[List.getElem?_eq_none h']at hx;cases hx
 obtain ⟨k1,k2⟩:=h1.2.2.2 n (nZ9 _) hlt x hx;exact ⟨ha x (List.mem_of_getElem? hx),by omega,k2⟩
def y6 (ns:List Nd):Prop:=∀ x∈ns,x.s.size≤maxLen∧∀ y∈x.attrs,y.1.size≤maxLen∧y.2.size≤maxLen
theorem Xu {ns:List Nd}(h:y6 ns):∀ (f n:Nat),Za (growF f ns n)∧TextsN f (growF f ns n).kids:=by
 intro f
 induction f with
 | zero=>intro n;exact ⟨⟨nZ9 _,by intro y hy;simp[growF]at hy⟩,trivial⟩
 | succ f ih =>
   intro n;rw[growF];cases hx:ns[n]? with
   | none=>exact ⟨⟨nZ9 _,by intro y hy;simp at hy⟩,by intro t ht;simp at ht⟩
   | some x =>
     refine ⟨h x (List.mem_of_getElem? hx),fun t ht=>?_⟩
     simp only[List.mem_map]at ht
     obtain ⟨k,_,rfl⟩:=ht;exact ih _
end Go.Proofs.YtnppmdpmippcoaaGreatDoor
namespace Go.Proofs.YtnppmdpmippcoaaGreatDoor
open Go.ChangeShapes Go.WideShapes Go.ChangeAt Go.RowKit
set_option maxRecDepth 100000
section
attribute [local go_sem] qD
def jw (ns:List Nd):Bool:=(ordF (ns.length+1) ns (-1) 0).1&&decide ((ordF (ns.length+1) ns (-1) 0).2=ns.length)
def qM (ns:List Nd):Bool:=decide (ns.length≤80)&&jw ns&&zh (growF ns.length ns 0)
theorem y7 {ns:List Nd}(h:jw ns=true):ordF (ns.length+1) ns (-1) 0=(true,ns.length):=by
 simp only[jw,Bool.and_eq_true,decide_eq_true_eq]at h
 exact Prod.ext h.1 h.2
theorem Qd {ns:List Nd}(h:jw ns=true):0<ns.length:=by
 have h1:=ordF_seg (ns.length+1) ns (-1) 0 (by rw[y7 h])
 rw[y7 h]at h1
 exact h1.1
set_option maxHeartbeats 1000000 in
theorem KQ (S:Nat→Prop)(v:Value)(ns:List Nd)(w:World)(hN:qK S w v ns)(hS:∀ b,S b→b<w.heap.size)(ha:∀ x∈ns,x.attrs.length≤4398046511104)(hx:y6 ns) :
 Calls Tryz.prog 19 #[.agg #[v]] w fun e w'=>e=.returned (.bool (qM ns))∧Below w.heap.size w w':=by
 obtain ⟨a,cap,rfl,hlc,hcm⟩:=hN.shape;unfold maxLen at hcm
 have HG:Hid (qM ns=(decide (ns.length≤80)&&jw ns&&zh (growF ns.length ns 0))):=rfl
 by_cases h80:ns.length≤80
 · have hi80 : ¬ (80 : Int) < (ns.length : Int) := by omega
   have HG2:Hid (qM ns=(jw ns&&zh (growF ns.length ns 0))):=by show _=_;rw[HG.out];simp[h80]
   clear HG;have hb2:Below w.heap.size w ((w.alloc (.cells #[.slice a ns.length cap] 24)).alloc (.cells #[.int .i64 0] 3)):=(Below.alloc1 w _).alloc (by simp) _
   have hC2:Cnt (w.heap.size+1) 0 ((w.alloc (.cells #[.slice a ns.length cap] 24)).alloc (.cells #[.int .i64 0] 3)):=by
    have e:=heap_alloc_new (w.alloc (.cells #[.slice a ns.length cap] 24)) (.cells #[.int .i64 0] 3);rw[World.size_alloc]at e
    exact e
   have hx2:((w.alloc (.cells #[.slice a ns.length cap] 24)).alloc (.cells #[.int .i64 0] 3)).heap[w.heap.size]?=some (.cells #[.slice a ns.length cap] 24 (0,0)):=by
    rw[Lib.alloc_old _ _ _ (by simp)];exact heap_alloc_new _ _
   have HO:Hid _:=qa8 (ns.length+1) S _ ns (-1) (w.heap.size+1) 0 _ (hN.later hb2) (fun b hb=>by have:=hS b hb;omega) hC2 h80 (by omega)
   have HN:Hid (qK S w (.slice a ns.length cap) ns):=hN;have HA:Hid (∀ x∈ns,x.attrs.length≤4398046511104):=ha;have HX:Hid (y6 ns):=hx;have HS:Hid (∀ b,S b→b<w.heap.size):=hS;have HOR:Hid (jw ns=((ordF (ns.length+1) ns (-1) 0).1&&decide ((ordF (ns.length+1) ns (-1) 0).2=ns.length))):=rfl;clear hN hC2 ha hx hS
   go_enter Tryz.func19,Tryz.ntmps19
   go_wp2_with fail;refine (Calls.mono HO.out ?_);rintro e w3 ⟨rfl,hC3,hF3⟩
   have hx3:w3.heap[w.heap.size]?=some (.cells #[.slice a ns.length cap] 24 (0,0)):=by
    rw[hF3.frame w.heap.size (by simp;omega) (by omega)];exact hx2
   have hB3:Below w.heap.size w w3:=⟨hF3.below.os.trans hb2.os,hF3.below.tape.trans hb2.tape,hF3.below.output.trans hb2.output,Nat.le_trans hb2.size hF3.below.size,fun k hk=>by rw[hF3.frame k (by simp;omega) (by omega)];exact hb2.block k hk⟩
   have d0:w3.cell? ⟨w.heap.size,0,none⟩=some (.slice a ns.length cap):=by rw[cH9 hx3];rfl
   have e0:=hC3.c0;have hlt3:=qA hx3;clear HO hb2 hx2 hF3;obtain ⟨q,hq⟩:∃ q,ordF (ns.length+1) ns (-1) 0=q:=⟨_,rfl⟩;rw[hq]at HOR e0 hC3 ⊢
   have HQ:Hid (ordF (ns.length+1) ns (-1) 0=q):=hq;clear hq;obtain ⟨q1,q2⟩:=q;simp only at HOR e0 hC3 ⊢
   cases q1 with
   | false =>
     have HE:Hid (qM ns=false):=by show _=_;rw[HG2.out,HOR.out];rfl
     clear HG2 HOR;go_wp2_with fail;go_ret;exact ⟨by rw[HE.out];rfl,hB3⟩
   | true =>
     by_cases hql:q2=ns.length
     · have hne : ((q2 : Int) != (ns.length : Int)) = false := by simp[hql]
       have hor:jw ns=true:=by rw[HOR.out,hql];simp
       have HE:Hid (qM ns=zh (growF ns.length ns 0)):=by show _=_;rw[HG2.out,hor];rfl
       have hpos:=Qd hor;have HGR:Hid _:=KR ns.length S _ ns 0 w3 (HN.out.later hB3) (Zu (y7 hor) h80 HA.out) hpos (by omega)
       have HTX:Hid (TextsN (ns.length+1) [growF ns.length ns 0]):=by
        intro t ht;simp only[List.mem_singleton]at ht
        subst ht;exact Xu HX.out _ _
       clear HG2 HOR hor hql;go_wp2_with fail;refine (Calls.mono HGR.out ?_);rintro e w4 ⟨va4,vk4,rfl,hA4,hK4,hb4⟩;have hB4:Below w.heap.size w w4:=hB3.trans (hb4.mono hB3.size);have HGD:Hid _:=Jq _ ns.length _ _ (growF ns.length ns 0) w4 hA4 hK4 HTX.out;obtain ⟨aa,ac,rfl⟩:=hA4.shape;obtain ⟨ka,kc,rfl,_,_⟩:=qw.shape ns.length hK4;clear hA4 hK4 HGR;go_wp2_with fail;refine (Calls.mono HGD.out ?_);rintro e w5 ⟨rfl,hb5⟩;have hB5:Below w.heap.size w w5:=hB4.trans (hb5.mono hB4.size);go_wp2_with fail;go_ret;exact ⟨by rw[HE.out];rfl,hB5⟩
     · have hne : ((q2 : Int) != (ns.length : Int)) = true := by simp;omega
       have HE:Hid (qM ns=false):=by show _=_;rw[HG2.out,HOR.out];simp[hql]
       clear HG2 HOR hql;go_wp2_with fail;go_ret;exact ⟨by rw[HE.out];rfl,hB3⟩
 · have hi80 : (80 : Int) < (ns.length : Int) := by omega
   have HE:Hid (qM ns=false):=by show _=_;rw[HG.out];simp[h80]
   clear HG hN
   go_enter Tryz.func19,Tryz.ntmps19
   go_wp2_with fail;go_ret;exact ⟨by rw[HE.out];rfl,Below.alloc1 _ _⟩
end
section
attribute [local go_sem] qD
structure QF (S:Nat→Prop) (w:World) (v:Value) (ns:List Nd):Prop where
 nodes:qK S w v ns
 here:∀ b,S b→b<w.heap.size
 few:∀ x∈ns,x.attrs.length≤4398046511104
 short:y6 ns
theorem QF.later {S:Nat→Prop}{w w':World}{v:Value}{ns:List Nd}(h:QF S w v ns)(hb:Below w.heap.size w w'):QF S w' v ns :=
 ⟨h.nodes.later hb,fun b hb'=>Nat.lt_of_lt_of_le (h.here b hb') hb.size,h.few,h.short⟩
def Ys (ns:List Nd)(n:Int):Bool:=decide (0≤n)&&decide (n<ns.length)
def xT (ns:List Nd)(n:Int):Int:=if qM ns&&Ys ns n then (lastF ns.length ns n.toNat:Int)+1 else 0
end
end Go.Proofs.YtnppmdpmippcoaaGreatDoor
namespace Go.Proofs.YtnppmdpmippcoaaGreatDoor
open Go.RowKit
set_option maxRecDepth 100000
def Seg (ns:List Nd)(at':Nat)(L:List Nd):Prop:=∀ (i:Nat)(x:Nd),L[i]?=some x→ns[at'+i]?=some x
theorem Seg.left {ns L M:List Nd}{at':Nat}(h:Seg ns at' (L++M)):Seg ns at' L:=by
 intro i x hx;refine h i x ?_
 have hi:i<L.length:=by
  rcases Nat.lt_or_ge i L.length with h'|h'
  · exact h'
  · rw[List.getElem?_eq_none h']at hx;cases hx
 rw[List.getElem?_append_left hi];exact hx
theorem Seg.right {ns L M:List Nd}{at':Nat}(h:Seg ns at' (L++M)):Seg ns (at'+L.length) M:=by
 intro i x hx;have:=h (L.length+i) x (by rw[List.getElem?_append_right (by omega)];rw[show L.length+i-L.length=i by omega];exact hx)
 rw[show at'+L.length+i=at'+(L.length+i) by omega];exact this
theorem Seg.tail {ns L:List Nd}{x:Nd}{at':Nat}(h:Seg ns at' (x::L)):Seg ns (at'+1) L:=by
 intro i y hy;have:=h (i+1) y (by simpa using hy)
 rw[show at'+1+i=at'+(i+1) by omega];exact this
theorem yR {d:Nat}{t:Tr}(h:Deep d t.kids)(par:Int)(nx:Nat):layF d t par nx=⟨t.text,t.s,t.attrs,par,qB (d-1) (nx+1) t.kids⟩::qG (d-1) (layF (d-1)) nx (nx+1) t.kids:=by
 cases d with
 | zero =>
   have e:t.kids=[]:=h;rw[e];rfl
 | succ d=>rfl
theorem ord_lay:∀ (d:Nat)(t:Tr)(f:Nat)(ns:List Nd)(par:Int)(at':Nat),Deep d t.kids→Seg ns at' (layF d t par at')→cnt (d+1) [t]≤f→ordF f ns par at'=(true,at'+cnt (d+1) [t]):=by
 intro d
 induction d with
 | zero =>
   intro t f ns par at' hd hs hf
   have e:t.kids=[]:=hd;rw[qL,e]at hf ⊢
   obtain ⟨f',rfl⟩:∃ f',f=f'+1:=⟨f-1,by omega⟩
   have h0:ns[at']?=some ⟨t.text,t.s,t.attrs,par,[]⟩:=hs 0 _ rfl
   rw[ordF,h0];simp[qU,cnt]
 | succ d ih =>
   intro t f ns par at' hd hs hf
   rw[qL]at hf ⊢
   obtain ⟨f',rfl⟩:∃ f',f=f'+1:=⟨f-1,by omega⟩
   have h0:ns[at']?=some ⟨t.text,t.s,t.attrs,par,qB d (at'+1) t.kids⟩:=hs 0 _ rfl
   have hsk:Seg ns (at'+1) (qG d (layF d) at' (at'+1) t.kids):=Seg.tail hs
   rw[ordF,h0];simp only[if_true]
   have key:∀ (ks:List Tr) (a:Nat),Deep (d+1) ks→Seg ns a (qG d (layF d) at' a ks)→cnt (d+1) ks≤f'→qU (ordF f' ns at') (qB d a ks) a=(true,a+cnt (d+1) ks):=by
    intro ks
    induction ks with
    | nil=>intro a _ _ _;simp[qB,qU,cnt]
    | cons k ks ihk =>
      intro a hdk hsg hc;rw[qZ d k ks]at hc ⊢
      rw[qG]at hsg
      have hl:=layF_length d k (at':Int) a (hdk k List.mem_cons_self)
      have h1:=ih k f' ns at' a (hdk k List.mem_cons_self) hsg.left (by omega)
      have h2:=hsg.right;rw[hl]at h2
      rw[qB,qU,h1,if_pos ⟨rfl,rfl⟩,ihk (a+cnt (d+1) [k]) (fun u hu=>hdk u (List.mem_cons_of_mem _ hu)) h2 (by omega),Nat.add_assoc]
   rw[key t.kids (at'+1) hd hsk (by omega),Nat.add_assoc]
theorem grow_lay:∀ (d:Nat)(t:Tr)(f:Nat)(ns:List Nd)(par:Int)(at':Nat),Deep d t.kids→Seg ns at' (layF d t par at')→cnt (d+1) [t]≤f→growF f ns at'=t:=by
 intro d
 induction d with
 | zero =>
   intro t f ns par at' hd hs hf
   have e:t.kids=[]:=hd;rw[qL,e]at hf
   obtain ⟨f',rfl⟩:∃ f',f=f'+1:=⟨f-1,by omega⟩
   have h0:ns[at']?=some ⟨t.text,t.s,t.attrs,par,[]⟩:=hs 0 _ rfl
   rw[growF,h0];cases t;simp at e
   subst e;rfl
 | succ d ih =>
   intro t f ns par at' hd hs hf
   rw[qL]at hf
   obtain ⟨f',rfl⟩:∃ f',f=f'+1:=⟨f-1,by omega⟩
   have h0:ns[at']?=some ⟨t.text,t.s,t.attrs,par,qB d (at'+1) t.kids⟩:=hs 0 _ rfl
   have hsk:Seg ns (at'+1) (qG d (layF d) at' (at'+1) t.kids):=Seg.tail hs
   rw[growF,h0]
   have key:∀ (ks:List Tr) (a:Nat),Deep (d+1) ks→Seg ns a (qG d (layF d) at' a ks)→cnt (d+1) ks≤f'→(qB d a ks).map (fun k=>growF f' ns k.toNat)=ks:=by
    intro ks
    induction ks with
    | nil=>intro a _ _ _;rfl
    | cons k ks ihk =>
      intro a hdk hsg hc;rw[qZ d k ks]at hc
      rw[qG]at hsg
      have hl:=layF_length d k (at':Int) a (hdk k List.mem_cons_self)
      have h1:=ih k f' ns at' a (hdk k List.mem_cons_self) hsg.left (by omega)
      have h2:=hsg.right;rw[hl]at h2
      rw[qB,List.map_cons,ihk (a+cnt (d+1) [k]) (fun u hu=>hdk u (List.mem_cons_of_mem _ hu)) h2 (by omega)]
      rw[Int.toNat_natCast,h1]
   simp only[key t.kids (at'+1) hd hsk (by omega)]
   cases t;rfl
theorem JZ {d:Nat}:∀ (ks:List Tr)(a:Nat)(k:Tr),(qB d a (ks++[k])).getLast?=some ((a+cnt (d+1) ks:Nat):Int):=by
 intro ks a k;rw[yM];simp[qB]
theorem last_lay:∀ (d:Nat)(t:Tr)(f:Nat)(ns:List Nd)(par:Int)(at':Nat),Deep d t.kids→Seg ns at' (layF d t par at')→cnt (d+1) [t]≤f→lastF f ns at'+1=at'+cnt (d+1) [t]:=by
 intro d
 induction d with
 | zero =>
   intro t f ns par at' hd hs hf
   have e:t.kids=[]:=hd;rw[qL,e]at hf ⊢
   obtain ⟨f',rfl⟩:∃ f',f=f'+1:=⟨f-1,by omega⟩
   have h0:ns[at']?=some ⟨t.text,t.s,t.attrs,par,[]⟩:=hs 0 _ rfl
   rw[lastF,h0];simp[cnt]
 | succ d ih =>
   intro t f ns par at' hd hs hf
   rw[qL]at hf ⊢
   obtain ⟨f',rfl⟩:∃ f',f=f'+1:=⟨f-1,by omega⟩
   have h0:ns[at']?=some ⟨t.text,t.s,t.attrs,par,qB d (at'+1) t.kids⟩:=hs 0 _ rfl
   have hsk:Seg ns (at'+1) (qG d (layF d) at' (at'+1) t.kids):=Seg.tail hs
   rw[lastF,h0];simp only
   rcases List.eq_nil_or_concat t.kids with he|⟨ks,k,he⟩
   · rw[he];simp[qB,cnt]
   · rw[List.concat_eq_append]at he
     rw[he]at hf hsk ⊢
     have hdk:Deep (d+1) (ks++[k]):=by rw[←he];exact hd
     have happ:cnt (d+1) (ks++[k])=cnt (d+1) ks+cnt (d+1) [k]:=by simp[cnt]
     rw[JZ];simp only[Int.toNat_natCast];rw[jh]at hsk
     have hl:(qG d (layF d) at' (at'+1) ks).length=cnt (d+1) ks:=by
      have:∀ (ts:List Tr) (a:Nat),Deep (d+1) ts→(qG d (layF d) at' a ts).length=cnt (d+1) ts:=by
       intro ts
       induction ts with
       | nil=>intro _ _;rfl
       | cons u ts ih2 =>
         intro a hd2;rw[qG,List.length_append,layF_length d u _ _ (hd2 u List.mem_cons_self),ih2 _ (fun x hx=>hd2 x (List.mem_cons_of_mem _ hx)),qZ d u ts]
      exact this _ _ (fun u hu=>hdk u (List.mem_append_left _ hu))
     have h2:=hsk.right;rw[hl]at h2
     have h3:qG d (layF d) at' (at'+1+cnt (d+1) ks) [k]=layF d k at' (at'+1+cnt (d+1) ks):=by simp[qG]
     rw[h3]at h2
     have:=ih k f' ns at' (at'+1+cnt (d+1) ks) (hdk k (by simp)) h2 (by omega)
     omega
theorem ZC (L:List Nd):Seg L 0 L:=by intro i x hx;rw[Nat.zero_add];exact hx
theorem Seg.nil (ns:List Nd)(a:Nat):Seg ns a []:=by intro i x hx;simp at hx
theorem Seg.append {ns L M:List Nd}{a:Nat}(h:Seg ns a L)(k:Seg ns (a+L.length) M):Seg ns a (L++M):=by
 intro i x hx
 rcases Nat.lt_or_ge i L.length with h'|h'
 · rw[List.getElem?_append_left h']at hx;exact h i x hx
 · rw[List.getElem?_append_right h']at hx
   have:=k (i-L.length) x hx;rw[show a+L.length+(i-L.length)=a+i by omega]at this
   exact this
theorem Seg.cons {ns L:List Nd}{x:Nd}{a:Nat}(h:ns[a]?=some x)(k:Seg ns (a+1) L):Seg ns a (x::L):=by
 intro i y hy;cases i with
 | zero=>simp at hy;subst hy;exact h
 | succ i =>
   have:=k i y (by simpa using hy)
   rw[show a+(i+1)=a+1+i by omega];exact this
theorem ord_conv:∀ (f:Nat)(ns:List Nd)(par:Int)(nx:Nat),(ordF f ns par nx).1=true→∃ t:Tr,Deep f t.kids∧Seg ns nx (layF f t par nx)∧(ordF f ns par nx).2=nx+cnt (f+1) [t]:=by
 intro f
 induction f with
 | zero=>intro ns par nx h;simp[ordF]at h
 | succ f ih =>
   intro ns par nx h;rw[ordF]at h ⊢
   cases hx:ns[nx]? with
   | none=>simp[hx]at h
   | some x =>
     simp only[hx]at h ⊢
     by_cases hp:x.parent=par
     · rw[if_pos hp]at h ⊢
       have key:∀ (ks:List Int) (a:Nat),(qU (ordF f ns nx) ks a).1=true→∃ ts:List Tr,(∀ k∈ts,Deep f k.kids)∧ks=qB f a ts∧Seg ns a (qG f (layF f) nx a ts)∧(qU (ordF f ns nx) ks a).2=a+cnt (f+1) ts:=by
        intro ks
        induction ks with
        | nil=>intro a _;exact ⟨[],by simp,rfl,Seg.nil _ _,by simp[qU,qQ]⟩
        | cons k ks ihk =>
          intro a hk;rw[qU]at hk ⊢
          by_cases hc:k=(a:Int)∧(ordF f ns nx a).1=true
          · rw[if_pos hc]at hk ⊢
            obtain ⟨t,ht1,ht2,ht3⟩:=ih ns nx a hc.2;rw[ht3]at hk ⊢
            obtain ⟨ts,hd,he,hs,hn⟩:=ihk _ hk;refine ⟨t::ts,?_,?_,?_,?_⟩
            · intro u hu;rw[List.mem_cons]at hu
              rcases hu with rfl|hu
              · exact ht1
              · exact hd u hu
            · rw[qB,←he,hc.1]
            · rw[qG];refine Seg.append ht2 ?_;rw[layF_length f t nx a ht1];exact hs
            · rw[hn,qZ f t ts];omega
          · rw[if_neg hc]at hk;cases hk
       obtain ⟨ts,hd,he,hs,hn⟩:=key x.kids (nx+1) h;refine ⟨⟨x.text,x.s,x.attrs,ts⟩,hd,?_,?_⟩
       · rw[layF];refine Seg.cons ?_ hs;rw[hx];obtain ⟨xt,xs,xa,xp,xk⟩:=x;simp only at hp he
         rw[hp,he]
       · rw[hn,qL];show nx+1+cnt (f+1) ts=nx+(1+cnt (f+1) ts);omega
     · rw[if_neg hp]at h;cases h
def Sub (ns:List Nd)(j c:Nat)(par:Int):Prop:=∃ (d:Nat)(t:Tr),Deep d t.kids∧Seg ns j (layF d t par j)∧c=cnt (d+1) [t]
theorem VM {ns:List Nd}(hg:qM ns=true){j:Nat}(hj:j<ns.length):xT ns (j:Int)=(lastF ns.length ns j:Int)+1:=by
 unfold xT Ys;have h1:(0:Int)≤j:=by omega
 have h2:(j:Int)<ns.length:=by omega
 simp[hg,h1,h2]
theorem Seg.in {ns L:List Nd}{a:Nat}(h:Seg ns a L)(hne:0<L.length):a+L.length≤ns.length:=by
 have h1:L[L.length-1]?=some (L[L.length-1]'(by omega)):=List.getElem?_eq_getElem (by omega)
 have h2:=h _ _ h1
 rcases Nat.lt_or_ge (a+(L.length-1)) ns.length with h'|h'
 · omega
 · rw[List.getElem?_eq_none h']at h2;cases h2
theorem Kz {ns:List Nd}(hg:qM ns=true){j c:Nat}{par:Int}(h:Sub ns j c par)(hj:j<ns.length) :
 (∃ d,Deep d (growF ns.length ns j).kids∧c=cnt (d+1) [growF ns.length ns j])∧xT ns (j:Int)=(j:Int)+(c:Nat)∧j+c≤ns.length∧∃ x,ns[j]?=some x∧x.parent=par:=by
 obtain ⟨d,t,hd,hs,hc⟩:=h;have hlen:=layF_length d t par j hd;have hin:=hs.in (by rw[hlen,qL];omega)
 rw[hlen]at hin
 have hgr:=grow_lay d t ns.length ns par j hd hs (by omega)
 have hla:=last_lay d t ns.length ns par j hd hs (by omega)
 refine ⟨⟨d,by rw[hgr];exact hd,by rw[hgr];exact hc⟩,?_,by omega,?_⟩
 · rw[VM hg hj];omega
 · rw[yR hd]at hs
   exact ⟨_,hs 0 _ rfl,rfl⟩
theorem YO (d:Nat)(t:Tr):rgt (d+1) [t]=(qT t&&(t.text||rgt d t.kids)):=by
 simp[rgt,rgL]
theorem jQ {f:List Tr→Bool}:∀ (l:List Tr)(p:Bool),rgL f p l=true→∀ k∈l,qT k=true∧(k.text||f k.kids)=true:=by
 intro l
 induction l with
 | nil=>intro _ _ k hk;simp at hk
 | cons t r ih =>
   intro p h k hk;simp only[rgL,Bool.and_eq_true]at h
   rw[List.mem_cons]at hk
   rcases hk with rfl|hk
   · exact ⟨h.1.1.1,h.1.2⟩
   · exact ih _ h.2 k hk
theorem xC {t:Tr}(h:qT t=true)(ht:t.text=true):t.kids=[]:=by
 simp only[qT,ht,if_true,Bool.and_eq_true,decide_eq_true_eq]at h
 exact List.length_eq_zero_iff.1 h.2
theorem qbg {d:Nat}{t k:Tr}(h:rgt (d+2) [t]=true)(hk:k∈t.kids):rgt (d+1) [k]=true:=by
 rw[YO]at h ⊢
 simp only[Bool.and_eq_true]at h
 cases ht:t.text with
 | true=>rw[xC h.1 ht]at hk;simp at hk
 | false =>
   have h2:=h.2;rw[ht,Bool.false_or]at h2
   have:=jQ t.kids false h2 k hk;simp only[Bool.and_eq_true];exact this
theorem JI (ns:List Nd):∀ (d:Nat)(t:Tr)(par:Int)(a:Nat),Deep d t.kids→Seg ns a (layF d t par a)→rgt (d+1) [t]=true→∀ j,a≤j→j<a+cnt (d+1) [t] →
 ∃ d' t' par',Deep d' t'.kids∧Seg ns j (layF d' t' par' j)∧rgt (d'+1) [t']=true∧(j=a∧par'=par∨∃ q y,ns[q]?=some y∧par'=((q:Nat):Int)∧q<j∧(j:Int)∈y.kids∧a≤q):=by
 intro d
 induction d with
 | zero =>
   intro t par a hd hs hr j h1 h2;have e:t.kids=[]:=hd;have hc:cnt 1 [t]=1:=by rw[qL,e];rfl
   rw[hc]at h2
   obtain rfl:j=a:=by omega
   exact ⟨0,t,par,hd,hs,hr,Or.inl ⟨rfl,rfl⟩⟩
 | succ d ih =>
   intro t par a hd hs hr j h1 h2
   by_cases hj:j=a
   · subst hj;exact ⟨d+1,t,par,hd,hs,hr,Or.inl ⟨rfl,rfl⟩⟩
   · have h0 : ns[a]? = some ⟨t.text, t.s, t.attrs, par, qB d (a + 1) t.kids⟩ := hs 0 _ rfl;have hsk:Seg ns (a+1) (qG d (layF d) a (a+1) t.kids):=Seg.tail hs
     have key:∀ (ks:List Tr) (b:Nat),(∀ k∈ks,Deep d k.kids)→(∀ k∈ks,rgt (d+1) [k]=true)→Seg ns b (qG d (layF d) a b ks)→a≤b→b≤j→j<b+cnt (d+1) ks →
      ∃ d' t' par',Deep d' t'.kids∧Seg ns j (layF d' t' par' j)∧rgt (d'+1) [t']=true∧((par'=(a:Int)∧(j:Int)∈qB d b ks)∨∃ q y,ns[q]?=some y∧par'=((q:Nat):Int)∧q<j∧(j:Int)∈y.kids∧a≤q):=by
      intro ks
      induction ks with
      | nil=>intro b _ _ _ _ hb1 hb2;rw[qQ]at hb2;omega
      | cons k ks ihk =>
        intro b hdk hrk hsb hab hb1 hb2;rw[qG]at hsb
        have hl:=hsb.left;have hr2:=hsb.right;have hdk0:=hdk k List.mem_cons_self;rw[layF_length d k a b hdk0]at hr2
        rw[qZ]at hb2
        by_cases hjk:j<b+cnt (d+1) [k]
        · obtain ⟨d', t', par', g1, g2, g3, hor⟩ := ih k a b hdk0 hl (hrk k List.mem_cons_self) j hb1 hjk;refine ⟨d',t',par',g1,g2,g3,?_⟩
          rcases hor with ⟨hp1,hp2⟩|hor
          · exact Or.inl ⟨hp2,by rw[qB,hp1];exact List.mem_cons_self⟩
          · obtain ⟨q, y, k1, k2, k3, k4, k5⟩ := hor;exact Or.inr ⟨q,y,k1,k2,k3,k4,by omega⟩
        · obtain ⟨d', t', par', g1, g2, g3, hor⟩ := ihk (b + cnt (d + 1) [k]) (fun u hu => hdk u (List.mem_cons_of_mem _ hu)) (fun u hu => hrk u (List.mem_cons_of_mem _ hu)) hr2 (by omega) (by omega) (by omega)
          refine ⟨d',t',par',g1,g2,g3,?_⟩
          rcases hor with ⟨hp1,hp2⟩|hor
          · exact Or.inl ⟨hp1,by rw[qB];exact List.mem_cons_of_mem _ hp2⟩
          · exact Or.inr hor
     have hc1:cnt (d+1+1) [t]=1+cnt (d+1) t.kids:=qL (d+1) t;obtain ⟨d',t',par',g1,g2,g3,hor⟩:=key t.kids (a+1) hd (fun k hk=>qbg hr hk) hsk (by omega) (by omega) (by omega)
     refine ⟨d',t',par',g1,g2,g3,Or.inr ?_⟩
     rcases hor with ⟨hp1,hp2⟩|hor
     · exact ⟨a,_,h0,hp1,by omega,hp2,nR9 _⟩
     · exact hor
theorem QJ {ns:List Nd}(hg:qM ns=true):∃ (d:Nat)(t:Tr),Deep d t.kids∧Seg ns 0 (layF d t (-1) 0)∧cnt (d+1) [t]=ns.length∧rgt (d+1) [t]=true∧t.text=false∧zh t=true∧growF ns.length ns 0=t:=by
 have hg2:=hg;simp only[qM,Bool.and_eq_true,decide_eq_true_eq]at hg2
 have ho:=y7 hg2.1.2;obtain ⟨t,hd,hs,hn⟩:=ord_conv (ns.length+1) ns (-1) 0 (by rw[ho])
 rw[ho]at hn
 simp only[Nat.zero_add]at hn
 have hgr:=grow_lay _ t ns.length ns (-1) 0 hd hs (by omega)
 have hG:=hg2.2;rw[hgr]at hG
 have hG2:=hG;rw[jY hd]at hG
 simp only[Bool.and_eq_true,Bool.not_eq_true']at hG
 exact ⟨_,t,hd,hs,hn.symm,hG.2,hG.1.1.1,hG2,hgr⟩
structure Fam (ns:List Nd) (j:Nat) (x:Nd):Prop where
 kids:∀ u∈x.kids,∃ (k:Nat) (y:Nd),u=(k:Int)∧j<k∧k<ns.length∧xT ns (k:Int)≤xT ns (j:Int)∧ns[k]?=some y∧y.parent=(j:Int)
 row:x.kids.Pairwise (fun u v=>xT ns u≤v)
 par:(j=0∧x.parent=-1)∨∃ (q:Nat) (y:Nd),ns[q]?=some y∧x.parent=(q:Int)∧q<j∧(j:Int)∈y.kids
 text:x.text=true→x.kids=[]
 name:x.text=false→zI x.s=true
 gt:(j:Int)<xT ns (j:Int)
theorem qy {α:Type}{l:List α}{j:Nat}{x:α}(hx:l[j]?=some x):j<l.length:=by
 rcases Nat.lt_or_ge j l.length with h'|h'
 · exact h'
 · rw[List.getElem?_eq_none h']at hx;cases hx
theorem qa3 {ns:List Nd}(hg:qM ns=true){d j:Nat}{t:Tr}{par:Int}(hd:Deep d t.kids)(hs:Seg ns j (layF d t par j)){x:Nd}(hx:ns[j]?=some x) :
 (∀ u∈x.kids,∃ (k:Nat) (y:Nd),u=(k:Int)∧j<k∧k<ns.length∧xT ns (k:Int)≤xT ns (j:Int)∧ns[k]?=some y∧y.parent=(j:Int))∧x.kids.Pairwise (fun u v=>xT ns u≤v)∧(j:Int)<xT ns (j:Int):=by
 have hj:=qy hx;obtain ⟨_,he,hl,_⟩:=Kz hg ⟨d,t,hd,hs,rfl⟩ hj;have hh:=yR hd par j
 have hx2:x=⟨t.text,t.s,t.attrs,par,qB (d-1) (j+1) t.kids⟩:=by
  have:=hs 0 _ (by rw[hh];rfl)
  rw[Nat.add_zero,hx]at this
  exact Option.some.inj this
 have hgt:(j:Int)<xT ns (j:Int):=by rw[he,qL];omega
 cases d with
 | zero =>
   have e:t.kids=[]:=hd;have ek:x.kids=[]:=by rw[hx2,e];rfl
   rw[ek];exact ⟨by simp,List.Pairwise.nil,hgt⟩
 | succ e =>
   have hsk:Seg ns (j+1) (qG e (layF e) j (j+1) t.kids):=Seg.tail hs
   have key:∀ (ks:List Tr) (b:Nat),(∀ k∈ks,Deep e k.kids)→Seg ns b (qG e (layF e) j b ks)→b+cnt (e+1) ks≤ns.length →
    (qB e b ks).Pairwise (fun u v=>xT ns u≤v)∧∀ u∈qB e b ks,∃ (k:Nat) (y:Nd),u=(k:Int)∧b≤k∧k<ns.length∧xT ns (k:Int)≤((b+cnt (e+1) ks:Nat):Int)∧ns[k]?=some y∧y.parent=(j:Int):=by
    intro ks
    induction ks with
    | nil=>intro b _ _ _;exact ⟨List.Pairwise.nil,by simp[qB]⟩
    | cons k ks ihk =>
      intro b hdk hsb hle;rw[qG]at hsb
      have hl1:=hsb.left;have hr2:=hsb.right;have hdk0:=hdk k List.mem_cons_self;rw[layF_length e k j b hdk0]at hr2
      rw[qZ]at hle ⊢
      have hc1:=qL e k;obtain ⟨_,heb,_,y,hy,hyp⟩:=Kz hg ⟨e,k,hdk0,hl1,rfl⟩ (by omega)
      obtain ⟨hP,hM⟩:=ihk (b+cnt (e+1) [k]) (fun u hu=>hdk u (List.mem_cons_of_mem _ hu)) hr2 (by omega)
      rw[qB];refine ⟨List.Pairwise.cons (fun v hv=>?_) hP,fun u hu=>?_⟩
      · obtain ⟨k2, _, rfl, hk2, _⟩ := hM v hv;rw[heb];omega
      · rw[List.mem_cons]at hu
        rcases hu with rfl|hu
        · exact ⟨b,y,rfl,nR9 _,by omega,by rw[heb];omega,hy,hyp⟩
        · obtain ⟨k2, y2, g1, g2, g3, g4, g5⟩ := hM u hu;exact ⟨k2,y2,g1,by omega,g3,by omega,g5⟩
   have hc:=qL (e+1) t;obtain ⟨hP,hM⟩:=key t.kids (j+1) hd hsk (by omega)
   have ek:x.kids=qB e (j+1) t.kids:=by rw[hx2];rfl
   rw[ek];refine ⟨fun u hu=>?_,hP,hgt⟩
   obtain ⟨k2,y2,g1,g2,g3,g4,g5⟩:=hM u hu;exact ⟨k2,y2,g1,by omega,g3,by rw[he];omega,g5⟩
theorem zo {ns:List Nd}(hg:qM ns=true){j:Nat}{x:Nd}(hx:ns[j]?=some x):Fam ns j x:=by
 have hj:=qy hx;obtain ⟨d,t,hd,hs,hn,hr,_,_,_⟩:=QJ hg;obtain ⟨d',t',par',g1,g2,g3,hor⟩:=JI ns d t (-1) 0 hd hs hr j (nZ9 _) (by omega)
 obtain ⟨k1,k2,k3⟩:=qa3 hg g1 g2 hx
 have hx2:x=⟨t'.text,t'.s,t'.attrs,par',qB (d'-1) (j+1) t'.kids⟩:=by
  have:=g2 0 _ (by rw[yR g1 par' j];rfl)
  rw[Nat.add_zero,hx]at this
  exact Option.some.inj this
 rw[YO]at g3
 simp only[Bool.and_eq_true]at g3
 refine ⟨k1,k2,?_,?_,?_,k3⟩
 · rcases hor with ⟨h1, h2⟩ | ⟨q, y, h1, h2, h3, h4, _⟩
   · exact Or.inl ⟨h1,by rw[hx2];exact h2⟩
   · exact Or.inr ⟨q,y,h1,by rw[hx2];exact h2,h3,h4⟩
 · intro ht;have ht':t'.text=true:=by rw[hx2]at ht;exact ht
   rw[hx2,xC g3.1 ht'];rfl
 · intro ht;have ht':t'.text=false:=by rw[hx2]at ht;exact ht
   have h1:=g3.1;simp[qT,ht']at h1
   rw[hx2];exact h1.1
end Go.Proofs.YtnppmdpmippcoaaGreatDoor
namespace Go.Proofs.YtnppmdpmippcoaaGreatDoor
open Go.ChangeShapes Go.WideShapes Go.ChangeAt Go.RowKit
set_option maxRecDepth 100000
section
attribute [local go_sem] qD
end
section
attribute [local go_sem] qD
theorem intInfo:(Tryz.prog.info? 3).map (fun i=>(i.zero,i.size,i.bytes))=some (some (.int .i64 0),1,8):=by kernel_rfl
theorem xF {ops:Array Oper}{o:Oper}{a:Act}{w:World}{K:Act→World→Prop}{Q:Exit→Act→World→Prop}{E:Prop}
 (hg:o.guard=none) (s x:Operand) (hop:o.op=Op.call { callee:=Callee.builtin Builtin.append,args:=#[s,x],argTypes:=#[41,41] })
 (B:Nat) (v:Value) (n:Nat) (xs:List Value) (hs:a.eval s=v) (hown:w.ownsRow B 3 1 v n xs) (ad:Addr) (k:Int) (hx:a.eval x=.slice (some ad) 1 1)
 (hnews:∀ j u,[Value.int .i64 k][j]?=some u→w.cell? (ad.add j)=some u) (hn:n≤1048576) (hB:B≤w.heap.size)
 (hK:∀ v' w',w'.ownsRow B 3 1 v' (n+1) (xs++[.int .i64 k])→w.grownBy w' v.ownBlock→(v'.ownBlock=v.ownBlock∨v'.ownBlock=some w.heap.size)→K (a.put o.dst v') w') :
 if Region.wanted o (yielded ops a.tmps)=true then Oper.wp Tryz.prog o a w K Q else E:=by
 have hw:Region.wanted o (yielded ops a.tmps)=true:=by simp[Region.wanted,hg]
 rw[if_pos hw];obtain ⟨i0,hi,hz0,hz1,hz2⟩:=info_parts intInfo;obtain ⟨v',w',hr,h2,h3,_,h5⟩:=run_append_own_at (P:=Tryz.prog) w B 41 o.type 3 i0 _ 1 8 Tryz.underlying41 hi hz0 hz1 hz2 rfl (by decide) v n xs hown ad 1 1 [.int .i64 k] rfl hnews (by intro u hu;simp at hu;subst hu;rfl) (by unfold maxLen;omega) (by omega) hB
 unfold Oper.wp;simp[execOp,hop,resolve,invoke,builtin,hs,hx,hr,Result.andThen];exact hK v' w' h2 h3 h5
def Kb (d:Nat):Prop:=∀ (S:Nat→Prop)(va vk:Value)(t:Tr)(par:Int)(nb cb nx:Nat)(ms:List Rw)(w:World),qC S w va t.attrs→qw S w d vk t.kids→(∀ b,S b→b<w.heap.size∧b≠nb∧b≠cb)→nb≠cb→Row nb ms w→Cnt cb nx w →
 nx+cnt (d+1) [t]≤ms.length→ms.length≤80→FewN (d+1) [t] →
 Calls Tryz.prog 72 #[.slice (some ⟨nb,0,none⟩) ms.length ms.length,.agg #[.bool t.text,.string t.s,va,vk],.int .i64 par,.pointer (some ⟨cb,0,none⟩)] w fun e w'=>e=.returned (.tuple #[]) ∧
  ∃ ms',Row nb ms' w'∧ms'.length=ms.length∧Cnt cb (nx+cnt (d+1) [t]) w'∧(∀ i,i<nx∨nx+cnt (d+1) [t]≤i→ms'[i]?=ms[i]?)∧Laid (fun b=>w.heap.size≤b) w' ms' nx (layF d t par nx)∧LFr nb cb w w'
structure LS (w:World) (nb cb nx d:Nat) (t:Tr) (par:Int) (ms:List Rw) (bx:Array Value) (M:Nat) (va:Value) (i j:Nat) (v:Value) (mi:List Rw) (W:World):Prop where
 row:Row nb mi W
 len:mi.length=ms.length
 num:Cnt cb (nx+1+cnt d (t.kids.take j)) W
 old:∀ l,l<nx∨nx+cnt (d+1) [t]≤l→mi[l]?=ms[l]?
 me:mi[nx]?=some ⟨t.text,t.s,va,par,v⟩
 own:W.ownsRow M 3 1 v i ((qB (d-1) (nx+1) (t.kids.take i)).map fun k=>Value.int .i64 k)
 att:qC (fun b=>w.heap.size≤b∧b<M) W va t.attrs
 laid:Laid (fun b=>w.heap.size≤b∧v.ownBlock≠some b) W mi (nx+1) (qG (d-1) (layF (d-1)) nx (nx+1) (t.kids.take j))
 box:W.heap[w.heap.size]?=some (.cells bx 56 (0,0))
 fr:LFr nb cb w W
 le:M≤W.heap.size
 lo:w.heap.size<M
theorem Qp {d:Nat}{ts:List Tr}{i:Nat}{k:Tr}(hk:ts[i]?=some k):cnt (d+1) (ts.take (i+1))=cnt (d+1) (ts.take i)+cnt (d+1) [k]∧cnt (d+1) (ts.take i)+cnt (d+1) [k]≤cnt (d+1) ts:=by
  have hi:i<ts.length:=by
    rcases Nat.lt_or_ge i ts.length with h'|h'
    · exact h'
    · rw[List.getElem?_eq_none h']at hk;cases hk
  have e1:ts.take (i+1)=ts.take i++[k]:=by
    rw[List.take_succ_eq_append_getElem hi];congr 2;simpa[hi] using hk
  have e2:ts=ts.take (i+1)++ts.drop (i+1):=(List.take_append_drop _ _).symm;have happ:∀ a b:List Tr,cnt (d+1) (a++b)=cnt (d+1) a+cnt (d+1) b:=by intro a b;simp[cnt]
  refine ⟨by rw[e1,happ],?_⟩
  have h3 : cnt (d + 1) ts = cnt (d + 1) (ts.take (i + 1)) + cnt (d + 1) (ts.drop (i + 1)) := by conv => lhs;rw[e2]
                                                                                                 exact happ _ _
  rw[h3,e1,happ];omega
theorem xP {ts:List Tr}{i:Nat}{k:Tr}(hk:ts[i]?=some k):ts.take (i+1)=ts.take i++[k]:=by
 have hi:i<ts.length:=by
  rcases Nat.lt_or_ge i ts.length with h'|h'
  · exact h'
  · rw[List.getElem?_eq_none h']at hk;cases hk
 rw[List.take_succ_eq_append_getElem hi];congr 2;simpa[hi] using hk
theorem KZ {w:World}{nb cb nx d:Nat}{t:Tr}{par:Int}{ms:List Rw}{bx:Array Value}{M:Nat}{va:Value}{i:Nat}{v v':Value}{mi:List Rw}{wr w6:World}{k:Tr}{X Y:Obj}
 (hL:LS w nb cb nx (d+1) t par ms bx M va i i v mi wr) (hk:t.kids[i]?=some k) (hnl:nb<w.heap.size) (hcl:cb<w.heap.size) (hnc:nb≠cb)
 (hown:w6.ownsRow M 3 1 v' (i+1) ((qB d (nx+1) (t.kids.take i)).map (fun k=>Value.int .i64 k)++[.int .i64 ((nx+1+cnt (d+1) (t.kids.take i):Nat):Int)]))
 (hgr:((wr.alloc Y).alloc X).drew.grownBy w6 v.ownBlock) (hat:v'.ownBlock=v.ownBlock∨v'.ownBlock=some ((wr.alloc Y).alloc X).drew.heap.size) :
 LS w nb cb nx (d+1) t par ms bx M va (i+1) i v' (mi.set nx ⟨t.text,t.s,va,par,v'⟩) (w6.setCell ⟨nb,nx*5+4,none⟩ v')∧(∀ b,b<wr.heap.size→b<M→b≠nb→(w6.setCell ⟨nb,nx*5+4,none⟩ v').heap[b]?=wr.heap[b]?)∧(w6.setCell ⟨nb,nx*5+4,none⟩ v').heap[wr.heap.size]?=some Y∧wr.heap.size<(w6.setCell ⟨nb,nx*5+4,none⟩ v').heap.size:=by
 have hlo:=hL.lo;have hle:=hL.le;have hs6:=hgr.size
 have hsx:((wr.alloc Y).alloc X).drew.heap.size=wr.heap.size+1+1:=by
  show ((wr.alloc Y).alloc X).heap.size=_
  rw[World.size_alloc,World.size_alloc]
 rw[hsx]at hs6
 have hrow:∀ b,v.ownBlock=some b→M≤b∧b<wr.heap.size:=fun b hb=>hL.own.lt b hb
 have hkeep6:∀ b,b<wr.heap.size→v.ownBlock≠some b→w6.heap[b]?=wr.heap[b]?:=by
  intro b h1 h2;rw[hgr.block b (by rw[hsx];omega) (fun e=>h2 e.symm)]
  show ((wr.alloc Y).alloc X).heap[b]?=_
  rw[Lib.alloc_old _ _ _ (by rw[World.size_alloc];omega)]
  exact Lib.alloc_old _ _ _ h1
 have hkeep:∀ b,b<wr.heap.size→b≠nb→v.ownBlock≠some b→(w6.setCell ⟨nb,nx*5+4,none⟩ v').heap[b]?=wr.heap[b]?:=fun b h1 h2 h3=>by rw[qd h2,hkeep6 b h1 h3]
 have hsz:(w6.setCell ⟨nb,nx*5+4,none⟩ v').heap.size=w6.heap.size:=by simp
 have hnv:v.ownBlock≠some nb:=fun e=>by have:=(hrow nb e).1;omega
 have hcv:v.ownBlock≠some cb:=fun e=>by have:=(hrow cb e).1;omega
 have hfr:=hL.fr.below.size;have hr6:Row nb mi w6:=(hkeep6 nb (by omega) hnv).trans hL.row
 have hnx:nx<mi.length:=by
  rcases Nat.lt_or_ge nx mi.length with h'|h'
  · exact h'
  · have:=hL.me;rw[List.getElem?_eq_none h']at this;cases this
 have hvb:v.ownBlock≠some wr.heap.size:=fun e=>by have:=(hrow _ e).2;omega
 have hB6:Below 0 w w6:=((hL.fr.below.alloc (nZ9 _) Y).alloc (nZ9 _) X).drew.grown hgr (nZ9 _) (fun _ _=>nZ9 _)
 refine ⟨⟨hr6.putK hL.me v',by simp[hL.len],?_,?_,?_,?_,?_,?_,?_,⟨hB6.setCell (p:=⟨nb,nx*5+4,none⟩) (nZ9 _) _,?_⟩,by rw[hsz];omega,hlo⟩,?_,?_,by rw[hsz];omega⟩
 · unfold Cnt;rw[hkeep cb (by omega) (fun e=>hnc e.symm) hcv]
   exact hL.num
 · intro l hl;rw[List.getElem?_set_ne (by have:=qL (d+1) t;omega)]
   exact hL.old l hl
 · rw[List.getElem?_set_self hnx]
 · have e:(qB (d+1-1) (nx+1) (t.kids.take (i+1))).map (fun k=>Value.int .i64 k)=(qB d (nx+1) (t.kids.take i)).map (fun k=>Value.int .i64 k)++[.int .i64 ((nx+1+cnt (d+1) (t.kids.take i):Nat):Int)]:=by
    rw[xP hk]
    show (qB d (nx+1) (t.kids.take i++[k])).map _=_
    rw[yM,List.map_append];rfl
   rw[e];refine qF hown fun b hb=>qd ?_
   have:=(hown.lt b hb).1;omega
 · refine hL.att.bounded.carry fun b hb=>⟨hb.1,hkeep b hb.2 (by have:=hb.1.1;omega) (fun e=>by have:=(hrow b e).1;have:=hb.1.2;omega)⟩
 · refine hL.laid.carry (fun b hb hlt => ⟨⟨hb.1, fun e => ?_⟩, hkeep b hlt (by have := hb.1;omega) hb.2⟩) (fun l h1 _ => by rw[List.getElem?_set_ne (by omega)])
   rcases hat with h1|h1
   · exact hb.2 (h1.symm.trans e)
   · rw[h1,hsx]at e;injection e with e;omega
 · rw[hkeep _ (by omega) (by omega) (fun e=>by have:=(hrow _ e).1;omega)];exact hL.box
 · intro b h1 h2 h3;rw[hkeep b (by omega) h2 (fun e=>by have:=(hrow b e).1;omega)]
   exact hL.fr.frame b h1 h2 h3
 · intro b h1 h2 h3;exact hkeep b h1 h3 (fun e=>by have:=(hrow b e).1;omega)
 · rw[qd (by omega), hgr.block _ (by rw[hsx];omega) (fun e => hvb e.symm)]
   show ((wr.alloc Y).alloc X).heap[wr.heap.size]?=_
   rw[Lib.alloc_old _ _ _ (by rw[World.size_alloc];omega)]
   exact heap_alloc_new _ _
theorem K0 {w:World}{nb cb nx d:Nat}{t:Tr}{par:Int}{ms:List Rw}{bx:Array Value}{M:Nat}{va:Value}{i:Nat}{v:Value}{mi mj:List Rw}{w7 w8:World}{k:Tr}
 (hL:LS w nb cb nx (d+1) t par ms bx M va (i+1) i v mi w7) (hk:t.kids[i]?=some k) (hdk:Deep d k.kids) (hdt:Deep (d+1) t.kids) (hnl:nb<w.heap.size) (hcl:cb<w.heap.size) (hR:Row nb mj w8) (hlen:mj.length=mi.length)
 (hC:Cnt cb (nx+1+cnt (d+1) (t.kids.take i)+cnt (d+1) [k]) w8) (hold:∀ l,l<nx+1+cnt (d+1) (t.kids.take i)∨nx+1+cnt (d+1) (t.kids.take i)+cnt (d+1) [k]≤l→mj[l]?=mi[l]?)
 (hLd:Laid (fun b=>w7.heap.size≤b) w8 mj (nx+1+cnt (d+1) (t.kids.take i)) (layF d k nx (nx+1+cnt (d+1) (t.kids.take i)))) (hF:LFr nb cb w7 w8) :
 LS w nb cb nx (d+1) t par ms bx M va (i+1) (i+1) v mj w8:=by
 have hs:=hF.below.size;have hfr:=hL.fr.below.size;have hlo:=hL.lo;obtain ⟨hcu,hcl2⟩:=Qp (d:=d) hk;have hct:=qL (d+1) t;have hrow:∀ b,v.ownBlock=some b→M≤b∧b<w7.heap.size:=fun b hb=>hL.own.lt b hb
 have hkeep:∀ b,b<w7.heap.size→w.heap.size≤b→w8.heap[b]?=w7.heap[b]?:=fun b h1 h2=>hF.frame b h1 (by omega) (by omega)
 have hll:(qG d (layF d) nx (nx+1) (t.kids.take i)).length=cnt (d+1) (t.kids.take i):=by
  have:∀ (ts:List Tr) (a:Nat),Deep (d+1) ts→(qG d (layF d) nx a ts).length=cnt (d+1) ts:=by
   intro ts
   induction ts with
   | nil=>intro _ _;rfl
   | cons u ts ih2 =>
     intro a hd;rw[qG,List.length_append,layF_length d u _ _ (hd u List.mem_cons_self),ih2 _ (fun x hx=>hd x (List.mem_cons_of_mem _ hx)),qZ d u ts]
  exact this _ _ (fun u hu=>hdt u (List.mem_of_mem_take hu))
 have hlk:=layF_length d k (nx:Int) (nx+1+cnt (d+1) (t.kids.take i)) hdk;refine ⟨hR,hlen.trans hL.len,?_,?_,?_,?_,?_,?_,?_,?_,by have:=hL.le;omega,hlo⟩
 · rw[hcu,←Nat.add_assoc];exact hC
 · intro l hl;rw[hold l (by omega)]
   exact hL.old l hl
 · rw[hold nx (by omega)];exact hL.me
 · exact qF hL.own fun b hb=>hkeep b (hrow b hb).2 (by have:=(hrow b hb).1;omega)
 · exact hL.att.bounded.carry fun b hb=>⟨hb.1,hkeep b hb.2 hb.1.1⟩
 · rw[xP hk]
   show Laid _ _ _ _ (qG d (layF d) nx (nx+1) (t.kids.take i++[k]))
   rw[jh];have hone:qG d (layF d) nx (nx+1+cnt (d+1) (t.kids.take i)) [k]=layF d k nx (nx+1+cnt (d+1) (t.kids.take i)):=by simp[qG]
   rw[hone];refine Laid.append (hL.laid.carry (fun b hb hlt=>⟨hb,hkeep b hlt hb.1⟩) (fun l h1 h2=>?_)) ?_
   · rw[hold l (Or.inl ?_)];have h3:(qG (d+1-1) (layF (d+1-1)) nx (nx+1) (t.kids.take i)).length=cnt (d+1) (t.kids.take i):=hll;omega
   · rw[hll];exact hLd.carry (fun b hb _=>⟨⟨by omega,fun e=>by have:=(hrow b e).2;omega⟩,rfl⟩) (fun _ _ _=>rfl)
 · rw[hkeep _ (qA hL.box) (nR9 _)];exact hL.box
 · exact hL.fr.trans hF
theorem zM.of_owns {w:World}{B:Nat}{v:Value}{l:List Int}{S:Nat→Prop}(hS:∀ b,B≤b→S b)(h:w.ownsRow B 3 1 v l.length (l.map fun k=>Value.int .i64 k)):zM S w v l:=by
 rcases h.2 with ⟨hv,h0⟩|⟨g,cap,cur,hv,hg,hh,hc,hm,hs,ht⟩
 · have : l = [] := List.eq_nil_of_length_eq_zero h0;subst this hv;exact zM.nil
 · subst hv;refine ⟨_,cap,rfl,hc,hm,fun _=>⟨g,0,rfl,hS g hg,fun i x hx=>?_⟩⟩
   have hi:i<l.length:=by
    rcases Nat.lt_or_ge i l.length with h'|h'
    · exact h'
    · rw[List.getElem?_eq_none h']at hx;cases hx
   rw[Nat.zero_add,World.ownsRow.cellAt h i (by omega)]
   simp[hx]
theorem qa1 {d:Nat}{t:Tr}(h:Deep d t.kids)(par:Int)(nx:Nat):layF d t par nx=⟨t.text,t.s,t.attrs,par,qB (d-1) (nx+1) t.kids⟩::qG (d-1) (layF (d-1)) nx (nx+1) t.kids:=by
 cases d with
 | zero =>
   have e:t.kids=[]:=h;rw[e];rfl
 | succ d=>rfl
theorem VW {w:World}{nb cb nx d:Nat}{t:Tr}{par:Int}{ms:List Rw}{bx:Array Value}{M:Nat}{va:Value}{v:Value}{mi:List Rw}{W:World}(hd:Deep d t.kids)(h:LS w nb cb nx d t par ms bx M va t.kids.length t.kids.length v mi W) :
 Row nb mi W∧mi.length=ms.length∧Cnt cb (nx+cnt (d+1) [t]) W∧(∀ i,i<nx∨nx+cnt (d+1) [t]≤i→mi[i]?=ms[i]?)∧Laid (fun b=>w.heap.size≤b) W mi nx (layF d t par nx)∧LFr nb cb w W:=by
 have hn:=h.num;rw[List.take_length]at hn
 have hlo:=h.lo;refine ⟨h.row,h.len,?_,h.old,?_,h.fr⟩
 · rw[qL,←Nat.add_assoc];exact hn
 · rw[qa1 hd];have hl:=h.laid;have ho:=h.own;rw[List.take_length]at hl ho
   intro i x hx;cases i with
   | zero =>
     simp only[List.getElem?_cons_zero,Option.some.injEq]at hx
     subst hx;refine ⟨_,h.me,rfl,rfl,rfl,h.att.carry fun b hb=>⟨hb.1,rfl⟩,?_⟩
     exact zM.of_owns (B:=M) (fun b hb=>by omega) (by rw[yN];exact ho)
   | succ i =>
     simp only[List.getElem?_cons_succ]at hx
     obtain ⟨r,hr,hR⟩:=hl i x hx;exact ⟨r,by rw[show nx+(i+1)=nx+1+i by omega];exact hr,hR.carry fun b hb=>⟨hb.1,rfl⟩⟩
set_option maxHeartbeats 2000000 in
theorem VY (d:Nat)(ih:∀ m,d=m+1→Kb m):Kb d:=by
 intro S va vk t par nb cb nx ms w hA hK hS hnc hR hC hN h80 hFw;obtain ⟨aa,ac,rfl⟩:=hA.shape;obtain ⟨ka,kc,rfl,hkl,hkm⟩:=qw.shape d hK;unfold maxLen at hkm
 have hcnt:=qL d t;have hnx:nx<ms.length:=by omega
 obtain ⟨r0,hr0⟩:∃ r0,ms[nx]?=some r0:=⟨ms[nx],by simp[hnx]⟩
 have hal:=(hFw t List.mem_cons_self).1;have c0:=hC.c0;have f0:=hC.f0;have hcl:=hC.lt;have hnl:nb<w.heap.size:=qA hR;have IH:Hid (∀ m,d=m+1→Kb m):=ih;have hcx:∀ X,(w.alloc X).cell? ⟨cb,0,none⟩=some (.int .i64 (nx:Int)):=fun X=>Lib.cell?_alloc_some _ c0
 have hb1:=Below.alloc1 w (.cells #[.bool t.text,.string t.s,.slice aa t.attrs.length ac,.slice ka t.kids.length kc] 56);have hx1:=heap_alloc_new w (.cells #[.bool t.text,.string t.s,.slice aa t.attrs.length ac,.slice ka t.kids.length kc] 56);have hC1:=hC.later hb1;have hfz1:=hC1.f0;have hce1:=hC1.c0;have hz1:(w.alloc (.cells #[.bool t.text,.string t.s,.slice aa t.attrs.length ac,.slice ka t.kids.length kc] 56)).heap.size=w.heap.size+1:=by simp
 clear ih hcx c0 f0
 go_enter Tryz.func72,Tryz.ntmps72
 go_wp2_with fail
 have hc2:Cnt cb (nx+1) (w.setCell ⟨cb,0,none⟩ (.int .i64 ((nx:Int)+1))):=by
  have:=hC.put (nx+1)
  simpa using this
 have hsz2:(w.setCell ⟨cb,0,none⟩ (.int .i64 ((nx:Int)+1))).heap.size=w.heap.size:=by simp
 have hb2:=Below.alloc1 (w.setCell ⟨cb,0,none⟩ (.int .i64 ((nx:Int)+1))) (.cells #[.bool t.text,.string t.s,.slice aa t.attrs.length ac,.slice ka t.kids.length kc] 56);have hx2:=heap_alloc_new (w.setCell ⟨cb,0,none⟩ (.int .i64 ((nx:Int)+1))) (.cells #[.bool t.text,.string t.s,.slice aa t.attrs.length ac,.slice ka t.kids.length kc] 56);rw[hsz2]at hx2
 have hC2:=hc2.later hb2;have hF2:LFr nb cb w _:=(LFr.putC nb cb w 0 (.int .i64 ((nx:Int)+1))).trans (LFr.later hb2)
 have hR2:Row nb ms ((w.setCell ⟨cb,0,none⟩ (.int .i64 ((nx:Int)+1))).alloc (.cells #[.bool t.text,.string t.s,.slice aa t.attrs.length ac,.slice ka t.kids.length kc] 56)):=by
  unfold Row;rw[hb2.block nb (by rw[hsz2];exact hnl),qd hnc]
  exact hR
 have hz2:((w.setCell ⟨cb,0,none⟩ (.int .i64 ((nx:Int)+1))).alloc (.cells #[.bool t.text,.string t.s,.slice aa t.attrs.length ac,.slice ka t.kids.length kc] 56)).heap.size=w.heap.size+1:=by simp
 generalize (w.setCell ⟨cb,0,none⟩ (.int .i64 ((nx:Int)+1))).alloc (.cells #[.bool t.text,.string t.s,.slice aa t.attrs.length ac,.slice ka t.kids.length kc] 56)=W2 at hb2 hx2 hC2 hF2 hR2 hz2 ⊢
 have HZ2:Hid (W2.heap.size=w.heap.size+1):=hz2;have hlt2:w.heap.size<W2.heap.size:=by omega
 have HCL:Hid (∀ W,(∀ b,S b→W.heap[b]?=w.heap[b]?)→Calls Tryz.prog 56 #[.slice aa t.attrs.length ac] W fun e w'=>∃ v',e=.returned v'∧qC (qS W.heap.size 79 w') w' v' t.attrs∧Below W.heap.size W w'):=fun W hW=>QH S _ t.attrs W (hA.carry fun b hb=>⟨hb,hW b hb⟩) (Nat.le_trans hal (by decide))
 have HSF:Hid (∀ W,LFr nb cb w W→∀ b,S b→W.heap[b]?=w.heap[b]?):=fun W hW b hb=>hW.frame b (hS b hb).1 (hS b hb).2.1 (hS b hb).2.2
 have HWW:Hid (∀ W':World,W'.heap[w.heap.size]?=W2.heap[w.heap.size]?→W'.cell? ⟨w.heap.size,0,none⟩=some (.bool t.text)∧W'.cell? ⟨w.heap.size,1,none⟩=some (.string t.s)∧W'.cell? ⟨w.heap.size,2,none⟩=some (.slice aa t.attrs.length ac)):=by
  intro W' h2;rw[hx2]at h2
  exact ⟨by rw[cH9 h2];rfl,by rw[cH9 h2];rfl,by rw[cH9 h2];rfl⟩
 have HKT:Hid (qw S w d (.slice ka t.kids.length kc) t.kids):=hK;have HFW:Hid (FewN d t.kids):=(hFw t List.mem_cons_self).2;have HSS:Hid (∀ b,S b→b<w.heap.size∧b≠nb∧b≠cb):=hS;have HR2:Hid (Row nb ms W2):=hR2;have HC2:Hid (Cnt cb (nx+1) W2):=hC2;have HF2:Hid (LFr nb cb w W2):=hF2;have HX2:Hid _:=hx2;have HFD:Hid (LFr nb cb w W2.drew):=⟨hF2.below.drew,hF2.frame⟩;have hnxi:(nx:Int)<(ms.length:Int):=by omega
 obtain ⟨y0,y1,y2⟩:=HWW.out W2 rfl;have HSD:Hid _:=HWW.out W2.drew rfl;have hnbw:w.heap.size≠nb:=by omega
 have hncw:w.heap.size≠cb:=by omega
 clear hA hK hS hR hC hFw hb1 hx1 hC1 hfz1 hce1 hz1 hb2 hx2 hC2 hF2 hR2 hz2 hc2 hsz2
 go_region_held3 (fun W:World=>W.cell? ⟨w.heap.size,0,none⟩=some (.bool t.text)∧W.cell? ⟨w.heap.size,1,none⟩=some (.string t.s)∧W.cell? ⟨w.heap.size,2,none⟩=some (.slice aa t.attrs.length ac))
  (first
   | with_reducible exact HS3.out
   | with_reducible exact HS4.out
   | with_reducible exact HSD.out)
  (first
   | (go_at_call 56;refine (Calls.mono (HCL.out W2.drew (HSF.out _ HFD.out)) ?_);rintro e w3 ⟨va3,rfl,hA3,hb3⟩;obtain ⟨a3,c3',rfl⟩:=hA3.shape;have hr3:Row nb ms w3:=(hb3.block nb (Nat.lt_trans hnl hlt2)).trans HR2.out;obtain ⟨g0,g1,g2,g3,g4⟩:=hr3.cells hr0;have k0:=hr3.frozen (nx*5);have k1:=hr3.frozen (nx*5+1);have k2:=hr3.frozen (nx*5+2);have k3:=hr3.frozen (nx*5+3);have k4:=hr3.frozen (nx*5+4);have HS3:Hid _:=HWW.out w3 (hb3.block _ hlt2);have HS4:Hid _:=HWW.out (((((w3.setCell ⟨nb,nx*5,none⟩ (.bool t.text)).setCell ⟨nb,nx*5+1,none⟩ (.string t.s)).setCell ⟨nb,nx*5+2,none⟩ (.slice a3 t.attrs.length c3')).setCell ⟨nb,nx*5+3,none⟩ (.int .i64 par)).setCell ⟨nb,nx*5+4,none⟩ (.slice none 0 0)) (by rw[qd hnbw,qd hnbw,qd hnbw,qd hnbw,qd hnbw];exact hb3.block _ hlt2)))
 have hLS:LS w nb cb nx d t par ms #[.bool t.text,.string t.s,.slice aa t.attrs.length ac,.slice ka t.kids.length kc] (((((w3.setCell ⟨nb,nx*5,none⟩ (.bool t.text)).setCell ⟨nb,nx*5+1,none⟩ (.string t.s)).setCell ⟨nb,nx*5+2,none⟩ (.slice a3 t.attrs.length c3')).setCell ⟨nb,nx*5+3,none⟩ (.int .i64 par)).setCell ⟨nb,nx*5+4,none⟩ (.slice none 0 0)).heap.size (.slice a3 t.attrs.length c3') 0 0 (.slice none 0 0) (ms.set nx ⟨t.text,t.s,.slice a3 t.attrs.length c3',par,.slice none 0 0⟩) (((((w3.setCell ⟨nb,nx*5,none⟩ (.bool t.text)).setCell ⟨nb,nx*5+1,none⟩ (.string t.s)).setCell ⟨nb,nx*5+2,none⟩ (.slice a3 t.attrs.length c3')).setCell ⟨nb,nx*5+3,none⟩ (.int .i64 par)).setCell ⟨nb,nx*5+4,none⟩ (.slice none 0 0)):=by
  have hz:=HZ2.out;have hs3:W2.heap.size≤w3.heap.size:=hb3.size;have hsz:(((((w3.setCell ⟨nb,nx*5,none⟩ (.bool t.text)).setCell ⟨nb,nx*5+1,none⟩ (.string t.s)).setCell ⟨nb,nx*5+2,none⟩ (.slice a3 t.attrs.length c3')).setCell ⟨nb,nx*5+3,none⟩ (.int .i64 par)).setCell ⟨nb,nx*5+4,none⟩ (.slice none 0 0)).heap.size=w3.heap.size:=by simp
  have hkeep:∀ b,b≠nb→(((((w3.setCell ⟨nb,nx*5,none⟩ (.bool t.text)).setCell ⟨nb,nx*5+1,none⟩ (.string t.s)).setCell ⟨nb,nx*5+2,none⟩ (.slice a3 t.attrs.length c3')).setCell ⟨nb,nx*5+3,none⟩ (.int .i64 par)).setCell ⟨nb,nx*5+4,none⟩ (.slice none 0 0)).heap[b]?=w3.heap[b]?:=fun b hb=>by rw[qd hb,qd hb,qd hb,qd hb,qd hb]
  refine ⟨hr3.put hnx ⟨t.text,t.s,.slice a3 t.attrs.length c3',par,.slice none 0 0⟩,by simp,?_,?_,?_,World.ownsRow_nil _ _ _ _,?_,?_,?_,?_,nR9 _,by rw[hsz];omega⟩
  · unfold Cnt;rw[hkeep cb (fun e=>hnc e.symm),hb3.block cb (by show cb<W2.heap.size;omega)]
    have e:nx+1+cnt d (t.kids.take 0)=nx+1:=by simp[qQ]
    rw[e];exact HC2.out
  · intro j hj;rw[List.getElem?_set_ne (by omega)]
  · rw[List.getElem?_set_self hnx]
  · refine hA3.bounded.carry fun b hb=>⟨⟨by have h1:W2.heap.size≤b:=hb.1.1;omega,by rw[hsz];exact hb.2⟩,hkeep b (by have h1:W2.heap.size≤b:=hb.1.1;omega)⟩
  · intro j x hx;simp[qG]at hx
  · rw[hkeep _ hnbw,hb3.block _ hlt2];exact HX2.out
  · exact ⟨(HFD.out.below.trans (hb3.mono (nZ9 _))).trans (((((Below.refl 0 w3).setCell (p:=⟨nb,nx*5,none⟩) (nZ9 _) _).setCell (p:=⟨nb,nx*5+1,none⟩) (nZ9 _) _).setCell (p:=⟨nb,nx*5+2,none⟩) (nZ9 _) _).setCell (p:=⟨nb,nx*5+3,none⟩) (nZ9 _) _ |>.setCell (p:=⟨nb,nx*5+4,none⟩) (nZ9 _) _),
     fun b h1 h2 h3=>by rw[hkeep b h2,hb3.block b (by show b<W2.heap.size;omega)];exact HFD.out.frame b h1 h2 h3⟩
 generalize (((((w3.setCell ⟨nb,nx*5,none⟩ (.bool t.text)).setCell ⟨nb,nx*5+1,none⟩ (.string t.s)).setCell ⟨nb,nx*5+2,none⟩ (.slice a3 t.attrs.length c3')).setCell ⟨nb,nx*5+3,none⟩ (.int .i64 par)).setCell ⟨nb,nx*5+4,none⟩ (.slice none 0 0))=W4 at hLS ⊢
 have q3:W4.cell? ⟨w.heap.size,3,none⟩=some (.slice ka t.kids.length kc):=by rw[cH9 hLS.box];rfl
 have HLS:Hid _:=hLS;clear hLS HS3 HS4 HSD HWW HCL HFD HX2 HF2 HC2 HR2 hr3 hA3 hb3 g0 g1 g2 g3 g4 k0 k1 k2 k3 k4 y0 y1 y2 HZ2 hlt2;go_wp2_with fail
 go_loopg [34] t.kids.length (fun g j wr=>∃ (i:Nat) (v:Value) (mi:List Rw),i+g=t.kids.length∧j=.int .i64 (i:Int)∧LS w nb cb nx d t par ms #[.bool t.text,.string t.s,.slice aa t.attrs.length ac,.slice ka t.kids.length kc] W4.heap.size (.slice a3 t.attrs.length c3') i i v mi wr)
 case atStart => exact ⟨0,.slice none 0 0,_,by omega,rfl,HLS.out⟩
 case round =>
  obtain ⟨i,v,mi,hi,rfl,hL⟩:=hrel;have HL:Hid _:=hL;obtain ⟨ja,jn,jc,rfl⟩:=qN hL.own
  by_cases hil:i<t.kids.length
  · obtain ⟨d',rfl⟩:∃ d',d=d'+1:=by
     cases d with
     | zero=>have:t.kids=[]:=(qw.deep 0 HKT.out);rw[this]at hil;simp at hil
     | succ d'=>exact ⟨d',rfl⟩
    obtain ⟨k,hk⟩:∃ k,t.kids[i]?=some k:=⟨t.kids[i],by simp[hil]⟩
    obtain ⟨ta,tcap,htv,_,_,ht4⟩:=HKT.out;obtain ⟨tb,tof,hta,hSb,htc⟩:=ht4 (by intro e;rw[e]at hil;simp at hil)
    injection htv with htv1 _ htv2
    subst htv1 htv2 hta;obtain ⟨kva,kvk,e0,e1,e2,e3,hkA,hkK⟩:=htc i k hk;have hbw:tb<w.heap.size:=World.block_lt_of_cell? w _ e0;have hbr:wr.heap[tb]?=w.heap[tb]?:=HSF.out wr HL.out.fr tb hSb;rw[←World.cell?_of_block (a:=⟨tb,tof+i*4,none⟩) hbr]at e0
    rw[←World.cell?_of_block (a:=⟨tb,tof+i*4+1,none⟩) hbr]at e1
    rw[←World.cell?_of_block (a:=⟨tb,tof+i*4+2,none⟩) hbr]at e2
    rw[←World.cell?_of_block (a:=⟨tb,tof+i*4+3,none⟩) hbr]at e3
    obtain ⟨xa,xc,rfl⟩:=hkA.shape;obtain ⟨ya,yc,rfl,_,_⟩:=qw.shape d' hkK;obtain ⟨m,hm⟩:∃ m,nx+1+cnt (d'+1) (t.kids.take i)=m:=⟨_,rfl⟩;have hnum:=HL.out.num;rw[hm]at hnum
    have hb5:=Below.alloc1 wr (.cells #[.bool k.text,.string k.s,.slice xa k.attrs.length xc,.slice ya k.kids.length yc] 56);have hC5:=hnum.later hb5;have hR5:Row nb mi (wr.alloc (.cells #[.bool k.text,.string k.s,.slice xa k.attrs.length xc,.slice ya k.kids.length yc] 56)):=(hb5.block nb (qA HL.out.row)).trans HL.out.row;obtain ⟨_,_,_,_,g4⟩:=hR5.cells HL.out.me;have cc:=hC5.c0;have g4a:((wr.alloc (.cells #[.bool k.text,.string k.s,.slice xa k.attrs.length xc,.slice ya k.kids.length yc] 56)).alloc (.cells #[.int .i64 (m:Int)] 3)).cell? ⟨nb,nx*5+4,none⟩=some (.slice ja jn jc):=Lib.cell?_alloc_some _ g4
    have hOW:∀ Y X,((wr.alloc Y).alloc X).drew.ownsRow W4.heap.size 3 1 (.slice ja jn jc) i ((qB d' (nx+1) (t.kids.take i)).map fun k=>Value.int .i64 k):=fun Y X =>
     qH (qH HL.out.own (Below.alloc1 wr Y)) (Below.alloc1 _ X).drew
    have HOW:Hid _:=hOW;have HM:Hid (nx+1+cnt (d'+1) (t.kids.take i)=m):=hm;have hlen5:mi.length=ms.length:=HL.out.len;have HME:Hid _:=HL.out.me;have hili:(i:Int)<(t.kids.length:Int):=by omega
    have hi20:i≤1048576:=by
     have h1:=(Qp (d:=d') hk).2;have h2:=qL (d'+1) t
     have h3:i≤cnt (d'+1) (t.kids.take i):=by
      have:∀ (l:List Tr),l.length≤cnt (d'+1) l:=by
       intro l
       induction l with
       | nil=>simp
       | cons x l ihl=>rw[qZ d' x l,qL,List.length_cons];omega
      have:=this (t.kids.take i);rw[List.length_take]at this
      omega
     omega
    have hsr:W4.heap.size≤wr.heap.size:=HL.out.le;have HKA:Hid (qC S w (.slice xa k.attrs.length xc) k.attrs):=hkA;have HKK:Hid (qw S w d' (.slice ya k.kids.length yc) k.kids):=hkK
    have hroom:m+cnt (d'+1) [k]≤ms.length:=by
     have h1:=(Qp (d:=d') hk).2;have h2:=qL (d'+1) t;omega
    have hnxm:nx<mi.length:=by omega
    have hfz4:(wr.alloc (.cells #[.bool k.text,.string k.s,.slice xa k.attrs.length xc,.slice ya k.kids.length yc] 56)).frozen? ⟨nb,nx*5+4,none⟩=false:=hR5.frozen _
    have HRW:Hid (∀ (X:Obj) (w6:World),((wr.alloc (.cells #[.bool k.text,.string k.s,.slice xa k.attrs.length xc,.slice ya k.kids.length yc] 56)).alloc X).drew.grownBy w6 (Value.slice ja jn jc).ownBlock→Row nb mi w6):=by
     intro X w6 hg;have hlt5:nb<(wr.alloc (.cells #[.bool k.text,.string k.s,.slice xa k.attrs.length xc,.slice ya k.kids.length yc] 56)).heap.size:=qA hR5;unfold Row;rw[hg.block nb (by show nb<((wr.alloc (.cells #[.bool k.text,.string k.s,.slice xa k.attrs.length xc,.slice ya k.kids.length yc] 56)).alloc X).heap.size;rw[World.size_alloc];omega) (fun e=>by have:=(HL.out.own.lt nb e.symm).1;have:=HL.out.lo;omega)]
     show ((wr.alloc (.cells #[.bool k.text,.string k.s,.slice xa k.attrs.length xc,.slice ya k.kids.length yc] 56)).alloc X).heap[nb]?=_
     rw[Lib.alloc_old _ _ _ hlt5];exact hR5
    clear hL hkA hkK htc ht4 hnum hOW hm hR5 hC5 q3;go_wp2_with fail
    go_region_law (first
     | (refine xF (by rfl) (.tmp 44) (.tmp 48) (by rfl) W4.heap.size (.slice ja jn jc) i ((qB d' (nx+1) (t.kids.take i)).map fun k=>Value.int .i64 k) (by simp[Act.eval]) (HOW.out _ _) ⟨(wr.alloc (.cells #[.bool k.text,.string k.s,.slice xa k.attrs.length xc,.slice ya k.kids.length yc] 56)).heap.size,0,none⟩ (m:Int) (by simp[Act.eval]) (fun j u hj=>cell_one_new _ _ _ j u hj) hi20 (by simp;omega) ?_;intro v6 w6 hown6 hgr6 hat6;obtain ⟨a6,n6,c6,rfl⟩:=qN hown6;obtain ⟨_,_,_,_,z6⟩:=(HRW.out _ w6 hgr6).cells HME.out;have f6:=(HRW.out _ w6 hgr6).frozen (nx*5+4)))
    all_goals
     obtain ⟨hL7,hkp7,hbx7,hs7⟩:=KZ HL.out hk hnl hcl hnc (by rw[HM.out];exact hown6) hgr6 hat6
     generalize w6.setCell ⟨nb,nx*5+4,none⟩ (.slice a6 n6 c6)=W7 at hL7 hkp7 hbx7 hs7 ⊢
     have q0:W7.cell? ⟨wr.heap.size,0,none⟩=some (.bool k.text):=by rw[cH9 hbx7];rfl
     have q1:W7.cell? ⟨wr.heap.size,1,none⟩=some (.string k.s):=by rw[cH9 hbx7];rfl
     have q2:W7.cell? ⟨wr.heap.size,2,none⟩=some (.slice xa k.attrs.length xc):=by rw[cH9 hbx7];rfl
     have q3:W7.cell? ⟨wr.heap.size,3,none⟩=some (.slice ya k.kids.length yc):=by rw[cH9 hbx7];rfl
     have hn7:=hL7.num;rw[HM.out]at hn7
     have hSF7:=HSF.out W7 hL7.fr;have hw7:=hL7.fr.below.size
     have hcall:=IH.out d' rfl S _ _ k (nx:Int) nb cb m _ W7 (HKA.out.carry fun b hb=>⟨hb,hSF7 b hb⟩) (qw.carry (fun b hb=>⟨hb,hSF7 b hb⟩) d' HKK.out) (fun b hb=>⟨by have:=(HSS.out b hb).1;omega,(HSS.out b hb).2⟩) hnc hL7.row hn7 (by rw[hL7.len];exact hroom) (by rw[hL7.len];exact h80) (by
      intro u hu;simp only[List.mem_singleton]at hu
      subst hu;exact HFW.out _ (List.mem_of_getElem? hk))
     rw[hL7.len]at hcall
     have HCALL:Hid _:=hcall;have HL7:Hid _:=hL7;clear hcall hL7 hown6 hgr6 hat6 z6 f6 g4 g4a cc e0 e1 e2 e3 hn7 hSF7 hkp7 hbx7;go_wp2_with fail;refine (Calls.mono HCALL.out ?_);rintro e w8 ⟨rfl,mj,hR8,hlen8,hC8,hold8,hLd8,hF8⟩;have HL8:Hid _:=K0 HL7.out hk (qw.deep d' HKK.out) (qw.deep (d'+1) HKT.out) hnl hcl hR8 (by rw[HL7.out.len];exact hlen8) (by rw[HM.out];exact hC8) (by rw[HM.out];exact hold8) (by rw[HM.out];exact hLd8) hF8
     clear HCALL hR8 hC8 hold8 hLd8 hF8;go_wp2_with fail
     go_roundg (t.kids.length-(i+1))
     case measure => omega
     case rel => exact ⟨i+1,_,mj,by omega,by go_num,HL8.out⟩
  · have hii : i = t.kids.length := by omega
    have hili:¬ (i:Int)<(t.kids.length:Int):=by omega
    have HLD:Hid _:=VW (qw.deep d HKT.out) (by rw[←hii];exact HL.out)
    clear hL hii q3;go_wp2_with fail
    go_returns
    obtain ⟨h1,h2,h3,h4,h5,h6⟩:=HLD.out;exact ⟨rfl,mi,h1,h2,h3,h4,h5,h6⟩
theorem qa2 (d:Nat):Kb d:=by
 induction d with
 | zero=>exact VY 0 (fun m hm=>by omega)
 | succ d ih=>exact VY (d+1) (fun m hm=>by cases hm;exact ih)
end
section
attribute [local go_sem] qD
theorem YJ {S:Nat→Prop}{nb:Nat}{ms:List Rw}{w:World}{L:List Nd}(hR:Row nb ms w)(hl:L.length=ms.length)(hL:Laid S w ms 0 L)(hS:S nb)(h80:ms.length≤80):qK S w (.slice (some ⟨nb,0,none⟩) ms.length ms.length) L:=by
 refine ⟨_,ms.length,by rw[hl],by omega,by unfold maxLen;omega,fun _=>⟨nb,0,rfl,hS,fun i x hx=>?_⟩⟩
 obtain ⟨r,hr,h1,h2,h3,h4,h5⟩:=hL i x hx;rw[Nat.zero_add]at hr
 obtain ⟨g0,g1,g2,g3,g4⟩:=hR.cells hr;rw[Nat.zero_add];exact ⟨r.va,r.vk,by rw[g0,h1],by rw[g1,h2],g2,by rw[g3,h3],g4,h4,h5⟩
theorem qbf {n:Nat}(hf:∀ k,rgt n k=true→FewN n k):∀ (ts:List Tr)(p:Bool),rgL (rgt n) p ts=true→FewN (n+1) ts:=by
 intro ts
 induction ts with
 | nil=>intro p _ t ht;simp at ht
 | cons x r ih =>
   intro p h t ht;unfold rgL at h
   simp only[Bool.and_eq_true]at h
   rw[List.mem_cons]at ht
   rcases ht with rfl|ht
   · have h1 := h.1.1.1;unfold qT at h1
     cases htx:t.text with
     | true =>
       simp only[htx,if_true,Bool.and_eq_true,decide_eq_true_eq]at h1
       have hk:t.kids=[]:=List.eq_nil_of_length_eq_zero h1.2;refine ⟨by omega,?_⟩
       rw[hk];cases n with
       | zero=>trivial
       | succ n=>intro u hu;simp at hu
     | false =>
       simp only[htx,Bool.false_eq_true,if_false,Bool.and_eq_true]at h1
       have h2:=h1.2;simp only[yd,Bool.and_eq_true,decide_eq_true_eq]at h2
       refine ⟨by omega,hf _ ?_⟩
       have:=h.1.2
       simpa[htx] using this
   · exact ih x.text h.2 t ht
theorem rgt_few:∀ (n:Nat)(ts:List Tr),rgt n ts=true→FewN n ts:=by
 intro n
 induction n with
 | zero=>intro ts _;trivial
 | succ n ih=>intro ts h;exact qbf ih ts false h
theorem nodeInfo:(Tryz.prog.info? 43).map (fun i=>(i.zero,i.size,i.bytes))=some (some (.agg #[.bool false,.string ⟨#[]⟩,.slice none 0 0,.int .i64 0,.slice none 0 0]),5,80):=by kernel_rfl
def zeroRw:Rw:=⟨false,⟨#[]⟩,.slice none 0 0,0,.slice none 0 0⟩
theorem qa4 (N:Nat):madeCells (Value.agg #[.bool false,.string ⟨#[]⟩,.slice none 0 0,.int .i64 0,.slice none 0 0]).cells (N*5)=(rawCells (List.replicate N zeroRw)).toArray:=by
 apply Array.ext
 · simp[madeCells,yL]
 · intro k h1 h2;have hk:k<N*5:=by simpa[madeCells] using h1
   have hr:(List.replicate N zeroRw)[k / 5]?=some zeroRw:=by rw[List.getElem?_replicate];simp;omega
   obtain ⟨g0,g1,g2,g3,g4⟩:=zU _ _ _ hr
   have key:(rawCells (List.replicate N zeroRw))[k]?=some ((#[Value.bool false,.string ⟨#[]⟩,.slice none 0 0,.int .i64 0,.slice none 0 0]:Array Value)[k % 5]!):=by
    rcases (by omega:k % 5=0∨k % 5=1∨k % 5=2∨k % 5=3∨k % 5=4) with h|h|h|h|h
    · rw[show k=k / 5*5 by omega,g0,show k / 5*5 % 5=0 by omega];rfl
    · rw[show k=k / 5*5+1 by omega,g1,show (k / 5*5+1) % 5=1 by omega];rfl
    · rw[show k=k / 5*5+2 by omega,g2,show (k / 5*5+2) % 5=2 by omega];rfl
    · rw[show k=k / 5*5+3 by omega,g3,show (k / 5*5+3) % 5=3 by omega];rfl
    · rw[show k=k / 5*5+4 by omega,g4,show (k / 5*5+4) % 5=4 by omega];rfl
   have h3:(rawCells (List.replicate N zeroRw)).toArray[k]?=some ((#[Value.bool false,.string ⟨#[]⟩,.slice none 0 0,.int .i64 0,.slice none 0 0]:Array Value)[k % 5]!):=by simpa using key
   rw[Array.getElem?_eq_getElem h2]at h3
   rw[Option.some.inj h3];simp[madeCells,Value.cells]
def zA (n:Nat)(t:Tr):List Nd:=if zh t then layF n t (-1) 0 else []
def jp (t:Tr):Int:=if zh t then 0 else 1
set_option maxHeartbeats 2000000 in
theorem V3 (S:Nat→Prop)(n:Nat)(va vk:Value)(t:Tr)(w:World)(hA:qC S w va t.attrs)(hK:qw S w n vk t.kids)(hx:TextsN (n+1) [t])(hS:∀ b,S b→b<w.heap.size) :
 Calls Tryz.prog 33 #[.agg #[.bool t.text,.string t.s,va,vk]] w fun e w'=>∃ v,e=.returned (.tuple #[.agg #[v],.int .i64 (jp t)])∧qK (fun b=>w.heap.size≤b) w' v (zA n t)∧Below w.heap.size w w':=by
 obtain ⟨aa,ac,rfl⟩:=hA.shape;obtain ⟨ka,kc,rfl,_,_⟩:=qw.shape n hK;have hb1:Below w.heap.size w ((w.alloc (.cells #[.bool t.text,.string t.s,.slice aa t.attrs.length ac,.slice ka t.kids.length kc] 56)).alloc (.cells #[.slice none 0 0] 24)):=(Below.alloc1 w _).alloc (by simp) _
 have hx1:((w.alloc (.cells #[.bool t.text,.string t.s,.slice aa t.attrs.length ac,.slice ka t.kids.length kc] 56)).alloc (.cells #[.slice none 0 0] 24)).heap[w.heap.size]?=some (.cells #[.bool t.text,.string t.s,.slice aa t.attrs.length ac,.slice ka t.kids.length kc] 56 (0,0)):=by
  rw[Lib.alloc_old _ _ _ (by simp)];exact heap_alloc_new _ _
 have hy1:((w.alloc (.cells #[.bool t.text,.string t.s,.slice aa t.attrs.length ac,.slice ka t.kids.length kc] 56)).alloc (.cells #[.slice none 0 0] 24)).heap[w.heap.size+1]?=some (.cells #[.slice none 0 0] 24 (0,0)):=by
  have e:=heap_alloc_new (w.alloc (.cells #[.bool t.text,.string t.s,.slice aa t.attrs.length ac,.slice ka t.kids.length kc] 56)) (.cells #[.slice none 0 0] 24);rw[World.size_alloc]at e
  exact e
 have HG:Hid _:=Jq S n _ _ t _ (hA.later hb1) (qw.later hb1 n hK) hx;have HA:Hid (qC S w (.slice aa t.attrs.length ac) t.attrs):=hA;have HK:Hid (qw S w n (.slice ka t.kids.length kc) t.kids):=hK;have HS:Hid (∀ b,S b→b<w.heap.size):=hS;have HD:Hid (zA n t=if zh t then layF n t (-1) 0 else []):=rfl
 have HE:Hid (jp t=if zh t then 0 else 1):=rfl
 clear hA hK hx hS
 go_enter Tryz.func33,Tryz.ntmps33
 go_wp2_with fail;refine (Calls.mono HG.out ?_);rintro e w2 ⟨rfl,hb2⟩;have hx2:=(hb2.block _ (qA hx1)).trans hx1;have hy2:=(hb2.block _ (qA hy1)).trans hy1;have hB2:Below w.heap.size w w2:=hb1.trans (hb2.mono hb1.size);have d0:w2.cell? ⟨w.heap.size,0,none⟩=some (.bool t.text):=by rw[cH9 hx2];rfl
 have d1:w2.cell? ⟨w.heap.size,1,none⟩=some (.string t.s):=by rw[cH9 hx2];rfl
 have d2:w2.cell? ⟨w.heap.size,2,none⟩=some (.slice aa t.attrs.length ac):=by rw[cH9 hx2];rfl
 have d3:w2.cell? ⟨w.heap.size,3,none⟩=some (.slice ka t.kids.length kc):=by rw[cH9 hx2];rfl
 have p0:w2.cell? ⟨w.heap.size+1,0,none⟩=some (.slice none 0 0):=by rw[cH9 hy2];rfl
 have f0:w2.frozen? ⟨w.heap.size+1,0,none⟩=false:=fH9 hy2 0;clear HG hb1 hx1 hb2 hy1;obtain ⟨q,hq⟩:∃ q,zh t=q:=⟨_,rfl⟩;rw[hq];cases q with
 | false =>
   have HD2:Hid (zA n t=[]):=by show _=_;rw[HD.out,hq];rfl
   have HE2:Hid (jp t=1):=by show _=_;rw[HE.out,hq];rfl
   clear HD HE hq;go_wp2_with fail;refine bodyPost_ret (v:=.tuple #[.agg #[.slice none 0 0],.int .i64 1]) (by simp[results,Tryz.results33,go_sem,qD,p0]) rfl ⟨.slice none 0 0,by rw[HE2.out],by rw[HD2.out];exact qK.nil,?_⟩
   exact hB2.setCell (p:=⟨w.heap.size+1,0,none⟩) (Nat.le_succ _) _
 | true =>
   have HD2:Hid (zA n t=layF n t (-1) 0):=by show _=_;rw[HD.out,hq];rfl
   have HE2:Hid (jp t=0):=by show _=_;rw[HE.out,hq];rfl
   have hdeep:=qw.deep n HK.out;have hg:=hq;rw[jY hdeep]at hg
   simp only[Bool.and_eq_true,Bool.not_eq_true',decide_eq_true_eq]at hg
   obtain ⟨⟨⟨hg1,hg2⟩,hc81⟩,hrg⟩:=hg;clear hg1 hg2;have HFW:Hid (FewN (n+1) [t]):=rgt_few (n+1) [t] hrg;have HSZ:Hid _:=qan S n _ _ t w2 (HA.out.later hB2) (qw.later hB2 n HK.out) (by omega)
   have hpos:0<cnt (n+1) [t]:=by rw[qL];omega
   have HLN:Hid ((layF n t (-1) 0).length=cnt (n+1) [t]):=layF_length n t (-1) 0 hdeep;obtain ⟨N,hN⟩:∃ N,cnt (n+1) [t]=N:=⟨_,rfl⟩;rw[hN]at hc81 HSZ hpos HLN
   have HN:Hid (cnt (n+1) [t]=N):=hN;clear HD HE hq hrg hN hdeep;go_wp2_with fail;refine (Calls.mono HSZ.out ?_);rintro e w3 ⟨rfl,hb3⟩;have hx3:=(hb3.block _ (qA hx2)).trans hx2;have hy3:=(hb3.block _ (qA hy2)).trans hy2;have hB3:Below w.heap.size w w3:=hB2.trans (hb3.mono hB2.size);have e0:w3.cell? ⟨w.heap.size,0,none⟩=some (.bool t.text):=by rw[cH9 hx3];rfl
   have e1:w3.cell? ⟨w.heap.size,1,none⟩=some (.string t.s):=by rw[cH9 hx3];rfl
   have e2:w3.cell? ⟨w.heap.size,2,none⟩=some (.slice aa t.attrs.length ac):=by rw[cH9 hx3];rfl
   have e3:w3.cell? ⟨w.heap.size,3,none⟩=some (.slice ka t.kids.length kc):=by rw[cH9 hx3];rfl
   clear HSZ hb3 d0 d1 d2 d3 p0 f0 hx2 hy2
   have hmk:(Instr.makeSlice 22 (.int .i64 (N:Int)) (.int .i64 (N:Int))).run Tryz.prog w3=.ok (.slice (some ⟨w3.heap.size,0,none⟩) N N) (w3.alloc (.cells (rawCells (List.replicate N zeroRw)).toArray 43)):=by
    obtain ⟨i0,hi,hz0,hz1,hz2⟩:=info_parts nodeInfo;have:=run_makeSlice (P:=Tryz.prog) w3 22 43 i0 _ Tryz.underlying22 hi hz0 .i64 .i64 (N:Int) (N:Int) (by omega) (Int.le_refl _) (by rw[hz1];simp;omega) (by rw[hz2];omega) (by omega)
    rw[this,hz1,Int.toNat_natCast,qa4]
   have hb5:Below w3.heap.size w3 ((w3.alloc (.cells (rawCells (List.replicate N zeroRw)).toArray 43)).alloc (.cells #[.int .i64 0] 3)):=(Below.alloc1 w3 _).alloc (by simp) _
   have hR5:Row w3.heap.size (List.replicate N zeroRw) ((w3.alloc (.cells (rawCells (List.replicate N zeroRw)).toArray 43)).alloc (.cells #[.int .i64 0] 3)):=by
    unfold Row;rw[Lib.alloc_old _ _ _ (by simp)]
    exact heap_alloc_new _ _
   have hC5:Cnt (w3.heap.size+1) 0 ((w3.alloc (.cells (rawCells (List.replicate N zeroRw)).toArray 43)).alloc (.cells #[.int .i64 0] 3)):=by
    have e:=heap_alloc_new (w3.alloc (.cells (rawCells (List.replicate N zeroRw)).toArray 43)) (.cells #[.int .i64 0] 3);rw[World.size_alloc]at e
    exact e
   have hz5:((w3.alloc (.cells (rawCells (List.replicate N zeroRw)).toArray 43)).alloc (.cells #[.int .i64 0] 3)).heap.size=w3.heap.size+2:=by simp
   have HMK:Hid _:=hmk;have HRP:Hid ((List.replicate N zeroRw).length=N):=by show _=_;simp
   obtain ⟨ms0,hms0⟩:∃ ms0,List.replicate N zeroRw=ms0:=⟨_,rfl⟩;rw[hms0]at hmk hb5 hR5 hC5 hz5 HRP
   clear hms0 HMK;have e0a:(w3.alloc (.cells (rawCells ms0).toArray 43)).cell? ⟨w.heap.size,0,none⟩=some (.bool t.text):=Lib.cell?_alloc_some _ e0;have e1a:(w3.alloc (.cells (rawCells ms0).toArray 43)).cell? ⟨w.heap.size,1,none⟩=some (.string t.s):=Lib.cell?_alloc_some _ e1;have e2a:(w3.alloc (.cells (rawCells ms0).toArray 43)).cell? ⟨w.heap.size,2,none⟩=some (.slice aa t.attrs.length ac):=Lib.cell?_alloc_some _ e2;have e3a:(w3.alloc (.cells (rawCells ms0).toArray 43)).cell? ⟨w.heap.size,3,none⟩=some (.slice ka t.kids.length kc):=Lib.cell?_alloc_some _ e3;have e0b:((w3.alloc (.cells (rawCells ms0).toArray 43)).alloc (.cells #[.int .i64 0] 3)).cell? ⟨w.heap.size,0,none⟩=some (.bool t.text):=Lib.cell?_alloc_some _ e0a;have e1b:((w3.alloc (.cells (rawCells ms0).toArray 43)).alloc (.cells #[.int .i64 0] 3)).cell? ⟨w.heap.size,1,none⟩=some (.string t.s):=Lib.cell?_alloc_some _ e1a;have e2b:((w3.alloc (.cells (rawCells ms0).toArray 43)).alloc (.cells #[.int .i64 0] 3)).cell? ⟨w.heap.size,2,none⟩=some (.slice aa t.attrs.length ac):=Lib.cell?_alloc_some _ e2a;have e3b:((w3.alloc (.cells (rawCells ms0).toArray 43)).alloc (.cells #[.int .i64 0] 3)).cell? ⟨w.heap.size,3,none⟩=some (.slice ka t.kids.length kc):=Lib.cell?_alloc_some _ e3a;have hs3:=hB3.size;have hB5:Below w.heap.size w _:=hB3.trans (hb5.mono hs3);have hcall:=qa2 n S _ _ t (-1) w3.heap.size (w3.heap.size+1) 0 ms0 _ (HA.out.later hB5) (qw.later hB5 n HK.out) (fun b hb=>⟨by have:=HS.out b hb;rw[hz5];omega,by have:=HS.out b hb;omega,by have:=HS.out b hb;omega⟩) (by omega) hR5 hC5 (by rw[HN.out,HRP.out];omega) (by rw[HRP.out];omega) HFW.out
   rw[HRP.out]at hcall
   have HCALL:Hid _:=hcall;have HZ5:Hid _:=hz5;clear hcall hR5 hC5 hz5 e0 e1 e2 e3;go_wp2_with fail;refine (Calls.mono HCALL.out ?_);rintro e w6 ⟨rfl,ms',hR6,hl6,hC6,_,hL6,hF6⟩;have hz:=HZ5.out
   have hy5:w6.heap[w.heap.size+1]?=some (.cells #[.slice none 0 0] 24 (0,0)):=by
    have h1:=qA hy3;rw[hF6.frame (w.heap.size+1) (by rw[hz];omega) (by omega) (by omega),hb5.block _ h1]
    exact hy3
   have p0:w6.cell? ⟨w.heap.size+1,0,none⟩=some (.slice none 0 0):=by rw[cH9 hy5];rfl
   have f0:w6.frozen? ⟨w.heap.size+1,0,none⟩=false:=fH9 hy5 0;have hB6:Below w.heap.size w w6:=⟨hF6.below.os.trans hB5.os,hF6.below.tape.trans hB5.tape,hF6.below.output.trans hB5.output,Nat.le_trans hB5.size hF6.below.size,fun k hk=>by rw[hF6.frame k (by rw[hz];omega) (by omega) (by omega)];exact hB5.block k hk⟩
   have hnb:=qA hR6;have hlen6:ms'.length=N:=hl6
   have hND:qK (fun b=>w.heap.size+2≤b) w6 (.slice (some ⟨w3.heap.size,0,none⟩) N N) (layF n t (-1) 0):=by
    have h1:=qA hy3;have:=YJ (S:=fun b=>w.heap.size+2≤b) hR6 (by rw[HLN.out,hlen6]) (hL6.carry (fun b hb _=>⟨by have h2:((w3.alloc (.cells (rawCells ms0).toArray 43)).alloc (.cells #[.int .i64 0] 3)).heap.size≤b:=hb;rw[hz]at h2;omega,rfl⟩) (fun _ _ _=>rfl)) (by show w.heap.size+2≤w3.heap.size;omega) (by omega)
    rw[hlen6]at this
    exact this
   clear HCALL hR6 hL6 hC6 hF6 hb5 e0a e1a e2a e3a e0b e1b e2b e3b hmk hB5;go_wp2_with fail;refine bodyPost_ret (v:=.tuple #[.agg #[.slice (some ⟨w3.heap.size,0,none⟩) N N],.int .i64 0]) (by simp[results,Tryz.results33,go_sem,qD,p0]) rfl ⟨.slice (some ⟨w3.heap.size,0,none⟩) N N,by rw[HE2.out],?_,?_⟩
   · rw[HD2.out];exact hND.carry fun b hb=>⟨by omega,qd (by omega)⟩
   · exact hB6.setCell (p:=⟨w.heap.size+1,0,none⟩) (Nat.le_succ _) _
end
end Go.Proofs.YtnppmdpmippcoaaGreatDoor
namespace Go.Proofs.YtnppmdpmippcoaaGreatDoor
open Go.RowKit
set_option maxRecDepth 100000
theorem Yc {n:Nat}{t:Tr}(hd:Deep n t.kids)(hg:zh t=true):qM (layF n t (-1) 0)=true∧growF (layF n t (-1) 0).length (layF n t (-1) 0) 0=t∧xT (layF n t (-1) 0) 0=((cnt (n+1) [t]:Nat):Int)∧(layF n t (-1) 0).length=cnt (n+1) [t]:=by
 have hlen:=layF_length n t (-1) 0 hd;have hseg:=ZC (layF n t (-1) 0);have hg2:=hg;rw[jY hd]at hg2
 simp only[Bool.and_eq_true,Bool.not_eq_true',decide_eq_true_eq]at hg2
 obtain ⟨⟨_,hc⟩,_⟩:=hg2;have hgr:=grow_lay n t (layF n t (-1) 0).length (layF n t (-1) 0) (-1) 0 hd hseg (by omega)
 have hor:=ord_lay n t ((layF n t (-1) 0).length+1) (layF n t (-1) 0) (-1) 0 hd hseg (by omega)
 have hla:=last_lay n t (layF n t (-1) 0).length (layF n t (-1) 0) (-1) 0 hd hseg (by omega)
 have hgd:qM (layF n t (-1) 0)=true:=by
  unfold qM jw;rw[hor,hgr,hg,hlen];simp;omega
 refine ⟨hgd,hgr,?_,hlen⟩;unfold xT;have hpos:0<cnt (n+1) [t]:=by rw[qL];omega
 have ham:Ys (layF n t (-1) 0) 0=true:=by unfold Ys;rw[hlen];simp;omega
 rw[hgd,ham];simp only[Bool.and_self,if_true,Int.toNat_zero];omega
def zV (Q:Tr→Prop):Nat→List Tr→Prop
 | 0,_=>True
 | n+1,ts=>∀ t∈ts,Q t∧zV Q n t.kids
def jj (n:Nat)(x:Nd):Nd:={ x with kids:=x.kids.filter fun u=>decide (u<(n:Int)) }
def z7 (L:List Nd)(n:Nat):List Nd:=(L.take n).map (jj n)
def WL (L:List Nd):Nat→List (Tr × Int)→Prop
 | n,[]=>n=L.length
 | n,i::r=>∃ d,Deep d i.1.kids∧Seg L n (layF d i.1 i.2 n)∧WL L (n+cnt (d+1) [i.1]) r
theorem WL.kids {L:List Nd}{d n:Nat}:∀ (ks:List Tr)(b:Nat)(r:List (Tr × Int)),(∀ k∈ks,Deep d k.kids)→Seg L b (qG d (layF d) n b ks)→WL L (b+cnt (d+1) ks) r→WL L b (ks.map (fun k=>(k,(n:Int)))++r):=by
 intro ks
 induction ks with
 | nil=>intro b r _ _ h;rw[qQ]at h;exact h
 | cons k ks ih =>
   intro b r hd hs h;rw[qG]at hs
   have hl:=hs.left;have hr:=hs.right;have hdk:=hd k List.mem_cons_self;rw[layF_length d k n b hdk]at hr
   rw[qZ]at h
   refine ⟨d,hdk,hl,ih _ r (fun u hu=>hd u (List.mem_cons_of_mem _ hu)) hr ?_⟩
   rw[Nat.add_assoc];exact h
theorem WL.step {L:List Nd}{n:Nat}{t:Tr}{p:Int}{r:List (Tr × Int)}(h:WL L n ((t,p)::r)):∃ x,L[n]?=some x∧x.text=t.text∧x.s=t.s∧x.attrs=t.attrs∧x.parent=p∧WL L (n+1) (t.kids.map (fun k=>(k,(n:Int)))++r):=by
 obtain ⟨d,hd,hs,hr⟩:=h;have h0:=hs 0 _ (by rw[yR hd p n];rfl)
 refine ⟨_,h0,rfl,rfl,rfl,rfl,?_⟩;simp only at hd hs hr
 rw[qL]at hr
 cases d with
 | zero =>
   have e:t.kids=[]:=hd;rw[e]at hr ⊢
   rw[qQ]at hr
   exact hr
 | succ d=>exact WL.kids t.kids (n+1) r hd (Seg.tail hs) (by rw[Nat.add_assoc];exact hr)
theorem WL.start {n:Nat}{t:Tr}(hd:Deep n t.kids):WL (layF n t (-1) 0) 0 [(t,-1)] :=
 ⟨n,hd,ZC _,by show 0+cnt (n+1) [t]=_;rw[layF_length n t _ _ hd,Nat.zero_add]⟩
theorem j0 {L:List Nd}{n:Nat}(h:n≤L.length):(z7 L n).length=n:=by
 unfold z7;rw[List.length_map,List.length_take];omega
theorem QL {L:List Nd}{n i:Nat}(h:i<n):(z7 L n)[i]?=(L[i]?).map (jj n):=by
 unfold z7;rw[List.getElem?_map,List.getElem?_take,if_pos h]
theorem xu {n:Nat}{l:List Int}(h:∀ u∈l,(n:Int)≤u):(l.filter fun u=>decide (u<(n:Int)))=[]:=by
 rw[List.filter_eq_nil_iff];intro u hu;have:=h u hu;simp;omega
theorem JQ {L:List Nd}(hg:qM L=true){n:Nat}{x:Nd}(hx:L[n]?=some x):(z7 L (n+1))[n]?=some { x with kids:=[] }:=by
 rw[QL (Nat.lt_succ_self n),hx]
 show some (jj (n+1) x)=_
 unfold jj;rw[xu (fun u hu=>by obtain ⟨k,_,rfl,h,_⟩:=(zo hg hx).kids u hu;omega)]
theorem Jk {n:Nat}:∀ {l:List Int},l.Pairwise (fun a b=>a<b)→(l.filter fun u=>decide (u<((n+1:Nat):Int)))=(l.filter fun u=>decide (u<(n:Int)))++(if (n:Int)∈l then [(n:Int)] else []):=by
 intro l
 induction l with
 | nil=>intro _;simp
 | cons x l ih =>
   intro h;rw[List.pairwise_cons]at h
   by_cases h1:x<(n:Int)
   · rw[List.filter_cons_of_pos (by simp;omega), List.filter_cons_of_pos (by simpa using h1), ih h.2, List.cons_append]
     have:((n:Int)∈x::l)↔(n:Int)∈l:=by
      rw[List.mem_cons];exact ⟨fun h=>h.resolve_left (by omega),Or.inr⟩
     simp only[this]
   · by_cases h2 : x = (n : Int)
     · subst h2;rw[List.filter_cons_of_pos (by simp;omega),List.filter_cons_of_neg (by simp),if_pos List.mem_cons_self]
       rw[xu (n:=n+1) (fun u hu=>by have:=h.1 u hu;omega),xu (fun u hu=>by have:=h.1 u hu;omega)]
       rfl
     · rw[List.filter_cons_of_neg (by simp;omega), List.filter_cons_of_neg (by simp;omega), ih h.2]
       have:((n:Int)∈x::l)↔(n:Int)∈l:=by
        rw[List.mem_cons];exact ⟨fun h=>h.resolve_left (fun e=>h2 e.symm),Or.inr⟩
       simp only[this]
theorem QO {ns:List Nd}(hg:qM ns=true){q:Nat}{y:Nd}(hy:ns[q]?=some y):y.kids.Pairwise (fun u v=>u<v):=by
 refine List.Pairwise.imp_of_mem ?_ (zo hg hy).row;intro a b ha _ hab;obtain ⟨k,z,rfl,_,_,_,hz,_⟩:=(zo hg hy).kids a ha;have:=(zo hg hz).gt;omega
theorem Kl {ns:List Nd}(hg:qM ns=true){q n:Nat}{y x:Nd}(hy:ns[q]?=some y)(hx:ns[n]?=some x):(n:Int)∈y.kids↔x.parent=(q:Int):=by
 constructor
 · intro h;obtain ⟨k,z,e,_,_,_,hz,hp⟩:=(zo hg hy).kids _ h;have:k=n:=by omega
   subst this;rw[hx]at hz
   obtain rfl:=Option.some.inj hz;exact hp
 · intro h
   rcases (zo hg hx).par with ⟨_,hp⟩|⟨q',y',hy',hp,_,hm⟩
   · omega
   · have : q' = q := by omega
     subst this;rw[hy]at hy'
     obtain rfl:=Option.some.inj hy';exact hm
theorem JR {L:List Nd}(hg:qM L=true){n i:Nat}{x y:Nd}(hx:L[n]?=some x)(hi:i<n)(hy:L[i]?=some y) :
 (z7 L n)[i]?=some (jj n y)∧(z7 L (n+1))[i]?=some { jj n y with kids:=(jj n y).kids++(if x.parent=(i:Int) then [(n:Int)] else []) }:=by
 rw[QL hi,QL (by omega),hy]
 refine ⟨rfl,?_⟩
 show some (jj (n+1) y)=_
 unfold jj;simp only;rw[Jk (QO hg hy)];simp only[Kl hg hy hx]
theorem qab {L:List Nd}(hg:qM L=true):z7 L L.length=L:=by
 unfold z7;rw[List.take_length]
 conv=>rhs;rw[←List.map_id L]
 apply List.map_congr_left
 intro y hy;obtain ⟨i,hi⟩:=List.mem_iff_getElem?.1 hy;unfold jj
 have:(y.kids.filter fun u=>decide (u<(L.length:Int)))=y.kids:=by
  rw[List.filter_eq_self];intro u hu;obtain ⟨k,_,rfl,_,h,_⟩:=(zo hg hi).kids u hu;simp;omega
 rw[this];rfl
theorem Zr {l:List Nd}{n k:Nat}(f:Nd→Nd)(h:n≠k):(l.modify n f)[k]?=l[k]?:=by simp[h]
theorem YH {l:List Nd}{n:Nat}(f:Nd→Nd):(l.modify n f)[n]?=(l[n]?).map f:=by simp
structure Opn where
 kind:Int
 target:Int
 content:List Tr
 name:ByteArray
 s:ByteArray
structure Sg where
 nm:Option ByteArray
 attrs:List (ByteArray × ByteArray)
 first:List Tr
 last:List Tr
 bef:List Tr
 aft:List Tr
 gone:Bool
 val:Option ByteArray
def zp (l:List Tr):List (Nat ⊕ Tr):=l.map Sum.inr
def xz (g:Sg)(k:Nat):List (Nat ⊕ Tr):=if g.gone then [] else [Sum.inl k]
def qX (g:Sg)(k:Nat):List (Nat ⊕ Tr):=zp g.bef++(xz g k++zp g.aft)
def zZ (σ:Nat→Sg)(n:Nat)(kids:List Int):List (Nat ⊕ Tr):=zp (σ n).first++(kids.flatMap (fun u=>qX (σ u.toNat) u.toNat)++zp (σ n).last)
def valT (s:ByteArray):Tr:=⟨true,s,[],[]⟩
def zF (σ:Nat→Sg)(n:Nat)(x:Nd):List (Nat ⊕ Tr):=if x.text then zZ σ n x.kids else match (σ n).val with
 | some s=>[Sum.inr (valT s)]
 | none=>zZ σ n x.kids
def sK (σ:Nat→Sg)(n:Nat)(x:Nd):ByteArray:=if x.text then (σ n).val.getD x.s else (σ n).nm.getD x.s
def Q4 (N:Nat)(ns:List Nd)(u:Int):Nat ⊕ Tr→Prop
 | .inl k=>u=(k:Int)∧k<N
 | .inr t=>∃ (m d:Nat) (par:Int),u=(m:Int)∧N≤m∧Deep d t.kids∧Seg ns m (layF d t par m)
def zO (N:Nat)(ns:List Nd):List Int→List (Nat ⊕ Tr)→Prop
 | [],[]=>True
 | u::l,e::m=>Q4 N ns u e∧zO N ns l m
 | _,_=>False
theorem zO.len {N:Nat}{ns:List Nd}:∀ {l:List Int}{m:List (Nat ⊕ Tr)},zO N ns l m→l.length=m.length:=by
 intro l
 induction l with
 | nil=>intro m h;cases m with|nil=>rfl|cons e m=>exact h.elim
 | cons u l ih=>intro m h;cases m with|nil=>exact h.elim|cons e m=>rw[List.length_cons,List.length_cons,ih h.2]
theorem zO.append {N:Nat}{ns:List Nd}:∀ {l l':List Int}{m m':List (Nat ⊕ Tr)},zO N ns l m→zO N ns l' m'→zO N ns (l++l') (m++m'):=by
 intro l
 induction l with
 | nil=>intro l' m m' h h';cases m with|nil=>exact h'|cons e m=>exact h.elim
 | cons u l ih=>intro l' m m' h h';cases m with|nil=>exact h.elim|cons e m=>exact ⟨h.1,ih h.2 h'⟩
theorem zO.split {N:Nat}{ns:List Nd}:∀ {m m':List (Nat ⊕ Tr)}{l:List Int},zO N ns l (m++m')→zO N ns (l.take m.length) m∧zO N ns (l.drop m.length) m':=by
 intro m
 induction m with
 | nil=>intro m' l h;exact ⟨by simp[zO],by simpa using h⟩
 | cons e m ih =>
   intro m' l h;cases l with
   | nil=>exact h.elim
   | cons u l =>
     obtain ⟨h1,h2⟩:=ih h.2;exact ⟨⟨h.1,h1⟩,h2⟩
theorem Seg.grow {ns L:List Nd}{a:Nat}(h:Seg ns a L)(X:List Nd):Seg (ns++X) a L:=by
 intro i x hx;have h1:=h i x hx;rw[List.getElem?_append_left (qy h1)];exact h1
theorem Seg.mod {ns L:List Nd}{a n:Nat}(h:Seg ns a L)(hn:n<a)(f:Nd→Nd):Seg (ns.modify n f) a L:=by
 intro i x hx;rw[Zr f (by omega)]
 exact h i x hx
theorem Q4.keep {N:Nat}{ns ns':List Nd}(hk:∀ a L,N≤a→Seg ns a L→Seg ns' a L){u:Int}{e:Nat ⊕ Tr}(h:Q4 N ns u e):Q4 N ns' u e:=by
 cases e with
 | inl k=>exact h
 | inr t=>obtain ⟨m,d,par,h1,h2,h3,h4⟩:=h;exact ⟨m,d,par,h1,h2,h3,hk m _ h2 h4⟩
theorem zO.keep {N:Nat}{ns ns':List Nd}(hk:∀ a L,N≤a→Seg ns a L→Seg ns' a L):∀ {l:List Int}{m:List (Nat ⊕ Tr)},zO N ns l m→zO N ns' l m:=by
 intro l
 induction l with
 | nil=>intro m h;cases m with|nil=>trivial|cons e m=>exact h.elim
 | cons u l ih=>intro m h;cases m with|nil=>exact h.elim|cons e m=>exact ⟨h.1.keep hk,ih h.2⟩
theorem zO.laid {N:Nat}{ns:List Nd}{d p:Nat}:∀ (l:List Tr)(a:Nat),N≤a→(∀ k∈l,Deep d k.kids)→Seg ns a (qG d (layF d) p a l)→zO N ns (qB d a l) (zp l):=by
 intro l
 induction l with
 | nil=>intro a _ _ _;trivial
 | cons k l ih =>
   intro a ha hd hs;rw[qG]at hs
   have hk:=hd k List.mem_cons_self;have hr:=hs.right;rw[layF_length d k p a hk]at hr
   exact ⟨⟨a,d,p,rfl,ha,hk,hs.left⟩,ih _ (by omega) (fun u hu=>hd u (List.mem_cons_of_mem _ hu)) hr⟩
structure Bch (ns0:List Nd) (σ:Nat→Sg) (ns:List Nd):Prop where
 len:ns0.length≤ns.length
 each:∀ (n:Nat) (x:Nd),ns0[n]?=some x→∃ y,ns[n]?=some y∧y.text=x.text∧y.s=sK σ n x∧y.attrs=(σ n).attrs∧y.parent=x.parent∧zO ns0.length ns y.kids (zF σ n x)
def sg0 (x:Nd):Sg:=⟨none,x.attrs,[],[],[],[],false,none⟩
def zk (ns:List Nd)(n:Nat):Sg:=match ns[n]? with
 | some x=>sg0 x
 | none=>⟨none,[],[],[],[],[],false,none⟩
theorem Bch.start {ns:List Nd}(hg:qM ns=true):Bch ns (zk ns) ns:=by
 refine ⟨nR9 _,fun n x hx=>⟨x,hx,rfl,?_,?_,rfl,?_⟩⟩
 · unfold sK zk;rw[hx];cases x.text<;>rfl
 · unfold zk;rw[hx];rfl
 · have hf := zo hg hx;have hs:zk ns n=sg0 x:=by unfold zk;rw[hx]
   have hall:zF (zk ns) n x=zZ (zk ns) n x.kids:=by
    unfold zF;rw[hs];cases x.text<;>rfl
   rw[hall];unfold zZ;rw[hs]
   show zO _ _ _ ([]++(_++[]))
   rw[List.nil_append,List.append_nil]
   have:∀ l:List Int,(∀ u∈l,∃ k:Nat,u=(k:Int)∧k<ns.length)→zO ns.length ns l (l.flatMap fun u=>qX (zk ns u.toNat) u.toNat):=by
    intro l
    induction l with
    | nil=>intro _;trivial
    | cons u l ih =>
      intro h;obtain ⟨k,rfl,hk⟩:=h u List.mem_cons_self;have hk2:zk ns (k:Int).toNat=sg0 (ns[k]):=by unfold zk;simp[hk]
      rw[List.flatMap_cons,hk2];exact ⟨⟨rfl,hk⟩,ih (fun v hv=>h v (List.mem_cons_of_mem _ hv))⟩
   exact this x.kids (fun u hu=>by obtain ⟨k,_,h1,_,h3,_⟩:=hf.kids u hu;exact ⟨k,h1,h3⟩)
theorem Bch.mod {ns0 ns:List Nd}{σ σ':Nat→Sg}(h:Bch ns0 σ ns){n:Nat}{x:Nd}(hx:ns0[n]?=some x)(f:Nd→Nd)(hσ:∀ k y,ns0[k]?=some y→k≠n→sK σ' k y=sK σ k y∧(σ' k).attrs=(σ k).attrs)(hall:∀ k y,ns0[k]?=some y→zF σ' k y=zF σ k y)
 (hf:∀ y:Nd,y.text=x.text→y.s=sK σ n x→y.attrs=(σ n).attrs→(f y).text=y.text∧(f y).s=sK σ' n x∧(f y).attrs=(σ' n).attrs∧(f y).parent=y.parent∧(f y).kids=y.kids):Bch ns0 σ' (ns.modify n f):=by
 have hn:=qy hx;have hk:∀ a L,ns0.length≤a→Seg ns a L→Seg (ns.modify n f) a L:=fun a L ha hs=>hs.mod (by omega) f
 refine ⟨by rw[List.length_modify];exact h.len,fun k z hz=>?_⟩
 obtain ⟨y,h1,h2,h3,h4,h5,h6⟩:=h.each k z hz
 by_cases hkn:k=n
 · subst hkn;rw[hx]at hz
   obtain rfl:=Option.some.inj hz;obtain ⟨g1,g2,g3,g4,g5⟩:=hf y h2 h3 h4;refine ⟨f y,by rw[YH,h1];rfl,by rw[g1,h2],g2,g3,by rw[g4,h5],?_⟩
   rw[g5,hall k x hx];exact h6.keep hk
 · obtain ⟨e1, e2⟩ := hσ k z hz hkn;refine ⟨y,by rw[Zr _ (fun e=>hkn e.symm)];exact h1,h2,by rw[e1];exact h3,by rw[e2];exact h4,h5,?_⟩
   rw[hall k z hz];exact h6.keep hk
def zK (d:Nat)(ns:List Nd)(p at':Nat)(l:List Tr):List Nd :=
 (ns++qG d (layF d) p ns.length l).modify p (fun y=>{ y with kids:=y.kids.take at'++(qB d ns.length l++y.kids.drop at') })
theorem Bch.put {ns0 ns:List Nd}{σ σ':Nat→Sg}(h:Bch ns0 σ ns){p:Nat}{x:Nd}(hx:ns0[p]?=some x){d:Nat}{l:List Tr}(hd:∀ k∈l,Deep d k.kids){at':Nat}{E F:List (Nat ⊕ Tr)}
 (h0:zF σ p x=E++F) (h1:zF σ' p x=E++(zp l++F)) (hE:at'=E.length) (hall:∀ k y,ns0[k]?=some y→k≠p→zF σ' k y=zF σ k y) (hσ:∀ k y,ns0[k]?=some y→sK σ' k y=sK σ k y∧(σ' k).attrs=(σ k).attrs):Bch ns0 σ' (zK d ns p at' l):=by
 have hn:=qy hx;have hl:=h.len;have hk:∀ a L,ns0.length≤a→Seg ns a L→Seg (zK d ns p at' l) a L:=fun a L ha hs=>(hs.grow _).mod (by omega) _
 refine ⟨by unfold zK;rw[List.length_modify,List.length_append];omega,fun k z hz=>?_⟩
 obtain ⟨y,g1,g2,g3,g4,g5,g6⟩:=h.each k z hz;obtain ⟨e1,e2⟩:=hσ k z hz;have hkl:k<ns.length:=qy g1
 by_cases hkp:k=p
 · subst hkp;rw[hx]at hz
   obtain rfl:=Option.some.inj hz;refine ⟨{ y with kids:=y.kids.take at'++(qB d ns.length l++y.kids.drop at') },?_,g2,by rw[e1];exact g3,by rw[e2];exact g4,g5,?_⟩
   · unfold zK;rw[YH,List.getElem?_append_left hkl,g1];rfl
   · rw[h1];rw[h0]at g6
     obtain ⟨s1,s2⟩:=g6.split;rw[←hE]at s1 s2
     refine (s1.keep hk).append (zO.append ?_ (s2.keep hk));refine zO.laid (p:=k) l ns.length hl hd ?_;refine Seg.mod ?_ (by omega) _
     intro i z hz;rw[List.getElem?_append_right (by omega),show ns.length+i-ns.length=i by omega]
     exact hz
 · refine ⟨y, ?_, g2, by rw[e1];exact g3, by rw[e2];exact g4, g5, ?_⟩
   · unfold zK;rw[Zr _ (fun e=>hkp e.symm),List.getElem?_append_left hkl];exact g1
   · rw[hall k z hz hkp];exact g6.keep hk
def ZP (ns:List Nd)(p at':Nat):List Nd:=ns.modify p (fun y=>{ y with kids:=y.kids.take at'++y.kids.drop (at'+1) })
theorem Bch.out {ns0 ns:List Nd}{σ σ':Nat→Sg}(h:Bch ns0 σ ns){p:Nat}{x:Nd}(hx:ns0[p]?=some x){at':Nat}{e:Nat ⊕ Tr}{E F:List (Nat ⊕ Tr)}
 (h0:zF σ p x=E++(e::F)) (h1:zF σ' p x=E++F) (hE:at'=E.length) (hall:∀ k y,ns0[k]?=some y→k≠p→zF σ' k y=zF σ k y) (hσ:∀ k y,ns0[k]?=some y→sK σ' k y=sK σ k y∧(σ' k).attrs=(σ k).attrs):Bch ns0 σ' (ZP ns p at'):=by
 have hn:=qy hx;have hk:∀ a L,ns0.length≤a→Seg ns a L→Seg (ZP ns p at') a L:=fun a L ha hs=>hs.mod (by omega) _
 refine ⟨by unfold ZP;rw[List.length_modify];exact h.len,fun k z hz=>?_⟩
 obtain ⟨y,g1,g2,g3,g4,g5,g6⟩:=h.each k z hz;obtain ⟨e1,e2⟩:=hσ k z hz
 by_cases hkp:k=p
 · subst hkp;rw[hx]at hz
   obtain rfl:=Option.some.inj hz;refine ⟨{ y with kids:=y.kids.take at'++y.kids.drop (at'+1) },?_,g2,by rw[e1];exact g3,by rw[e2];exact g4,g5,?_⟩
   · unfold ZP;rw[YH,g1];rfl
   · rw[h1];rw[h0]at g6
     obtain ⟨s1,s2⟩:=g6.split;rw[←hE]at s1 s2
     refine (s1.keep hk).append ?_;cases hq:y.kids.drop at' with
     | nil=>rw[hq]at s2;exact s2.elim
     | cons u r =>
       rw[hq]at s2
       rw[←List.drop_drop,hq,List.drop_succ_cons,List.drop_zero];exact s2.2.keep hk
 · refine ⟨y, ?_, g2, by rw[e1];exact g3, by rw[e2];exact g4, g5, ?_⟩
   · unfold ZP;rw[Zr _ (fun e=>hkp e.symm)];exact g1
   · rw[hall k z hz hkp];exact g6.keep hk
def ZX (ns:List Nd)(n:Nat)(s:ByteArray):List Nd:=(ns++[(⟨true,s,[],(n:Int),[]⟩:Nd)]).modify n (fun y=>{ y with kids:=[(ns.length:Int)] })
theorem Bch.val {ns0 ns:List Nd}{σ σ':Nat→Sg}(h:Bch ns0 σ ns){n:Nat}{x:Nd}(hx:ns0[n]?=some x){s:ByteArray}(h1:zF σ' n x=[Sum.inr (valT s)])(hall:∀ k y,ns0[k]?=some y→k≠n→zF σ' k y=zF σ k y)(hσ:∀ k y,ns0[k]?=some y→sK σ' k y=sK σ k y∧(σ' k).attrs=(σ k).attrs):Bch ns0 σ' (ZX ns n s):=by
 have hn:=qy hx;have hl:=h.len;have hk:∀ a L,ns0.length≤a→Seg ns a L→Seg (ZX ns n s) a L:=fun a L ha hs=>(hs.grow _).mod (by omega) _
 refine ⟨by unfold ZX;rw[List.length_modify,List.length_append];omega,fun k z hz=>?_⟩
 obtain ⟨y,g1,g2,g3,g4,g5,g6⟩:=h.each k z hz;obtain ⟨e1,e2⟩:=hσ k z hz;have hkl:k<ns.length:=qy g1
 by_cases hkp:k=n
 · subst hkp;rw[hx]at hz
   obtain rfl:=Option.some.inj hz;refine ⟨{ y with kids:=[(ns.length:Int)] },?_,g2,by rw[e1];exact g3,by rw[e2];exact g4,g5,?_⟩
   · unfold ZX;rw[YH,List.getElem?_append_left hkl,g1];rfl
   · rw[h1];refine ⟨⟨ns.length,0,(k:Int),rfl,hl,rfl,?_⟩,trivial⟩;refine Seg.mod ?_ (by omega) _
     intro i z hz;rw[List.getElem?_append_right (by omega),show ns.length+i-ns.length=i by omega]
     exact hz
 · refine ⟨y, ?_, g2, by rw[e1];exact g3, by rw[e2];exact g4, g5, ?_⟩
   · unfold ZX;rw[Zr _ (fun e=>hkp e.symm),List.getElem?_append_left hkl];exact g1
   · rw[hall k z hz hkp];exact g6.keep hk
def bodyF:Nat→List Nd→(Nat→Sg)→Nat→Tr
 | 0,_,_,_=>⟨false,⟨#[]⟩,[],[]⟩
 | f + 1, ns0, σ, n => match ns0[n]? with
   | none=>⟨false,⟨#[]⟩,[],[]⟩
   | some x=>⟨x.text,sK σ n x,(σ n).attrs,(zF σ n x).map (Sum.elim (fun k=>bodyF f ns0 σ k) id)⟩
theorem Y1 {ns0:List Nd}(hg:qM ns0=true){σ:Nat→Sg}{n k:Nat}{x:Nd}(hx:ns0[n]?=some x)(hk:Sum.inl k∈zF σ n x):n<k∧k<ns0.length:=by
 have hin:Sum.inl k∈zZ σ n x.kids:=by
  unfold zF at hk
  split at hk
  · exact hk
  · split at hk
    · simp at hk
    · exact hk
 unfold zZ zp at hin
 simp only[List.mem_append,List.mem_map,List.mem_flatMap]at hin
 rcases hin with ⟨_,_,h⟩|⟨u,hu,h⟩|⟨_,_,h⟩
 · cases h
 · obtain ⟨j, y, rfl, h1, h2, _⟩ := (zo hg hx).kids u hu;unfold qX zp xz at h
   simp only[List.mem_append,List.mem_map]at h
   rcases h with ⟨_,_,h⟩|h|⟨_,_,h⟩
   · cases h
   · split at h
     · simp at h
     · simp at h
       subst h;exact ⟨h1,h2⟩
   · cases h
 · cases h
theorem Xt {ns0 ns:List Nd}{σ:Nat→Sg}(hg:qM ns0=true)(h:Bch ns0 σ ns):∀ (f F n:Nat),n<ns0.length→ns0.length≤n+f→ns.length≤n+F→growF F ns n=bodyF f ns0 σ n:=by
 intro f
 induction f with
 | zero=>intro F n h1 h2;omega
 | succ f ih =>
   intro F n hn hf hF;have hl:=h.len;obtain ⟨F,rfl⟩:∃ F',F=F'+1:=⟨F-1,by omega⟩
   obtain ⟨x,hx⟩:∃ x,ns0[n]?=some x:=⟨ns0[n],by simp[hn]⟩
   obtain ⟨y,g1,g2,g3,g4,g5,g6⟩:=h.each n x hx;rw[growF,g1,bodyF,hx];simp only;rw[g2,g3,g4]
   congr 1
   have hall:=fun k=>Y1 (k:=k) hg (σ:=σ) hx
   have key:∀ (l:List Int) (m:List (Nat ⊕ Tr)),zO ns0.length ns l m→(∀ k,Sum.inl k∈m→n<k∧k<ns0.length)→(l.map fun k=>growF F ns k.toNat)=m.map (Sum.elim (fun k=>bodyF f ns0 σ k) id):=by
    intro l
    induction l with
    | nil=>intro m hr _;cases m with|nil=>rfl|cons e m=>exact hr.elim
    | cons u l ihl =>
      intro m hr hm;cases m with
      | nil=>exact hr.elim
      | cons e m =>
        rw[List.map_cons,List.map_cons,ihl m hr.2 (fun k hk=>hm k (List.mem_cons_of_mem _ hk))]
        congr 1
        cases e with
        | inl k =>
          obtain ⟨rfl,hk⟩:=hr.1;have h1:=hm k List.mem_cons_self;exact ih F k hk (by omega) (by omega)
        | inr t =>
          obtain ⟨m',d,par,rfl,h1,h2,h3⟩:=hr.1;refine grow_lay d t F ns par m' h2 h3 ?_;have h4:=layF_length d t par m' h2;have h5:0<cnt (d+1) [t]:=by rw[qL];omega
          obtain ⟨z,hz⟩:∃ z,(layF d t par m')[cnt (d+1) [t]-1]?=some z:=⟨(layF d t par m')[cnt (d+1) [t]-1]'(by omega),by simp⟩
          have h6:=qy (h3 _ z hz);omega
   exact key y.kids _ g6 hall
def upd (σ:Nat→Sg)(n:Nat)(g:Sg→Sg):Nat→Sg:=fun k=>if k=n then g (σ k) else σ k
theorem zQ (σ:Nat→Sg)(n:Nat)(g:Sg→Sg):upd σ n g n=g (σ n):=by simp[upd]
theorem zu {σ:Nat→Sg}{n k:Nat}(g:Sg→Sg)(h:k≠n):upd σ n g k=σ k:=by simp[upd,h]
def zJ (l:List (ByteArray × ByteArray))(name v:ByteArray):List (ByteArray × ByteArray) :=
 l.filter (fun a=>Op.bytesLess a.1.toList name.toList)++(name,v)::l.filter (fun a=>Op.bytesLess name.toList a.1.toList)
def zP (l:List (ByteArray × ByteArray))(name:ByteArray):List (ByteArray × ByteArray) :=
 l.filter (fun a=>Op.bytesLess a.1.toList name.toList)++l.filter (fun a=>Op.bytesLess name.toList a.1.toList)
def Jp (o:Opn)(g:Sg):Sg:={ g with nm:=some o.name }
def qaU (o:Opn)(g:Sg):Sg:={ g with attrs:=zJ g.attrs o.name o.s }
def Kk (o:Opn)(g:Sg):Sg:={ g with attrs:=zP g.attrs o.name }
def Qa (o:Opn)(g:Sg):Sg:={ g with bef:=g.bef++o.content }
def xv (o:Opn)(g:Sg):Sg:={ g with last:=g.last++o.content }
def jE (o:Opn)(g:Sg):Sg:={ g with first:=o.content++g.first }
def Xq (o:Opn)(g:Sg):Sg:={ g with aft:=o.content++g.aft }
def jF (g:Sg):Sg:={ g with gone:=true }
def Xr (o:Opn)(g:Sg):Sg:=jF (Qa o g)
def Zl (o:Opn)(g:Sg):Sg:={ g with val:=some o.s }
theorem JF {σ τ:Nat→Sg}{n:Nat}{l:List Int}(h1:(τ n).first=(σ n).first)(h2:(τ n).last=(σ n).last)(h3:∀ u∈l,qX (τ u.toNat) u.toNat=qX (σ u.toNat) u.toNat):zZ τ n l=zZ σ n l:=by
 unfold zZ;rw[h1,h2]
 congr 2
 induction l with
 | nil=>rfl
 | cons u l ih =>
   rw[List.flatMap_cons,List.flatMap_cons,h3 u List.mem_cons_self,ih (fun v hv=>h3 v (List.mem_cons_of_mem _ hv))]
theorem j4 {σ τ:Nat→Sg}{n:Nat}{x:Nd}(h1:(τ n).first=(σ n).first)(h2:(τ n).last=(σ n).last)(h3:∀ u∈x.kids,qX (τ u.toNat) u.toNat=qX (σ u.toNat) u.toNat)(h4:(τ n).val=(σ n).val):zF τ n x=zF σ n x:=by
 unfold zF;rw[JF h1 h2 h3,h4]
theorem qak {σ τ:Nat→Sg}{n:Nat}{x:Nd}(h1:(τ n).nm=(σ n).nm)(h2:(τ n).val=(σ n).val):sK τ n x=sK σ n x:=by unfold sK;rw[h1,h2]
theorem Bch.ren {ns0 ns:List Nd}{σ:Nat→Sg}(h:Bch ns0 σ ns){n:Nat}{x:Nd}(hx:ns0[n]?=some x)(ht:x.text=false)(o:Opn):Bch ns0 (upd σ n (Jp o)) (ns.modify n fun y=>{ y with s:=o.name }):=by
 refine h.mod hx _ (fun k y _ hk=>⟨by unfold sK;rw[zu _ hk],by rw[zu _ hk]⟩) (fun k y _=>?_) (fun y _ _ h4=>⟨rfl,?_,by rw[zQ];exact h4,rfl,rfl⟩)
 · refine j4 ?_ ?_ (fun u _ => ?_) ?_
   · unfold upd;split<;>rfl
   · unfold upd;split<;>rfl
   · unfold upd;split<;>rfl
   · unfold upd;split<;>rfl
 · unfold sK;rw[ht,zQ];rfl
theorem Bch.attr {ns0 ns:List Nd}{σ:Nat→Sg}(h:Bch ns0 σ ns){n:Nat}{x:Nd}(hx:ns0[n]?=some x)(f:List (ByteArray × ByteArray)→List (ByteArray × ByteArray)):Bch ns0 (upd σ n fun g=>{ g with attrs:=f g.attrs }) (ns.modify n fun y=>{ y with attrs:=f y.attrs }):=by
 refine h.mod hx _ (fun k y _ hk=>⟨by unfold sK;rw[zu _ hk],by rw[zu _ hk]⟩) (fun k y _=>?_) (fun y _ h3 h4=>⟨rfl,?_,by rw[zQ,←h4],rfl,rfl⟩)
 · refine j4 ?_ ?_ (fun u _ => ?_) ?_
   · unfold upd;split<;>rfl
   · unfold upd;split<;>rfl
   · unfold upd;split<;>rfl
   · unfold upd;split<;>rfl
 · rw[h3];unfold sK;rw[zQ]
theorem Bch.first {ns0 ns:List Nd}{σ:Nat→Sg}(h:Bch ns0 σ ns){n:Nat}{x:Nd}(hx:ns0[n]?=some x)(hv:(σ n).val=none)(o:Opn){d:Nat}(hd:∀ k∈o.content,Deep d k.kids):Bch ns0 (upd σ n (jE o)) (zK d ns n 0 o.content):=by
 have hp:∀ k,qX (upd σ n (jE o) k) k=qX (σ k) k:=fun k=>by unfold upd;split<;>rfl
 have hall:zF σ n x=[]++zZ σ n x.kids:=by unfold zF;rw[hv];cases x.text<;>rfl
 have hall2:zF (upd σ n (jE o)) n x=[]++(zp o.content++zZ σ n x.kids):=by
  have e:zF (upd σ n (jE o)) n x=zZ (upd σ n (jE o)) n x.kids:=by
   unfold zF;rw[zQ]
   show (if x.text=true then _ else match (σ n).val with|some s=>_|none=>_)=_
   rw[hv];cases x.text<;>rfl
  rw[e];unfold zZ;rw[zQ]
  show zp (o.content++(σ n).first)++(x.kids.flatMap (fun u=>qX (upd σ n (jE o) u.toNat) u.toNat)++zp (σ n).last)=_
  simp only[hp];unfold zp;rw[List.map_append,List.append_assoc,List.nil_append]
 refine h.put hx hd hall hall2 rfl (fun k y _ hk=>j4 (by rw[zu _ hk]) (by rw[zu _ hk]) (fun u _=>hp _) (by rw[zu _ hk])) (fun k y _=>⟨qak ?_ ?_,?_⟩)
 · unfold upd;split<;>rfl
 · unfold upd;split<;>rfl
 · unfold upd;split<;>rfl
theorem Bch.last {ns0 ns:List Nd}{σ:Nat→Sg}(h:Bch ns0 σ ns){n:Nat}{x y:Nd}(hx:ns0[n]?=some x)(hy:ns[n]?=some y)(hv:(σ n).val=none)(o:Opn){d:Nat}(hd:∀ k∈o.content,Deep d k.kids):Bch ns0 (upd σ n (xv o)) (zK d ns n y.kids.length o.content):=by
 have hp:∀ k,qX (upd σ n (xv o) k) k=qX (σ k) k:=fun k=>by unfold upd;split<;>rfl
 have hall:zF σ n x=zZ σ n x.kids++[]:=by unfold zF;rw[hv,List.append_nil];cases x.text<;>rfl
 have hall2:zF (upd σ n (xv o)) n x=zZ σ n x.kids++(zp o.content++[]):=by
  have e:zF (upd σ n (xv o)) n x=zZ (upd σ n (xv o)) n x.kids:=by
   unfold zF;rw[zQ]
   show (if x.text=true then _ else match (σ n).val with|some s=>_|none=>_)=_
   rw[hv];cases x.text<;>rfl
  rw[e];unfold zZ;rw[zQ]
  show zp (σ n).first++(x.kids.flatMap (fun u=>qX (upd σ n (xv o) u.toNat) u.toNat)++zp ((σ n).last++o.content))=_
  simp only[hp];unfold zp;rw[List.map_append,List.append_nil,List.append_assoc,List.append_assoc]
 refine h.put hx hd hall hall2 ?_ (fun k y _ hk=>j4 (by rw[zu _ hk]) (by rw[zu _ hk]) (fun u _=>hp _) (by rw[zu _ hk])) (fun k y _=>⟨qak ?_ ?_,?_⟩)
 · obtain ⟨y', g1, _, _, _, _, g6⟩ := h.each n x hx;rw[hy]at g1
   obtain rfl:=Option.some.inj g1;rw[g6.len,hall,List.append_nil]
 · unfold upd;split<;>rfl
 · unfold upd;split<;>rfl
 · unfold upd;split<;>rfl
structure yV (ns0:List Nd) (σ:Nat→Sg) (n p:Nat) (x:Nd) (A C:List Int):Prop where
 par:ns0[p]?=some x
 kids:x.kids=A++(n:Int)::C
 ahead:∀ u∈A,u.toNat≠n
 behind:∀ u∈C,u.toNat≠n
 none:(σ p).val=none
 other:∀ k y,ns0[k]?=some y→k≠p→∀ u∈y.kids,u.toNat≠n
 ne:p≠n
def fmK (σ:Nat→Sg)(l:List Int):List (Nat ⊕ Tr):=l.flatMap fun u=>qX (σ u.toNat) u.toNat
theorem VQ {σ:Nat→Sg}{n:Nat}(g:Sg→Sg){l:List Int}(h:∀ u∈l,u.toNat≠n):fmK (upd σ n g) l=fmK σ l:=by
 unfold fmK
 induction l with
 | nil=>rfl
 | cons u l ih=>rw[List.flatMap_cons,List.flatMap_cons,zu g (h u List.mem_cons_self),ih (fun v hv=>h v (List.mem_cons_of_mem _ hv))]
theorem yV.all {ns0:List Nd}{σ:Nat→Sg}{n p:Nat}{x:Nd}{A C:List Int}(h:yV ns0 σ n p x A C)(g:Sg→Sg):zF (upd σ n g) p x=zp (σ p).first++(fmK σ A++(qX (g (σ n)) n++(fmK σ C++zp (σ p).last))):=by
 have hpn:=h.ne
 have e:zF (upd σ n g) p x=zZ (upd σ n g) p x.kids:=by
  unfold zF;rw[zu g hpn,h.none];cases x.text<;>rfl
 rw[e];unfold zZ;rw[zu g hpn,h.kids]
 have e2:(A++(n:Int)::C).flatMap (fun u=>qX (upd σ n g u.toNat) u.toNat)=fmK σ A++(qX (g (σ n)) n++fmK σ C):=by
  rw[List.flatMap_append,List.flatMap_cons]
  show fmK (upd σ n g) A++(qX (upd σ n g (n:Int).toNat) (n:Int).toNat++fmK (upd σ n g) C)=_
  rw[VQ g h.ahead,VQ g h.behind,Int.toNat_natCast,zQ]
 rw[e2];simp only[List.append_assoc]
theorem yV.self {ns0:List Nd}{σ:Nat→Sg}{n p:Nat}{x:Nd}{A C:List Int}(h:yV ns0 σ n p x A C):zF σ p x=zp (σ p).first++(fmK σ A++(qX (σ n) n++(fmK σ C++zp (σ p).last))):=by
 have:=h.all id;have e:upd σ n id=σ:=by funext k;unfold upd;split<;>rfl
 rw[e]at this
 exact this
theorem yV.rest {ns0:List Nd}{σ:Nat→Sg}{n p:Nat}{x:Nd}{A C:List Int}(h:yV ns0 σ n p x A C){g:Sg→Sg}(g1:∀ s,(g s).first=s.first)(g2:∀ s,(g s).last=s.last)(g3:∀ s,(g s).val=s.val)(g4:∀ s,(g s).nm=s.nm)(g5:∀ s,(g s).attrs=s.attrs) :
 (∀ k y,ns0[k]?=some y→k≠p→zF (upd σ n g) k y=zF σ k y)∧(∀ k y,ns0[k]?=some y→sK (upd σ n g) k y=sK σ k y∧(upd σ n g k).attrs=(σ k).attrs):=by
 refine ⟨fun k y hy hk=>j4 ?_ ?_ (fun u hu=>by rw[zu g (h.other k y hy hk u hu)]) ?_,fun k y _=>⟨qak ?_ ?_,?_⟩⟩
 · unfold upd;split
   · exact g1 _
   · rfl
 · unfold upd;split
   · exact g2 _
   · rfl
 · unfold upd;split
   · exact g3 _
   · rfl
 · unfold upd;split
   · exact g4 _
   · rfl
 · unfold upd;split
   · exact g3 _
   · rfl
 · unfold upd;split
   · exact g5 _
   · rfl
def yn (σ:Nat→Sg)(n p:Nat)(A:List Int):List (Nat ⊕ Tr):=zp (σ p).first++(fmK σ A++zp (σ n).bef)
theorem Bch.bef {ns0 ns:List Nd}{σ:Nat→Sg}(h:Bch ns0 σ ns){n p:Nat}{x:Nd}{A C:List Int}(hs:yV ns0 σ n p x A C)(o:Opn){d:Nat}(hd:∀ k∈o.content,Deep d k.kids):Bch ns0 (upd σ n (Qa o)) (zK d ns p (yn σ n p A).length o.content):=by
 obtain ⟨r1,r2⟩:=hs.rest (g:=Qa o) (fun _=>rfl) (fun _=>rfl) (fun _=>rfl) (fun _=>rfl) (fun _=>rfl)
 refine h.put hs.par hd (E:=yn σ n p A) (F:=xz (σ n) n++(zp (σ n).aft++(fmK σ C++zp (σ p).last))) ?_ ?_ rfl r1 r2
 · rw[hs.self];unfold yn qX;simp only[List.append_assoc]
 · rw[hs.all]
   show zp (σ p).first++(fmK σ A++((zp ((σ n).bef++o.content)++(xz (σ n) n++zp (σ n).aft))++_))=_
   unfold yn zp;simp only[List.map_append,List.append_assoc]
theorem Bch.aft {ns0 ns:List Nd}{σ:Nat→Sg}(h:Bch ns0 σ ns){n p:Nat}{x:Nd}{A C:List Int}(hs:yV ns0 σ n p x A C)(hgo:(σ n).gone=false)(o:Opn){d:Nat}(hd:∀ k∈o.content,Deep d k.kids):Bch ns0 (upd σ n (Xq o)) (zK d ns p ((yn σ n p A).length+1) o.content):=by
 obtain ⟨r1,r2⟩:=hs.rest (g:=Xq o) (fun _=>rfl) (fun _=>rfl) (fun _=>rfl) (fun _=>rfl) (fun _=>rfl)
 refine h.put hs.par hd (E:=yn σ n p A++[Sum.inl n]) (F:=zp (σ n).aft++(fmK σ C++zp (σ p).last)) ?_ ?_ (by rw[List.length_append];rfl) r1 r2
 · rw[hs.self];unfold yn qX xz;rw[hgo];simp[List.append_assoc]
 · rw[hs.all]
   show zp (σ p).first++(fmK σ A++((zp (σ n).bef++(xz (σ n) n++zp (o.content++(σ n).aft)))++_))=_
   unfold yn zp xz;rw[hgo];simp[List.append_assoc]
theorem Bch.gone {ns0 ns:List Nd}{σ:Nat→Sg}(h:Bch ns0 σ ns){n p:Nat}{x:Nd}{A C:List Int}(hs:yV ns0 σ n p x A C)(hgo:(σ n).gone=false):Bch ns0 (upd σ n jF) (ZP ns p (yn σ n p A).length):=by
 obtain ⟨r1,r2⟩:=hs.rest (g:=jF) (fun _=>rfl) (fun _=>rfl) (fun _=>rfl) (fun _=>rfl) (fun _=>rfl)
 refine h.out hs.par (E:=yn σ n p A) (e:=Sum.inl n) (F:=zp (σ n).aft++(fmK σ C++zp (σ p).last)) ?_ ?_ rfl r1 r2
 · rw[hs.self];unfold yn qX xz;rw[hgo];simp[List.append_assoc]
 · rw[hs.all]
   show zp (σ p).first++(fmK σ A++((zp (σ n).bef++([]++zp (σ n).aft))++_))=_
   unfold yn;simp[List.append_assoc]
theorem Bch.valE {ns0 ns:List Nd}{σ:Nat→Sg}(h:Bch ns0 σ ns){n:Nat}{x:Nd}(hx:ns0[n]?=some x)(ht:x.text=false)(o:Opn):Bch ns0 (upd σ n (Zl o)) (ZX ns n o.s):=by
 have hp:∀ k,qX (upd σ n (Zl o) k) k=qX (σ k) k:=fun k=>by unfold upd;split<;>rfl
 refine h.val hx (s:=o.s) ?_ (fun k y _ hk=>j4 (by rw[zu _ hk]) (by rw[zu _ hk]) (fun u _=>hp _) (by rw[zu _ hk])) (fun k y hy=>⟨?_,?_⟩)
 · unfold zF;rw[ht,zQ];rfl
 · by_cases hk : k = n
   · subst hk;rw[hx]at hy
     obtain rfl:=Option.some.inj hy;unfold sK;rw[ht,zQ];rfl
   · unfold sK;rw[zu _ hk]
 · unfold upd;split<;>rfl
theorem Bch.valT {ns0 ns:List Nd}{σ:Nat→Sg}(h:Bch ns0 σ ns){n:Nat}{x:Nd}(hx:ns0[n]?=some x)(ht:x.text=true)(o:Opn):Bch ns0 (upd σ n (Zl o)) (ns.modify n fun y=>{ y with s:=o.s }):=by
 have hp:∀ k,qX (upd σ n (Zl o) k) k=qX (σ k) k:=fun k=>by unfold upd;split<;>rfl
 refine h.mod hx _ (fun k y _ hk=>⟨by unfold sK;rw[zu _ hk],by rw[zu _ hk]⟩) (fun k y hy=>?_) (fun y _ _ h4=>⟨rfl,?_,by rw[zQ];exact h4,rfl,rfl⟩)
 · by_cases hk : k = n
   · subst hk;rw[hx]at hy
     obtain rfl:=Option.some.inj hy;unfold zF;rw[ht];exact JF (by rw[zQ];rfl) (by rw[zQ];rfl) (fun u _=>hp _)
   · exact j4 (by rw[zu _ hk]) (by rw[zu _ hk]) (fun u _=>hp _) (by rw[zu _ hk])
 · unfold sK;rw[ht,zQ];rfl
theorem zO.get {N:Nat}{ns:List Nd}:∀ {l:List Int}{m:List (Nat ⊕ Tr)},zO N ns l m→∀ (i:Nat)(u:Int),l[i]?=some u→∃ e,m[i]?=some e∧Q4 N ns u e:=by
 intro l
 induction l with
 | nil=>intro m _ i u h;simp at h
 | cons v l ih =>
   intro m h i u hu;cases m with
   | nil=>exact h.elim
   | cons e m =>
     cases i with
     | zero=>simp at hu;subst hu;exact ⟨e,rfl,h.1⟩
     | succ i=>exact ih h.2 i u (by simpa using hu)
theorem Q4.own {N:Nat}{ns:List Nd}{n:Nat}{e:Nat ⊕ Tr}(hn:n<N)(h:Q4 N ns (n:Int) e):e=Sum.inl n:=by
 cases e with
 | inl k=>obtain ⟨h1,_⟩:=h;rw[show n=k by omega]
 | inr t=>obtain ⟨m,_,_,h1,h2,_⟩:=h;omega
theorem zO.index {N:Nat}{ns:List Nd}{l:List Int}{E F:List (Nat ⊕ Tr)}{n:Nat}(h:zO N ns l (E++Sum.inl n::F))(hn:n<N)(hE:Sum.inl n∉E):l.findIdx (fun u=>u==(n:Int))=E.length∧E.length<l.length:=by
 have hl:=h.len;rw[List.length_append,List.length_cons]at hl
 refine ⟨?_,by omega⟩
 have hlt:E.length<l.length:=by omega
 have h1:l[E.length]?=some (n:Int):=by
  obtain ⟨u,hu⟩:∃ u,l[E.length]?=some u:=⟨l[E.length],by simp[hlt]⟩
  obtain ⟨e,he,hk⟩:=h.get _ u hu;rw[List.getElem?_append_right (nR9 _),Nat.sub_self]at he
  simp at he
  subst he;rw[hu,hk.1]
 have h2:∀ j,j<E.length→l[j]?≠some (n:Int):=by
  intro j hj e;obtain ⟨e',he,hk⟩:=h.get j _ e;rw[List.getElem?_append_left hj]at he
  rw[hk.own hn]at he
  exact hE (List.mem_of_getElem? he)
 rw[List.findIdx_eq hlt];refine ⟨?_,fun j hj=>?_⟩
 · rw[List.getElem?_eq_getElem hlt]at h1
   rw[Option.some.inj h1];simp
 · have hjl : j < l.length := by omega
   have:=h2 j hj;rw[List.getElem?_eq_getElem hjl]at this
   simp only[beq_eq_false_iff_ne];exact fun e=>this (by rw[e])
theorem zO.no {N:Nat}{ns:List Nd}{l:List Int}{m:List (Nat ⊕ Tr)}{n:Nat}(h:zO N ns l m)(hn:n<N)(hm:Sum.inl n∉m):¬ l.findIdx (fun u=>u==(n:Int))<l.length:=by
 intro hlt;have h1:=List.findIdx_getElem (w:=hlt);obtain ⟨e,he,hk⟩:=h.get _ _ (List.getElem?_eq_getElem hlt);have h2:l[l.findIdx (fun u=>u==(n:Int))]=(n:Int):=by simpa using h1
 rw[h2]at hk
 rw[hk.own hn]at he
 exact hm (List.mem_of_getElem? he)
def Zw (ns:List Nd)(n:Nat):Nat:=match ns[n]? with
 | some y=>y.parent.toNat
 | none=>0
def jP (ns:List Nd)(p:Nat):List Int:=match ns[p]? with
 | some y=>y.kids
 | none=>[]
def atN (ns:List Nd)(n:Nat):Nat:=(jP ns (Zw ns n)).findIdx (fun u=>u==(n:Int))
def QK (ns:List Nd)(n:Nat):List Nd:=if atN ns n<(jP ns (Zw ns n)).length then ZP ns (Zw ns n) (atN ns n) else ns
def Ze (d:Nat)(ns:List Nd)(n:Nat)(l:List Tr):List Nd:=zK d ns (Zw ns n) (atN ns n) l
def qaF (d:Nat)(ns:List Nd)(n:Nat)(l:List Tr):List Nd:=zK d ns (Zw ns n) (atN ns n+1) l
def Km (d:Nat)(ns:List Nd)(n:Nat)(l:List Tr):List Nd:=zK d ns n (jP ns n).length l
def Vr (ns:List Nd)(n:Nat)(s:ByteArray):List Nd:=match ns[n]? with
 | some y=>if y.text then ns.modify n (fun y=>{ y with s:=s }) else ZX ns n s
 | none=>ns
def zg (d:Nat)(k:Int)(ns:List Nd)(o:Opn):List Nd :=
 if k=8 then ns.modify o.target.toNat (fun y=>{ y with s:=o.name })
 else if k=9 then ns.modify o.target.toNat (fun y=>{ y with attrs:=zJ y.attrs o.name o.s })
 else if k=10 then ns.modify o.target.toNat (fun y=>{ y with attrs:=zP y.attrs o.name })
 else if k=3 then Ze d ns o.target.toNat o.content
 else if k=2 then Km d ns o.target.toNat o.content
 else if k=1 then zK d ns o.target.toNat 0 o.content
 else if k=4 then qaF d ns o.target.toNat o.content
 else if k=6 then QK (Ze d ns o.target.toNat o.content) o.target.toNat
 else if k=5 then QK ns o.target.toNat
 else Vr ns o.target.toNat o.s
def gOf (k:Int)(o:Opn):Sg→Sg :=
 if k=8 then Jp o
 else if k=9 then qaU o
 else if k=10 then Kk o
 else if k=3 then Qa o
 else if k=2 then xv o
 else if k=1 then jE o
 else if k=4 then Xq o
 else if k=6 then Xr o
 else if k=5 then jF
 else Zl o
def doN (d:Nat)(k:Int)(ns:List Nd)(l:List Opn):List Nd:=l.foldl (fun ns o=>if o.kind=k then zg d k ns o else ns) ns
def doF (k:Int)(σ:Nat→Sg)(l:List Opn):Nat→Sg:=l.foldl (fun σ o=>if o.kind=k then upd σ o.target.toNat (gOf k o) else σ) σ
def x9 (d:Nat)(ns:List Nd)(l:List Opn):List Nd :=
 doN d 7 (doN d 5 (doN d 6 (doN d 4 (doN d 1 (doN d 2 (doN d 3 (doN d 10 (doN d 9 (doN d 8 ns l) l) l) l) l) l.reverse) l.reverse) l) l) l
def yB (ns:List Nd)(l:List Opn):Nat→Sg :=
 doF 7 (doF 5 (doF 6 (doF 4 (doF 1 (doF 2 (doF 3 (doF 10 (doF 9 (doF 8 (zk ns) l) l) l) l) l) l.reverse) l.reverse) l) l) l
structure qbP (ns0:List Nd) (d:Nat) (o:Opn):Prop where
 pos:0≤o.target
 lt:o.target.toNat<ns0.length
 deep:∀ k∈o.content,Deep d k.kids
 elem:∀ x,ns0[o.target.toNat]?=some x→o.kind=1∨o.kind=2∨o.kind=8∨o.kind=9∨o.kind=10→x.text=false
 root:o.kind=3∨o.kind=4∨o.kind=5∨o.kind=6→o.target.toNat≠0
theorem QQ {ns0:List Nd}(hg:qM ns0=true){σ:Nat→Sg}(hv:∀ n,(σ n).val=none){n:Nat}{x:Nd}(hx:ns0[n]?=some x)(h0:n≠0):∃ (p:Nat)(y:Nd)(A C:List Int),yV ns0 σ n p y A C∧x.parent=(p:Int):=by
 rcases (zo hg hx).par with ⟨h1,_⟩|⟨p,y,hy,hp,hpn,hm⟩
 · exact absurd h1 h0
 · obtain ⟨A, C, hAC⟩ := List.append_of_mem hm;have hrise:=QO hg hy;rw[hAC,List.pairwise_append]at hrise
   obtain ⟨_,h2,h3⟩:=hrise;rw[List.pairwise_cons]at h2
   have hpos:∀ u∈y.kids,0≤u:=fun u hu=>by obtain ⟨k,_,e,_⟩:=(zo hg hy).kids u hu;omega
   refine ⟨p,y,A,C,⟨hy,hAC,fun u hu=>?_,fun u hu=>?_,hv p,fun k z hz hk u hu e=>?_,by omega⟩,hp⟩
   · have h4 := h3 u hu (n : Int) List.mem_cons_self;have h5:=hpos u (by rw[hAC];exact List.mem_append_left _ hu)
     omega
   · have h4 := h2.1 u hu;omega
   · obtain ⟨j, z', e1, _, _, _, hz', hp'⟩ := (zo hg hz).kids u hu;have:j=n:=by omega
     subst this;rw[hx]at hz'
     obtain rfl:=Option.some.inj hz';omega
theorem Z1 {ns0:List Nd}{σ:Nat→Sg}{n p:Nat}{x:Nd}{A C:List Int}(h:yV ns0 σ n p x A C):Sum.inl n∉yn σ n p A:=by
 unfold yn zp fmK;simp only[List.mem_append,List.mem_map,List.mem_flatMap,not_or];refine ⟨(by rintro ⟨_,_,h⟩;cases h),?_,(by rintro ⟨_,_,h⟩;cases h)⟩
 rintro ⟨u,hu,hp⟩;have hne:=h.ahead u hu;unfold qX zp xz at hp
 simp only[List.mem_append,List.mem_map]at hp
 rcases hp with ⟨_,_,h⟩|hp|⟨_,_,h⟩
 · cases h
 · split at hp
   · simp at hp
   · simp at hp;exact hne hp.symm
 · cases h
theorem Bch.at {ns0 ns:List Nd}{σ:Nat→Sg}(h:Bch ns0 σ ns){n p:Nat}{x z:Nd}{A C:List Int}(hs:yV ns0 σ n p x A C)(hz:ns0[n]?=some z)(hp:z.parent=(p:Int)) :
 Zw ns n=p∧((σ n).gone=false→atN ns n=(yn σ n p A).length∧atN ns n<(jP ns p).length)∧((σ n).gone=true→¬ atN ns n<(jP ns (Zw ns n)).length):=by
 obtain ⟨y,g1,_,_,_,g5,_⟩:=h.each n z hz;have hpar:Zw ns n=p:=by unfold Zw;rw[g1];show y.parent.toNat=p;rw[g5,hp];omega
 obtain ⟨y',k1,_,_,_,_,k6⟩:=h.each p x hs.par;have hkid:jP ns p=y'.kids:=by unfold jP;rw[k1]
 have hn:=qy hz;refine ⟨hpar,fun hgo=>?_,fun hgo=>?_⟩
 · have e:zF σ p x=yn σ n p A++Sum.inl n::(zp (σ n).aft++(fmK σ C++zp (σ p).last)):=by
    rw[hs.self];unfold yn qX xz;rw[hgo];simp[List.append_assoc]
   rw[e]at k6
   obtain ⟨i1,i2⟩:=k6.index hn (Z1 hs);unfold atN;rw[hpar,hkid,i1];exact ⟨rfl,i2⟩
 · unfold atN;rw[hpar,hkid];refine k6.no hn ?_;rw[hs.self];unfold qX xz;rw[hgo];simp only[if_true,List.nil_append,List.mem_append,not_or];have h1:=Z1 hs;unfold yn at h1
   simp only[List.mem_append,not_or]at h1
   refine ⟨h1.1,h1.2.1,⟨h1.2.2,?_⟩,?_,?_⟩
   · unfold zp;simp only[List.mem_map];rintro ⟨_,_,h⟩;cases h
   · unfold fmK;simp only[List.mem_flatMap];rintro ⟨u,hu,hq⟩;have hne:=hs.behind u hu;unfold qX zp xz at hq
     simp only[List.mem_append,List.mem_map]at hq
     rcases hq with ⟨_,_,h⟩|hq|⟨_,_,h⟩
     · cases h
     · split at hq
       · simp at hq
       · simp at hq;exact hne hq.symm
     · cases h
   · unfold zp;simp only[List.mem_map];rintro ⟨_,_,h⟩;cases h
theorem Bch.step {ns0 ns:List Nd}(hg:qM ns0=true){σ:Nat→Sg}(h:Bch ns0 σ ns){d:Nat}{o:Opn}(ho:qbP ns0 d o)(hk:1≤o.kind∧o.kind≤10)(hv:o.kind≤6→∀ n,(σ n).val=none)(hgo:o.kind=3∨o.kind=4∨o.kind=6→(σ o.target.toNat).gone=false) :
 Bch ns0 (upd σ o.target.toNat (gOf o.kind o)) (zg d o.kind ns o):=by
 obtain ⟨x,hx⟩:∃ x,ns0[o.target.toNat]?=some x:=⟨ns0[o.target.toNat]'ho.lt,by simp[ho.lt]⟩
 have hel:=ho.elem x hx;have hro:=ho.root;have hde:=ho.deep;have stand:o.kind=3∨o.kind=4∨o.kind=5∨o.kind=6→∃ (p:Nat) (y:Nd) (A C:List Int),yV ns0 σ o.target.toNat p y A C∧x.parent=(p:Int):=fun h1=>QQ hg (hv (by omega)) hx (hro h1)
 generalize hn:o.target.toNat=n at *
 rcases (by omega:o.kind=8∨o.kind=9∨o.kind=10∨o.kind=3∨o.kind=2∨o.kind=1∨o.kind=4∨o.kind=6∨o.kind=5∨o.kind=7) with hc|hc|hc|hc|hc|hc|hc|hc|hc|hc
 · rw[hc];unfold zg gOf;simp only[hn];exact h.ren hx (hel (by omega)) o
 · rw[hc];unfold zg gOf;simp only[hn];exact h.attr hx (fun l=>zJ l o.name o.s)
 · rw[hc];unfold zg gOf;simp only[hn];exact h.attr hx (fun l=>zP l o.name)
 · obtain ⟨p, y, A, C, hs, hp⟩ := stand (by omega)
   obtain ⟨e1,e2,_⟩:=h.at hs hx hp
   obtain ⟨e3,_⟩:=e2 (hgo (by omega))
   have:=h.bef hs o hde;rw[hc];unfold zg gOf Ze;simp only[hn,e1,e3];exact this
 · have hvn := hv (by omega) n
   obtain ⟨y,g1,_⟩:=h.each n x hx;have:=h.last hx g1 hvn o hde;rw[hc];unfold zg gOf Km jP;simp only[hn,g1];exact this
 · rw[hc];unfold zg gOf;simp only[hn];exact h.first hx (hv (by omega) n) o hde
 · obtain ⟨p, y, A, C, hs, hp⟩ := stand (by omega)
   obtain ⟨e1,e2,_⟩:=h.at hs hx hp
   have hgn:=hgo (by omega)
   obtain ⟨e3,_⟩:=e2 hgn;have:=h.aft hs hgn o hde;rw[hc];unfold zg gOf qaF;simp only[hn,e1,e3];exact this
 · obtain ⟨p, y, A, C, hs, hp⟩ := stand (by omega)
   obtain ⟨e1,e2,_⟩:=h.at hs hx hp
   have hgn:=hgo (by omega)
   obtain ⟨e3,_⟩:=e2 hgn;have h1:=h.bef hs o hde;have hs1:yV ns0 (upd σ n (Qa o)) n p y A C:=⟨hs.par,hs.kids,hs.ahead,hs.behind,by rw[zu _ hs.ne];exact hs.none,hs.other,hs.ne⟩
   obtain ⟨i1,i2,_⟩:=h1.at hs1 hx hp
   have hgn1:(upd σ n (Qa o) n).gone=false:=by rw[zQ];exact hgn
   obtain ⟨i3,i4⟩:=i2 hgn1;have h2:=h1.gone hs1 hgn1
   have e:upd (upd σ n (Qa o)) n jF=upd σ n (Xr o):=by
    funext k
    unfold upd
    split
    · rfl
    · rfl
   rw[e]at h2
   rw[←i3]at h2
   rw[←e3]at h1 h2 i1 i3 i4
   rw[hc];unfold zg gOf;simp only[hn]
   show Bch ns0 (upd σ n (Xr o)) (QK (Ze d ns n o.content) n)
   have eb:Ze d ns n o.content=zK d ns p (atN ns n) o.content:=by unfold Ze;rw[e1]
   rw[eb];unfold QK;rw[i1,if_pos i4];exact h2
 · obtain ⟨p, y, A, C, hs, hp⟩ := stand (by omega)
   obtain ⟨e1,e2,e4⟩:=h.at hs hx hp
   rw[hc];unfold zg gOf QK;simp only[hn];cases hgn:(σ n).gone with
   | false =>
     obtain ⟨e3,e5⟩:=e2 hgn;have:=h.gone hs hgn;rw[e1]at *
     show Bch ns0 (upd σ n jF) (if atN ns n<(jP ns p).length then _ else _)
     rw[if_pos e5,e3];exact this
   | true =>
     show Bch ns0 (upd σ n jF) (if atN ns n<(jP ns (Zw ns n)).length then _ else _)
     rw[if_neg (e4 hgn)]
     have:upd σ n jF=σ:=by
      funext k
      unfold upd
      split
      · rename_i hk2
        subst hk2;unfold jF;cases hq:σ k with
        | mk a b c d e f g i=>rw[hq]at hgn;simp at hgn;subst hgn;rfl
      · rfl
     rw[this];exact h
 · obtain ⟨y, g1, g2, _⟩ := h.each n x hx;rw[hc];unfold zg gOf Vr;simp only[hn,g1];cases htx:x.text with
   | true=>rw[g2,htx];exact h.valT hx htx o
   | false=>rw[g2,htx];exact h.valE hx htx o
theorem xr (k:Int)(σ:Nat→Sg)(o:Opn)(l:List Opn):doF k σ (o::l)=doF k (if o.kind=k then upd σ o.target.toNat (gOf k o) else σ) l:=rfl
def Jt (k:Int):Bool:=decide (k=1)||decide (k=2)||decide (k=3)||decide (k=4)||decide (k=6)
def Ju (k:Int):Bool:=decide (k=8)||decide (k=9)||decide (k=10)
def Jv (k:Int):Bool:=decide (k=7)||decide (k=9)
def zj (k:Int):Bool:=decide (k=3)||decide (k=4)||decide (k=5)||decide (k=6)
def zH (o:Opn):Bool:=if Jt o.kind then q9 o.content else decide (o.content.length=0)
def yj (o:Opn):Bool:=if Ju o.kind then zI o.name else decide (o.name=⟨#[]⟩)
def yp (o:Opn):Bool:=if Jv o.kind then zx o.s else decide (o.s=⟨#[]⟩)
def je (ns:List Nd)(n:Int):Bool:=match ns[n.toNat]? with
 | some x=>x.text
 | none=>false
def ze (ns:List Nd)(o:Opn):Int :=
 if decide (o.kind<1)||decide (10<o.kind) then 4
 else if decide (o.target<0)||decide ((ns.length:Int)≤o.target) then 3
 else if !(zH o)||!(yj o)||!(yp o) then 1
 else if decide (o.target=0)&&zj o.kind then 6
 else if je ns o.target&&!(zj o.kind)&&!(decide (o.kind=7)) then 4
 else 0
def agB (a b:Opn):Bool:=decide (a.target=b.target)&&((decide (a.kind=6)&&decide (b.kind=6))||(decide (a.kind=7)&&decide (b.kind=7))||(decide (a.kind=8)&&decide (b.kind=8)) ||
 ((decide (a.kind=9)||decide (a.kind=10))&&(decide (b.kind=9)||decide (b.kind=10))&&decide (a.name=b.name)))
def twiceB:List Opn→Bool
 | []=>false
 | o::l=>l.any (agB o)||twiceB l
def zm (ns:List Nd):List Opn→Int
 | []=>0
 | o::l=>if ze ns o=0 then zm ns l else ze ns o
def qW (ns:List Nd)(l:List Opn):Int :=
 if !qM ns then 1 else if 20<l.length then 2 else if zm ns l≠0 then zm ns l else if twiceB l then 5 else 0
theorem Vy (a b:Opn):agB a b=agB b a:=by
 unfold agB;rw[Bool.eq_iff_iff];simp only[Bool.and_eq_true,Bool.or_eq_true,decide_eq_true_eq]
 constructor
 · rintro ⟨h1, h2⟩;refine ⟨h1.symm,?_⟩
   rcases h2 with ((h2|h2)|h2)|h2
   · exact Or.inl (Or.inl (Or.inl ⟨h2.2,h2.1⟩))
   · exact Or.inl (Or.inl (Or.inr ⟨h2.2,h2.1⟩))
   · exact Or.inl (Or.inr ⟨h2.2,h2.1⟩)
   · exact Or.inr ⟨⟨h2.1.2,h2.1.1⟩,h2.2.symm⟩
 · rintro ⟨h1, h2⟩;refine ⟨h1.symm,?_⟩
   rcases h2 with ((h2|h2)|h2)|h2
   · exact Or.inl (Or.inl (Or.inl ⟨h2.2,h2.1⟩))
   · exact Or.inl (Or.inl (Or.inr ⟨h2.2,h2.1⟩))
   · exact Or.inl (Or.inr ⟨h2.2,h2.1⟩)
   · exact Or.inr ⟨⟨h2.1.2,h2.1.1⟩,h2.2.symm⟩
theorem Jm (ns:List Nd):∀ l:List Opn,zm ns l=0↔∀ o∈l,ze ns o=0:=by
 intro l
 induction l with
 | nil=>simp[zm]
 | cons o l ih =>
   rw[zm]
   by_cases h:ze ns o=0
   · rw[if_pos h,ih];simp[h]
   · rw[if_neg h];simp[h]
theorem twiceB_false:∀ l:List Opn,twiceB l=false↔l.Pairwise (fun a b=>agB a b=false):=by
 intro l
 induction l with
 | nil=>simp[twiceB]
 | cons o l ih=>rw[twiceB,List.pairwise_cons,Bool.or_eq_false_iff,ih];simp
theorem ym (ns:List Nd)(l:List Opn):qW ns l=0↔qM ns=true∧l.length≤20∧(∀ o∈l,ze ns o=0)∧l.Pairwise (fun a b=>agB a b=false):=by
 rw[←Jm,←twiceB_false];unfold qW;cases hg:qM ns with
 | false=>simp
 | true =>
   simp only[Bool.not_true,Bool.false_eq_true,if_false,true_and]
   by_cases hl:20<l.length
   · rw[if_pos hl];constructor
     · intro h;omega
     · rintro ⟨h,_⟩;omega
   · rw[if_neg hl]
     by_cases hf:zm ns l=0
     · rw[if_neg (by simpa using hf)]
       cases ht:twiceB l with
       | true=>simp
       | false=>simp[hf];omega
     · rw[if_pos hf]
       constructor
       · intro h;exact absurd h hf
       · rintro ⟨_,h,_⟩;exact absurd h hf
theorem rb_deep:∀ (d:Nat)(room:Int)(l:List Tr),0≤rb d room l→Deep d l:=by
 intro d
 induction d with
 | zero =>
   intro room l h;unfold rb at h
   split at h
   · rename_i he
     have:l=[]:=by simpa using he
     exact this
   · omega
 | succ d ih =>
   intro room l h;unfold rb at h
   split at h
   · rename_i he
     have:l=[]:=by simpa using he
     subst this;intro t ht;simp at ht
   · split at h
     · omega
     · obtain ⟨_, _, h3⟩ := qaj (rb d) (Deep d) (fun room l h => ih room l h) l false _ h (by omega)
       exact h3
theorem Deep.more:∀ {n:Nat}{ts:List Tr},Deep n ts→Deep (n+1) ts:=by
 intro n
 induction n with
 | zero=>intro ts h;have h:ts=[]:=h;subst h;intro t ht;simp at ht
 | succ n ih=>intro ts h t ht;exact ih (h t ht)
theorem Deep.upto {n m:Nat}{ts:List Tr}(h:Deep n ts)(hm:n≤m):Deep m ts:=by
 obtain ⟨k,rfl⟩:∃ k,m=n+k:=⟨m-n,by omega⟩
 clear hm
 induction k with
 | zero=>exact h
 | succ k ih=>exact ih.more
theorem Qq {l:List Tr}(h:q9 l=true):∀ k∈l,Deep 8 k.kids:=by
 have h1:Deep 8 l:=rb_deep 8 80 l (by simpa[q9] using h)
 intro k hk;exact Deep.more (n:=7) (h1 k hk)
theorem jq {ns:List Nd}{o:Opn}(h:ze ns o=0):qbP ns 8 o∧1≤o.kind∧o.kind≤10∧zH o=true∧yj o=true∧yp o=true:=by
 unfold ze at h
 split at h
 · omega
 · rename_i h1
   split at h
   · omega
   · rename_i h2
     split at h
     · omega
     · rename_i h3
       split at h
       · omega
       · rename_i h4
         split at h
         · omega
         · rename_i h5
           simp only[Bool.or_eq_true,decide_eq_true_eq,not_or,Bool.not_eq_true',Bool.not_eq_false,Bool.and_eq_true,not_and]at h1 h2 h3 h4 h5
           obtain ⟨⟨hc,hn⟩,ht⟩:=h3;refine ⟨⟨by omega,by omega,?_,?_,?_⟩,by omega,by omega,hc,hn,ht⟩
           · unfold zH at hc
             split at hc
             · exact Qq hc
             · have : o.content = [] := List.eq_nil_of_length_eq_zero (by simpa using hc)
               rw[this];intro k hk;simp at hk
           · intro x hx hk;cases htx:x.text with
             | false=>rfl
             | true =>
               have e:je ns o.target=true:=by unfold je;rw[hx];exact htx
               by_cases hp:zj o.kind=false
               · exfalso
                 have h6:=h5 ⟨e,hp⟩;omega
               · exfalso
                 simp[zj]at hp
                 omega
           · intro hk e;have e1:o.target=0:=by omega
             have:=h4 e1;simp[zj]at this
             omega
def zi (ns:List Nd)(l:List Opn):Tr:=bodyF ns.length ns (yB ns l) 0
def zd (ns:List Nd)(l:List Opn):Tr:=jk (ns.length+9) (zi ns l)
def qO (ns:List Nd)(l:List Opn):List Nd:=if qW ns l=0 then (if zh (zd ns l) then layF (ns.length+9) (zd ns l) (-1) 0 else ns) else ns
def yi (ns:List Nd)(l:List Opn):Int:=if qW ns l=0 then (if zh (zd ns l) then 0 else 2) else qW ns l
def inK (k:Int)(n:Nat)(o:Opn):Bool:=decide (o.kind=k)&&decide (o.target.toNat=n)
def ofK (l:List Opn)(k:Int)(n:Nat):List Opn:=l.filter (inK k n)
theorem jT (k:Int)(n:Nat):∀ (l:List Opn)(σ:Nat→Sg),doF k σ l n=(ofK l k n).foldl (fun s o=>gOf k o s) (σ n):=by
 intro l
 induction l with
 | nil=>intro σ;rfl
 | cons o l ih =>
   intro σ;rw[xr,ih];unfold ofK
   by_cases hk:o.kind=k
   · rw[if_pos hk]
     by_cases ht:o.target.toNat=n
     · rw[List.filter_cons_of_pos (by simp[inK,hk,ht]),List.foldl_cons,ht,zQ]
     · rw[List.filter_cons_of_neg (by simp[inK,ht]),zu _ (fun e=>ht e.symm)]
   · rw[if_neg hk,List.filter_cons_of_neg (by simp[inK,hk])]
def Zv (ns:List Nd)(n k:Nat):Bool:=match ns[k]? with|some y=>decide (y.parent=(n:Int))|none=>false
def zE (ns:List Nd)(n:Nat):Nat→List Int
 | 0=>[]
 | k+1=>zE ns n k++(if n<k∧Zv ns n k=true then [(k:Int)] else [])
def treeF:Nat→List Nd→Nat→Tr
 | 0,_,_=>⟨false,⟨#[]⟩,[],[]⟩
 | f + 1, ns, n => match ns[n]? with
   | none=>⟨false,⟨#[]⟩,[],[]⟩
   | some x=>⟨x.text,x.s,x.attrs,(zE ns n ns.length).map fun k=>treeF f ns k.toNat⟩
theorem Yk (ns:List Nd)(n:Nat):∀ (m:Nat)(u:Int),u∈zE ns n m↔∃ k:Nat,u=(k:Int)∧k<m∧n<k∧Zv ns n k=true:=by
 intro m
 induction m with
 | zero=>intro u;simp[zE]
 | succ m ih =>
   intro u;rw[zE,List.mem_append,ih]
   constructor
   · rintro (⟨k, h1, h2, h3⟩ | h)
     · exact ⟨k,h1,by omega,h3⟩
     · split at h
       · rename_i hc
         rw[List.mem_singleton]at h
         exact ⟨m,h,by omega,hc⟩
       · simp at h
   · rintro ⟨k, h1, h2, h3⟩
     by_cases hk:k=m
     · subst hk
       right
       rw[if_pos h3,h1];exact List.mem_singleton.2 rfl
     · exact Or.inl ⟨k,h1,by omega,h3⟩
theorem YQ (ns:List Nd)(n:Nat):∀ (m:Nat),(zE ns n m).Pairwise (fun u v=>u<v):=by
 intro m
 induction m with
 | zero=>exact List.Pairwise.nil
 | succ m ih =>
   rw[zE,List.pairwise_append];refine ⟨ih,?_,?_⟩
   · split
     · exact List.Pairwise.cons (by simp) List.Pairwise.nil
     · exact List.Pairwise.nil
   · intro u hu v hv;obtain ⟨k,rfl,hk,_⟩:=(Yk ns n m u).1 hu
     split at hv
     · rw[List.mem_singleton]at hv;omega
     · simp at hv
theorem rise_ext:∀ {a b:List Int},a.Pairwise (fun u v=>u<v)→b.Pairwise (fun u v=>u<v)→(∀ u,u∈a↔u∈b)→a=b:=by
 intro a
 induction a with
 | nil =>
   intro b _ _ h;cases b with
   | nil=>rfl
   | cons y b=>exact absurd ((h y).2 List.mem_cons_self) (by simp)
 | cons x a ih =>
   intro b ha hb h;cases b with
   | nil=>exact absurd ((h x).1 List.mem_cons_self) (by simp)
   | cons y b =>
     rw[List.pairwise_cons]at ha hb
     have hxy:x=y:=by
      have h1:=(h x).1 List.mem_cons_self;have h2:=(h y).2 List.mem_cons_self;rw[List.mem_cons]at h1 h2
      rcases h1 with h1|h1
      · exact h1
      · rcases h2 with h2 | h2
        · exact h2.symm
        · have := hb.1 x h1;have:=ha.1 y h2;omega
     subst hxy;rw[ih ha.2 hb.2 (fun u=>?_)]
     constructor
     · intro hu;have h1:=(h u).1 (List.mem_cons_of_mem _ hu);rw[List.mem_cons]at h1
       rcases h1 with rfl|h1
       · exact absurd (ha.1 u hu) (by omega)
       · exact h1
     · intro hu;have h1:=(h u).2 (List.mem_cons_of_mem _ hu);rw[List.mem_cons]at h1
       rcases h1 with rfl|h1
       · exact absurd (hb.1 u hu) (by omega)
       · exact h1
theorem Vj {ns:List Nd}(hg:qM ns=true){n:Nat}{x:Nd}(hx:ns[n]?=some x):zE ns n ns.length=x.kids:=by
 refine rise_ext (YQ _ _ _) (QO hg hx) (fun u=>?_)
 rw[Yk]
 constructor
 · rintro ⟨k, rfl, hk, hnk, hp⟩;unfold Zv at hp
   cases hy:ns[k]? with
   | none=>rw[hy]at hp;cases hp
   | some y =>
     rw[hy]at hp
     simp only[decide_eq_true_eq]at hp
     exact (Kl hg hx hy).2 hp
 · intro hu;obtain ⟨k,y,rfl,h1,h2,_,hy,hp⟩:=(zo hg hx).kids u hu;exact ⟨k,rfl,h2,h1,by unfold Zv;rw[hy];simp[hp]⟩
theorem Vo {ns:List Nd}(hg:qM ns=true):∀ (f n:Nat),treeF f ns n=growF f ns n:=by
 intro f
 induction f with
 | zero=>intro n;rfl
 | succ f ih =>
   intro n;rw[treeF,growF];cases hx:ns[n]? with
   | none=>rfl
   | some x =>
     simp only;rw[Vj hg hx]
     congr 1
     apply List.map_congr_left
     intro k _;exact ih _
def yZ (ns:List Nd):Nat→Bool
 | 0=>true
 | k+1=>yZ ns k&&(match ns[k]? with|some x=>decide (k=0)||(decide (0≤x.parent)&&decide (x.parent<(k:Int)))|none=>true)
def qbA (ns:List Nd)(t:Tr):Prop:=zh t=true∧∃ d,Deep d t.kids∧layF d t (-1) 0=ns
theorem Yb {ns:List Nd}:qM ns=true↔(0<ns.length∧ns.length≤80∧(∃ x,ns[0]?=some x∧x.parent=-1)∧yZ ns ns.length=true∧qbA ns (treeF ns.length ns 0)):=by
 constructor
 · intro hg;obtain ⟨d,t,hd,hs,hc,_,_,hgb,hgr⟩:=QJ hg
   have h80:ns.length≤80:=by
    have:=hg;simp only[qM,Bool.and_eq_true,decide_eq_true_eq]at this
    exact this.1.1
   have hpos:0<ns.length:=by rw[←hc,qL];omega
   refine ⟨hpos,h80,⟨_,hs 0 _ (by rw[yR hd (-1) 0];rfl),rfl⟩,?_,?_⟩
   · have:∀ k,yZ ns k=true:=by
      intro k
      induction k with
      | zero=>rfl
      | succ k ih =>
        rw[yZ,ih,Bool.true_and];cases hx:ns[k]? with
        | none=>rfl
        | some x =>
          simp only[Bool.or_eq_true,Bool.and_eq_true,decide_eq_true_eq]
          rcases (zo hg hx).par with ⟨h,_⟩|⟨q,_,_,hp,hq,_⟩
          · exact Or.inl h
          · exact Or.inr (by omega)
     exact this _
   · rw[Vo hg, hgr];refine ⟨hgb,d,hd,?_⟩;have hlen:=layF_length d t (-1) 0 hd
     apply List.ext_getElem?
     intro i
     rcases Nat.lt_or_ge i ns.length with hi|hi
     · have : (layF d t (-1) 0)[i]? = some (layF d t (-1) 0)[i] := List.getElem?_eq_getElem (by omega)
       rw[this];have:=hs i _ this;rw[Nat.zero_add]at this
       exact this.symm
     · rw[List.getElem?_eq_none (by omega),List.getElem?_eq_none (by omega)]
 · rintro ⟨_, _, _, _, hgb, d, hd, hL⟩;have:=(Yc hd hgb).1;rw[hL]at this
   exact this
theorem jt_mem:∀ {ts:List Tr}{u:Tr},u∈jt ts→∃ t∈ts,u.kids=t.kids∧u.attrs=t.attrs∧u.text=t.text:=by
 intro ts
 induction ts with
 | nil=>intro u hu;simp[jt]at hu
 | cons t r ih =>
   intro u hu;have more:(∃ t∈r,u.kids=t.kids∧u.attrs=t.attrs∧u.text=t.text)→∃ t'∈t::r,u.kids=t'.kids∧u.attrs=t'.attrs∧u.text=t'.text:=fun ⟨x,hx,h⟩=>⟨x,List.mem_cons_of_mem _ hx,h⟩
   unfold jt at hu
   split at hu
   · split at hu
     · exact more (ih hu)
     · split at hu
       · simp at hu;subst hu;exact ⟨u,List.mem_cons_self,rfl,rfl,rfl⟩
       · rename_i v r' hj
         split at hu
         · rcases List.mem_cons.1 hu with rfl | hu
           · exact ⟨t,List.mem_cons_self,rfl,rfl,rfl⟩
           · exact more (ih (by rw[hj];exact List.mem_cons_of_mem _ hu))
         · rcases List.mem_cons.1 hu with rfl | hu
           · exact ⟨u,List.mem_cons_self,rfl,rfl,rfl⟩
           · exact more (ih (by rw[hj];exact hu))
   · rcases List.mem_cons.1 hu with rfl | hu
     · exact ⟨u,List.mem_cons_self,rfl,rfl,rfl⟩
     · exact more (ih hu)
theorem qaY {n:Nat}{ts:List Tr}(h:Deep n ts):Deep n (jt ts):=by
 cases n with
 | zero=>have e:ts=[]:=h;subst e;rfl
 | succ n =>
   intro u hu;obtain ⟨t,ht,e,_⟩:=jt_mem hu;rw[e];exact h t ht
theorem jk_deep:∀ (m n:Nat)(t:Tr),Deep n t.kids→Deep n (jk m t).kids:=by
 intro m
 induction m with
 | zero => intro n t _;cases n with
   | zero=>rfl
   | succ n=>intro u hu;simp[jk]at hu
 | succ m ih =>
   intro n t h;have h1:=qaY h
   show Deep n ((jt t.kids).map (jk m))
   cases n with
   | zero=>have e:jt t.kids=[]:=h1;rw[e];rfl
   | succ n =>
     intro u hu;obtain ⟨v,hv,rfl⟩:=List.mem_map.1 hu;exact ih n v (h1 v hv)
def xi (s:Sg):Prop:=(∀ k∈s.first,Deep 8 k.kids)∧(∀ k∈s.last,Deep 8 k.kids)∧(∀ k∈s.bef,Deep 8 k.kids)∧(∀ k∈s.aft,Deep 8 k.kids)
theorem Qy {α:Type}{p:α→Prop}{a b:List α}(ha:∀ k∈a,p k)(hb:∀ k∈b,p k):∀ k∈a++b,p k:=by
 intro k hk
 rcases List.mem_append.1 hk with h|h
 · exact ha k h
 · exact hb k h
theorem VR {k:Int}{o:Opn}{s:Sg}(ho:∀ k∈o.content,Deep 8 k.kids)(hs:xi s):xi (gOf k o s):=by
 obtain ⟨h1,h2,h3,h4⟩:=hs;unfold gOf
 split
 · exact ⟨h1,h2,h3,h4⟩
 split
 · exact ⟨h1,h2,h3,h4⟩
 split
 · exact ⟨h1,h2,h3,h4⟩
 split
 · exact ⟨h1,h2,Qy h3 ho,h4⟩
 split
 · exact ⟨h1,Qy h2 ho,h3,h4⟩
 split
 · exact ⟨Qy ho h1,h2,h3,h4⟩
 split
 · exact ⟨h1,h2,h3,Qy ho h4⟩
 split
 · exact ⟨h1,h2,Qy h3 ho,h4⟩
 split
 · exact ⟨h1,h2,h3,h4⟩
 · exact ⟨h1,h2,h3,h4⟩
theorem yE {k:Int}:∀ (l:List Opn)(σ:Nat→Sg),(∀ o∈l,∀ k∈o.content,Deep 8 k.kids)→(∀ n,xi (σ n))→∀ n,xi (doF k σ l n):=by
 intro l
 induction l with
 | nil=>intro σ _ h n;exact h n
 | cons o l ih =>
   intro σ ho h n;rw[xr];refine ih _ (fun x hx=>ho x (List.mem_cons_of_mem _ hx)) (fun m=>?_) n
   split
   · unfold upd
     split
     · exact VR (ho o List.mem_cons_self) (h m)
     · exact h m
   · exact h m
theorem Yj {ns:List Nd}{l:List Opn}(ho:∀ o∈l,∀ k∈o.content,Deep 8 k.kids):∀ n,xi (yB ns l n):=by
 have hr:∀ o∈l.reverse,∀ k∈o.content,Deep 8 k.kids:=fun o h=>ho o (List.mem_reverse.1 h)
 unfold yB;refine yE l _ ho (yE l _ ho (yE l _ ho (yE l.reverse _ hr (yE l.reverse _ hr (yE l _ ho (yE l _ ho (yE l _ ho (yE l _ ho (yE l _ ho ?_)))))))));intro n;unfold zk
 split
 · exact ⟨by simp[sg0],by simp[sg0],by simp[sg0],by simp[sg0]⟩
 · exact ⟨by simp,by simp,by simp,by simp⟩
theorem Vz {σ:Nat→Sg}(hσ:∀ n,xi (σ n)){n:Nat}{x:Nd}{t:Tr}(ht:Sum.inr t∈zF σ n x):Deep 8 t.kids:=by
 have inK:Sum.inr t∈zZ σ n x.kids→Deep 8 t.kids:=by
  intro hin;unfold zZ zp at hin
  simp only[List.mem_append,List.mem_map,List.mem_flatMap]at hin
  rcases hin with ⟨k,hk,h⟩|⟨u,_,h⟩|⟨k,hk,h⟩
  · injection h with h;subst h;exact (hσ n).1 k hk
  · unfold qX zp xz at h
    simp only[List.mem_append,List.mem_map]at h
    rcases h with ⟨k,hk,h⟩|h|⟨k,hk,h⟩
    · injection h with h;subst h;exact (hσ _).2.2.1 k hk
    · split at h
      · simp at h
      · simp at h
    · injection h with h;subst h;exact (hσ _).2.2.2 k hk
  · injection h with h;subst h;exact (hσ n).2.1 k hk
 unfold zF at ht
 split at ht
 · exact inK ht
 · split at ht
   · simp at ht;subst ht;intro k hk;simp[valT]at hk
   · exact inK ht
theorem KE {ns:List Nd}{σ:Nat→Sg}(hσ:∀ n,xi (σ n)):∀ (f n:Nat),Deep (f+8) (bodyF f ns σ n).kids:=by
 intro f
 induction f with
 | zero=>intro n k hk;simp[bodyF]at hk
 | succ f ih =>
   intro n;rw[bodyF]
   split
   · intro k hk;simp at hk
   · rename_i x hx
     rw[show f+1+8=(f+8)+1 by omega]
     intro k hk;obtain ⟨e,he,rfl⟩:=List.mem_map.1 hk;cases e with
     | inl m=>exact ih m
     | inr t=>exact (Vz hσ he).upto (by omega)
theorem Xd {ns:List Nd}{l:List Opn}(h:qW ns l=0):Deep (ns.length+8) (zi ns l).kids∧Deep (ns.length+9) (zd ns l).kids:=by
 have h3:=((ym _ _).1 h).2.2.1;have h1:=KE (ns:=ns) (Yj (ns:=ns) (l:=l) (fun o ho=>(jq (h3 o ho)).1.deep)) ns.length 0
 exact ⟨h1,jk_deep _ _ _ (h1.more)⟩
theorem cnt_wide:∀ {d:Nat}{ts:List Tr},Deep d ts→∀ {n:Nat},d≤n→cnt n ts=cnt d ts:=by
 intro d
 induction d with
 | zero=>intro ts h n _;have e:ts=[]:=h;subst e;rw[qQ,qQ]
 | succ d ih =>
   intro ts h n hn;obtain ⟨m,rfl⟩:∃ m,n=m+1:=⟨n-1,by omega⟩
   have:∀ l:List Tr,(∀ t∈l,Deep d t.kids)→cnt (m+1) l=cnt (d+1) l:=by
    intro l
    induction l with
    | nil=>intro _;rw[qQ,qQ]
    | cons t r ihl =>
      intro hl;rw[zf,zf,ih (hl t List.mem_cons_self) (by omega),ihl (fun u hu=>hl u (List.mem_cons_of_mem _ hu))]
   exact this ts h
theorem xI {ns:List Nd}(hg:qM ns=true):∃ (d:Nat)(t:Tr),Deep d t.kids∧layF d t (-1) 0=ns∧zh t=true∧growF ns.length ns 0=t∧t.text=false∧rgt (d+1) [t]=true∧d≤ns.length+1:=by
 have hg2:=hg;simp only[qM,Bool.and_eq_true,decide_eq_true_eq]at hg2
 have ho:=y7 hg2.1.2;obtain ⟨t,hd,hs,hn⟩:=ord_conv (ns.length+1) ns (-1) 0 (by rw[ho])
 rw[ho]at hn
 simp only[Nat.zero_add]at hn
 have hgr:=grow_lay _ t ns.length ns (-1) 0 hd hs (by omega)
 have hG:=hg2.2;rw[hgr]at hG
 have hG2:=hG;rw[jY hd]at hG
 simp only[Bool.and_eq_true,Bool.not_eq_true']at hG
 refine ⟨_,t,hd,?_,hG2,hgr,hG.1.1.1,hG.2,nR9 _⟩;have hl:=layF_length _ t (-1) 0 hd;refine List.ext_getElem? (fun i=>?_)
 rcases Nat.lt_or_ge i ns.length with hi|hi
 · have e : (layF (ns.length + 1) t (-1) 0)[i]? = some ((layF (ns.length + 1) t (-1) 0)[i]'(by omega)) := List.getElem?_eq_getElem _
   have:=hs i _ e;rw[Nat.zero_add]at this
   rw[e,this]
 · rw[List.getElem?_eq_none hi,List.getElem?_eq_none (by omega)]
section
structure Fr where
 t:Tr
 ahead:List Tr
 behind:List Tr
def plug:List Fr→List Tr→List Tr
 | [],X=>X
 | f::fs,X=>[{ f.t with kids:=f.ahead++(plug fs X++f.behind) }]
def stZ (D:Nat):List Fr→Nat→Nat
 | [],a=>a
 | f::fs,a=>stZ D fs (a+1+cnt D f.ahead)
def Xc (ns:List Nd)(d:Nat):Nat→List Tr→Prop
 | _,[]=>True
 | b,k::ks=>(∃ par:Int,Seg ns b (layF d k par b))∧Xc ns d (b+cnt (d+1) [k]) ks
theorem qbh {ns:List Nd}{d p:Nat}:∀ (ks:List Tr)(b:Nat),(∀ k∈ks,Deep d k.kids)→Seg ns b (qG d (layF d) p b ks)→Xc ns d b ks:=by
 intro ks
 induction ks with
 | nil=>intro b _ _;trivial
 | cons k ks ih =>
   intro b hd hs;rw[qG]at hs
   have hk:=hd k List.mem_cons_self;have hr:=hs.right;rw[layF_length d k p b hk]at hr
   exact ⟨⟨_,hs.left⟩,ih _ (fun u hu=>hd u (List.mem_cons_of_mem _ hu)) hr⟩
theorem QW {ns:List Nd}{d:Nat}:∀ (A C:List Tr)(b:Nat),Xc ns d b (A++C)→Xc ns d b A∧Xc ns d (b+cnt (d+1) A) C:=by
 intro A
 induction A with
 | nil=>intro C b h;exact ⟨trivial,by simpa[qQ] using h⟩
 | cons k A ih =>
   intro C b h;obtain ⟨h1,h2⟩:=ih C _ h.2;refine ⟨⟨h.1,h1⟩,?_⟩;rw[qZ,←Nat.add_assoc];exact h2
def plK (f:Nat)(ns:List Nd)(σ:Nat→Sg)(u:Int):List Tr:=(qX (σ u.toNat) u.toNat).map (Sum.elim (fun k=>bodyF f ns σ k) id)
theorem Qr (g:Nat→Tr)(l:List Tr):(zp l).map (Sum.elim g id)=l:=by
 unfold zp;rw[List.map_map]
 conv=>rhs;rw[←List.map_id l]
 rfl
theorem JG {f:Nat}{ns:List Nd}{σ:Nat→Sg}{n:Nat}(l:List Int):(zZ σ n l).map (Sum.elim (fun k=>bodyF f ns σ k) id)=(σ n).first++(l.flatMap (plK f ns σ)++(σ n).last):=by
 unfold zZ;rw[List.map_append,List.map_append,Qr,Qr,List.map_flatMap];rfl
theorem Kg (d:Nat)(t:Tr):0<cnt (d+1) [t]:=by rw[qL];omega
section
variable {ns : List Nd} {σ : Nat → Sg} {n : Nat}
theorem plug_ne:∀ (fs:List Fr)(u:Tr)(tl:List Tr),plug fs (u::tl)≠[]:=by
 intro fs u tl;cases fs<;>simp[plug]
theorem qcd {D:Nat}:∀ (fs:List Fr)(d b:Nat)(u:Tr)(tl:List Tr),(∀ k∈plug fs (u::tl),Deep d k.kids)→d+1≤D→stZ D fs b<b+cnt (d+1) (plug fs (u::tl)):=by
 intro fs
 induction fs with
 | nil=>intro d b u tl _ _;show b<b+cnt (d+1) (u::tl);rw[qZ];have:=Kg d u;omega
 | cons f fs ih =>
   intro d b u tl hd hD;have hk:=hd _ (List.mem_singleton.2 rfl);cases d with
   | zero =>
     have e:f.ahead++(plug fs (u::tl)++f.behind)=[]:=hk;simp at e
     exact absurd e.2.1 (plug_ne fs u tl)
   | succ d =>
     have hk':∀ k∈f.ahead++(plug fs (u::tl)++f.behind),Deep d k.kids:=hk;have hA:cnt D f.ahead=cnt (d+1) f.ahead:=cnt_wide (d:=d+1) (fun k h=>hk' k (List.mem_append_left _ h)) (by omega)
     have:=ih d (b+1+cnt D f.ahead) u tl (fun k h=>hk' k (List.mem_append_right _ (List.mem_append_left _ h))) (by omega)
     show stZ D fs (b+1+cnt D f.ahead)<b+cnt (d+1+1) [{ f.t with kids:=f.ahead++(plug fs (u::tl)++f.behind) }]
     rw[qL,zG,zG];omega
end
theorem Ve {ns:List Nd}{D:Nat}{u:Tr}{tl:List Tr}:∀ (fs:List Fr)(d b:Nat),(∀ k∈plug fs (u::tl),Deep d k.kids)→Xc ns d b (plug fs (u::tl))→d+1≤D→∃ e par,Deep e u.kids∧Seg ns (stZ D fs b) (layF e u par (stZ D fs b))∧e≤d:=by
 intro fs
 induction fs with
 | nil =>
   intro d b hd hs _;obtain ⟨⟨par,h1⟩,h2⟩:=hs;exact ⟨d,par,hd u List.mem_cons_self,h1,nR9 _⟩
 | cons g fs ih =>
   intro d b hd hs hD;obtain ⟨⟨par,h1⟩,_⟩:=hs;have hk:=hd _ (List.mem_singleton.2 rfl);cases d with
   | zero =>
     have e:g.ahead++(plug fs (u::tl)++g.behind)=[]:=hk;simp at e
     exact absurd e.2.1 (plug_ne fs u tl)
   | succ d =>
     have hk':∀ k∈g.ahead++(plug fs (u::tl)++g.behind),Deep d k.kids:=hk;have hsl:=qbh _ (b+1) hk' (Seg.tail h1);obtain ⟨s1,s2⟩:=QW _ _ _ hsl;obtain ⟨s3,s4⟩:=QW _ _ _ s2;have hA:cnt D g.ahead=cnt (d+1) g.ahead:=cnt_wide (d:=d+1) (fun k h=>hk' k (List.mem_append_left _ h)) (by omega)
     obtain ⟨e,p,e1,e2,e3⟩:=ih d (b+1+cnt (d+1) g.ahead) (fun k h=>hk' k (List.mem_append_right _ (List.mem_append_left _ h))) s3 (by omega)
     refine ⟨e,p,e1,?_,by omega⟩
     show Seg ns (stZ D fs (b+1+cnt D g.ahead)) (layF e u p (stZ D fs (b+1+cnt D g.ahead)))
     rw[hA];exact e2
theorem qbO {D:Nat}:∀ (d:Nat)(T:Tr)(a n:Nat),Deep d T.kids→d+1≤D→a≤n→n<a+cnt (d+1) [T]→∃ fs u,plug fs [u]=[T]∧stZ D fs a=n:=by
 intro d
 induction d with
 | zero =>
   intro T a n hd _ h1 h2;have e:T.kids=[]:=hd;rw[qL,e,qQ]at h2
   exact ⟨[],T,rfl,by show a=n;omega⟩
 | succ d ih =>
   intro T a n hd hD h1 h2
   by_cases hn:n=a
   · exact ⟨[],T,rfl,hn.symm⟩
   · rw[qL]at h2
     have key:∀ (ks:List Tr) (b:Nat),(∀ k∈ks,Deep d k.kids)→b≤n→n<b+cnt (d+1) ks→∃ A k C fs u,ks=A++k::C∧plug fs [u]=[k]∧stZ D fs (b+cnt (d+1) A)=n:=by
      intro ks
      induction ks with
      | nil=>intro b _ h3 h4;rw[qQ]at h4;omega
      | cons k ks ihk =>
        intro b hdk h3 h4;rw[qZ]at h4
        by_cases hk:n<b+cnt (d+1) [k]
        · obtain ⟨fs, u, e1, e2⟩ := ih k b n (hdk k List.mem_cons_self) (by omega) h3 hk
          exact ⟨[],k,ks,fs,u,rfl,e1,by rw[qQ];exact e2⟩
        · obtain ⟨A, k', C, fs, u, e1, e2, e3⟩ := ihk (b + cnt (d + 1) [k]) (fun x hx => hdk x (List.mem_cons_of_mem _ hx)) (by omega) (by omega)
          exact ⟨k::A,k',C,fs,u,by rw[e1];rfl,e2,by rw[qZ,←Nat.add_assoc];exact e3⟩
     obtain ⟨A,k,C,fs,u,e1,e2,e3⟩:=key T.kids (a+1) hd (by omega) (by omega)
     refine ⟨⟨T,A,C⟩::fs,u,?_,?_⟩
     · show [({ T with kids := A ++ (plug fs [u] ++ C) } : Tr)] = [T]
       rw[e2]
       show [({ T with kids:=A++(k::C) }:Tr)]=[T]
       rw[←e1];cases T;rfl
     · show stZ D fs (a + 1 + cnt D A) = n
       rw[cnt_wide (d:=d+1) (ts:=A) (fun x hx=>hd x (by rw[e1];exact List.mem_append_left _ hx)) (by omega)]
       exact e3
end
end Go.Proofs.YtnppmdpmippcoaaGreatDoor
namespace Go.Proofs.YtnppmdpmippcoaaGreatDoor
set_option maxRecDepth 100000
theorem bytes_lt:∀ a b:List UInt8,Op.bytesLess a b=decide (a<b):=by
 intro a
 induction a with
 | nil =>
   intro b;cases b with
   | nil=>simp[Op.bytesLess]
   | cons d b=>simp[Op.bytesLess]
 | cons c a ih =>
   intro b;cases b with
   | nil=>simp[Op.bytesLess]
   | cons d b =>
     rw[Op.bytesLess,ih b]
     by_cases h1:c<d
     · simp[h1,List.cons_lt_cons_iff]
     · by_cases h3 : c = d
       · subst h3;simp
       · simp[h1,h3,List.cons_lt_cons_iff]
def UpA (l:List (ByteArray × ByteArray)):Prop:=l.Pairwise fun x y=>x.1.toList<y.1.toList
theorem VF {l:List (ByteArray × ByteArray)}(h:yd l=true):UpA l:=by
 simp only[yd,Bool.and_eq_true,decide_eq_true_eq,List.all_eq_true]at h
 have step:∀ i,i+1<l.length→∀ x y,l[i]?=some x→l[i+1]?=some y→x.1.toList<y.1.toList:=by
  intro i hi x y hx hy;have hk:=h.2 (i+1) (by simpa using hi)
  unfold okA at hk
  rw[hy]at hk
  simp only[hx,Bool.and_eq_true]at hk
  have:=hk.2;rw[bytes_lt,decide_eq_true_eq]at this
  exact this
 have gen:∀ (m:List (ByteArray × ByteArray)),(∀ i,i+1<m.length→∀ x y,m[i]?=some x→m[i+1]?=some y→x.1.toList<y.1.toList)→UpA m:=by
  intro m
  induction m with
  | nil=>intro _;exact List.Pairwise.nil
  | cons a m ih =>
    intro hs;have hm:=ih (fun i hi x y hx hy=>hs (i+1) (by simpa using hi) x y (by simpa using hx) (by simpa using hy))
    unfold UpA;rw[List.pairwise_cons];refine ⟨fun b hb=>?_,hm⟩
    cases m with
    | nil=>simp at hb
    | cons c m =>
      have h1:a.1.toList<c.1.toList:=hs 0 (by simp) a c rfl rfl
      rw[List.mem_cons]at hb
      rcases hb with rfl|hb
      · exact h1
      · unfold UpA at hm
        rw[List.pairwise_cons]at hm
        exact List.lt_trans h1 (hm.1 b hb)
 exact gen _ step
def ltA (name:ByteArray)(a:ByteArray × ByteArray):Bool:=Op.bytesLess a.1.toList name.toList
def gtA (name:ByteArray)(a:ByteArray × ByteArray):Bool:=Op.bytesLess name.toList a.1.toList
theorem Qz {a b:ByteArray}(h:a.toList=b.toList):a=b:=by
 rw[ByteArray.toList_eq,ByteArray.toList_eq]at h
 cases a;cases b;simp only at h
 rw[Array.toList_inj]at h
 rw[h]
theorem qap {l:List (ByteArray × ByteArray)}(h:UpA l){name:ByteArray}(hn:∀ a∈l,a.1≠name):l.filter (ltA name)++l.filter (gtA name)=l:=by
 induction l with
 | nil=>rfl
 | cons a l ih =>
   unfold UpA at h
   rw[List.pairwise_cons]at h
   have hne:=hn a List.mem_cons_self;have ihl:=ih h.2 (fun x hx=>hn x (List.mem_cons_of_mem _ hx))
   by_cases hlt:a.1.toList<name.toList
   · have h1 : ltA name a = true := by unfold ltA;rw[bytes_lt];simpa using hlt
     have h2:gtA name a=false:=by unfold gtA;rw[bytes_lt];simpa using fun h3=>List.lt_irrefl _ (List.lt_trans hlt h3)
     rw[List.filter_cons_of_pos h1,List.filter_cons_of_neg (by simp[h2]),List.cons_append,ihl]
   · have h3:name.toList<a.1.toList:=by
      have hle:name.toList≤a.1.toList:=List.not_lt.1 hlt
      rcases List.le_iff_lt_or_eq.1 hle with h4|h4
      · exact h4
      · exact absurd (Qz h4).symm hne
     have h1:ltA name a=false:=by unfold ltA;rw[bytes_lt];simpa using hlt
     have h2:gtA name a=true:=by unfold gtA;rw[bytes_lt];simpa using h3
     have e0:l.filter (ltA name)=[]:=by
      rw[List.filter_eq_nil_iff];intro x hx;have h5:=List.lt_trans h3 (h.1 x hx);unfold ltA;rw[bytes_lt]
      simpa using fun h6=>List.lt_irrefl _ (List.lt_trans h5 h6)
     rw[e0]at ihl
     rw[List.filter_cons_of_neg (by simp[h1]),List.filter_cons_of_pos h2,e0]
     rw[List.nil_append]at ihl ⊢
     rw[ihl]
end Go.Proofs.YtnppmdpmippcoaaGreatDoor
namespace Go.Proofs.YtnppmdpmippcoaaGreatDoor
open Go.RowKit
set_option maxRecDepth 100000
section
structure Zip (ns:List Nd) (n d:Nat) (T u:Tr) (tl:List Tr) (fs:List Fr):Prop where
 deep:Deep d T.kids
 wide:d≤100
 laid:layF d T (-1) 0=ns
 plug:plug fs (u::tl)=[T]
 num:stZ 1000 fs 0=n
 good:zh T=true
theorem Qt {ns:List Nd}(h:qM ns=true):ns.length≤80:=by
 simp only[qM,Bool.and_eq_true,decide_eq_true_eq]at h
 exact h.1.1
theorem YV {ns:List Nd}(hg:qM ns=true){n:Nat}(hn:n<ns.length):∃ d T u fs,Zip ns n d T u [] fs:=by
 obtain ⟨d,t,hd,hl,hG,_,_,_,hdl⟩:=xI hg;have h80:=Qt hg;have hlen:=layF_length d t (-1) 0 hd;rw[hl]at hlen
 obtain ⟨fs,u,e1,e2⟩:=qbO (D:=1000) d t 0 n hd (by omega) (nZ9 _) (by omega)
 exact ⟨d,t,u,fs,hd,by omega,hl,e1,e2,hG⟩
section
variable {ns : List Nd} {n d : Nat} {T u : Tr} {tl : List Tr} {fs : List Fr}
theorem Zip.segL (h:Zip ns n d T u tl fs):Xc ns d 0 (Go.Proofs.YtnppmdpmippcoaaGreatDoor.plug fs (u::tl))∧∀ k∈Go.Proofs.YtnppmdpmippcoaaGreatDoor.plug fs (u::tl),Deep d k.kids:=by
 rw[h.plug];refine ⟨⟨⟨-1,by rw[←h.laid];exact ZC _⟩,trivial⟩,fun k hk=>?_⟩
 simp at hk
 subst hk;exact h.deep
theorem Zip.node (h:Zip ns n d T u tl fs):∃ e par,Deep e u.kids∧Seg ns n (layF e u par n):=by
 obtain ⟨h1,h2⟩:=h.segL;obtain ⟨e,par,h3,h4,_⟩:=Ve (D:=1000) fs d 0 h2 h1 (by have:=h.wide;omega)
 rw[h.num]at h4
 exact ⟨e,par,h3,h4⟩
theorem Zip.get (h:Zip ns n d T u tl fs):∃ x,ns[n]?=some x∧x.text=u.text∧x.s=u.s∧x.attrs=u.attrs:=by
 obtain ⟨e,par,h1,h2⟩:=h.node;exact ⟨_,h2 0 _ (by rw[yR h1];rfl),rfl,rfl,rfl⟩
end
theorem xD {u:Tr}(h:qT u=true)(ht:u.text=false):zI u.s=true∧yd u.attrs=true:=by
 unfold qT at h
 rw[ht]at h
 simpa using h
theorem XK {u:Tr}{tl:List Tr}:∀ (fs:List Fr)(d:Nat),rgt (d+1) (plug fs (u::tl))=true→(∀ k∈plug fs (u::tl),Deep d k.kids)→qT u=true:=by
 intro fs
 induction fs with
 | nil=>intro d h _;exact (jQ _ _ h u List.mem_cons_self).1
 | cons f fs ih =>
   intro d h hd;have hk:=hd _ (List.mem_singleton.2 rfl);cases d with
   | zero =>
     have e:f.ahead++(plug fs (u::tl)++f.behind)=[]:=hk;simp at e
     exact absurd e.2.1 (plug_ne fs u tl)
   | succ d =>
     have h1:=jQ _ _ h _ (List.mem_singleton.2 rfl);have hk':∀ k∈f.ahead++(plug fs (u::tl)++f.behind),Deep d k.kids:=hk;cases ht:f.t.text with
     | true =>
       have:=xC h1.1 ht;simp at this
       exact absurd this.2.1 (plug_ne fs u tl)
     | false =>
       have h2:=h1.2;simp only[ht,Bool.false_or]at h2
       have h3:rgL (rgt d) false (f.ahead++(plug fs (u::tl)++f.behind))=true:=h2;have h4:∀ k∈plug fs (u::tl),qT k=true∧(k.text||rgt d k.kids)=true:=fun k hk=>jQ _ _ h3 k (List.mem_append_right _ (List.mem_append_left _ hk))
       cases fs with
       | nil=>exact (h4 u List.mem_cons_self).1
       | cons g fs =>
         refine ih d ?_ (fun k hk=>hk' k (List.mem_append_right _ (List.mem_append_left _ hk)))
         have h5:=h4 _ (List.mem_singleton.2 rfl)
         show rgL (rgt d) false [_]=true
         simp only[rgL,Bool.and_eq_true,Bool.false_and,Bool.not_false,and_true];exact ⟨h5.1,h5.2⟩
theorem Zip.right {ns:List Nd}{n d:Nat}{T u:Tr}{tl:List Tr}{fs:List Fr}(h:Zip ns n d T u tl fs):qT u=true:=by
 have hG:=h.good;rw[jY h.deep]at hG
 simp only[Bool.and_eq_true]at hG
 obtain ⟨_,h2⟩:=h.segL;exact XK fs d (by rw[h.plug];exact hG.2) h2
theorem rgt_all:∀ {n:Nat}{ts:List Tr},Deep n ts→rgt n ts=true→∀ N,rgt N ts=true:=by
 intro n
 induction n with
 | zero=>intro ts h _ N;have e:ts=[]:=h;subst e;exact xM N
 | succ n ih =>
   intro ts hd h N;cases N with
   | zero=>rfl
   | succ N =>
     have key:∀ (l:List Tr) (p:Bool),(∀ t∈l,Deep n t.kids)→rgL (rgt n) p l=true→rgL (rgt N) p l=true:=by
      intro l
      induction l with
      | nil=>intro p _ _;rfl
      | cons t l ihl =>
        intro p hd h;simp only[rgL,Bool.and_eq_true]at h ⊢
        refine ⟨⟨h.1.1,?_⟩,ihl _ (fun u hu=>hd u (List.mem_cons_of_mem _ hu)) h.2⟩
        have h3:=h.1.2;cases htx:t.text with
        | true=>rfl
        | false =>
          rw[htx,Bool.false_or]at h3
          rw[Bool.false_or];exact ih (hd t List.mem_cons_self) h3 N
     exact key ts false hd h
end
end Go.Proofs.YtnppmdpmippcoaaGreatDoor
namespace Go.Proofs.YtnppmdpmippcoaaGreatDoor
open Go.ChangeShapes Go.WideShapes Go.ChangeAt Go.RowKit
set_option maxRecDepth 100000
def Ops (S:Nat→Prop)(w:World)(n:Nat)(v:Value)(l:List Opn):Prop :=
  ∃ a cap, v = .slice a l.length cap ∧ l.length ≤ cap ∧ cap ≤ maxLen ∧
    (l≠[]→∃ b o,a=some ⟨b,o,none⟩∧S b∧∀ (i:Nat) (x:Opn),l[i]?=some x→∃ ca cc,
      w.cell? ⟨b,o+i*5,none⟩=some (.int .i64 x.kind)∧w.cell? ⟨b,o+i*5+1,none⟩=some (.int .i64 x.target)∧w.cell? ⟨b,o+i*5+2,none⟩=some (.slice ca x.content.length cc) ∧
      w.cell? ⟨b,o+i*5+3,none⟩=some (.string x.name)∧w.cell? ⟨b,o+i*5+4,none⟩=some (.string x.s)∧qw S w n (.slice ca x.content.length cc) x.content)
def jS (n:Nat)(l:List Opn):Prop:=∀ x∈l,TextsN n x.content∧x.name.size≤maxLen∧x.s.size≤maxLen
theorem Ops.carry {S S':Nat→Prop}{w w':World}{n:Nat}{v:Value}{l:List Opn}(h:Ops S w n v l)(hw:∀ b,S b→S' b∧w'.heap[b]?=w.heap[b]?):Ops S' w' n v l:=by
 obtain ⟨a,cap,h1,h2,h3,h4⟩:=h;refine ⟨a,cap,h1,h2,h3,fun hne=>?_⟩
 obtain ⟨b,o,ha,hs,hc⟩:=h4 hne;refine ⟨b,o,ha,(hw b hs).1,fun i x hx=>?_⟩
 obtain ⟨ca,cc,c0,c1,c2,c3,c4,hT⟩:=hc i x hx;refine ⟨ca,cc,?_,?_,?_,?_,?_,qw.carry hw n hT⟩
 · rw[World.cell?_of_block (a:=⟨b,o+i*5,none⟩) (hw b hs).2];exact c0
 · rw[World.cell?_of_block (a:=⟨b,o+i*5+1,none⟩) (hw b hs).2];exact c1
 · rw[World.cell?_of_block (a:=⟨b,o+i*5+2,none⟩) (hw b hs).2];exact c2
 · rw[World.cell?_of_block (a:=⟨b,o+i*5+3,none⟩) (hw b hs).2];exact c3
 · rw[World.cell?_of_block (a:=⟨b,o+i*5+4,none⟩) (hw b hs).2];exact c4
theorem Ops.bounded {S:Nat→Prop}{w:World}{n:Nat}{v:Value}{l:List Opn}(h:Ops S w n v l):Ops (fun b=>S b∧b<w.heap.size) w n v l:=by
 obtain ⟨a,cap,h1,h2,h3,h4⟩:=h;refine ⟨a,cap,h1,h2,h3,fun hne=>?_⟩
 obtain ⟨b,o,ha,hs,hc⟩:=h4 hne;refine ⟨b,o,ha,⟨hs,?_⟩,fun i x hx=>?_⟩
 · cases l with
   | nil=>exact absurd rfl hne
   | cons x r =>
     obtain ⟨_,_,c0,_⟩:=hc 0 x rfl;exact World.block_lt_of_cell? w _ c0
 · obtain ⟨ca, cc, c0, c1, c2, c3, c4, hT⟩ := hc i x hx;exact ⟨ca,cc,c0,c1,c2,c3,c4,qw.bounded n hT⟩
theorem Ops.later {S:Nat→Prop}{w w':World}{n:Nat}{v:Value}{l:List Opn}(h:Ops S w n v l)(hb:Below w.heap.size w w'):Ops S w' n v l :=
 h.bounded.carry fun b hb'=>⟨hb'.1,hb.block b hb'.2⟩
theorem Ops.shape {S:Nat→Prop}{w:World}{n:Nat}{v:Value}{l:List Opn}(h:Ops S w n v l):∃ a c,v=.slice a l.length c∧l.length≤c∧c≤maxLen:=by
 obtain ⟨a,cap,h1,h2,h3,_⟩:=h;exact ⟨a,cap,h1,h2,h3⟩
theorem Ops.at {S:Nat→Prop}{w:World}{n:Nat}{v:Value}{l:List Opn}(h:Ops S w n v l){i:Nat}{x:Opn}(hx:l[i]?=some x):∃ b o cap ca cc,v=.slice (some ⟨b,o,none⟩) l.length cap∧S b∧b<w.heap.size ∧
 w.cell? ⟨b,o+i*5,none⟩=some (.int .i64 x.kind)∧w.cell? ⟨b,o+i*5+1,none⟩=some (.int .i64 x.target)∧w.cell? ⟨b,o+i*5+2,none⟩=some (.slice ca x.content.length cc) ∧
 w.cell? ⟨b,o+i*5+3,none⟩=some (.string x.name)∧w.cell? ⟨b,o+i*5+4,none⟩=some (.string x.s)∧qw S w n (.slice ca x.content.length cc) x.content:=by
 obtain ⟨a,cap,h1,h2,h3,h4⟩:=h;have hne:l≠[]:=by intro e;subst e;simp at hx
 obtain ⟨b,o,rfl,hs,hc⟩:=h4 hne;obtain ⟨ca,cc,c0,c1,c2,c3,c4,hT⟩:=hc i x hx;exact ⟨b,o,cap,ca,cc,h1,hs,World.block_lt_of_cell? w _ c0,c0,c1,c2,c3,c4,hT⟩
theorem Ops.pairs {S:Nat→Prop}{w:World}{n:Nat}{b o cap m:Nat}{l:List Opn}(h:Ops S w n (.slice (some ⟨b,o,none⟩) m cap) l):∃ zs:List (Opn × Value),zs.map (·.1)=l ∧
    ∀ (j : Nat) (z : Opn × Value), zs[j]? = some z → w.cell? ⟨b, o + j * 5, none⟩ = some (.int .i64 z.1.kind) ∧ w.cell? ⟨b, o + j * 5 + 1, none⟩ = some (.int .i64 z.1.target) ∧ w.cell? ⟨b, o + j * 5 + 2, none⟩ = some z.2 ∧
      w.cell? ⟨b,o+j*5+3,none⟩=some (.string z.1.name)∧w.cell? ⟨b,o+j*5+4,none⟩=some (.string z.1.s):=by
  refine ⟨l.mapIdx (fun i x=>(x,(w.cell? ⟨b,o+i*5+2,none⟩).getD undef)),?_,?_⟩
  · apply List.ext_getElem?
    intro i;rw[List.getElem?_map,List.getElem?_mapIdx];cases l[i]?<;>rfl
  · intro j z hz;rw[List.getElem?_mapIdx]at hz
    cases hx:l[j]? with
    | none=>rw[hx]at hz;simp at hz
    | some x =>
      rw[hx]at hz
      obtain ⟨b',o',cap',ca,cc,hv,_,_,c0,c1,c2,c3,c4,_⟩:=h.at hx
      injection hv with hv1 _ _
      injection hv1 with hv1
      injection hv1 with hb ho _
      subst hb ho;have:z=(x,(w.cell? ⟨b,o+j*5+2,none⟩).getD undef):=by simpa using hz.symm
      subst this;refine ⟨c0,c1,?_,c3,c4⟩;rw[c2];rfl
theorem Jo {ns:List Nd}:∀ {l:List Opn}{i:Nat}{x:Opn},zm ns (l.take i)=0→l[i]?=some x→zm ns (l.take (i+1))=ze ns x∧(ze ns x≠0→zm ns l=ze ns x):=by
 intro l
 induction l with
 | nil=>intro i x _ h;simp at h
 | cons y r ih =>
   intro i x h hx;cases i with
   | zero =>
     have:y=x:=by simpa using hx
     subst this
     constructor
     · simp only[List.take, zm]
       by_cases h0:ze ns y=0
       · rw[if_pos h0,h0]
       · rw[if_neg h0]
     · intro h0;rw[zm,if_neg h0]
   | succ i =>
     simp only[List.take_succ_cons,zm]at h
     by_cases h0:ze ns y=0
     · rw[if_pos h0]at h
       have:=ih h (by simpa using hx)
       constructor
       · rw[List.take_succ_cons,zm,if_pos h0];exact this.1
       · intro hn;rw[zm,if_pos h0];exact this.2 hn
     · rw[if_neg h0]at h;exact absurd h h0
theorem twice_take:∀ (l:List Opn)(i:Nat)(x:Opn),l[i]?=some x→twiceB (l.take (i+1))=(twiceB (l.take i)||(l.take i).any (fun e=>agB e x)):=by
 intro l
 induction l with
 | nil=>intro i x h;simp at h
 | cons y r ih =>
   intro i x hx;cases i with
   | zero=>simp[twiceB]
   | succ i =>
     have h:=ih i x (by simpa using hx)
     have ht:r.take (i+1)=r.take i++[x]:=by rw[List.take_add_one];simp at hx;simp[hx]
     rw[List.take_succ_cons,twiceB,h,List.take_succ_cons,twiceB,List.any_cons,ht,List.any_append];simp only[List.any_cons,List.any_nil,Bool.or_false];cases (r.take i).any (agB y)<;>cases agB y x<;>cases twiceB (r.take i)<;>simp
theorem twice_mono:∀ (l:List Opn)(i:Nat),twiceB (l.take i)=true→twiceB l=true:=by
 intro l i h;cases hn:twiceB l with
 | true=>rfl
 | false =>
   rw[twiceB_false]at hn
   have:twiceB (l.take i)=false:=(twiceB_false _).2 (hn.sublist (List.take_sublist _ _));rw[h]at this;exact absurd this (by decide)
theorem jx {w:World}{B B':Nat}{e:TypeId}{size:Nat}{v:Value}{n:Nat}{xs:List Value}(h:w.ownsRow B e size v n xs)(hb:B'≤B):w.ownsRow B' e size v n xs:=by
 refine ⟨h.1,?_⟩
 rcases h.2 with h2|⟨g,cap,cur,hv,hg,r⟩
 · exact Or.inl h2
 · exact Or.inr ⟨g,cap,cur,hv,Nat.le_trans hb hg,r⟩
def QS (B:Nat)(w:World)(r:Rw)(x:Nd):Prop:=r.text=x.text∧r.s=x.s∧r.par=x.parent∧qC (qS B 79 w) w r.va x.attrs∧qY B w r.vk x.kids
structure yb (B:Nat) (w:World) (v:Value) (ns:List Nd) (ms:List Rw):Prop where
 len:ms.length=ns.length
 own:w.ownsRow B 43 5 v ns.length (rawCells ms)
 each:∀ (i:Nat) (r:Rw) (x:Nd),ms[i]?=some r→ns[i]?=some x→QS B w r x
 apart:∀ (i j:Nat) (r q:Rw) (b:Nat),i≠j→ms[i]?=some r→ms[j]?=some q→r.vk.ownBlock=some b→q.vk.ownBlock≠some b
theorem yb.nil (B:Nat)(w:World):yb B w (.slice none 0 0) [] [] :=
 ⟨rfl,World.ownsRow_nil _ _ _ _,fun i r x h=>by simp at h,fun i j r q b _ h=>by simp at h⟩
theorem yb.shape {B:Nat}{w:World}{v:Value}{ns:List Nd}{ms:List Rw}(h:yb B w v ns ms):∃ a c,v=.slice a ns.length c∧ns.length≤c∧c≤maxLen:=by
 rcases h.own.2 with ⟨hv,h0⟩|⟨g,cap,cur,hv,_,_,hc,hm,_⟩
 · exact ⟨none,0,by rw[hv,h0],by omega,nZ9 _⟩
 · exact ⟨_,_,hv,hc,hm⟩
theorem QS.keep {B:Nat}{w w':World}{r:Rw}{x:Nd}(h:QS B w r x)(hA:∀ b,qS B 79 w b→w'.heap[b]?=w.heap[b]?)(hI:∀ b,r.vk.ownBlock=some b→w'.heap[b]?=w.heap[b]?):QS B w' r x :=
 ⟨h.1,h.2.1,h.2.2.1,h.2.2.2.1.carry fun b hb=>⟨hb.to (nR9 _) (hA b hb),hA b hb⟩,qF h.2.2.2.2 hI⟩
theorem yb.keep {B:Nat}{w w':World}{v:Value}{ns:List Nd}{ms:List Rw}(h:yb B w v ns ms)(hA:∀ b,qS B 79 w b→w'.heap[b]?=w.heap[b]?)(hI:∀ b,qS B 3 w b→w'.heap[b]?=w.heap[b]?)
 (hN:∀ b,v.ownBlock=some b→w'.heap[b]?=w.heap[b]?):yb B w' v ns ms :=
 ⟨h.len,qF h.own hN,fun i r x hr hx=>(h.each i r x hr hx).keep hA (fun b hb=>hI b (qx (h.each i r x hr hx).2.2.2.2 hb)),h.apart⟩
theorem yb.later {B:Nat}{w w':World}{v:Value}{ns:List Nd}{ms:List Rw}(h:yb B w v ns ms)(hb:Below w.heap.size w w'):yb B w' v ns ms :=
 h.keep (fun b hs=>hb.block b hs.lt) (fun b hs=>hb.block b hs.lt) (fun b hs=>hb.block b (h.own.lt b hs).2)
theorem yb.grown {B:Nat}{w w':World}{v:Value}{ns:List Nd}{ms:List Rw}{row:Option Nat}(h:yb B w v ns ms)(hg:w.grownBy w' row)(hr:∀ b,row=some b→∃ e,e≠43∧e≠79∧e≠3∧qS 0 e w b):yb B w' v ns ms:=by
 have ne:∀ {e':TypeId} {b:Nat},qS B e' w b→(e'=43∨e'=79∨e'=3)→row≠some b:=by
  intro e' b hs he hrow;obtain ⟨e,h1,h2,h3,_,c,fz,hc⟩:=hr b hrow;obtain ⟨_,c',fz',hc'⟩:=hs;rw[hc]at hc'
  injection hc' with hc'
  injection hc' with _ h4 _
  subst h4
  rcases he with he|he|he
  · exact h1 he
  · exact h2 he
  · exact h3 he
 exact h.keep (fun b hs=>hg.block b hs.lt (fun e=>ne hs (Or.inr (Or.inl rfl)) e.symm)) (fun b hs=>hg.block b hs.lt (fun e=>ne hs (Or.inr (Or.inr rfl)) e.symm)) (fun b hs=>hg.block b (h.own.lt b hs).2 (fun e=>ne (qx h.own hs) (Or.inl rfl) e.symm))
theorem xf (l m:List Rw):rawCells (l++m)=rawCells l++rawCells m:=by
 induction l with
 | nil=>rfl
 | cons x r ih=>simp[rawCells,ih]
theorem yb.snoc {B:Nat}{w w':World}{v v':Value}{ns:List Nd}{ms:List Rw}{r:Rw}{x:Nd}(h:yb B w v ns ms)
 (hown:w'.ownsRow B 43 5 v' (ns.length+1) (rawCells ms++[.bool r.text,.string r.s,r.va,.int .i64 r.par,r.vk])) (hg:w.grownBy w' v.ownBlock) (hR:QS B w r x)
 (hap:∀ (i:Nat) (q:Rw) (b:Nat),ms[i]?=some q→q.vk.ownBlock=some b→r.vk.ownBlock≠some b):yb B w' v' (ns++[x]) (ms++[r]):=by
 have keep:∀ {r:Rw} {x:Nd},QS B w r x→QS B w' r x:=by
  intro r x hR;refine hR.keep (fun b hs=>hg.block b hs.lt (qE h.own hs (by decide))) (fun b hs=>hg.block b (qY.lt hR.2.2.2.2 b hs).2 (qE h.own (qx hR.2.2.2.2 hs) (by decide)))
 refine ⟨by simp[h.len],?_,?_,?_⟩
 · rw[xf,List.length_append];exact hown
 · intro i q y hq hy
   rcases Nat.lt_or_ge i ns.length with hi|hi
   · rw[List.getElem?_append_left (by rw[h.len];exact hi)]at hq
     rw[List.getElem?_append_left hi]at hy
     exact keep (h.each i q y hq hy)
   · rw[List.getElem?_append_right (by rw[h.len];exact hi)]at hq
     rw[List.getElem?_append_right hi]at hy
     rw[h.len]at hq
     have hz:i-ns.length=0:=by
      rcases Nat.eq_zero_or_pos (i-ns.length) with h'|h'
      · exact h'
      · rw[List.getElem?_eq_none (by simp;omega)]at hy;cases hy
     rw[hz]at hq hy
     simp at hq hy
     subst hq hy;exact keep hR
 · have last:∀ {i:Nat} {q:Rw},(ms++[r])[i]?=some q→(i<ms.length∧ms[i]?=some q)∨(i=ms.length∧q=r):=by
    intro i q hq
    rcases Nat.lt_or_ge i ms.length with hi|hi
    · rw[List.getElem?_append_left hi]at hq;exact Or.inl ⟨hi,hq⟩
    · rw[List.getElem?_append_right hi]at hq
      have hz:i-ms.length=0:=by
       rcases Nat.eq_zero_or_pos (i-ms.length) with h'|h'
       · exact h'
       · rw[List.getElem?_eq_none (by simp;omega)]at hq;cases hq
      rw[hz]at hq
      simp at hq
      exact Or.inr ⟨by omega,hq.symm⟩
   intro i j p q b hne hp hq hb
   rcases last hp with ⟨hi,hp'⟩|⟨hi,hpr⟩
   · rcases last hq with ⟨hj, hq'⟩ | ⟨hj, hqr⟩
     · exact h.apart i j p q b hne hp' hq' hb
     · rw[hqr];exact hap i p b hp' hb
   · rw[hpr]at hb
     rcases last hq with ⟨hj,hq'⟩|⟨hj,_⟩
     · exact fun e=>hap j q b hq' e hb
     · omega
theorem yb.done {B:Nat}{w:World}{v:Value}{ns:List Nd}{ms:List Rw}(h:yb B w v ns ms):qK (fun b=>B≤b) w v ns:=by
 rcases h.own.2 with ⟨hv,h0⟩|⟨g,cap,cur,hv,hB,hh,hc,hm,_⟩
 · have : ns = [] := List.eq_nil_of_length_eq_zero h0;subst this hv;exact qK.nil
 · subst hv;refine ⟨_,_,rfl,hc,hm,fun _=>⟨g,0,rfl,hB,fun i x hx=>?_⟩⟩
   have hi:i<ns.length:=by
    rcases Nat.lt_or_ge i ns.length with h'|h'
    · exact h'
    · rw[List.getElem?_eq_none h']at hx;cases hx
   obtain ⟨r,hr⟩:∃ r,ms[i]?=some r:=⟨ms[i]'(by rw[h.len];exact hi),by simp[h.len,hi]⟩
   obtain ⟨h1,h2,h3,h4,h5⟩:=h.each i r x hr hx;obtain ⟨g0,g1,g2,g3,g4⟩:=zU ms i r hr;refine ⟨r.va,r.vk,?_,?_,?_,?_,?_,h4.carry (fun b hb=>⟨hb.1,rfl⟩),h5.ints⟩
   · rw[Nat.zero_add,World.ownsRow.cellAt h.own (i*5) (by omega),g0,h1]
   · rw[Nat.zero_add,World.ownsRow.cellAt h.own (i*5+1) (by omega),g1,h2]
   · rw[Nat.zero_add,World.ownsRow.cellAt h.own (i*5+2) (by omega),g2]
   · rw[Nat.zero_add,World.ownsRow.cellAt h.own (i*5+3) (by omega),g3,h3]
   · rw[Nat.zero_add,World.ownsRow.cellAt h.own (i*5+4) (by omega),g4]
theorem yb.at {B:Nat}{w:World}{v:Value}{ns:List Nd}{ms:List Rw}(h:yb B w v ns ms){i:Nat}{r:Rw}(hr:ms[i]?=some r):∃ g cap,v=.slice (some ⟨g,0,none⟩) ns.length cap∧ns.length≤cap∧cap≤maxLen∧B≤g∧g<w.heap.size ∧
 w.cell? ⟨g,i*5+3,none⟩=some (.int .i64 r.par)∧w.cell? ⟨g,i*5+4,none⟩=some r.vk∧w.frozen? ⟨g,i*5+4,none⟩=false:=by
 have hi:i<ns.length:=by
  rw[←h.len]
  rcases Nat.lt_or_ge i ms.length with h'|h'
  · exact h'
  · rw[List.getElem?_eq_none h']at hr;cases hr
 have hown:=h.own
 rcases h.own.2 with ⟨hv,h0⟩|⟨g,cap,cur,hv,hB,hh,hc,hm,_⟩
 · omega
 · subst hv;obtain ⟨g0,g1,g2,g3,g4⟩:=zU ms i r hr;exact ⟨g,cap,rfl,hc,hm,hB,qA hh,by rw[World.ownsRow.cellAt h.own (i*5+3) (by omega),g3],by rw[World.ownsRow.cellAt h.own (i*5+4) (by omega),g4],World.ownsRow.frozenAt h.own _⟩
theorem yb.kid {B:Nat}{w w':World}{g cap:Nat}{ns:List Nd}{ms:List Rw}{i:Nat}{r:Rw}{x:Nd}{v':Value}{l:List Int}(h:yb B w (.slice (some ⟨g,0,none⟩) ns.length cap) ns ms)(hr:ms[i]?=some r)(hx:ns[i]?=some x)
 (hown:qY B w' v' l) (hg:w.grownBy w' r.vk.ownBlock) (hat:v'.ownBlock=r.vk.ownBlock∨v'.ownBlock=some w.heap.size) :
 yb B (w'.setCell ⟨g,i*5+4,none⟩ v') (.slice (some ⟨g,0,none⟩) ns.length cap) (ns.set i { x with kids:=l }) (ms.set i { r with vk:=v' }):=by
 have hR:=h.each i r x hr hx;have hgo:qS B 43 w g:=qx h.own rfl;have hgl:=hgo.lt;have hgr:some g≠r.vk.ownBlock:=qE hR.2.2.2.2 hgo (by decide)
 have hil:i<ns.length:=by
  rcases Nat.lt_or_ge i ns.length with h'|h'
  · exact h'
  · rw[List.getElem?_eq_none h']at hx;cases hx
 have own':w'.ownsRow B 43 5 (.slice (some ⟨g,0,none⟩) ns.length cap) ns.length (rawCells ms):=h.own.kept hg (Or.inr hgr)
 have hvg:v'.ownBlock≠some g:=by
  rcases hat with e|e
  · rw[e];exact fun e=>hgr e.symm
  · rw[e];intro e;injection e with e;omega
 have keepB:∀ b,b<w.heap.size→b≠g→r.vk.ownBlock≠some b→(w'.setCell ⟨g,i*5+4,none⟩ v').heap[b]?=w.heap[b]?:=fun b h1 h2 h3=>by
  rw[qd h2,hg.block b h1 (fun e=>h3 e.symm)]
 have attrs:∀ {r:Rw} {x:Nd},QS B w r x→qC (qS B 79 (w'.setCell ⟨g,i*5+4,none⟩ v')) (w'.setCell ⟨g,i*5+4,none⟩ v') r.va x.attrs:=by
  intro q y hq;refine hq.2.2.2.1.carry fun b hb=>?_
  have e:(w'.setCell ⟨g,i*5+4,none⟩ v').heap[b]?=w.heap[b]?:=keepB b hb.lt (fun e=>by
   subst e;obtain ⟨_,c,fz,hc⟩:=hb;obtain ⟨_,c',fz',hc'⟩:=hgo;rw[hc]at hc'
   injection hc' with hc'
   injection hc' with _ h4 _
   exact absurd h4 (by decide)) (fun e=>qE hR.2.2.2.2 hb (by decide) e.symm)
  exact ⟨hb.to (nR9 _) e,e⟩
 refine ⟨by simp[h.len],?_,?_,?_⟩
 · rw[yI ms i r v' hr, List.length_set];exact (own'.stored (i*5+4) v').1
 · intro j q y hq hy
   by_cases hj:j=i
   · subst hj;rw[List.getElem?_set_self (by rw[h.len];exact hil)]at hq
     rw[List.getElem?_set_self hil]at hy
     injection hq with hq
     injection hy with hy
     subst hq hy;exact ⟨hR.1,hR.2.1,hR.2.2.1,attrs (r:=r) (x:=x) hR,qF hown fun b hb=>qd (fun e=>hvg (by rw[hb,e]))⟩
   · rw[List.getElem?_set_ne (fun e => hj e.symm)]at hq hy
     have hq':=h.each j q y hq hy;exact ⟨hq'.1,hq'.2.1,hq'.2.2.1,attrs hq',qF hq'.2.2.2.2 fun b hb=>keepB b (qY.lt hq'.2.2.2.2 b hb).2 (fun e=>qE hq'.2.2.2.2 hgo (by decide) (by rw[hb,e])) (fun e=>h.apart i j r q b (fun e=>hj e.symm) hr hq e hb)⟩
 · intro j k p q b hne hp hq hb e
   by_cases hj:j=i
   · subst hj;rw[List.getElem?_set_self (by rw[h.len];exact hil)]at hp
     injection hp with hp
     subst hp;rw[List.getElem?_set_ne hne]at hq
     obtain ⟨y,hy⟩:∃ y,ns[k]?=some y:=⟨ns[k]'(by rw[←h.len];exact (List.getElem?_eq_some_iff.1 hq).1),by simp⟩
     have hlt:=(qY.lt (h.each k q y hq hy).2.2.2.2 b e).2;simp only at hb
     rcases hat with e1|e1
     · rw[e1]at hb;exact h.apart j k r q b hne hr hq hb e
     · rw[e1]at hb;injection hb with hb;omega
   · rw[List.getElem?_set_ne (fun e => hj e.symm)]at hp
     by_cases hk:k=i
     · subst hk;rw[List.getElem?_set_self (by rw[h.len];exact hil)]at hq
       injection hq with hq
       subst hq;obtain ⟨y,hy⟩:∃ y,ns[j]?=some y:=⟨ns[j]'(by rw[←h.len];exact (List.getElem?_eq_some_iff.1 hp).1),by simp⟩
       have hlt:=(qY.lt (h.each j p y hp hy).2.2.2.2 b hb).2;simp only at e
       rcases hat with e1|e1
       · rw[e1]at e;exact h.apart j k p r b hne hp hr hb e
       · rw[e1]at e;injection e with e;omega
     · rw[List.getElem?_set_ne (fun e => hk e.symm)]at hq
       exact h.apart j k p q b hne hp hq hb e
section
attribute [local go_sem] qD
def IsDocOk:Prop:=∀ (S:Nat→Prop)(v:Value)(ns:List Nd)(w:World),QF S w v ns →
 Calls Tryz.prog 21 #[.agg #[v]] w fun e w'=>e=.returned (.bool (qM ns))∧Below w.heap.size w w'
end
end Go.Proofs.YtnppmdpmippcoaaGreatDoor
