/- Bundled: LayM DocK DocT DocU LayB DocN Fam PathM Steps. What each says stands ahead of it. -/
import Derived.Test.YtfdbipeidmpciaaDoorPathparses13
import Derived.Test.YtfdbipeidmpciaaDoorBundle09
namespace Go.Proofs.YtfdbipeidmpciaaDoor
open Go.ChangeShapes Go.WideShapes Go.ChangeAt Go.RowKit
set_option maxRecDepth 100000
def qi (d:Nat):Nat→List Tr→List Int
 | _,[]=>[]
 | at',k::ks=>(at':Int)::qi d (at'+cnt (d+1) [k]) ks
def qr (d:Nat)(g:Tr→Int→Nat→List Nd)(par:Nat):Nat→List Tr→List Nd
 | _,[]=>[]
 | at',k::ks=>g k par at'++qr d g par (at'+cnt (d+1) [k]) ks
def layF:Nat→Tr→Int→Nat→List Nd
 | 0,t,par,_=>[⟨t.text,t.s,t.attrs,par,[]⟩]
 | d+1,t,par,at'=>⟨t.text,t.s,t.attrs,par,qi d (at'+1) t.kids⟩::qr d (layF d) at' (at'+1) t.kids
theorem qt (d:Nat)(t:Tr):cnt (d+1) [t]=1+cnt d t.kids:=by simp[cnt]
theorem q8 (d:Nat)(t:Tr)(r:List Tr):cnt (d+1) (t::r)=cnt (d+1) [t]+cnt (d+1) r:=by simp[cnt]
theorem xw (d:Nat)(g:Tr→Int→Nat→List Nd)(par:Nat):∀ (a b:List Tr)(at':Nat),qr d g par at' (a++b)=qr d g par at' a++qr d g par (at'+cnt (d+1) a) b:=by
 intro a
 induction a with
 | nil=>intro b at';simp[qr,cnt]
 | cons k a ih =>
   intro b at'
   rw[List.cons_append,qr,qr,ih,q8 d k a,List.append_assoc,Nat.add_assoc]
theorem jL (d:Nat):∀ (a b:List Tr)(at':Nat),qi d at' (a++b)=qi d at' a++qi d (at'+cnt (d+1) a) b:=by
 intro a
 induction a with
 | nil=>intro b at';simp[qi,cnt]
 | cons k a ih =>
   intro b at'
   rw[List.cons_append,qi,qi,ih,q8 d k a,List.cons_append,Nat.add_assoc]
theorem QW (d:Nat):∀ (a:List Tr)(at':Nat),(qi d at' a).length=a.length:=by
 intro a
 induction a with
 | nil=>intro _;rfl
 | cons k a ih=>intro at';simp[qi,ih]
theorem layF_length:∀ (d:Nat)(t:Tr)(par:Int)(at':Nat),Deep d t.kids→(layF d t par at').length=cnt (d+1) [t]:=by
 intro d
 induction d with
 | zero =>
   intro t par at' h
   have:t.kids=[]:=h;rw[qt,this];rfl
 | succ d ih =>
   intro t par at' h
   rw[layF,List.length_cons,qt]
   have:∀ (ts:List Tr) (a:Nat),Deep (d+1) ts→(qr d (layF d) at' a ts).length=cnt (d+1) ts:=by
    intro ts
    induction ts with
    | nil=>intro _ _;rfl
    | cons k ts ih2 =>
      intro a hd;rw[qr,List.length_append,ih k _ _ (hd k List.mem_cons_self),ih2 _ (fun u hu=>hd u (List.mem_cons_of_mem _ hu)),q8 d k ts]
   rw[this t.kids (at'+1) h]
   omega
structure Rw where
 text:Bool
 s:ByteArray
 va:Value
 par:Int
 vk:Value
def rawCells:List Rw→List Value
 | []=>[]
 | r::l=>.bool r.text::.string r.s::r.va::.int .i64 r.par::r.vk::rawCells l
theorem QV (l:List Rw):(rawCells l).length=l.length*5:=by
 induction l with
 | nil=>rfl
 | cons x r ih=>simp[rawCells,ih];omega
theorem yD (l:List Rw):∀ i r,l[i]?=some r→(rawCells l)[i*5]?=some (.bool r.text)∧(rawCells l)[i*5+1]?=some (.string r.s)∧(rawCells l)[i*5+2]?=some r.va∧(rawCells l)[i*5+3]?=some (.int .i64 r.par)∧(rawCells l)[i*5+4]?=some r.vk:=by
 induction l with
 | nil=>intro i x h;simp at h
 | cons y r ih =>
   intro i x h;cases i with
   | zero=>simp at h;subst h;simp[rawCells]
   | succ i =>
     have:=ih i x (by simpa using h)
     rw[show (i+1)*5=i*5+5 from by omega]
     simpa[rawCells] using this
theorem Ja (l:List Rw):∀ (i:Nat)(r:Rw),i<l.length→rawCells (l.set i r)=(((((rawCells l).set (i*5) (.bool r.text)).set (i*5+1) (.string r.s)).set (i*5+2) r.va).set (i*5+3) (.int .i64 r.par)).set (i*5+4) r.vk:=by
 induction l with
 | nil=>intro i r h;simp at h
 | cons y l ih =>
   intro i r h;cases i with
   | zero=>simp[rawCells]
   | succ i =>
     rw[List.set_cons_succ,rawCells,ih i r (by simpa using h),show (i+1)*5=i*5+5 from by omega,rawCells]
     rfl
theorem xy (l:List Rw):∀ (i:Nat)(r:Rw)(v:Value),l[i]?=some r→rawCells (l.set i { r with vk:=v })=(rawCells l).set (i*5+4) v:=by
 induction l with
 | nil=>intro i r v h;simp at h
 | cons y l ih =>
   intro i r v h;cases i with
   | zero=>simp at h;subst h;simp[rawCells]
   | succ i =>
     rw[List.set_cons_succ,rawCells,ih i r v (by simpa using h),show (i+1)*5=i*5+5 from by omega,rawCells]
     rfl
def Row (nb:Nat)(ms:List Rw)(w:World):Prop:=w.heap[nb]?=some (.cells (rawCells ms).toArray 90 (0,0))
theorem Row.cells {nb:Nat}{ms:List Rw}{w:World}(h:Row nb ms w){i:Nat}{r:Rw}(hr:ms[i]?=some r):w.cell? ⟨nb,i*5,none⟩=some (.bool r.text)∧w.cell? ⟨nb,i*5+1,none⟩=some (.string r.s)∧w.cell? ⟨nb,i*5+2,none⟩=some r.va∧w.cell? ⟨nb,i*5+3,none⟩=some (.int .i64 r.par)∧w.cell? ⟨nb,i*5+4,none⟩=some r.vk:=by
 obtain ⟨g0,g1,g2,g3,g4⟩:=yD ms i r hr;refine ⟨?_,?_,?_,?_,?_⟩<;>rw[cH9 h]<;>simpa
theorem Row.frozen {nb:Nat}{ms:List Rw}{w:World}(h:Row nb ms w)(k:Nat):w.frozen? ⟨nb,k,none⟩=false:=fH9 h k
theorem Row.set1 {nb:Nat}{cs:List Value}{w:World}{e:TypeId}(h:w.heap[nb]?=some (.cells cs.toArray e (0,0)))(k:Nat)(v:Value):(w.setCell ⟨nb,k,none⟩ v).heap[nb]?=some (.cells (cs.set k v).toArray e (0,0)):=by
 simp[World.setCell,Array.getElem?_modify,h]
theorem Row.put {nb:Nat}{ms:List Rw}{w:World}(h:Row nb ms w){i:Nat}(hi:i<ms.length)(r:Rw):Row nb (ms.set i r) (((((w.setCell ⟨nb,i*5,none⟩ (.bool r.text)).setCell ⟨nb,i*5+1,none⟩ (.string r.s)).setCell ⟨nb,i*5+2,none⟩ r.va).setCell ⟨nb,i*5+3,none⟩ (.int .i64 r.par)).setCell ⟨nb,i*5+4,none⟩ r.vk):=by
 unfold Row;rw[Ja ms i r hi];exact Row.set1 (Row.set1 (Row.set1 (Row.set1 (Row.set1 h _ _) _ _) _ _) _ _) _ _
theorem Row.putK {nb:Nat}{ms:List Rw}{w:World}(h:Row nb ms w){i:Nat}{r:Rw}(hr:ms[i]?=some r)(v:Value):Row nb (ms.set i { r with vk:=v }) (w.setCell ⟨nb,i*5+4,none⟩ v):=by
 unfold Row;rw[xy ms i r v hr];exact Row.set1 h _ _
def Q5 (S:Nat→Prop)(w:World)(r:Rw)(x:Nd):Prop:=r.text=x.text∧r.s=x.s∧r.par=x.parent∧qe S w r.va x.attrs∧zi S w r.vk x.kids
def Laid (S:Nat→Prop)(w:World)(ms:List Rw)(at':Nat)(L:List Nd):Prop:=∀ (i:Nat)(x:Nd),L[i]?=some x→∃ r,ms[at'+i]?=some r∧Q5 S w r x
theorem Q5.carry {S S':Nat→Prop}{w w':World}{r:Rw}{x:Nd}(h:Q5 S w r x)(hw:∀ b,S b→S' b∧w'.heap[b]?=w.heap[b]?):Q5 S' w' r x :=
 ⟨h.1,h.2.1,h.2.2.1,h.2.2.2.1.carry hw,h.2.2.2.2.carry hw⟩
theorem Q5.bounded {S:Nat→Prop}{w:World}{r:Rw}{x:Nd}(h:Q5 S w r x):Q5 (fun b=>S b∧b<w.heap.size) w r x :=
 ⟨h.1,h.2.1,h.2.2.1,h.2.2.2.1.bounded,h.2.2.2.2.bounded⟩
theorem Laid.carry {S S':Nat→Prop}{w w':World}{ms ms':List Rw}{at':Nat}{L:List Nd}(h:Laid S w ms at' L)(hw:∀ b,S b→b<w.heap.size→S' b∧w'.heap[b]?=w.heap[b]?)(hm:∀ i,at'≤i→i<at'+L.length→ms'[i]?=ms[i]?):Laid S' w' ms' at' L:=by
 intro i x hx;obtain ⟨r,hr,hR⟩:=h i x hx
 have hi:i<L.length:=by
  rcases Nat.lt_or_ge i L.length with h'|h'
  · exact h'
  · rw[List.getElem?_eq_none h']at hx;cases hx
 exact ⟨r,by rw[hm _ (by omega) (by omega)];exact hr,hR.bounded.carry fun b hb=>hw b hb.1 hb.2⟩
theorem Laid.append {S:Nat→Prop}{w:World}{ms:List Rw}{at':Nat}{L M:List Nd}(h:Laid S w ms at' L)(k:Laid S w ms (at'+L.length) M):Laid S w ms at' (L++M):=by
 intro i x hx
 rcases Nat.lt_or_ge i L.length with h'|h'
 · rw[List.getElem?_append_left h']at hx;exact h i x hx
 · rw[List.getElem?_append_right h']at hx
   obtain ⟨r,hr,hR⟩:=k (i-L.length) x hx;exact ⟨r,by rw[show at'+i=at'+L.length+(i-L.length) by omega];exact hr,hR⟩
structure LFr (nb cb:Nat) (w w':World):Prop where
 below:Below 0 w w'
 frame:∀ x,x<w.heap.size→x≠nb→x≠cb→w'.heap[x]?=w.heap[x]?
theorem LFr.trans {nb cb:Nat}{w w1 w2:World}(h:LFr nb cb w w1)(k:LFr nb cb w1 w2):LFr nb cb w w2 :=
 ⟨h.below.trans k.below,fun x hx h1 h2=>by rw[k.frame x (Nat.lt_of_lt_of_le hx h.below.size) h1 h2,h.frame x hx h1 h2]⟩
theorem LFr.later {nb cb:Nat}{w w':World}(h:Below w.heap.size w w'):LFr nb cb w w':=⟨h.mono (nZ9 _),fun x hx _ _=>h.block x hx⟩
theorem LFr.putC (nb cb:Nat)(w:World)(k:Nat)(v:Value):LFr nb cb w (w.setCell ⟨cb,k,none⟩ v):=⟨(Below.refl 0 w).setCell (nZ9 _) _,fun _ _ _ h2=>Below.heap_setCell _ _ _ _ h2⟩
def FewN:Nat→List Tr→Prop
 | 0,_=>True
 | n+1,ts=>∀ t∈ts,t.attrs.length≤1048576∧FewN n t.kids
end Go.Proofs.YtfdbipeidmpciaaDoor
namespace Go.Proofs.YtfdbipeidmpciaaDoor
open Go.RowKit
set_option maxRecDepth 100000
def qbU (ns:List Nd)(i:Nat):Prop:=∀ x,ns[i]?=some x→x.kids.length≤ns.length∧∀ k∈x.kids,(i:Int)<k∧k<ns.length
def qaf (ns:List Nd)(a b:Nat):Prop:=a≤b∧b≤ns.length∧∀ i,a≤i→i<b→qbU ns i
theorem Xa {ns:List Nd}{G:Nat→Bool × Nat}(hG:∀ m,(G m).1=true→m<(G m).2∧qaf ns m (G m).2) :
 ∀ (ks:List Int) (m:Nat),m≤ns.length→(qw G ks m).1=true→qaf ns m (qw G ks m).2∧ks.length+m≤(qw G ks m).2∧∀ k∈ks,(m:Int)≤k∧k<(qw G ks m).2:=by
 intro ks
 induction ks with
 | nil=>intro m hm _;exact ⟨⟨nR9 _,hm,fun i h1 h2=>absurd h1 (by have:i<m:=h2;omega)⟩,by simp[qw],by intro k hk;simp at hk⟩
 | cons k ks ih =>
   intro m _ h;unfold qw at h ⊢
   by_cases hc:k=(m:Int)∧(G m).1=true
   · rw[if_pos hc]at h ⊢
     obtain ⟨h1,h2,h3,h4⟩:=hG m hc.2;obtain ⟨⟨k1,k2,k3⟩,k4,k5⟩:=ih (G m).2 h3 h;refine ⟨⟨by omega,k2,fun i hi1 hi2=>?_⟩,by simp;omega,fun k' hk'=>?_⟩
     · rcases Nat.lt_or_ge i (G m).2 with h' | h'
       · exact h4 i hi1 h'
       · exact k3 i h' hi2
     · rw[List.mem_cons]at hk'
       rcases hk' with rfl|hk'
       · rw[hc.1];omega
       · have:=k5 k' hk';omega
   · rw[if_neg hc]at h;simp at h
theorem ordF_seg:∀ (f:Nat)(ns:List Nd)(par:Int)(nx:Nat),(ordF f ns par nx).1=true→nx<(ordF f ns par nx).2∧qaf ns nx (ordF f ns par nx).2:=by
 intro f
 induction f with
 | zero=>intro ns par nx h;simp[ordF]at h
 | succ f ih =>
   intro ns par nx h;unfold ordF at h ⊢
   cases hx:ns[nx]? with
   | none=>simp[hx]at h
   | some x =>
     simp only[hx]at h ⊢
     have hlt:nx<ns.length:=by
      rcases Nat.lt_or_ge nx ns.length with h'|h'
      · exact h'
      · rw[List.getElem?_eq_none h']at hx;cases hx
     by_cases hp:x.parent=par
     · rw[if_pos hp]at h ⊢
       obtain ⟨⟨k1,k2,k3⟩,k4,k5⟩:=Xa (fun m hm=>ih ns nx m hm) x.kids (nx+1) (by omega) h
       refine ⟨by omega,by omega,k2,fun i hi1 hi2=>?_⟩
       rcases Nat.lt_or_ge nx i with h'|h'
       · exact k3 i h' hi2
       · have : i = nx := by omega
         subst this;intro y hy;rw[hx]at hy
         cases hy;refine ⟨by omega,fun k hk=>?_⟩
         have:=k5 k hk;omega
     · rw[if_neg hp]at h;simp at h
theorem xM {f:Nat}{ns:List Nd}(h:ordF f ns (-1) 0=(true,ns.length))(hl:ns.length≤80)(ha:∀ x∈ns,x.attrs.length≤4398046511104):jQ ns:=by
 have h1:=ordF_seg f ns (-1) 0 (by rw[h])
 rw[h]at h1
 intro n x hx
 have hlt:n<ns.length:=by
  rcases Nat.lt_or_ge n ns.length with h'|h'
  · exact h'
  · rw[List.getElem?_eq_none h']at hx;cases hx
 obtain ⟨k1,k2⟩:=h1.2.2.2 n (nZ9 _) hlt x hx;exact ⟨ha x (List.mem_of_getElem? hx),by omega,k2⟩
def Qm (ns:List Nd):Prop:=∀ x∈ns,x.s.size≤maxLen∧∀ y∈x.attrs,y.1.size≤maxLen∧y.2.size≤maxLen
theorem XS {ns:List Nd}(h:Qm ns):∀ (f n:Nat),Jr (growF f ns n)∧TextsN f (growF f ns n).kids:=by
 intro f
 induction f with
 | zero=>intro n;exact ⟨⟨nZ9 _,by intro y hy;simp[growF]at hy⟩,trivial⟩
 | succ f ih =>
   intro n;rw[growF];cases hx:ns[n]? with
   | none=>exact ⟨⟨nZ9 _,by intro y hy;simp at hy⟩,by intro t ht;simp at ht⟩
   | some x =>
     refine ⟨h x (List.mem_of_getElem? hx),fun t ht=>?_⟩
     simp only[List.mem_map]at ht
     obtain ⟨k,_,rfl⟩:=ht;exact ih _
end Go.Proofs.YtfdbipeidmpciaaDoor
namespace Go.Proofs.YtfdbipeidmpciaaDoor
open Go.ChangeShapes Go.WideShapes Go.ChangeAt Go.RowKit
set_option maxRecDepth 100000
section
attribute [local go_sem] qf
def yA (ns:List Nd):Bool:=(ordF (ns.length+1) ns (-1) 0).1&&decide ((ordF (ns.length+1) ns (-1) 0).2=ns.length)
def ql (ns:List Nd):Bool:=decide (ns.length≤80)&&yA ns&&qu (growF ns.length ns 0)
theorem zJ {ns:List Nd}(h:yA ns=true):ordF (ns.length+1) ns (-1) 0=(true,ns.length):=by
 simp only[yA,Bool.and_eq_true,decide_eq_true_eq]at h
 exact Prod.ext h.1 h.2
theorem Ke {ns:List Nd}(h:yA ns=true):0<ns.length:=by
 have h1:=ordF_seg (ns.length+1) ns (-1) 0 (by rw[zJ h])
 rw[zJ h]at h1
 exact h1.1
set_option maxHeartbeats 1000000 in
theorem Vn (S:Nat→Prop)(v:Value)(ns:List Nd)(w:World)(hN:qv S w v ns)(hS:∀ b,S b→b<w.heap.size)(ha:∀ x∈ns,x.attrs.length≤4398046511104)(hx:Qm ns) :
 Calls Tryd.prog 40 #[.agg #[v]] w fun e w'=>e=.returned (.bool (ql ns))∧Below w.heap.size w w':=by
 obtain ⟨a,cap,rfl,hlc,hcm⟩:=hN.shape;unfold maxLen at hcm
 have HG:Hid (ql ns=(decide (ns.length≤80)&&yA ns&&qu (growF ns.length ns 0))):=rfl
 by_cases h80:ns.length≤80
 · have hi80 : ¬ (80 : Int) < (ns.length : Int) := by omega
   have HG2:Hid (ql ns=(yA ns&&qu (growF ns.length ns 0))):=by show _=_;rw[HG.out];simp[h80]
   clear HG;have hb2:Below w.heap.size w ((w.alloc (.cells #[.slice a ns.length cap] 47)).alloc (.cells #[.int .i64 0] 3)):=(Below.alloc1 w _).alloc (by simp) _
   have hC2:Cnt (w.heap.size+1) 0 ((w.alloc (.cells #[.slice a ns.length cap] 47)).alloc (.cells #[.int .i64 0] 3)):=by
    have e:=heap_alloc_new (w.alloc (.cells #[.slice a ns.length cap] 47)) (.cells #[.int .i64 0] 3);rw[World.size_alloc]at e
    exact e
   have hx2:((w.alloc (.cells #[.slice a ns.length cap] 47)).alloc (.cells #[.int .i64 0] 3)).heap[w.heap.size]?=some (.cells #[.slice a ns.length cap] 47 (0,0)):=by
    rw[Lib.alloc_old _ _ _ (by simp)];exact heap_alloc_new _ _
   have HO:Hid _:=qbB (ns.length+1) S _ ns (-1) (w.heap.size+1) 0 _ (hN.later hb2) (fun b hb=>by have:=hS b hb;omega) hC2 h80 (by omega)
   have HN:Hid (qv S w (.slice a ns.length cap) ns):=hN;have HA:Hid (∀ x∈ns,x.attrs.length≤4398046511104):=ha;have HX:Hid (Qm ns):=hx;have HS:Hid (∀ b,S b→b<w.heap.size):=hS;have HOR:Hid (yA ns=((ordF (ns.length+1) ns (-1) 0).1&&decide ((ordF (ns.length+1) ns (-1) 0).2=ns.length))):=rfl;clear hN hC2 ha hx hS
   go_enter Tryd.func40,Tryd.ntmps40
   go_wp2_with fail;refine (Calls.mono HO.out ?_);rintro e w3 ⟨rfl,hC3,hF3⟩
   have hx3:w3.heap[w.heap.size]?=some (.cells #[.slice a ns.length cap] 47 (0,0)):=by
    rw[hF3.frame w.heap.size (by simp;omega) (by omega)];exact hx2
   have hB3:Below w.heap.size w w3:=⟨hF3.below.os.trans hb2.os,hF3.below.tape.trans hb2.tape,hF3.below.output.trans hb2.output,Nat.le_trans hb2.size hF3.below.size,fun k hk=>by rw[hF3.frame k (by simp;omega) (by omega)];exact hb2.block k hk⟩
   have d0:w3.cell? ⟨w.heap.size,0,none⟩=some (.slice a ns.length cap):=by rw[cH9 hx3];rfl
   have e0:=hC3.c0;have hlt3:=qg hx3;clear HO hb2 hx2 hF3;obtain ⟨q,hq⟩:∃ q,ordF (ns.length+1) ns (-1) 0=q:=⟨_,rfl⟩;rw[hq]at HOR e0 hC3 ⊢
   have HQ:Hid (ordF (ns.length+1) ns (-1) 0=q):=hq;clear hq;obtain ⟨q1,q2⟩:=q;simp only at HOR e0 hC3 ⊢
   cases q1 with
   | false =>
     have HE:Hid (ql ns=false):=by show _=_;rw[HG2.out,HOR.out];rfl
     clear HG2 HOR;go_wp2_with fail;go_ret;exact ⟨by rw[HE.out];rfl,hB3⟩
   | true =>
     by_cases hql:q2=ns.length
     · have hne : ((q2 : Int) != (ns.length : Int)) = false := by simp[hql]
       have hor:yA ns=true:=by rw[HOR.out,hql];simp
       have HE:Hid (ql ns=qu (growF ns.length ns 0)):=by show _=_;rw[HG2.out,hor];rfl
       have hpos:=Ke hor;have HGR:Hid _:=Yf ns.length S _ ns 0 w3 (HN.out.later hB3) (xM (zJ hor) h80 HA.out) hpos (by omega)
       have HTX:Hid (TextsN (ns.length+1) [growF ns.length ns 0]):=by
        intro t ht;simp only[List.mem_singleton]at ht
        subst ht;exact XS HX.out _ _
       clear HG2 HOR hor hql;go_wp2_with fail;refine (Calls.mono HGR.out ?_);rintro e w4 ⟨va4,vk4,rfl,hA4,hK4,hb4⟩;have hB4:Below w.heap.size w w4:=hB3.trans (hb4.mono hB3.size);have HGD:Hid _:=zU _ ns.length _ _ (growF ns.length ns 0) w4 hA4 hK4 HTX.out;obtain ⟨aa,ac,rfl⟩:=hA4.shape;obtain ⟨ka,kc,rfl,_,_⟩:=qb.shape ns.length hK4;clear hA4 hK4 HGR;go_wp2_with fail;refine (Calls.mono HGD.out ?_);rintro e w5 ⟨rfl,hb5⟩;have hB5:Below w.heap.size w w5:=hB4.trans (hb5.mono hB4.size);go_wp2_with fail;go_ret;exact ⟨by rw[HE.out];rfl,hB5⟩
     · have hne : ((q2 : Int) != (ns.length : Int)) = true := by simp;omega
       have HE:Hid (ql ns=false):=by show _=_;rw[HG2.out,HOR.out];simp[hql]
       clear HG2 HOR hql;go_wp2_with fail;go_ret;exact ⟨by rw[HE.out];rfl,hB3⟩
 · have hi80 : (80 : Int) < (ns.length : Int) := by omega
   have HE:Hid (ql ns=false):=by show _=_;rw[HG.out];simp[h80]
   clear HG hN
   go_enter Tryd.func40,Tryd.ntmps40
   go_wp2_with fail;go_ret;exact ⟨by rw[HE.out];rfl,Below.alloc1 _ _⟩
end
section
attribute [local go_sem] qf
structure zP (S:Nat→Prop) (w:World) (v:Value) (ns:List Nd):Prop where
 nodes:qv S w v ns
 here:∀ b,S b→b<w.heap.size
 few:∀ x∈ns,x.attrs.length≤4398046511104
 short:Qm ns
theorem zP.later {S:Nat→Prop}{w w':World}{v:Value}{ns:List Nd}(h:zP S w v ns)(hb:Below w.heap.size w w'):zP S w' v ns :=
 ⟨h.nodes.later hb,fun b hb'=>Nat.lt_of_lt_of_le (h.here b hb') hb.size,h.few,h.short⟩
theorem zP.good {S:Nat→Prop}{w:World}{v:Value}{ns:List Nd}(h:zP S w v ns):Calls Tryd.prog 40 #[.agg #[v]] w fun e w'=>e=.returned (.bool (ql ns))∧Below w.heap.size w w' :=
 Vn S v ns w h.nodes h.here h.few h.short
theorem xI {S:Nat→Prop}{w:World}{v:Value}{ns:List Nd}(h:zP S w v ns)(hg:ql ns=true):jQ ns:=by
 simp only[ql,Bool.and_eq_true,decide_eq_true_eq]at hg
 exact xM (zJ hg.1.2) hg.1.1 h.few
def q5 (ns:List Nd)(n:Int):Bool:=decide (0≤n)&&decide (n<ns.length)
def noTr:Tr:=⟨false,⟨#[]⟩,[],[]⟩
def zp (ns:List Nd)(n:Int):Tr × Int:=if ql ns then (if q5 ns n then (growF ns.length ns n.toNat,0) else (noTr,3)) else (noTr,1)
def qC (ns:List Nd)(n:Int):Int:=if ql ns&&q5 ns n then (lastF ns.length ns n.toNat:Int)+1 else 0
def inD (ns:List Nd)(n m:Int):Bool:=decide (0<qC ns m)&&decide (m≤n)&&decide (n<qC ns m)
theorem JW {ns:List Nd}(hK:jQ ns):∀ (f n:Nat),n<ns.length→lastF f ns n<ns.length:=by
 intro f
 induction f with
 | zero=>intro n hn;exact hn
 | succ f ih =>
   intro n hn;rw[lastF];cases hx:ns[n]? with
   | none=>exact hn
   | some x =>
     simp only;cases hl:x.kids.getLast? with
     | none=>exact hn
     | some k =>
       have hm:k∈x.kids:=List.mem_of_getLast? hl;have:=(hK n x hx).2.2 k hm;exact ih _ (by omega)
theorem qaC {ns:List Nd}(hK:jQ ns):∀ (f n:Nat),n≤lastF f ns n:=by
 intro f
 induction f with
 | zero=>intro n;exact nR9 _
 | succ f ih =>
   intro n;rw[lastF];cases hx:ns[n]? with
   | none=>exact nR9 _
   | some x =>
     simp only;cases hl:x.kids.getLast? with
     | none=>exact nR9 _
     | some k =>
       have:=(hK n x hx).2.2 k (List.mem_of_getLast? hl);have:=ih k.toNat;simp only;omega
set_option maxHeartbeats 1000000 in
theorem jX (S:Nat→Prop)(v:Value)(ns:List Nd)(n:Int)(w:World)(h:zP S w v ns) :
 Calls Tryd.prog 42 #[.agg #[v],.int .i64 n] w fun e w'=>e=.returned (.int .i64 (qC ns n))∧Below w.heap.size w w':=by
 have hb1:=Below.alloc1 w (.cells #[v] 47);have hx1:=heap_alloc_new w (.cells #[v] 47);have H:Hid (zP S w v ns):=h;have HG:Hid _:=(h.later hb1).good;have HE:Hid (qC ns n=if ql ns&&q5 ns n then (lastF ns.length ns n.toNat:Int)+1 else 0):=rfl
 obtain ⟨a,cap,rfl,hlc,hcm⟩:=h.nodes.shape;unfold maxLen at hcm
 clear h
 go_enter Tryd.func42,Tryd.ntmps42
 go_wp2_with fail;refine (Calls.mono HG.out ?_);rintro e w2 ⟨rfl,hb2⟩;have hx2:=(hb2.block _ (qg hx1)).trans hx1;have hB2:Below w.heap.size w w2:=hb1.trans (hb2.mono hb1.size);have d0:w2.cell? ⟨w.heap.size,0,none⟩=some (.slice a ns.length cap):=by rw[cH9 hx2];rfl
 clear HG hb1 hx1 hb2;obtain ⟨q,hq⟩:∃ q,ql ns=q:=⟨_,rfl⟩;rw[hq];cases q with
 | false =>
   have HE2:Hid (qC ns n=0):=by show _=_;rw[HE.out,hq];rfl
   clear HE hq;go_wp2_with fail;go_ret;exact ⟨by rw[HE2.out];rfl,hB2⟩
 | true =>
   have HA:Hid _:=xh S _ ns n w2 (H.out.later hB2).nodes;have HE2:Hid (qC ns n=if q5 ns n then (lastF ns.length ns n.toNat:Int)+1 else 0):=by show _=_;rw[HE.out,hq];simp
   have HKI:Hid (jQ ns):=xI H.out hq;have h80:ns.length≤80:=by simp only[ql,Bool.and_eq_true,decide_eq_true_eq]at hq;exact hq.1.1
   clear HE hq;have HAB:Hid (q5 ns n=(decide (0≤n)&&decide (n<ns.length))):=rfl;rw[show (decide (0≤n)&&decide (n<(ns.length:Int)))=q5 ns n from rfl]at HA
   obtain ⟨q2,hq2⟩:∃ q,q5 ns n=q:=⟨_,rfl⟩;rw[hq2]at HA HE2 HAB
   clear hq2;cases q2 with
   | false =>
     have HE3:Hid (qC ns n=0):=by show _=_;rw[HE2.out];rfl
     clear HE2;go_wp2_with fail;refine (Calls.mono HA.out ?_);rintro e w3 ⟨rfl,rfl⟩;go_wp2_with fail;go_ret;exact ⟨by rw[HE3.out];rfl,hB2⟩
   | true =>
     have hr:=HAB.out.symm;simp only[Bool.and_eq_true,decide_eq_true_eq]at hr
     obtain ⟨m,rfl⟩:∃ m:Nat,n=(m:Int):=⟨n.toNat,by omega⟩
     have HE3:Hid (qC ns (m:Int)=(lastF ns.length ns m:Int)+1):=by show _=_;rw[HE2.out];rfl
     have HLI:Hid _:=XY S _ ns m w2 (H.out.later hB2).nodes HKI.out (by omega)
     have hlt:=JW HKI.out ns.length m (by omega)
     obtain ⟨l,hl⟩:∃ l,lastF ns.length ns m=l:=⟨_,rfl⟩;rw[hl]at HE3 HLI hlt
     clear HE2 hl HAB hr;go_wp2_with fail;refine (Calls.mono HA.out ?_);rintro e w3 ⟨rfl,rfl⟩;go_wp2_with fail;refine (Calls.mono HLI.out ?_);rintro e w3 ⟨rfl,rfl⟩;go_wp2_with fail;go_ret;exact ⟨by rw[HE3.out];rfl,hB2⟩
theorem KU (S:Nat→Prop)(v:Value)(ns:List Nd)(n m:Int)(w:World)(h:zP S w v ns) :
 Calls Tryd.prog 44 #[.agg #[v],.int .i64 n,.int .i64 m] w fun e w'=>e=.returned (.bool (inD ns n m))∧Below w.heap.size w w':=by
 have hb1:=Below.alloc1 w (.cells #[v] 47);have HG:Hid _:=jX S v ns m _ (h.later hb1);have HI:Hid (inD ns n m=(decide (0<qC ns m)&&decide (m≤n)&&decide (n<qC ns m))):=rfl;obtain ⟨a,cap,rfl,_,_⟩:=h.nodes.shape;clear h;obtain ⟨l,hl⟩:∃ l,qC ns m=l:=⟨_,rfl⟩;rw[hl]at HG HI
 clear hl
 go_enter Tryd.func44,Tryd.ntmps44
 go_wp2_with fail;refine (Calls.mono HG.out ?_);rintro e w2 ⟨rfl,hb2⟩;have hB2:Below w.heap.size w w2:=hb1.trans (hb2.mono hb1.size);clear hb1 hb2 HG
 by_cases h1:0<l
 · by_cases h2 : m ≤ n
   · have HI2 : Hid (inD ns n m = decide (n < l)) := by show _ = _;rw[HI.out];simp[h1, h2]
     clear HI;go_wp2_with fail;go_ret;exact ⟨by rw[HI2.out];rfl,hB2⟩
   · have HI2 : Hid (inD ns n m = false) := by show _ = _;rw[HI.out];simp[h2]
     clear HI;go_wp2_with fail;go_ret;exact ⟨by rw[HI2.out];rfl,hB2⟩
 · have HI2 : Hid (inD ns n m = false) := by show _ = _;rw[HI.out];simp[h1]
   clear HI;go_wp2_with fail;go_ret;exact ⟨by rw[HI2.out];rfl,hB2⟩
set_option maxHeartbeats 1000000 in
theorem qac (S:Nat→Prop)(v:Value)(ns:List Nd)(n:Int)(w:World)(h:zP S w v ns) :
 Calls Tryd.prog 38 #[.agg #[v],.int .i64 n] w fun e w'=>∃ va vk,e=.returned (.tuple #[.agg #[.bool (zp ns n).1.text,.string (zp ns n).1.s,va,vk],.int .i64 (zp ns n).2]) ∧
  qe (fun b=>w.heap.size≤b) w' va (zp ns n).1.attrs∧qb (fun b=>w.heap.size≤b) w' ns.length vk (zp ns n).1.kids∧Below w.heap.size w w':=by
 have hb1:Below w.heap.size w ((w.alloc (.cells #[v] 47)).alloc (.cells #[.bool false,.string ⟨#[]⟩,.slice none 0 0,.slice none 0 0] 25)):=(Below.alloc1 w _).alloc (by simp) _
 have hx1:((w.alloc (.cells #[v] 47)).alloc (.cells #[.bool false,.string ⟨#[]⟩,.slice none 0 0,.slice none 0 0] 25)).heap[w.heap.size]?=some (.cells #[v] 47 (0,0)):=by
  rw[Lib.alloc_old _ _ _ (by simp)];exact heap_alloc_new _ _
 have hy1:((w.alloc (.cells #[v] 47)).alloc (.cells #[.bool false,.string ⟨#[]⟩,.slice none 0 0,.slice none 0 0] 25)).heap[w.heap.size+1]?=some (.cells #[.bool false,.string ⟨#[]⟩,.slice none 0 0,.slice none 0 0] 25 (0,0)):=by
  have e:=heap_alloc_new (w.alloc (.cells #[v] 47)) (.cells #[.bool false,.string ⟨#[]⟩,.slice none 0 0,.slice none 0 0] 25);rw[World.size_alloc]at e
  exact e
 have H:Hid (zP S w v ns):=h;have HG:Hid _:=(h.later hb1).good;have HE:Hid (zp ns n=if ql ns then (if q5 ns n then (growF ns.length ns n.toNat,0) else (noTr,3)) else (noTr,1)):=rfl
 obtain ⟨a,cap,rfl,hlc,hcm⟩:=h.nodes.shape;unfold maxLen at hcm
 clear h
 go_enter Tryd.func38,Tryd.ntmps38
 go_wp2_with fail;refine (Calls.mono HG.out ?_);rintro e w2 ⟨rfl,hb2⟩;have hx2:=(hb2.block _ (qg hx1)).trans hx1;have hy2:=(hb2.block _ (qg hy1)).trans hy1;have hB2:Below w.heap.size w w2:=hb1.trans (hb2.mono hb1.size);have d0:w2.cell? ⟨w.heap.size,0,none⟩=some (.slice a ns.length cap):=by rw[cH9 hx2];rfl
 have p0:w2.cell? ⟨w.heap.size+1,0,none⟩=some (.bool false):=by rw[cH9 hy2];rfl
 have p1:w2.cell? ⟨w.heap.size+1,1,none⟩=some (.string ⟨#[]⟩):=by rw[cH9 hy2];rfl
 have p2:w2.cell? ⟨w.heap.size+1,2,none⟩=some (.slice none 0 0):=by rw[cH9 hy2];rfl
 have p3:w2.cell? ⟨w.heap.size+1,3,none⟩=some (.slice none 0 0):=by rw[cH9 hy2];rfl
 have f0:w2.frozen? ⟨w.heap.size+1,0,none⟩=false:=fH9 hy2 0;have f1:w2.frozen? ⟨w.heap.size+1,1,none⟩=false:=fH9 hy2 1;have f2:w2.frozen? ⟨w.heap.size+1,2,none⟩=false:=fH9 hy2 2;have f3:w2.frozen? ⟨w.heap.size+1,3,none⟩=false:=fH9 hy2 3;clear HG hb1 hx1 hb2 hy1;obtain ⟨q,hq⟩:∃ q,ql ns=q:=⟨_,rfl⟩;rw[hq];have hle1:w.heap.size≤w.heap.size+1:=Nat.le_succ _;cases q with
 | false =>
   have HE2:Hid (zp ns n=(noTr,1)):=by show _=_;rw[HE.out,hq];rfl
   clear HE hq;go_wp2_with fail;refine bodyPost_ret (v:=.tuple #[.agg #[.bool false,.string ⟨#[]⟩,.slice none 0 0,.slice none 0 0],.int .i64 1]) (by simp[results,Tryd.results38,go_sem,qf,p0,p1,p2,p3,World.cell?_setCell_other]) rfl ⟨.slice none 0 0,.slice none 0 0,by rw[HE2.out];rfl,by rw[HE2.out];exact qe.nil,by rw[HE2.out];exact qb.nil _ ⟨none,0,rfl,nZ9 _⟩,?_⟩
   exact (((hB2.setCell (p:=⟨w.heap.size+1,0,none⟩) hle1 _).setCell (p:=⟨w.heap.size+1,1,none⟩) hle1 _).setCell (p:=⟨w.heap.size+1,2,none⟩) hle1 _).setCell (p:=⟨w.heap.size+1,3,none⟩) hle1 _
 | true =>
   have HA:Hid _:=xh S _ ns n w2 (H.out.later hB2).nodes;have HE2:Hid (zp ns n=if q5 ns n then (growF ns.length ns n.toNat,0) else (noTr,3)):=by show _=_;rw[HE.out,hq];rfl
   have HKI:Hid (jQ ns):=xI H.out hq;clear HE hq;have HAB:Hid (q5 ns n=(decide (0≤n)&&decide (n<ns.length))):=rfl;rw[show (decide (0≤n)&&decide (n<(ns.length:Int)))=q5 ns n from rfl]at HA
   obtain ⟨q2,hq2⟩:∃ q,q5 ns n=q:=⟨_,rfl⟩;rw[hq2]at HA HE2 HAB
   clear hq2;cases q2 with
   | false =>
     have HE3:Hid (zp ns n=(noTr,3)):=by show _=_;rw[HE2.out];rfl
     clear HE2;go_wp2_with fail;refine (Calls.mono HA.out ?_);rintro e w3 ⟨rfl,rfl⟩;go_wp2_with fail;refine bodyPost_ret (v:=.tuple #[.agg #[.bool false,.string ⟨#[]⟩,.slice none 0 0,.slice none 0 0],.int .i64 3]) (by simp[results,Tryd.results38,go_sem,qf,p0,p1,p2,p3,World.cell?_setCell_other]) rfl ⟨.slice none 0 0,.slice none 0 0,by rw[HE3.out];rfl,by rw[HE3.out];exact qe.nil,by rw[HE3.out];exact qb.nil _ ⟨none,0,rfl,nZ9 _⟩,?_⟩
     exact (((hB2.setCell (p:=⟨w.heap.size+1,0,none⟩) hle1 _).setCell (p:=⟨w.heap.size+1,1,none⟩) hle1 _).setCell (p:=⟨w.heap.size+1,2,none⟩) hle1 _).setCell (p:=⟨w.heap.size+1,3,none⟩) hle1 _
   | true =>
     have hr:=HAB.out.symm;simp only[Bool.and_eq_true,decide_eq_true_eq]at hr
     obtain ⟨m,rfl⟩:∃ m:Nat,n=(m:Int):=⟨n.toNat,by omega⟩
     have HE3:Hid (zp ns (m:Int)=(growF ns.length ns m,0)):=by show _=_;rw[HE2.out];rfl
     have HGR:Hid _:=Yf ns.length S _ ns m w2 (H.out.later hB2).nodes HKI.out (by omega) (by omega)
     clear HE2 HAB hr;go_wp2_with fail;refine (Calls.mono HA.out ?_);rintro e w3 ⟨rfl,rfl⟩;go_wp2_with fail;refine (Calls.mono HGR.out ?_);rintro e w4 ⟨va4,vk4,rfl,hA4,hK4,hb4⟩;have hB4:Below w.heap.size w w4:=hB2.trans (hb4.mono hB2.size);obtain ⟨aa,ac,rfl⟩:=hA4.shape;obtain ⟨ka,kc,rfl,_,_⟩:=qb.shape ns.length hK4;have hy4:=(hb4.block _ (qg hy2)).trans hy2;have hs2:=qg hy2;clear p0 p1 p2 p3 f0 f1 f2 f3 HGR HA;have p0:w4.cell? ⟨w.heap.size+1,0,none⟩=some (.bool false):=by rw[cH9 hy4];rfl
     have p1:w4.cell? ⟨w.heap.size+1,1,none⟩=some (.string ⟨#[]⟩):=by rw[cH9 hy4];rfl
     have p2:w4.cell? ⟨w.heap.size+1,2,none⟩=some (.slice none 0 0):=by rw[cH9 hy4];rfl
     have p3:w4.cell? ⟨w.heap.size+1,3,none⟩=some (.slice none 0 0):=by rw[cH9 hy4];rfl
     have f0:w4.frozen? ⟨w.heap.size+1,0,none⟩=false:=fH9 hy4 0;have f1:w4.frozen? ⟨w.heap.size+1,1,none⟩=false:=fH9 hy4 1;have f2:w4.frozen? ⟨w.heap.size+1,2,none⟩=false:=fH9 hy4 2;have f3:w4.frozen? ⟨w.heap.size+1,3,none⟩=false:=fH9 hy4 3;obtain ⟨t,ht⟩:∃ t,growF ns.length ns m=t:=⟨_,rfl⟩;rw[ht]at hA4 hK4 HE3 ⊢
     clear ht;go_wp2_with fail;refine bodyPost_ret (v:=.tuple #[.agg #[.bool t.text,.string t.s,.slice aa t.attrs.length ac,.slice ka t.kids.length kc],.int .i64 0]) (by simp[results,Tryd.results38,go_sem,qf,p0,p1,p2,p3,World.cell?_setCell_other]) rfl ⟨.slice aa t.attrs.length ac,.slice ka t.kids.length kc,by rw[HE3.out],?_,?_,?_⟩
     · rw[HE3.out];refine hA4.carry fun b hb=>⟨by omega,?_⟩
       rw[qd (by omega),qd (by omega),qd (by omega),qd (by omega)]
     · rw[HE3.out];refine qb.carry (fun b hb=>⟨by omega,?_⟩) ns.length hK4
       rw[qd (by omega),qd (by omega),qd (by omega),qd (by omega)]
     · exact (((hB4.setCell (p:=⟨w.heap.size+1,0,none⟩) hle1 _).setCell (p:=⟨w.heap.size+1,1,none⟩) hle1 _).setCell (p:=⟨w.heap.size+1,2,none⟩) hle1 _).setCell (p:=⟨w.heap.size+1,3,none⟩) hle1 _
end
end Go.Proofs.YtfdbipeidmpciaaDoor
namespace Go.Proofs.YtfdbipeidmpciaaDoor
open Go.RowKit
set_option maxRecDepth 100000
def Seg (ns:List Nd)(at':Nat)(L:List Nd):Prop:=∀ (i:Nat)(x:Nd),L[i]?=some x→ns[at'+i]?=some x
theorem Seg.left {ns L M:List Nd}{at':Nat}(h:Seg ns at' (L++M)):Seg ns at' L:=by
 intro i x hx;refine h i x ?_
 have hi:i<L.length:=by
  rcases Nat.lt_or_ge i L.length with h'|h'
  · exact h'
  · rw[List.getElem?_eq_none h']at hx;cases hx
 rw[List.getElem?_append_left hi];exact hx
theorem Seg.right {ns L M:List Nd}{at':Nat}(h:Seg ns at' (L++M)):Seg ns (at'+L.length) M:=by
 intro i x hx;have:=h (L.length+i) x (by rw[List.getElem?_append_right (by omega)];rw[show L.length+i-L.length=i by omega];exact hx)
 rw[show at'+L.length+i=at'+(L.length+i) by omega];exact this
theorem Seg.tail {ns L:List Nd}{x:Nd}{at':Nat}(h:Seg ns at' (x::L)):Seg ns (at'+1) L:=by
 intro i y hy;have:=h (i+1) y (by simpa using hy)
 rw[show at'+1+i=at'+(i+1) by omega];exact this
theorem zx {d:Nat}{t:Tr}(h:Deep d t.kids)(par:Int)(nx:Nat):layF d t par nx=⟨t.text,t.s,t.attrs,par,qi (d-1) (nx+1) t.kids⟩::qr (d-1) (layF (d-1)) nx (nx+1) t.kids:=by
 cases d with
 | zero =>
   have e:t.kids=[]:=h;rw[e];rfl
 | succ d=>rfl
theorem ord_lay:∀ (d:Nat)(t:Tr)(f:Nat)(ns:List Nd)(par:Int)(at':Nat),Deep d t.kids→Seg ns at' (layF d t par at')→cnt (d+1) [t]≤f→ordF f ns par at'=(true,at'+cnt (d+1) [t]):=by
 intro d
 induction d with
 | zero =>
   intro t f ns par at' hd hs hf
   have e:t.kids=[]:=hd;rw[qt,e]at hf ⊢
   obtain ⟨f',rfl⟩:∃ f',f=f'+1:=⟨f-1,by omega⟩
   have h0:ns[at']?=some ⟨t.text,t.s,t.attrs,par,[]⟩:=hs 0 _ rfl
   rw[ordF,h0];simp[qw,cnt]
 | succ d ih =>
   intro t f ns par at' hd hs hf
   rw[qt]at hf ⊢
   obtain ⟨f',rfl⟩:∃ f',f=f'+1:=⟨f-1,by omega⟩
   have h0:ns[at']?=some ⟨t.text,t.s,t.attrs,par,qi d (at'+1) t.kids⟩:=hs 0 _ rfl
   have hsk:Seg ns (at'+1) (qr d (layF d) at' (at'+1) t.kids):=Seg.tail hs
   rw[ordF,h0];simp only[if_true]
   have key:∀ (ks:List Tr) (a:Nat),Deep (d+1) ks→Seg ns a (qr d (layF d) at' a ks)→cnt (d+1) ks≤f'→qw (ordF f' ns at') (qi d a ks) a=(true,a+cnt (d+1) ks):=by
    intro ks
    induction ks with
    | nil=>intro a _ _ _;simp[qi,qw,cnt]
    | cons k ks ihk =>
      intro a hdk hsg hc;rw[q8 d k ks]at hc ⊢
      rw[qr]at hsg
      have hl:=layF_length d k (at':Int) a (hdk k List.mem_cons_self)
      have h1:=ih k f' ns at' a (hdk k List.mem_cons_self) hsg.left (by omega)
      have h2:=hsg.right;rw[hl]at h2
      rw[qi,qw,h1,if_pos ⟨rfl,rfl⟩,ihk (a+cnt (d+1) [k]) (fun u hu=>hdk u (List.mem_cons_of_mem _ hu)) h2 (by omega),Nat.add_assoc]
   rw[key t.kids (at'+1) hd hsk (by omega),Nat.add_assoc]
theorem grow_lay:∀ (d:Nat)(t:Tr)(f:Nat)(ns:List Nd)(par:Int)(at':Nat),Deep d t.kids→Seg ns at' (layF d t par at')→cnt (d+1) [t]≤f→growF f ns at'=t:=by
 intro d
 induction d with
 | zero =>
   intro t f ns par at' hd hs hf
   have e:t.kids=[]:=hd;rw[qt,e]at hf
   obtain ⟨f',rfl⟩:∃ f',f=f'+1:=⟨f-1,by omega⟩
   have h0:ns[at']?=some ⟨t.text,t.s,t.attrs,par,[]⟩:=hs 0 _ rfl
   rw[growF,h0];cases t;simp at e
   subst e;rfl
 | succ d ih =>
   intro t f ns par at' hd hs hf
   rw[qt]at hf
   obtain ⟨f',rfl⟩:∃ f',f=f'+1:=⟨f-1,by omega⟩
   have h0:ns[at']?=some ⟨t.text,t.s,t.attrs,par,qi d (at'+1) t.kids⟩:=hs 0 _ rfl
   have hsk:Seg ns (at'+1) (qr d (layF d) at' (at'+1) t.kids):=Seg.tail hs
   rw[growF,h0]
   have key:∀ (ks:List Tr) (a:Nat),Deep (d+1) ks→Seg ns a (qr d (layF d) at' a ks)→cnt (d+1) ks≤f'→(qi d a ks).map (fun k=>growF f' ns k.toNat)=ks:=by
    intro ks
    induction ks with
    | nil=>intro a _ _ _;rfl
    | cons k ks ihk =>
      intro a hdk hsg hc;rw[q8 d k ks]at hc
      rw[qr]at hsg
      have hl:=layF_length d k (at':Int) a (hdk k List.mem_cons_self)
      have h1:=ih k f' ns at' a (hdk k List.mem_cons_self) hsg.left (by omega)
      have h2:=hsg.right;rw[hl]at h2
      rw[qi,List.map_cons,ihk (a+cnt (d+1) [k]) (fun u hu=>hdk u (List.mem_cons_of_mem _ hu)) h2 (by omega)]
      rw[Int.toNat_natCast,h1]
   simp only[key t.kids (at'+1) hd hsk (by omega)]
   cases t;rfl
theorem Xo {d:Nat}:∀ (ks:List Tr)(a:Nat)(k:Tr),(qi d a (ks++[k])).getLast?=some ((a+cnt (d+1) ks:Nat):Int):=by
 intro ks a k;rw[jL];simp[qi]
theorem last_lay:∀ (d:Nat)(t:Tr)(f:Nat)(ns:List Nd)(par:Int)(at':Nat),Deep d t.kids→Seg ns at' (layF d t par at')→cnt (d+1) [t]≤f→lastF f ns at'+1=at'+cnt (d+1) [t]:=by
 intro d
 induction d with
 | zero =>
   intro t f ns par at' hd hs hf
   have e:t.kids=[]:=hd;rw[qt,e]at hf ⊢
   obtain ⟨f',rfl⟩:∃ f',f=f'+1:=⟨f-1,by omega⟩
   have h0:ns[at']?=some ⟨t.text,t.s,t.attrs,par,[]⟩:=hs 0 _ rfl
   rw[lastF,h0];simp[cnt]
 | succ d ih =>
   intro t f ns par at' hd hs hf
   rw[qt]at hf ⊢
   obtain ⟨f',rfl⟩:∃ f',f=f'+1:=⟨f-1,by omega⟩
   have h0:ns[at']?=some ⟨t.text,t.s,t.attrs,par,qi d (at'+1) t.kids⟩:=hs 0 _ rfl
   have hsk:Seg ns (at'+1) (qr d (layF d) at' (at'+1) t.kids):=Seg.tail hs
   rw[lastF,h0];simp only
   rcases List.eq_nil_or_concat t.kids with he|⟨ks,k,he⟩
   · rw[he];simp[qi,cnt]
   · rw[List.concat_eq_append]at he
     rw[he]at hf hsk ⊢
     have hdk:Deep (d+1) (ks++[k]):=by rw[←he];exact hd
     have happ:cnt (d+1) (ks++[k])=cnt (d+1) ks+cnt (d+1) [k]:=by simp[cnt]
     rw[Xo];simp only[Int.toNat_natCast];rw[xw]at hsk
     have hl:(qr d (layF d) at' (at'+1) ks).length=cnt (d+1) ks:=by
      have:∀ (ts:List Tr) (a:Nat),Deep (d+1) ts→(qr d (layF d) at' a ts).length=cnt (d+1) ts:=by
       intro ts
       induction ts with
       | nil=>intro _ _;rfl
       | cons u ts ih2 =>
         intro a hd2;rw[qr,List.length_append,layF_length d u _ _ (hd2 u List.mem_cons_self),ih2 _ (fun x hx=>hd2 x (List.mem_cons_of_mem _ hx)),q8 d u ts]
      exact this _ _ (fun u hu=>hdk u (List.mem_append_left _ hu))
     have h2:=hsk.right;rw[hl]at h2
     have h3:qr d (layF d) at' (at'+1+cnt (d+1) ks) [k]=layF d k at' (at'+1+cnt (d+1) ks):=by simp[qr]
     rw[h3]at h2
     have:=ih k f' ns at' (at'+1+cnt (d+1) ks) (hdk k (by simp)) h2 (by omega)
     omega
theorem Xl (L:List Nd):Seg L 0 L:=by intro i x hx;rw[Nat.zero_add];exact hx
theorem Seg.nil (ns:List Nd)(a:Nat):Seg ns a []:=by intro i x hx;simp at hx
theorem Seg.append {ns L M:List Nd}{a:Nat}(h:Seg ns a L)(k:Seg ns (a+L.length) M):Seg ns a (L++M):=by
 intro i x hx
 rcases Nat.lt_or_ge i L.length with h'|h'
 · rw[List.getElem?_append_left h']at hx;exact h i x hx
 · rw[List.getElem?_append_right h']at hx
   have:=k (i-L.length) x hx;rw[show a+L.length+(i-L.length)=a+i by omega]at this
   exact this
theorem Seg.cons {ns L:List Nd}{x:Nd}{a:Nat}(h:ns[a]?=some x)(k:Seg ns (a+1) L):Seg ns a (x::L):=by
 intro i y hy;cases i with
 | zero=>simp at hy;subst hy;exact h
 | succ i =>
   have:=k i y (by simpa using hy)
   rw[show a+(i+1)=a+1+i by omega];exact this
theorem ord_conv:∀ (f:Nat)(ns:List Nd)(par:Int)(nx:Nat),(ordF f ns par nx).1=true→∃ t:Tr,Deep f t.kids∧Seg ns nx (layF f t par nx)∧(ordF f ns par nx).2=nx+cnt (f+1) [t]:=by
 intro f
 induction f with
 | zero=>intro ns par nx h;simp[ordF]at h
 | succ f ih =>
   intro ns par nx h;rw[ordF]at h ⊢
   cases hx:ns[nx]? with
   | none=>simp[hx]at h
   | some x =>
     simp only[hx]at h ⊢
     by_cases hp:x.parent=par
     · rw[if_pos hp]at h ⊢
       have key:∀ (ks:List Int) (a:Nat),(qw (ordF f ns nx) ks a).1=true→∃ ts:List Tr,(∀ k∈ts,Deep f k.kids)∧ks=qi f a ts∧Seg ns a (qr f (layF f) nx a ts)∧(qw (ordF f ns nx) ks a).2=a+cnt (f+1) ts:=by
        intro ks
        induction ks with
        | nil=>intro a _;exact ⟨[],by simp,rfl,Seg.nil _ _,by simp[qw,qI]⟩
        | cons k ks ihk =>
          intro a hk;rw[qw]at hk ⊢
          by_cases hc:k=(a:Int)∧(ordF f ns nx a).1=true
          · rw[if_pos hc]at hk ⊢
            obtain ⟨t,ht1,ht2,ht3⟩:=ih ns nx a hc.2;rw[ht3]at hk ⊢
            obtain ⟨ts,hd,he,hs,hn⟩:=ihk _ hk;refine ⟨t::ts,?_,?_,?_,?_⟩
            · intro u hu;rw[List.mem_cons]at hu
              rcases hu with rfl|hu
              · exact ht1
              · exact hd u hu
            · rw[qi,←he,hc.1]
            · rw[qr];refine Seg.append ht2 ?_;rw[layF_length f t nx a ht1];exact hs
            · rw[hn,q8 f t ts];omega
          · rw[if_neg hc]at hk;cases hk
       obtain ⟨ts,hd,he,hs,hn⟩:=key x.kids (nx+1) h;refine ⟨⟨x.text,x.s,x.attrs,ts⟩,hd,?_,?_⟩
       · rw[layF];refine Seg.cons ?_ hs;rw[hx];obtain ⟨xt,xs,xa,xp,xk⟩:=x;simp only at hp he
         rw[hp,he]
       · rw[hn,qt];show nx+1+cnt (f+1) ts=nx+(1+cnt (f+1) ts);omega
     · rw[if_neg hp]at h;cases h
def Sub (ns:List Nd)(j c:Nat)(par:Int):Prop:=∃ (d:Nat)(t:Tr),Deep d t.kids∧Seg ns j (layF d t par j)∧c=cnt (d+1) [t]
theorem qbM (ns:List Nd):∀ (d:Nat)(t:Tr)(par:Int)(a:Nat),Deep d t.kids→Seg ns a (layF d t par a)→∀ j,a≤j→j<a+cnt (d+1) [t] →
 ∃ c par',Sub ns j c par'∧j+c≤a+cnt (d+1) [t]∧(j=a∧par'=par∨∃ q c2 p2,par'=((q:Nat):Int)∧q<j∧Sub ns q c2 p2∧j+c≤q+c2):=by
 intro d
 induction d with
 | zero =>
   intro t par a hd hs j h1 h2;have e:t.kids=[]:=hd;have hc:cnt 1 [t]=1:=by rw[qt,e];rfl
   rw[hc]at h2
   obtain rfl:j=a:=by omega
   exact ⟨_,par,⟨0,t,hd,hs,rfl⟩,nR9 _,Or.inl ⟨rfl,rfl⟩⟩
 | succ d ih =>
   intro t par a hd hs j h1 h2
   by_cases hj:j=a
   · subst hj;exact ⟨_,par,⟨d+1,t,hd,hs,rfl⟩,nR9 _,Or.inl ⟨rfl,rfl⟩⟩
   · have hsk : Seg ns (a + 1) (qr d (layF d) a (a + 1) t.kids) := Seg.tail hs
     have key:∀ (ks:List Tr) (b:Nat),(∀ k∈ks,Deep d k.kids)→Seg ns b (qr d (layF d) a b ks)→b≤j→j<b+cnt (d+1) ks →
      ∃ c par',Sub ns j c par'∧j+c≤b+cnt (d+1) ks∧(par'=(a:Int)∨∃ q c2 p2,par'=((q:Nat):Int)∧q<j∧Sub ns q c2 p2∧j+c≤q+c2):=by
      intro ks
      induction ks with
      | nil=>intro b _ _ hb1 hb2;rw[qI]at hb2;omega
      | cons k ks ihk =>
        intro b hdk hsb hb1 hb2;rw[qr]at hsb
        have hl:=hsb.left;have hr:=hsb.right;have hdk0:=hdk k List.mem_cons_self;rw[layF_length d k a b hdk0]at hr
        rw[q8]at hb2 ⊢
        by_cases hjk:j<b+cnt (d+1) [k]
        · obtain ⟨c, par', hS, hle, hor⟩ := ih k a b hdk0 hl j hb1 hjk;refine ⟨c,par',hS,by omega,?_⟩
          rcases hor with ⟨_,hp⟩|hor
          · exact Or.inl hp
          · exact Or.inr hor
        · obtain ⟨c, par', hS, hle, hor⟩ := ihk (b + cnt (d + 1) [k]) (fun u hu => hdk u (List.mem_cons_of_mem _ hu)) hr (by omega) (by omega)
          exact ⟨c,par',hS,by omega,hor⟩
     have hc1:cnt (d+1+1) [t]=1+cnt (d+1) t.kids:=qt (d+1) t;obtain ⟨c,par',hS,hle,hor⟩:=key t.kids (a+1) hd hsk (by omega) (by omega)
     refine ⟨c,par',hS,by omega,Or.inr ?_⟩
     rcases hor with hp|hor
     · exact ⟨a,_,par,hp,by omega,⟨d+1,t,hd,hs,rfl⟩,by omega⟩
     · exact hor
structure qca (ns:List Nd) (j:Nat) (x:Nd):Prop where
 size:∃ d,Deep d (growF ns.length ns j).kids∧qC ns (j:Int)=(j:Int)+(cnt (d+1) [growF ns.length ns j]:Nat)
 le:qC ns (j:Int)≤(ns.length:Int)
 up:x.parent=-1∨(0≤x.parent∧x.parent<j∧qC ns (j:Int)≤qC ns x.parent)
theorem qat {ns:List Nd}(hg:ql ns=true){j:Nat}(hj:j<ns.length):qC ns (j:Int)=(lastF ns.length ns j:Int)+1:=by
 unfold qC q5;have h1:(0:Int)≤j:=by omega
 have h2:(j:Int)<ns.length:=by omega
 simp[hg,h1,h2]
theorem Seg.in {ns L:List Nd}{a:Nat}(h:Seg ns a L)(hne:0<L.length):a+L.length≤ns.length:=by
 have h1:L[L.length-1]?=some (L[L.length-1]'(by omega)):=List.getElem?_eq_getElem (by omega)
 have h2:=h _ _ h1
 rcases Nat.lt_or_ge (a+(L.length-1)) ns.length with h'|h'
 · omega
 · rw[List.getElem?_eq_none h']at h2;cases h2
theorem Qj {ns:List Nd}(hg:ql ns=true){j c:Nat}{par:Int}(h:Sub ns j c par)(hj:j<ns.length) :
 (∃ d,Deep d (growF ns.length ns j).kids∧c=cnt (d+1) [growF ns.length ns j])∧qC ns (j:Int)=(j:Int)+(c:Nat)∧j+c≤ns.length∧∃ x,ns[j]?=some x∧x.parent=par:=by
 obtain ⟨d,t,hd,hs,hc⟩:=h;have hlen:=layF_length d t par j hd;have hin:=hs.in (by rw[hlen,qt];omega)
 rw[hlen]at hin
 have hgr:=grow_lay d t ns.length ns par j hd hs (by omega)
 have hla:=last_lay d t ns.length ns par j hd hs (by omega)
 refine ⟨⟨d,by rw[hgr];exact hd,by rw[hgr];exact hc⟩,?_,by omega,?_⟩
 · rw[qat hg hj];omega
 · rw[zx hd]at hs
   exact ⟨_,hs 0 _ rfl,rfl⟩
theorem Vp {ns:List Nd}(hg:ql ns=true){j:Nat}{x:Nd}(hx:ns[j]?=some x):qca ns j x:=by
 have hj:j<ns.length:=by
  rcases Nat.lt_or_ge j ns.length with h'|h'
  · exact h'
  · rw[List.getElem?_eq_none h']at hx;cases hx
 have hg2:=hg;simp only[ql,Bool.and_eq_true,decide_eq_true_eq]at hg2
 have ho:=zJ hg2.1.2;obtain ⟨t,hd,hs,hn⟩:=ord_conv (ns.length+1) ns (-1) 0 (by rw[ho])
 rw[ho]at hn
 simp only[Nat.zero_add]at hn
 obtain ⟨c,par,hS,hle,hor⟩:=qbM ns _ t (-1) 0 hd hs j (nZ9 _) (by omega)
 obtain ⟨⟨d,hd1,hc1⟩,he,hl,y,hy,hyp⟩:=Qj hg hS hj;obtain rfl:y=x:=by rw[hx]at hy;exact (Option.some.inj hy).symm
 refine ⟨⟨d,hd1,by rw[he,hc1]⟩,by rw[he];omega,?_⟩
 rcases hor with ⟨_,hp⟩|⟨q,c2,p2,hp,hq,hS2,hle2⟩
 · exact Or.inl (by rw[hyp,hp])
 · refine Or.inr ?_;obtain ⟨_,he2,_,_⟩:=Qj hg hS2 (by omega)
   rw[hyp,hp,he2,he];omega
theorem Qi (d:Nat)(t:Tr):rgt (d+1) [t]=(qx t&&(t.text||rgt d t.kids)):=by
 simp[rgt,rgL]
theorem qbE {f:List Tr→Bool}:∀ (l:List Tr)(p:Bool),rgL f p l=true→∀ k∈l,qx k=true∧(k.text||f k.kids)=true:=by
 intro l
 induction l with
 | nil=>intro _ _ k hk;simp at hk
 | cons t r ih =>
   intro p h k hk;simp only[rgL,Bool.and_eq_true]at h
   rw[List.mem_cons]at hk
   rcases hk with rfl|hk
   · exact ⟨h.1.1.1,h.1.2⟩
   · exact ih _ h.2 k hk
theorem Xj {t:Tr}(h:qx t=true)(ht:t.text=true):t.kids=[]:=by
 simp only[qx,ht,if_true,Bool.and_eq_true,decide_eq_true_eq]at h
 exact List.length_eq_zero_iff.1 h.2
theorem qbF {d:Nat}{t k:Tr}(h:rgt (d+2) [t]=true)(hk:k∈t.kids):rgt (d+1) [k]=true:=by
 rw[Qi]at h ⊢
 simp only[Bool.and_eq_true]at h
 cases ht:t.text with
 | true=>rw[Xj h.1 ht]at hk;simp at hk
 | false =>
   have h2:=h.2;rw[ht,Bool.false_or]at h2
   have:=qbE t.kids false h2 k hk;simp only[Bool.and_eq_true];exact this
theorem jp (ns:List Nd):∀ (d:Nat)(t:Tr)(par:Int)(a:Nat),Deep d t.kids→Seg ns a (layF d t par a)→rgt (d+1) [t]=true→∀ j,a≤j→j<a+cnt (d+1) [t] →
 ∃ d' t' par',Deep d' t'.kids∧Seg ns j (layF d' t' par' j)∧rgt (d'+1) [t']=true∧(j=a∧par'=par∨∃ q y,ns[q]?=some y∧par'=((q:Nat):Int)∧q<j∧(j:Int)∈y.kids∧a≤q):=by
 intro d
 induction d with
 | zero =>
   intro t par a hd hs hr j h1 h2;have e:t.kids=[]:=hd;have hc:cnt 1 [t]=1:=by rw[qt,e];rfl
   rw[hc]at h2
   obtain rfl:j=a:=by omega
   exact ⟨0,t,par,hd,hs,hr,Or.inl ⟨rfl,rfl⟩⟩
 | succ d ih =>
   intro t par a hd hs hr j h1 h2
   by_cases hj:j=a
   · subst hj;exact ⟨d+1,t,par,hd,hs,hr,Or.inl ⟨rfl,rfl⟩⟩
   · have h0 : ns[a]? = some ⟨t.text, t.s, t.attrs, par, qi d (a + 1) t.kids⟩ := hs 0 _ rfl;have hsk:Seg ns (a+1) (qr d (layF d) a (a+1) t.kids):=Seg.tail hs
     have key:∀ (ks:List Tr) (b:Nat),(∀ k∈ks,Deep d k.kids)→(∀ k∈ks,rgt (d+1) [k]=true)→Seg ns b (qr d (layF d) a b ks)→a≤b→b≤j→j<b+cnt (d+1) ks →
      ∃ d' t' par',Deep d' t'.kids∧Seg ns j (layF d' t' par' j)∧rgt (d'+1) [t']=true∧((par'=(a:Int)∧(j:Int)∈qi d b ks)∨∃ q y,ns[q]?=some y∧par'=((q:Nat):Int)∧q<j∧(j:Int)∈y.kids∧a≤q):=by
      intro ks
      induction ks with
      | nil=>intro b _ _ _ _ hb1 hb2;rw[qI]at hb2;omega
      | cons k ks ihk =>
        intro b hdk hrk hsb hab hb1 hb2;rw[qr]at hsb
        have hl:=hsb.left;have hr2:=hsb.right;have hdk0:=hdk k List.mem_cons_self;rw[layF_length d k a b hdk0]at hr2
        rw[q8]at hb2
        by_cases hjk:j<b+cnt (d+1) [k]
        · obtain ⟨d', t', par', g1, g2, g3, hor⟩ := ih k a b hdk0 hl (hrk k List.mem_cons_self) j hb1 hjk;refine ⟨d',t',par',g1,g2,g3,?_⟩
          rcases hor with ⟨hp1,hp2⟩|hor
          · exact Or.inl ⟨hp2,by rw[qi,hp1];exact List.mem_cons_self⟩
          · obtain ⟨q, y, k1, k2, k3, k4, k5⟩ := hor;exact Or.inr ⟨q,y,k1,k2,k3,k4,by omega⟩
        · obtain ⟨d', t', par', g1, g2, g3, hor⟩ := ihk (b + cnt (d + 1) [k]) (fun u hu => hdk u (List.mem_cons_of_mem _ hu)) (fun u hu => hrk u (List.mem_cons_of_mem _ hu)) hr2 (by omega) (by omega) (by omega)
          refine ⟨d',t',par',g1,g2,g3,?_⟩
          rcases hor with ⟨hp1,hp2⟩|hor
          · exact Or.inl ⟨hp1,by rw[qi];exact List.mem_cons_of_mem _ hp2⟩
          · exact Or.inr hor
     have hc1:cnt (d+1+1) [t]=1+cnt (d+1) t.kids:=qt (d+1) t;obtain ⟨d',t',par',g1,g2,g3,hor⟩:=key t.kids (a+1) hd (fun k hk=>qbF hr hk) hsk (by omega) (by omega) (by omega)
     refine ⟨d',t',par',g1,g2,g3,Or.inr ?_⟩
     rcases hor with ⟨hp1,hp2⟩|hor
     · exact ⟨a,_,h0,hp1,by omega,hp2,nR9 _⟩
     · exact hor
theorem yF {ns:List Nd}(hg:ql ns=true):∃ (d:Nat)(t:Tr),Deep d t.kids∧Seg ns 0 (layF d t (-1) 0)∧cnt (d+1) [t]=ns.length∧rgt (d+1) [t]=true∧t.text=false∧qu t=true∧growF ns.length ns 0=t:=by
 have hg2:=hg;simp only[ql,Bool.and_eq_true,decide_eq_true_eq]at hg2
 have ho:=zJ hg2.1.2;obtain ⟨t,hd,hs,hn⟩:=ord_conv (ns.length+1) ns (-1) 0 (by rw[ho])
 rw[ho]at hn
 simp only[Nat.zero_add]at hn
 have hgr:=grow_lay _ t ns.length ns (-1) 0 hd hs (by omega)
 have hG:=hg2.2;rw[hgr]at hG
 have hG2:=hG;rw[yJ hd]at hG
 simp only[Bool.and_eq_true,Bool.not_eq_true']at hG
 exact ⟨_,t,hd,hs,hn.symm,hG.2,hG.1.1.1,hG2,hgr⟩
structure Fam (ns:List Nd) (j:Nat) (x:Nd):Prop where
 kids:∀ u∈x.kids,∃ (k:Nat) (y:Nd),u=(k:Int)∧j<k∧k<ns.length∧qC ns (k:Int)≤qC ns (j:Int)∧ns[k]?=some y∧y.parent=(j:Int)
 row:x.kids.Pairwise (fun u v=>qC ns u≤v)
 par:(j=0∧x.parent=-1)∨∃ (q:Nat) (y:Nd),ns[q]?=some y∧x.parent=(q:Int)∧q<j∧(j:Int)∈y.kids
 text:x.text=true→x.kids=[]
 name:x.text=false→qF x.s=true
 gt:(j:Int)<qC ns (j:Int)
theorem qD {α:Type}{l:List α}{j:Nat}{x:α}(hx:l[j]?=some x):j<l.length:=by
 rcases Nat.lt_or_ge j l.length with h'|h'
 · exact h'
 · rw[List.getElem?_eq_none h']at hx;cases hx
theorem qbv {ns:List Nd}(hg:ql ns=true){d j:Nat}{t:Tr}{par:Int}(hd:Deep d t.kids)(hs:Seg ns j (layF d t par j)){x:Nd}(hx:ns[j]?=some x) :
 (∀ u∈x.kids,∃ (k:Nat) (y:Nd),u=(k:Int)∧j<k∧k<ns.length∧qC ns (k:Int)≤qC ns (j:Int)∧ns[k]?=some y∧y.parent=(j:Int))∧x.kids.Pairwise (fun u v=>qC ns u≤v)∧(j:Int)<qC ns (j:Int):=by
 have hj:=qD hx;obtain ⟨_,he,hl,_⟩:=Qj hg ⟨d,t,hd,hs,rfl⟩ hj;have hh:=zx hd par j
 have hx2:x=⟨t.text,t.s,t.attrs,par,qi (d-1) (j+1) t.kids⟩:=by
  have:=hs 0 _ (by rw[hh];rfl)
  rw[Nat.add_zero,hx]at this
  exact Option.some.inj this
 have hgt:(j:Int)<qC ns (j:Int):=by rw[he,qt];omega
 cases d with
 | zero =>
   have e:t.kids=[]:=hd;have ek:x.kids=[]:=by rw[hx2,e];rfl
   rw[ek];exact ⟨by simp,List.Pairwise.nil,hgt⟩
 | succ e =>
   have hsk:Seg ns (j+1) (qr e (layF e) j (j+1) t.kids):=Seg.tail hs
   have key:∀ (ks:List Tr) (b:Nat),(∀ k∈ks,Deep e k.kids)→Seg ns b (qr e (layF e) j b ks)→b+cnt (e+1) ks≤ns.length →
    (qi e b ks).Pairwise (fun u v=>qC ns u≤v)∧∀ u∈qi e b ks,∃ (k:Nat) (y:Nd),u=(k:Int)∧b≤k∧k<ns.length∧qC ns (k:Int)≤((b+cnt (e+1) ks:Nat):Int)∧ns[k]?=some y∧y.parent=(j:Int):=by
    intro ks
    induction ks with
    | nil=>intro b _ _ _;exact ⟨List.Pairwise.nil,by simp[qi]⟩
    | cons k ks ihk =>
      intro b hdk hsb hle;rw[qr]at hsb
      have hl1:=hsb.left;have hr2:=hsb.right;have hdk0:=hdk k List.mem_cons_self;rw[layF_length e k j b hdk0]at hr2
      rw[q8]at hle ⊢
      have hc1:=qt e k;obtain ⟨_,heb,_,y,hy,hyp⟩:=Qj hg ⟨e,k,hdk0,hl1,rfl⟩ (by omega)
      obtain ⟨hP,hM⟩:=ihk (b+cnt (e+1) [k]) (fun u hu=>hdk u (List.mem_cons_of_mem _ hu)) hr2 (by omega)
      rw[qi];refine ⟨List.Pairwise.cons (fun v hv=>?_) hP,fun u hu=>?_⟩
      · obtain ⟨k2, _, rfl, hk2, _⟩ := hM v hv;rw[heb];omega
      · rw[List.mem_cons]at hu
        rcases hu with rfl|hu
        · exact ⟨b,y,rfl,nR9 _,by omega,by rw[heb];omega,hy,hyp⟩
        · obtain ⟨k2, y2, g1, g2, g3, g4, g5⟩ := hM u hu;exact ⟨k2,y2,g1,by omega,g3,by omega,g5⟩
   have hc:=qt (e+1) t;obtain ⟨hP,hM⟩:=key t.kids (j+1) hd hsk (by omega)
   have ek:x.kids=qi e (j+1) t.kids:=by rw[hx2];rfl
   rw[ek];refine ⟨fun u hu=>?_,hP,hgt⟩
   obtain ⟨k2,y2,g1,g2,g3,g4,g5⟩:=hM u hu;exact ⟨k2,y2,g1,by omega,g3,by rw[he];omega,g5⟩
theorem qL {ns:List Nd}(hg:ql ns=true){j:Nat}{x:Nd}(hx:ns[j]?=some x):Fam ns j x:=by
 have hj:=qD hx;obtain ⟨d,t,hd,hs,hn,hr,_,_,_⟩:=yF hg;obtain ⟨d',t',par',g1,g2,g3,hor⟩:=jp ns d t (-1) 0 hd hs hr j (nZ9 _) (by omega)
 obtain ⟨k1,k2,k3⟩:=qbv hg g1 g2 hx
 have hx2:x=⟨t'.text,t'.s,t'.attrs,par',qi (d'-1) (j+1) t'.kids⟩:=by
  have:=g2 0 _ (by rw[zx g1 par' j];rfl)
  rw[Nat.add_zero,hx]at this
  exact Option.some.inj this
 rw[Qi]at g3
 simp only[Bool.and_eq_true]at g3
 refine ⟨k1,k2,?_,?_,?_,k3⟩
 · rcases hor with ⟨h1, h2⟩ | ⟨q, y, h1, h2, h3, h4, _⟩
   · exact Or.inl ⟨h1,by rw[hx2];exact h2⟩
   · exact Or.inr ⟨q,y,h1,by rw[hx2];exact h2,h3,h4⟩
 · intro ht;have ht':t'.text=true:=by rw[hx2]at ht;exact ht
   rw[hx2,Xj g3.1 ht'];rfl
 · intro ht;have ht':t'.text=false:=by rw[hx2]at ht;exact ht
   have h1:=g3.1;simp[qx,ht']at h1
   rw[hx2];exact h1.1
theorem XR {ns:List Nd}(hg:ql ns=true){m n:Nat}{x:Nd}(hx:ns[n]?=some x)(h1:m<n)(h2:(n:Int)<qC ns (m:Int)):∃ q:Nat,x.parent=(q:Int)∧m≤q∧q<n:=by
 have hn:=qD hx;obtain ⟨d,t,hd,hs,hc,hr,_,_,_⟩:=yF hg;obtain ⟨d',t',par',g1,g2,g3,_⟩:=jp ns d t (-1) 0 hd hs hr m (nZ9 _) (by omega)
 obtain ⟨_,he,_,_⟩:=Qj hg ⟨d',t',g1,g2,rfl⟩ (by omega)
 obtain ⟨d2,t2,par2,k1,k2,k3,hor⟩:=jp ns d' t' par' m g1 g2 g3 n (by omega) (by omega)
 have hx2:x=⟨t2.text,t2.s,t2.attrs,par2,qi (d2-1) (n+1) t2.kids⟩:=by
  have:=k2 0 _ (by rw[zx k1 par2 n];rfl)
  rw[Nat.add_zero,hx]at this
  exact Option.some.inj this
 rcases hor with ⟨h,_⟩|⟨q,y,l1,l2,l3,l4,l5⟩
 · omega
 · exact ⟨q,by rw[hx2];exact l2,l5,l3⟩
structure St where
 name:ByteArray
 n:Int
def qN (s:St):Bool:=decide (0≤s.n)&&decide (s.n≤99)&&(decide (s.name=⟨#[]⟩)||decide (s.name=⟨#[42]⟩)||qF s.name)
def yM (l:List St):Bool:=decide (1≤l.length)&&decide (l.length≤5)&&l.all qN
end Go.Proofs.YtfdbipeidmpciaaDoor
namespace Go.Proofs.YtfdbipeidmpciaaDoor
open Go.ChangeShapes Go.WideShapes Go.ChangeAt Go.RowKit
set_option maxRecDepth 100000
section
attribute [local go_sem] qf
def zh (S:Nat→Prop)(w:World)(v:Value)(l:List St):Prop :=
  ∃ a cap, v = .slice a l.length cap ∧ l.length ≤ cap ∧ cap ≤ maxLen ∧
    (l≠[]→∃ b o,a=some ⟨b,o,none⟩∧S b∧∀ (i:Nat) (x:St),l[i]?=some x→w.cell? ⟨b,o+i*2,none⟩=some (.string x.name)∧w.cell? ⟨b,o+i*2+1,none⟩=some (.int .i64 x.n))
theorem zh.carry {S S':Nat→Prop}{w w':World}{v:Value}{l:List St}(h:zh S w v l)(hw:∀ b,S b→S' b∧w'.heap[b]?=w.heap[b]?):zh S' w' v l:=by
 obtain ⟨a,cap,h1,h2,h3,h4⟩:=h;refine ⟨a,cap,h1,h2,h3,fun hne=>?_⟩
 obtain ⟨b,o,ha,hs,hc⟩:=h4 hne;refine ⟨b,o,ha,(hw b hs).1,fun i x hx=>?_⟩
 rw[World.cell?_of_block (a:=⟨b,o+i*2,none⟩) (hw b hs).2,World.cell?_of_block (a:=⟨b,o+i*2+1,none⟩) (hw b hs).2];exact hc i x hx
theorem zh.bounded {S:Nat→Prop}{w:World}{v:Value}{l:List St}(h:zh S w v l):zh (fun b=>S b∧b<w.heap.size) w v l:=by
 obtain ⟨a,cap,h1,h2,h3,h4⟩:=h;refine ⟨a,cap,h1,h2,h3,fun hne=>?_⟩
 obtain ⟨b,o,ha,hs,hc⟩:=h4 hne;refine ⟨b,o,ha,⟨hs,?_⟩,hc⟩;cases l with
 | nil=>exact absurd rfl hne
 | cons x r=>exact World.block_lt_of_cell? w _ (hc 0 x rfl).1
theorem zh.later {S:Nat→Prop}{w w':World}{v:Value}{l:List St}(h:zh S w v l)(hb:Below w.heap.size w w'):zh S w' v l :=
 h.bounded.carry fun b hb'=>⟨hb'.1,hb.block b hb'.2⟩
theorem zh.shape {S:Nat→Prop}{w:World}{v:Value}{l:List St}(h:zh S w v l):∃ a c,v=.slice a l.length c∧l.length≤c∧c≤maxLen:=by
 obtain ⟨a,cap,h1,h2,h3,_⟩:=h;exact ⟨a,cap,h1,h2,h3⟩
theorem zh.at {S:Nat→Prop}{w:World}{v:Value}{l:List St}(h:zh S w v l){i:Nat}{x:St}(hx:l[i]?=some x):∃ b o cap,v=.slice (some ⟨b,o,none⟩) l.length cap∧S b∧b<w.heap.size∧w.cell? ⟨b,o+i*2,none⟩=some (.string x.name)∧w.cell? ⟨b,o+i*2+1,none⟩=some (.int .i64 x.n):=by
 obtain ⟨a,cap,h1,h2,h3,h4⟩:=h;have hne:l≠[]:=by intro e;subst e;simp at hx
 obtain ⟨b,o,rfl,hs,hc⟩:=h4 hne;exact ⟨b,o,cap,h1,hs,World.block_lt_of_cell? w _ (hc i x hx).1,hc i x hx⟩
theorem zt (a:ByteArray)(l:List UInt8):a.toList=l↔a=⟨l.toArray⟩:=by
 rw[ByteArray.toList_eq]
 constructor
 · intro h;cases a;simp at h;simp[←h]
 · intro h;subst h;simp
set_option maxHeartbeats 1000000 in
theorem YX (s:St)(w:World)(hs:s.name.size≤maxLen) :
 Calls Tryd.prog 108 #[.agg #[.string s.name,.int .i64 s.n]] w fun e w'=>e=.returned (.bool (qN s))∧Below w.heap.size w w':=by
 have hb:=Below.alloc1 w (.cells #[.string s.name,.int .i64 s.n] 110);have HF:Hid (qN s=(decide (0≤s.n)&&decide (s.n≤99)&&(decide (s.name=⟨#[]⟩)||decide (s.name=⟨#[42]⟩)||qF s.name))):=rfl
 have HN:Hid (∀ W,Calls Tryd.prog 13 #[.string s.name] W fun e w'=>e=.returned (.bool (qF s.name))∧w'=W):=fun W=>zy s.name W hs
 clear hs
 by_cases h0:s.n<0
 · have HE : Hid (qN s = false) := by show _ = _;rw[HF.out];simp[show ¬ 0 ≤ s.n by omega]
   clear HF
   go_enter Tryd.func108,Tryd.ntmps108
   go_wp2_with fail;go_ret;exact ⟨by rw[HE.out];rfl,hb⟩
 · by_cases h99 : 99 < s.n
   · have HE : Hid (qN s = false) := by show _ = _;rw[HF.out];simp[show ¬ s.n ≤ 99 by omega]
     clear HF
     go_enter Tryd.func108,Tryd.ntmps108
     go_wp2_with fail;go_ret;exact ⟨by rw[HE.out];rfl,hb⟩
   · have HE : Hid (qN s = (decide (s.name = ⟨#[]⟩) || decide (s.name = ⟨#[42]⟩) || qF s.name)) := by show _ = _;rw[HF.out];simp[show 0 ≤ s.n by omega, show s.n ≤ 99 by omega]
     clear HF
     by_cases he:s.name=⟨#[]⟩
     · have hl : s.name.toList = [] := (zt _ _).2 he;have HE2:Hid (qN s=true):=by show _=_;rw[HE.out];simp[he]
       clear HE he
       go_enter Tryd.func108,Tryd.ntmps108
       go_wp2_with fail;go_ret;exact ⟨by rw[HE2.out];rfl,hb⟩
     · have hl : s.name.toList ≠ [] := fun e => he ((zt _ _).1 e)
       by_cases hst:s.name=⟨#[42]⟩
       · have hl2 : s.name.toList = [42] := (zt _ _).2 hst;have HE2:Hid (qN s=true):=by show _=_;rw[HE.out];simp[hst]
         clear HE he hst hl
         go_enter Tryd.func108,Tryd.ntmps108
         go_wp2_with fail;go_ret;exact ⟨by rw[HE2.out];rfl,hb⟩
       · have hl2 : s.name.toList ≠ [42] := fun e => hst ((zt _ _).1 e)
         have HE2:Hid (qN s=qF s.name):=by show _=_;rw[HE.out];simp[hst,he]
         clear HE he hst
         go_enter Tryd.func108,Tryd.ntmps108
         go_wp2_with (go_at_call 13;refine (Calls.mono (HN.out _) ?_);rintro e w2 ⟨rfl,rfl⟩);go_ret;refine ⟨?_,hb⟩;rw[HE2.out]
         show Ending.returned (Value.bool (s.name.toList.isEmpty||s.name.toList==[42]||qF s.name))=_
         simp[hl,hl2]
def QY (l:List St):Prop:=∀ s∈l,s.name.size≤maxLen
set_option maxHeartbeats 1000000 in
theorem Vo (S:Nat→Prop)(v:Value)(l:List St)(w:World)(h:zh S w v l)(hn:QY l) :
 Calls Tryd.prog 79 #[v] w fun e w'=>e=.returned (.bool (yM l))∧Below w.heap.size w w':=by
 have HP:Hid (yM l=(decide (1≤l.length)&&decide (l.length≤5)&&l.all qN)):=rfl;have HL:Hid (zh S w v l):=h;have HN:Hid (QY l):=hn;obtain ⟨a,cap,rfl,hlc,hcm⟩:=h.shape;unfold maxLen at hcm
 clear h hn
 by_cases h1:l.length<1
 · have HE : Hid (yM l = false) := by show _ = _;rw[HP.out];simp[show ¬ 1 ≤ l.length by omega]
   have h1i:(l.length:Int)<1:=by omega
   clear HP
   go_enter Tryd.func79,Tryd.ntmps79
   go_wp2_with fail;go_ret;exact ⟨by rw[HE.out];rfl,Below.refl _ _⟩
 · have h1i : ¬ (l.length : Int) < 1 := by omega
   by_cases h5:5<l.length
   · have HE : Hid (yM l = false) := by show _ = _;rw[HP.out];simp[show ¬ l.length ≤ 5 by omega]
     have h5i:5<(l.length:Int):=by omega
     clear HP
     go_enter Tryd.func79,Tryd.ntmps79
     go_wp2_with fail;go_ret;exact ⟨by rw[HE.out];rfl,Below.refl _ _⟩
   · have h5i : ¬ 5 < (l.length : Int) := by omega
     have HE:Hid (yM l=l.all qN):=by show _=_;rw[HP.out];simp[show 1≤l.length by omega,show l.length≤5 by omega]
     clear HP
     go_enter Tryd.func79,Tryd.ntmps79
     go_wp2_with fail
     go_loopg [15] l.length (fun g j wr=>∃ (i:Nat),i+g=l.length∧j=.int .i64 (i:Int)∧Below w.heap.size w wr∧l.all qN=(l.drop i).all qN)
     case atStart => exact ⟨0,by omega,rfl,Below.refl _ _,rfl⟩
     case round =>
      obtain ⟨i,hi,rfl,hB,hA⟩:=hrel;have HA:Hid (l.all qN=(l.drop i).all qN):=hA;clear hA;have hsz:=hB.size
      by_cases hil:i<l.length
      · obtain ⟨s, hs⟩ : ∃ s, l[i]? = some s := ⟨l[i], by simp[hil]⟩
        obtain ⟨b,o,c2,hv,_,_,e0,e1⟩:=(HL.out.later hB).at hs
        injection hv with hv1 _ hv2
        subst hv1 hv2
        have hdr:l.drop i=s::l.drop (i+1):=by
         rw[List.drop_eq_getElem_cons hil];congr 1;simpa[hil] using hs
        have HD:Hid ((l.drop i).all qN=(qN s&&(l.drop (i+1)).all qN)):=by show _=_;rw[hdr];rfl
        have HG:Hid (∀ W,Calls Tryd.prog 108 #[.agg #[.string s.name,.int .i64 s.n]] W fun e w'=>e=.returned (.bool (qN s))∧Below W.heap.size W w'):=fun W=>YX s W (HN.out s (List.mem_of_getElem? hs))
        have hili:(i:Int)<(l.length:Int):=by omega
        have hb1:=hB.alloc hsz (.cells #[.string s.name,.int .i64 s.n] 110);clear hs hdr;cases hq:qN s with
        | true =>
          rw[hq]at HG HD
          clear hq;go_wp2_with fail;refine (Calls.mono (HG.out _) ?_);rintro e w3 ⟨rfl,hb3⟩;go_wp2_with fail
          go_roundg (l.length-(i+1))
          case measure => omega
          case rel => exact ⟨i+1,by omega,by go_num,hb1.trans (hb3.mono hb1.size),by rw[HA.out,HD.out];rfl⟩
        | false =>
          rw[hq]at HG HD
          clear hq;go_wp2_with fail;refine (Calls.mono (HG.out _) ?_);rintro e w3 ⟨rfl,hb3⟩;go_wp2_with fail;go_ret;exact ⟨by rw[HE.out,HA.out,HD.out];rfl,hb1.trans (hb3.mono hb1.size)⟩
      · have hili : ¬ (i : Int) < (l.length : Int) := by omega
        have HD:Hid ((l.drop i).all qN=true):=by show _=_;rw[List.drop_of_length_le (by omega)];rfl
        go_wp2_with fail;go_ret;exact ⟨by rw[HE.out,HA.out,HD.out];rfl,hB⟩
end
end Go.Proofs.YtfdbipeidmpciaaDoor
