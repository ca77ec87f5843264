/- Bundled: LayM DocK DocT DocU LayB DocN Fam DocS Lay DocMk DocB MakeM TreeM WithR BenchM BenchP BenchD ChangeM WrongW AgainW AttrM. What each says stands ahead of it. -/
import Derived.Test.YtnppmdpmippcoaaGreatDoorBundle18
import Derived.Test.YtnppmdpmippcoaaGreatDoorBundle11
namespace Go.Proofs.YtnppmdpmippcoaaGreatDoor
open Go.ChangeShapes Go.WideShapes Go.ChangeAt Go.RowKit
set_option maxRecDepth 100000
def qi (d:Nat):Nat→List Tr→List Int
 | _,[]=>[]
 | at',k::ks=>(at':Int)::qi d (at'+cnt (d+1) [k]) ks
def qp (d:Nat)(g:Tr→Int→Nat→List Nd)(par:Nat):Nat→List Tr→List Nd
 | _,[]=>[]
 | at',k::ks=>g k par at'++qp d g par (at'+cnt (d+1) [k]) ks
def layF:Nat→Tr→Int→Nat→List Nd
 | 0,t,par,_=>[⟨t.text,t.s,t.attrs,par,[]⟩]
 | d+1,t,par,at'=>⟨t.text,t.s,t.attrs,par,qi d (at'+1) t.kids⟩::qp d (layF d) at' (at'+1) t.kids
theorem qt (d:Nat)(t:Tr):cnt (d+1) [t]=1+cnt d t.kids:=by simp[cnt]
theorem qG (d:Nat)(t:Tr)(r:List Tr):cnt (d+1) (t::r)=cnt (d+1) [t]+cnt (d+1) r:=by simp[cnt]
theorem yB (d:Nat)(g:Tr→Int→Nat→List Nd)(par:Nat):∀ (a b:List Tr)(at':Nat),qp d g par at' (a++b)=qp d g par at' a++qp d g par (at'+cnt (d+1) a) b:=by
 intro a
 induction a with
 | nil=>intro b at';simp[qp,cnt]
 | cons k a ih =>
   intro b at'
   rw[List.cons_append,qp,qp,ih,qG d k a,List.append_assoc,Nat.add_assoc]
theorem yd (d:Nat):∀ (a b:List Tr)(at':Nat),qi d at' (a++b)=qi d at' a++qi d (at'+cnt (d+1) a) b:=by
 intro a
 induction a with
 | nil=>intro b at';simp[qi,cnt]
 | cons k a ih =>
   intro b at'
   rw[List.cons_append,qi,qi,ih,qG d k a,List.cons_append,Nat.add_assoc]
theorem ye (d:Nat):∀ (a:List Tr)(at':Nat),(qi d at' a).length=a.length:=by
 intro a
 induction a with
 | nil=>intro _;rfl
 | cons k a ih=>intro at';simp[qi,ih]
theorem layF_length:∀ (d:Nat)(t:Tr)(par:Int)(at':Nat),Deep d t.kids→(layF d t par at').length=cnt (d+1) [t]:=by
 intro d
 induction d with
 | zero =>
   intro t par at' h
   have:t.kids=[]:=h;rw[qt,this];rfl
 | succ d ih =>
   intro t par at' h
   rw[layF,List.length_cons,qt]
   have:∀ (ts:List Tr) (a:Nat),Deep (d+1) ts→(qp d (layF d) at' a ts).length=cnt (d+1) ts:=by
    intro ts
    induction ts with
    | nil=>intro _ _;rfl
    | cons k ts ih2 =>
      intro a hd;rw[qp,List.length_append,ih k _ _ (hd k List.mem_cons_self),ih2 _ (fun u hu=>hd u (List.mem_cons_of_mem _ hu)),qG d k ts]
   rw[this t.kids (at'+1) h]
   omega
structure Rw where
 text:Bool
 s:ByteArray
 va:Value
 par:Int
 vk:Value
def rawCells:List Rw→List Value
 | []=>[]
 | r::l=>.bool r.text::.string r.s::r.va::.int .i64 r.par::r.vk::rawCells l
theorem yb (l:List Rw):(rawCells l).length=l.length*5:=by
 induction l with
 | nil=>rfl
 | cons x r ih=>simp[rawCells,ih];omega
theorem zq (l:List Rw):∀ i r,l[i]?=some r→(rawCells l)[i*5]?=some (.bool r.text)∧(rawCells l)[i*5+1]?=some (.string r.s)∧(rawCells l)[i*5+2]?=some r.va∧(rawCells l)[i*5+3]?=some (.int .i64 r.par)∧(rawCells l)[i*5+4]?=some r.vk:=by
 induction l with
 | nil=>intro i x h;simp at h
 | cons y r ih =>
   intro i x h;cases i with
   | zero=>simp at h;subst h;simp[rawCells]
   | succ i =>
     have:=ih i x (by simpa using h)
     rw[show (i+1)*5=i*5+5 from by omega]
     simpa[rawCells] using this
theorem ZU (l:List Rw):∀ (i:Nat)(r:Rw),i<l.length→rawCells (l.set i r)=(((((rawCells l).set (i*5) (.bool r.text)).set (i*5+1) (.string r.s)).set (i*5+2) r.va).set (i*5+3) (.int .i64 r.par)).set (i*5+4) r.vk:=by
 induction l with
 | nil=>intro i r h;simp at h
 | cons y l ih =>
   intro i r h;cases i with
   | zero=>simp[rawCells]
   | succ i =>
     rw[List.set_cons_succ,rawCells,ih i r (by simpa using h),show (i+1)*5=i*5+5 from by omega,rawCells]
     rfl
theorem z1 (l:List Rw):∀ (i:Nat)(r:Rw)(v:Value),l[i]?=some r→rawCells (l.set i { r with vk:=v })=(rawCells l).set (i*5+4) v:=by
 induction l with
 | nil=>intro i r v h;simp at h
 | cons y l ih =>
   intro i r v h;cases i with
   | zero=>simp at h;subst h;simp[rawCells]
   | succ i =>
     rw[List.set_cons_succ,rawCells,ih i r v (by simpa using h),show (i+1)*5=i*5+5 from by omega,rawCells]
     rfl
def Row (nb:Nat)(ms:List Rw)(w:World):Prop:=w.heap[nb]?=some (.cells (rawCells ms).toArray 43 (0,0))
theorem Row.cells {nb:Nat}{ms:List Rw}{w:World}(h:Row nb ms w){i:Nat}{r:Rw}(hr:ms[i]?=some r):w.cell? ⟨nb,i*5,none⟩=some (.bool r.text)∧w.cell? ⟨nb,i*5+1,none⟩=some (.string r.s)∧w.cell? ⟨nb,i*5+2,none⟩=some r.va∧w.cell? ⟨nb,i*5+3,none⟩=some (.int .i64 r.par)∧w.cell? ⟨nb,i*5+4,none⟩=some r.vk:=by
 obtain ⟨g0,g1,g2,g3,g4⟩:=zq ms i r hr;refine ⟨?_,?_,?_,?_,?_⟩<;>rw[cH9 h]<;>simpa
theorem Row.frozen {nb:Nat}{ms:List Rw}{w:World}(h:Row nb ms w)(k:Nat):w.frozen? ⟨nb,k,none⟩=false:=fH9 h k
theorem Row.set1 {nb:Nat}{cs:List Value}{w:World}{e:TypeId}(h:w.heap[nb]?=some (.cells cs.toArray e (0,0)))(k:Nat)(v:Value):(w.setCell ⟨nb,k,none⟩ v).heap[nb]?=some (.cells (cs.set k v).toArray e (0,0)):=by
 simp[World.setCell,Array.getElem?_modify,h]
theorem Row.put {nb:Nat}{ms:List Rw}{w:World}(h:Row nb ms w){i:Nat}(hi:i<ms.length)(r:Rw):Row nb (ms.set i r) (((((w.setCell ⟨nb,i*5,none⟩ (.bool r.text)).setCell ⟨nb,i*5+1,none⟩ (.string r.s)).setCell ⟨nb,i*5+2,none⟩ r.va).setCell ⟨nb,i*5+3,none⟩ (.int .i64 r.par)).setCell ⟨nb,i*5+4,none⟩ r.vk):=by
 unfold Row;rw[ZU ms i r hi];exact Row.set1 (Row.set1 (Row.set1 (Row.set1 (Row.set1 h _ _) _ _) _ _) _ _) _ _
theorem Row.putK {nb:Nat}{ms:List Rw}{w:World}(h:Row nb ms w){i:Nat}{r:Rw}(hr:ms[i]?=some r)(v:Value):Row nb (ms.set i { r with vk:=v }) (w.setCell ⟨nb,i*5+4,none⟩ v):=by
 unfold Row;rw[z1 ms i r v hr];exact Row.set1 h _ _
def j8 (S:Nat→Prop)(w:World)(r:Rw)(x:Nd):Prop:=r.text=x.text∧r.s=x.s∧r.par=x.parent∧qj S w r.va x.attrs∧zk S w r.vk x.kids
def Laid (S:Nat→Prop)(w:World)(ms:List Rw)(at':Nat)(L:List Nd):Prop:=∀ (i:Nat)(x:Nd),L[i]?=some x→∃ r,ms[at'+i]?=some r∧j8 S w r x
theorem j8.carry {S S':Nat→Prop}{w w':World}{r:Rw}{x:Nd}(h:j8 S w r x)(hw:∀ b,S b→S' b∧w'.heap[b]?=w.heap[b]?):j8 S' w' r x :=
 ⟨h.1,h.2.1,h.2.2.1,h.2.2.2.1.carry hw,h.2.2.2.2.carry hw⟩
theorem j8.bounded {S:Nat→Prop}{w:World}{r:Rw}{x:Nd}(h:j8 S w r x):j8 (fun b=>S b∧b<w.heap.size) w r x :=
 ⟨h.1,h.2.1,h.2.2.1,h.2.2.2.1.bounded,h.2.2.2.2.bounded⟩
theorem Laid.carry {S S':Nat→Prop}{w w':World}{ms ms':List Rw}{at':Nat}{L:List Nd}(h:Laid S w ms at' L)(hw:∀ b,S b→b<w.heap.size→S' b∧w'.heap[b]?=w.heap[b]?)(hm:∀ i,at'≤i→i<at'+L.length→ms'[i]?=ms[i]?):Laid S' w' ms' at' L:=by
 intro i x hx;obtain ⟨r,hr,hR⟩:=h i x hx
 have hi:i<L.length:=by
  rcases Nat.lt_or_ge i L.length with h'|h'
  · exact h'
  · rw[List.getElem?_eq_none h']at hx;cases hx
 exact ⟨r,by rw[hm _ (by omega) (by omega)];exact hr,hR.bounded.carry fun b hb=>hw b hb.1 hb.2⟩
theorem Laid.append {S:Nat→Prop}{w:World}{ms:List Rw}{at':Nat}{L M:List Nd}(h:Laid S w ms at' L)(k:Laid S w ms (at'+L.length) M):Laid S w ms at' (L++M):=by
 intro i x hx
 rcases Nat.lt_or_ge i L.length with h'|h'
 · rw[List.getElem?_append_left h']at hx;exact h i x hx
 · rw[List.getElem?_append_right h']at hx
   obtain ⟨r,hr,hR⟩:=k (i-L.length) x hx;exact ⟨r,by rw[show at'+i=at'+L.length+(i-L.length) by omega];exact hr,hR⟩
structure LFr (nb cb:Nat) (w w':World):Prop where
 below:Below 0 w w'
 frame:∀ x,x<w.heap.size→x≠nb→x≠cb→w'.heap[x]?=w.heap[x]?
theorem LFr.trans {nb cb:Nat}{w w1 w2:World}(h:LFr nb cb w w1)(k:LFr nb cb w1 w2):LFr nb cb w w2 :=
 ⟨h.below.trans k.below,fun x hx h1 h2=>by rw[k.frame x (Nat.lt_of_lt_of_le hx h.below.size) h1 h2,h.frame x hx h1 h2]⟩
theorem LFr.later {nb cb:Nat}{w w':World}(h:Below w.heap.size w w'):LFr nb cb w w':=⟨h.mono (nZ9 _),fun x hx _ _=>h.block x hx⟩
theorem LFr.putC (nb cb:Nat)(w:World)(k:Nat)(v:Value):LFr nb cb w (w.setCell ⟨cb,k,none⟩ v):=⟨(Below.refl 0 w).setCell (nZ9 _) _,fun _ _ _ h2=>Below.heap_setCell _ _ _ _ h2⟩
def FewN:Nat→List Tr→Prop
 | 0,_=>True
 | n+1,ts=>∀ t∈ts,t.attrs.length≤1048576∧FewN n t.kids
end Go.Proofs.YtnppmdpmippcoaaGreatDoor
namespace Go.Proofs.YtnppmdpmippcoaaGreatDoor
open Go.RowKit
set_option maxRecDepth 100000
def VT (ns:List Nd)(i:Nat):Prop:=∀ x,ns[i]?=some x→x.kids.length≤ns.length∧∀ k∈x.kids,(i:Int)<k∧k<ns.length
def X5 (ns:List Nd)(a b:Nat):Prop:=a≤b∧b≤ns.length∧∀ i,a≤i→i<b→VT ns i
theorem YP {ns:List Nd}{G:Nat→Bool × Nat}(hG:∀ m,(G m).1=true→m<(G m).2∧X5 ns m (G m).2) :
 ∀ (ks:List Int) (m:Nat),m≤ns.length→(qB G ks m).1=true→X5 ns m (qB G ks m).2∧ks.length+m≤(qB G ks m).2∧∀ k∈ks,(m:Int)≤k∧k<(qB G ks m).2:=by
 intro ks
 induction ks with
 | nil=>intro m hm _;exact ⟨⟨nR9 _,hm,fun i h1 h2=>absurd h1 (by have:i<m:=h2;omega)⟩,by simp[qB],by intro k hk;simp at hk⟩
 | cons k ks ih =>
   intro m _ h;unfold qB at h ⊢
   by_cases hc:k=(m:Int)∧(G m).1=true
   · rw[if_pos hc]at h ⊢
     obtain ⟨h1,h2,h3,h4⟩:=hG m hc.2;obtain ⟨⟨k1,k2,k3⟩,k4,k5⟩:=ih (G m).2 h3 h;refine ⟨⟨by omega,k2,fun i hi1 hi2=>?_⟩,by simp;omega,fun k' hk'=>?_⟩
     · rcases Nat.lt_or_ge i (G m).2 with h' | h'
       · exact h4 i hi1 h'
       · exact k3 i h' hi2
     · rw[List.mem_cons]at hk'
       rcases hk' with rfl|hk'
       · rw[hc.1];omega
       · have:=k5 k' hk';omega
   · rw[if_neg hc]at h;simp at h
theorem ordF_seg:∀ (f:Nat)(ns:List Nd)(par:Int)(nx:Nat),(ordF f ns par nx).1=true→nx<(ordF f ns par nx).2∧X5 ns nx (ordF f ns par nx).2:=by
 intro f
 induction f with
 | zero=>intro ns par nx h;simp[ordF]at h
 | succ f ih =>
   intro ns par nx h;unfold ordF at h ⊢
   cases hx:ns[nx]? with
   | none=>simp[hx]at h
   | some x =>
     simp only[hx]at h ⊢
     have hlt:nx<ns.length:=by
      rcases Nat.lt_or_ge nx ns.length with h'|h'
      · exact h'
      · rw[List.getElem?_eq_none h']at hx;cases hx
     by_cases hp:x.parent=par
     · rw[if_pos hp]at h ⊢
       obtain ⟨⟨k1,k2,k3⟩,k4,k5⟩:=YP (fun m hm=>ih ns nx m hm) x.kids (nx+1) (by omega) h
       refine ⟨by omega,by omega,k2,fun i hi1 hi2=>?_⟩
       rcases Nat.lt_or_ge nx i with h'|h'
       · exact k3 i h' hi2
       · have : i = nx := by omega
         subst this;intro y hy;rw[hx]at hy
         cases hy;refine ⟨by omega,fun k hk=>?_⟩
         have:=k5 k hk;omega
     · rw[if_neg hp]at h;simp at h
theorem QM {f:Nat}{ns:List Nd}(h:ordF f ns (-1) 0=(true,ns.length))(hl:ns.length≤80)(ha:∀ x∈ns,x.attrs.length≤4398046511104):X6 ns:=by
 have h1:=ordF_seg f ns (-1) 0 (by rw[h])
 rw[h]at h1
 intro n x hx
 have hlt:n<ns.length:=by
  rcases Nat.lt_or_ge n ns.length with h'|h'
  · exact h'
  · rw[List.getElem?_eq_none h']at hx;cases hx
 obtain ⟨k1,k2⟩:=h1.2.2.2 n (nZ9 _) hlt x hx;exact ⟨ha x (List.mem_of_getElem? hx),by omega,k2⟩
def yR (ns:List Nd):Prop:=∀ x∈ns,x.s.size≤maxLen∧∀ y∈x.attrs,y.1.size≤maxLen∧y.2.size≤maxLen
theorem Jl {ns:List Nd}(h:yR ns):∀ (f n:Nat),Qu (growF f ns n)∧TextsN f (growF f ns n).kids:=by
 intro f
 induction f with
 | zero=>intro n;exact ⟨⟨nZ9 _,by intro y hy;simp[growF]at hy⟩,trivial⟩
 | succ f ih =>
   intro n;rw[growF];cases hx:ns[n]? with
   | none=>exact ⟨⟨nZ9 _,by intro y hy;simp at hy⟩,by intro t ht;simp at ht⟩
   | some x =>
     refine ⟨h x (List.mem_of_getElem? hx),fun t ht=>?_⟩
     simp only[List.mem_map]at ht
     obtain ⟨k,_,rfl⟩:=ht;exact ih _
end Go.Proofs.YtnppmdpmippcoaaGreatDoor
namespace Go.Proofs.YtnppmdpmippcoaaGreatDoor
open Go.ChangeShapes Go.WideShapes Go.ChangeAt Go.RowKit
set_option maxRecDepth 100000
section
attribute [local go_sem] qk
def yN (ns:List Nd):Bool:=(ordF (ns.length+1) ns (-1) 0).1&&decide ((ordF (ns.length+1) ns (-1) 0).2=ns.length)
def qu (ns:List Nd):Bool:=decide (ns.length≤80)&&yN ns&&qR (growF ns.length ns 0)
theorem yu {ns:List Nd}(h:yN ns=true):ordF (ns.length+1) ns (-1) 0=(true,ns.length):=by
 simp only[yN,Bool.and_eq_true,decide_eq_true_eq]at h
 exact Prod.ext h.1 h.2
theorem JA {ns:List Nd}(h:yN ns=true):0<ns.length:=by
 have h1:=ordF_seg (ns.length+1) ns (-1) 0 (by rw[yu h])
 rw[yu h]at h1
 exact h1.1
set_option maxHeartbeats 1000000 in
theorem Zo (S:Nat→Prop)(v:Value)(ns:List Nd)(w:World)(hN:qv S w v ns)(hS:∀ b,S b→b<w.heap.size)(ha:∀ x∈ns,x.attrs.length≤4398046511104)(hx:yR ns) :
 Calls Tryz.prog 19 #[.agg #[v]] w fun e w'=>e=.returned (.bool (qu ns))∧Below w.heap.size w w':=by
 obtain ⟨a,cap,rfl,hlc,hcm⟩:=hN.shape;unfold maxLen at hcm
 have HG:Hid (qu ns=(decide (ns.length≤80)&&yN ns&&qR (growF ns.length ns 0))):=rfl
 by_cases h80:ns.length≤80
 · have hi80 : ¬ (80 : Int) < (ns.length : Int) := by omega
   have HG2:Hid (qu ns=(yN ns&&qR (growF ns.length ns 0))):=by show _=_;rw[HG.out];simp[h80]
   clear HG;have hb2:Below w.heap.size w ((w.alloc (.cells #[.slice a ns.length cap] 24)).alloc (.cells #[.int .i64 0] 3)):=(Below.alloc1 w _).alloc (by simp) _
   have hC2:Cnt (w.heap.size+1) 0 ((w.alloc (.cells #[.slice a ns.length cap] 24)).alloc (.cells #[.int .i64 0] 3)):=by
    have e:=heap_alloc_new (w.alloc (.cells #[.slice a ns.length cap] 24)) (.cells #[.int .i64 0] 3);rw[World.size_alloc]at e
    exact e
   have hx2:((w.alloc (.cells #[.slice a ns.length cap] 24)).alloc (.cells #[.int .i64 0] 3)).heap[w.heap.size]?=some (.cells #[.slice a ns.length cap] 24 (0,0)):=by
    rw[Lib.alloc_old _ _ _ (by simp)];exact heap_alloc_new _ _
   have HO:Hid _:=Vy (ns.length+1) S _ ns (-1) (w.heap.size+1) 0 _ (hN.later hb2) (fun b hb=>by have:=hS b hb;omega) hC2 h80 (by omega)
   have HN:Hid (qv S w (.slice a ns.length cap) ns):=hN;have HA:Hid (∀ x∈ns,x.attrs.length≤4398046511104):=ha;have HX:Hid (yR ns):=hx;have HS:Hid (∀ b,S b→b<w.heap.size):=hS;have HOR:Hid (yN ns=((ordF (ns.length+1) ns (-1) 0).1&&decide ((ordF (ns.length+1) ns (-1) 0).2=ns.length))):=rfl;clear hN hC2 ha hx hS
   go_enter Tryz.func19,Tryz.ntmps19
   go_wp2_with fail;refine (Calls.mono HO.out ?_);rintro e w3 ⟨rfl,hC3,hF3⟩
   have hx3:w3.heap[w.heap.size]?=some (.cells #[.slice a ns.length cap] 24 (0,0)):=by
    rw[hF3.frame w.heap.size (by simp;omega) (by omega)];exact hx2
   have hB3:Below w.heap.size w w3:=⟨hF3.below.os.trans hb2.os,hF3.below.tape.trans hb2.tape,hF3.below.output.trans hb2.output,Nat.le_trans hb2.size hF3.below.size,fun k hk=>by rw[hF3.frame k (by simp;omega) (by omega)];exact hb2.block k hk⟩
   have d0:w3.cell? ⟨w.heap.size,0,none⟩=some (.slice a ns.length cap):=by rw[cH9 hx3];rfl
   have e0:=hC3.c0;have hlt3:=qh hx3;clear HO hb2 hx2 hF3;obtain ⟨q,hq⟩:∃ q,ordF (ns.length+1) ns (-1) 0=q:=⟨_,rfl⟩;rw[hq]at HOR e0 hC3 ⊢
   have HQ:Hid (ordF (ns.length+1) ns (-1) 0=q):=hq;clear hq;obtain ⟨q1,q2⟩:=q;simp only at HOR e0 hC3 ⊢
   cases q1 with
   | false =>
     have HE:Hid (qu ns=false):=by show _=_;rw[HG2.out,HOR.out];rfl
     clear HG2 HOR;go_wp2_with fail;go_ret;exact ⟨by rw[HE.out];rfl,hB3⟩
   | true =>
     by_cases hql:q2=ns.length
     · have hne : ((q2 : Int) != (ns.length : Int)) = false := by simp[hql]
       have hor:yN ns=true:=by rw[HOR.out,hql];simp
       have HE:Hid (qu ns=qR (growF ns.length ns 0)):=by show _=_;rw[HG2.out,hor];rfl
       have hpos:=JA hor;have HGR:Hid _:=Xw ns.length S _ ns 0 w3 (HN.out.later hB3) (QM (yu hor) h80 HA.out) hpos (by omega)
       have HTX:Hid (TextsN (ns.length+1) [growF ns.length ns 0]):=by
        intro t ht;simp only[List.mem_singleton]at ht
        subst ht;exact Jl HX.out _ _
       clear HG2 HOR hor hql;go_wp2_with fail;refine (Calls.mono HGR.out ?_);rintro e w4 ⟨va4,vk4,rfl,hA4,hK4,hb4⟩;have hB4:Below w.heap.size w w4:=hB3.trans (hb4.mono hB3.size);have HGD:Hid _:=Yu _ ns.length _ _ (growF ns.length ns 0) w4 hA4 hK4 HTX.out;obtain ⟨aa,ac,rfl⟩:=hA4.shape;obtain ⟨ka,kc,rfl,_,_⟩:=qd.shape ns.length hK4;clear hA4 hK4 HGR;go_wp2_with fail;refine (Calls.mono HGD.out ?_);rintro e w5 ⟨rfl,hb5⟩;have hB5:Below w.heap.size w w5:=hB4.trans (hb5.mono hB4.size);go_wp2_with fail;go_ret;exact ⟨by rw[HE.out];rfl,hB5⟩
     · have hne : ((q2 : Int) != (ns.length : Int)) = true := by simp;omega
       have HE:Hid (qu ns=false):=by show _=_;rw[HG2.out,HOR.out];simp[hql]
       clear HG2 HOR hql;go_wp2_with fail;go_ret;exact ⟨by rw[HE.out];rfl,hB3⟩
 · have hi80 : (80 : Int) < (ns.length : Int) := by omega
   have HE:Hid (qu ns=false):=by show _=_;rw[HG.out];simp[h80]
   clear HG hN
   go_enter Tryz.func19,Tryz.ntmps19
   go_wp2_with fail;go_ret;exact ⟨by rw[HE.out];rfl,Below.alloc1 _ _⟩
end
section
attribute [local go_sem] qk
structure Qn (S:Nat→Prop) (w:World) (v:Value) (ns:List Nd):Prop where
 nodes:qv S w v ns
 here:∀ b,S b→b<w.heap.size
 few:∀ x∈ns,x.attrs.length≤4398046511104
 short:yR ns
theorem Qn.later {S:Nat→Prop}{w w':World}{v:Value}{ns:List Nd}(h:Qn S w v ns)(hb:Below w.heap.size w w'):Qn S w' v ns :=
 ⟨h.nodes.later hb,fun b hb'=>Nat.lt_of_lt_of_le (h.here b hb') hb.size,h.few,h.short⟩
def ZE (ns:List Nd)(n:Int):Bool:=decide (0≤n)&&decide (n<ns.length)
def j6 (ns:List Nd)(n:Int):Int:=if qu ns&&ZE ns n then (lastF ns.length ns n.toNat:Int)+1 else 0
end
end Go.Proofs.YtnppmdpmippcoaaGreatDoor
namespace Go.Proofs.YtnppmdpmippcoaaGreatDoor
open Go.RowKit
set_option maxRecDepth 100000
def Seg (ns:List Nd)(at':Nat)(L:List Nd):Prop:=∀ (i:Nat)(x:Nd),L[i]?=some x→ns[at'+i]?=some x
theorem Seg.left {ns L M:List Nd}{at':Nat}(h:Seg ns at' (L++M)):Seg ns at' L:=by
 intro i x hx;refine h i x ?_
 have hi:i<L.length:=by
  rcases Nat.lt_or_ge i L.length with h'|h'
  · exact h'
  · rw[List.getElem?_eq_none h']at hx;cases hx
 rw[List.getElem?_append_left hi];exact hx
theorem Seg.right {ns L M:List Nd}{at':Nat}(h:Seg ns at' (L++M)):Seg ns (at'+L.length) M:=by
 intro i x hx;have:=h (L.length+i) x (by rw[List.getElem?_append_right (by omega)];rw[show L.length+i-L.length=i by omega];exact hx)
 rw[show at'+L.length+i=at'+(L.length+i) by omega];exact this
theorem Seg.tail {ns L:List Nd}{x:Nd}{at':Nat}(h:Seg ns at' (x::L)):Seg ns (at'+1) L:=by
 intro i y hy;have:=h (i+1) y (by simpa using hy)
 rw[show at'+1+i=at'+(i+1) by omega];exact this
theorem yh {d:Nat}{t:Tr}(h:Deep d t.kids)(par:Int)(nx:Nat):layF d t par nx=⟨t.text,t.s,t.attrs,par,qi (d-1) (nx+1) t.kids⟩::qp (d-1) (layF (d-1)) nx (nx+1) t.kids:=by
 cases d with
 | zero =>
   have e:t.kids=[]:=h;rw[e];rfl
 | succ d=>rfl
theorem ord_lay:∀ (d:Nat)(t:Tr)(f:Nat)(ns:List Nd)(par:Int)(at':Nat),Deep d t.kids→Seg ns at' (layF d t par at')→cnt (d+1) [t]≤f→ordF f ns par at'=(true,at'+cnt (d+1) [t]):=by
 intro d
 induction d with
 | zero =>
   intro t f ns par at' hd hs hf
   have e:t.kids=[]:=hd;rw[qt,e]at hf ⊢
   obtain ⟨f',rfl⟩:∃ f',f=f'+1:=⟨f-1,by omega⟩
   have h0:ns[at']?=some ⟨t.text,t.s,t.attrs,par,[]⟩:=hs 0 _ rfl
   rw[ordF,h0];simp[qB,cnt]
 | succ d ih =>
   intro t f ns par at' hd hs hf
   rw[qt]at hf ⊢
   obtain ⟨f',rfl⟩:∃ f',f=f'+1:=⟨f-1,by omega⟩
   have h0:ns[at']?=some ⟨t.text,t.s,t.attrs,par,qi d (at'+1) t.kids⟩:=hs 0 _ rfl
   have hsk:Seg ns (at'+1) (qp d (layF d) at' (at'+1) t.kids):=Seg.tail hs
   rw[ordF,h0];simp only[if_true]
   have key:∀ (ks:List Tr) (a:Nat),Deep (d+1) ks→Seg ns a (qp d (layF d) at' a ks)→cnt (d+1) ks≤f'→qB (ordF f' ns at') (qi d a ks) a=(true,a+cnt (d+1) ks):=by
    intro ks
    induction ks with
    | nil=>intro a _ _ _;simp[qi,qB,cnt]
    | cons k ks ihk =>
      intro a hdk hsg hc;rw[qG d k ks]at hc ⊢
      rw[qp]at hsg
      have hl:=layF_length d k (at':Int) a (hdk k List.mem_cons_self)
      have h1:=ih k f' ns at' a (hdk k List.mem_cons_self) hsg.left (by omega)
      have h2:=hsg.right;rw[hl]at h2
      rw[qi,qB,h1,if_pos ⟨rfl,rfl⟩,ihk (a+cnt (d+1) [k]) (fun u hu=>hdk u (List.mem_cons_of_mem _ hu)) h2 (by omega),Nat.add_assoc]
   rw[key t.kids (at'+1) hd hsk (by omega),Nat.add_assoc]
theorem grow_lay:∀ (d:Nat)(t:Tr)(f:Nat)(ns:List Nd)(par:Int)(at':Nat),Deep d t.kids→Seg ns at' (layF d t par at')→cnt (d+1) [t]≤f→growF f ns at'=t:=by
 intro d
 induction d with
 | zero =>
   intro t f ns par at' hd hs hf
   have e:t.kids=[]:=hd;rw[qt,e]at hf
   obtain ⟨f',rfl⟩:∃ f',f=f'+1:=⟨f-1,by omega⟩
   have h0:ns[at']?=some ⟨t.text,t.s,t.attrs,par,[]⟩:=hs 0 _ rfl
   rw[growF,h0];cases t;simp at e
   subst e;rfl
 | succ d ih =>
   intro t f ns par at' hd hs hf
   rw[qt]at hf
   obtain ⟨f',rfl⟩:∃ f',f=f'+1:=⟨f-1,by omega⟩
   have h0:ns[at']?=some ⟨t.text,t.s,t.attrs,par,qi d (at'+1) t.kids⟩:=hs 0 _ rfl
   have hsk:Seg ns (at'+1) (qp d (layF d) at' (at'+1) t.kids):=Seg.tail hs
   rw[growF,h0]
   have key:∀ (ks:List Tr) (a:Nat),Deep (d+1) ks→Seg ns a (qp d (layF d) at' a ks)→cnt (d+1) ks≤f'→(qi d a ks).map (fun k=>growF f' ns k.toNat)=ks:=by
    intro ks
    induction ks with
    | nil=>intro a _ _ _;rfl
    | cons k ks ihk =>
      intro a hdk hsg hc;rw[qG d k ks]at hc
      rw[qp]at hsg
      have hl:=layF_length d k (at':Int) a (hdk k List.mem_cons_self)
      have h1:=ih k f' ns at' a (hdk k List.mem_cons_self) hsg.left (by omega)
      have h2:=hsg.right;rw[hl]at h2
      rw[qi,List.map_cons,ihk (a+cnt (d+1) [k]) (fun u hu=>hdk u (List.mem_cons_of_mem _ hu)) h2 (by omega)]
      rw[Int.toNat_natCast,h1]
   simp only[key t.kids (at'+1) hd hsk (by omega)]
   cases t;rfl
theorem YY {d:Nat}:∀ (ks:List Tr)(a:Nat)(k:Tr),(qi d a (ks++[k])).getLast?=some ((a+cnt (d+1) ks:Nat):Int):=by
 intro ks a k;rw[yd];simp[qi]
theorem last_lay:∀ (d:Nat)(t:Tr)(f:Nat)(ns:List Nd)(par:Int)(at':Nat),Deep d t.kids→Seg ns at' (layF d t par at')→cnt (d+1) [t]≤f→lastF f ns at'+1=at'+cnt (d+1) [t]:=by
 intro d
 induction d with
 | zero =>
   intro t f ns par at' hd hs hf
   have e:t.kids=[]:=hd;rw[qt,e]at hf ⊢
   obtain ⟨f',rfl⟩:∃ f',f=f'+1:=⟨f-1,by omega⟩
   have h0:ns[at']?=some ⟨t.text,t.s,t.attrs,par,[]⟩:=hs 0 _ rfl
   rw[lastF,h0];simp[cnt]
 | succ d ih =>
   intro t f ns par at' hd hs hf
   rw[qt]at hf ⊢
   obtain ⟨f',rfl⟩:∃ f',f=f'+1:=⟨f-1,by omega⟩
   have h0:ns[at']?=some ⟨t.text,t.s,t.attrs,par,qi d (at'+1) t.kids⟩:=hs 0 _ rfl
   have hsk:Seg ns (at'+1) (qp d (layF d) at' (at'+1) t.kids):=Seg.tail hs
   rw[lastF,h0];simp only
   rcases List.eq_nil_or_concat t.kids with he|⟨ks,k,he⟩
   · rw[he];simp[qi,cnt]
   · rw[List.concat_eq_append]at he
     rw[he]at hf hsk ⊢
     have hdk:Deep (d+1) (ks++[k]):=by rw[←he];exact hd
     have happ:cnt (d+1) (ks++[k])=cnt (d+1) ks+cnt (d+1) [k]:=by simp[cnt]
     rw[YY];simp only[Int.toNat_natCast];rw[yB]at hsk
     have hl:(qp d (layF d) at' (at'+1) ks).length=cnt (d+1) ks:=by
      have:∀ (ts:List Tr) (a:Nat),Deep (d+1) ts→(qp d (layF d) at' a ts).length=cnt (d+1) ts:=by
       intro ts
       induction ts with
       | nil=>intro _ _;rfl
       | cons u ts ih2 =>
         intro a hd2;rw[qp,List.length_append,layF_length d u _ _ (hd2 u List.mem_cons_self),ih2 _ (fun x hx=>hd2 x (List.mem_cons_of_mem _ hx)),qG d u ts]
      exact this _ _ (fun u hu=>hdk u (List.mem_append_left _ hu))
     have h2:=hsk.right;rw[hl]at h2
     have h3:qp d (layF d) at' (at'+1+cnt (d+1) ks) [k]=layF d k at' (at'+1+cnt (d+1) ks):=by simp[qp]
     rw[h3]at h2
     have:=ih k f' ns at' (at'+1+cnt (d+1) ks) (hdk k (by simp)) h2 (by omega)
     omega
theorem QS (L:List Nd):Seg L 0 L:=by intro i x hx;rw[Nat.zero_add];exact hx
theorem Seg.nil (ns:List Nd)(a:Nat):Seg ns a []:=by intro i x hx;simp at hx
theorem Seg.append {ns L M:List Nd}{a:Nat}(h:Seg ns a L)(k:Seg ns (a+L.length) M):Seg ns a (L++M):=by
 intro i x hx
 rcases Nat.lt_or_ge i L.length with h'|h'
 · rw[List.getElem?_append_left h']at hx;exact h i x hx
 · rw[List.getElem?_append_right h']at hx
   have:=k (i-L.length) x hx;rw[show a+L.length+(i-L.length)=a+i by omega]at this
   exact this
theorem Seg.cons {ns L:List Nd}{x:Nd}{a:Nat}(h:ns[a]?=some x)(k:Seg ns (a+1) L):Seg ns a (x::L):=by
 intro i y hy;cases i with
 | zero=>simp at hy;subst hy;exact h
 | succ i =>
   have:=k i y (by simpa using hy)
   rw[show a+(i+1)=a+1+i by omega];exact this
theorem ord_conv:∀ (f:Nat)(ns:List Nd)(par:Int)(nx:Nat),(ordF f ns par nx).1=true→∃ t:Tr,Deep f t.kids∧Seg ns nx (layF f t par nx)∧(ordF f ns par nx).2=nx+cnt (f+1) [t]:=by
 intro f
 induction f with
 | zero=>intro ns par nx h;simp[ordF]at h
 | succ f ih =>
   intro ns par nx h;rw[ordF]at h ⊢
   cases hx:ns[nx]? with
   | none=>simp[hx]at h
   | some x =>
     simp only[hx]at h ⊢
     by_cases hp:x.parent=par
     · rw[if_pos hp]at h ⊢
       have key:∀ (ks:List Int) (a:Nat),(qB (ordF f ns nx) ks a).1=true→∃ ts:List Tr,(∀ k∈ts,Deep f k.kids)∧ks=qi f a ts∧Seg ns a (qp f (layF f) nx a ts)∧(qB (ordF f ns nx) ks a).2=a+cnt (f+1) ts:=by
        intro ks
        induction ks with
        | nil=>intro a _;exact ⟨[],by simp,rfl,Seg.nil _ _,by simp[qB,qx]⟩
        | cons k ks ihk =>
          intro a hk;rw[qB]at hk ⊢
          by_cases hc:k=(a:Int)∧(ordF f ns nx a).1=true
          · rw[if_pos hc]at hk ⊢
            obtain ⟨t,ht1,ht2,ht3⟩:=ih ns nx a hc.2;rw[ht3]at hk ⊢
            obtain ⟨ts,hd,he,hs,hn⟩:=ihk _ hk;refine ⟨t::ts,?_,?_,?_,?_⟩
            · intro u hu;rw[List.mem_cons]at hu
              rcases hu with rfl|hu
              · exact ht1
              · exact hd u hu
            · rw[qi,←he,hc.1]
            · rw[qp];refine Seg.append ht2 ?_;rw[layF_length f t nx a ht1];exact hs
            · rw[hn,qG f t ts];omega
          · rw[if_neg hc]at hk;cases hk
       obtain ⟨ts,hd,he,hs,hn⟩:=key x.kids (nx+1) h;refine ⟨⟨x.text,x.s,x.attrs,ts⟩,hd,?_,?_⟩
       · rw[layF];refine Seg.cons ?_ hs;rw[hx];obtain ⟨xt,xs,xa,xp,xk⟩:=x;simp only at hp he
         rw[hp,he]
       · rw[hn,qt];show nx+1+cnt (f+1) ts=nx+(1+cnt (f+1) ts);omega
     · rw[if_neg hp]at h;cases h
def Sub (ns:List Nd)(j c:Nat)(par:Int):Prop:=∃ (d:Nat)(t:Tr),Deep d t.kids∧Seg ns j (layF d t par j)∧c=cnt (d+1) [t]
theorem Km {ns:List Nd}(hg:qu ns=true){j:Nat}(hj:j<ns.length):j6 ns (j:Int)=(lastF ns.length ns j:Int)+1:=by
 unfold j6 ZE;have h1:(0:Int)≤j:=by omega
 have h2:(j:Int)<ns.length:=by omega
 simp[hg,h1,h2]
theorem Seg.in {ns L:List Nd}{a:Nat}(h:Seg ns a L)(hne:0<L.length):a+L.length≤ns.length:=by
 have h1:L[L.length-1]?=some (L[L.length-1]'(by omega)):=List.getElem?_eq_getElem (by omega)
 have h2:=h _ _ h1
 rcases Nat.lt_or_ge (a+(L.length-1)) ns.length with h'|h'
 · omega
 · rw[List.getElem?_eq_none h']at h2;cases h2
theorem Xg {ns:List Nd}(hg:qu ns=true){j c:Nat}{par:Int}(h:Sub ns j c par)(hj:j<ns.length) :
 (∃ d,Deep d (growF ns.length ns j).kids∧c=cnt (d+1) [growF ns.length ns j])∧j6 ns (j:Int)=(j:Int)+(c:Nat)∧j+c≤ns.length∧∃ x,ns[j]?=some x∧x.parent=par:=by
 obtain ⟨d,t,hd,hs,hc⟩:=h;have hlen:=layF_length d t par j hd;have hin:=hs.in (by rw[hlen,qt];omega)
 rw[hlen]at hin
 have hgr:=grow_lay d t ns.length ns par j hd hs (by omega)
 have hla:=last_lay d t ns.length ns par j hd hs (by omega)
 refine ⟨⟨d,by rw[hgr];exact hd,by rw[hgr];exact hc⟩,?_,by omega,?_⟩
 · rw[Km hg hj];omega
 · rw[yh hd]at hs
   exact ⟨_,hs 0 _ rfl,rfl⟩
theorem ZW (d:Nat)(t:Tr):rgt (d+1) [t]=(qD t&&(t.text||rgt d t.kids)):=by
 simp[rgt,rgL]
theorem jX {f:List Tr→Bool}:∀ (l:List Tr)(p:Bool),rgL f p l=true→∀ k∈l,qD k=true∧(k.text||f k.kids)=true:=by
 intro l
 induction l with
 | nil=>intro _ _ k hk;simp at hk
 | cons t r ih =>
   intro p h k hk;simp only[rgL,Bool.and_eq_true]at h
   rw[List.mem_cons]at hk
   rcases hk with rfl|hk
   · exact ⟨h.1.1.1,h.1.2⟩
   · exact ih _ h.2 k hk
theorem xS {t:Tr}(h:qD t=true)(ht:t.text=true):t.kids=[]:=by
 simp only[qD,ht,if_true,Bool.and_eq_true,decide_eq_true_eq]at h
 exact List.length_eq_zero_iff.1 h.2
theorem VE {d:Nat}{t k:Tr}(h:rgt (d+2) [t]=true)(hk:k∈t.kids):rgt (d+1) [k]=true:=by
 rw[ZW]at h ⊢
 simp only[Bool.and_eq_true]at h
 cases ht:t.text with
 | true=>rw[xS h.1 ht]at hk;simp at hk
 | false =>
   have h2:=h.2;rw[ht,Bool.false_or]at h2
   have:=jX t.kids false h2 k hk;simp only[Bool.and_eq_true];exact this
theorem YL (ns:List Nd):∀ (d:Nat)(t:Tr)(par:Int)(a:Nat),Deep d t.kids→Seg ns a (layF d t par a)→rgt (d+1) [t]=true→∀ j,a≤j→j<a+cnt (d+1) [t] →
 ∃ d' t' par',Deep d' t'.kids∧Seg ns j (layF d' t' par' j)∧rgt (d'+1) [t']=true∧(j=a∧par'=par∨∃ q y,ns[q]?=some y∧par'=((q:Nat):Int)∧q<j∧(j:Int)∈y.kids∧a≤q):=by
 intro d
 induction d with
 | zero =>
   intro t par a hd hs hr j h1 h2;have e:t.kids=[]:=hd;have hc:cnt 1 [t]=1:=by rw[qt,e];rfl
   rw[hc]at h2
   obtain rfl:j=a:=by omega
   exact ⟨0,t,par,hd,hs,hr,Or.inl ⟨rfl,rfl⟩⟩
 | succ d ih =>
   intro t par a hd hs hr j h1 h2
   by_cases hj:j=a
   · subst hj;exact ⟨d+1,t,par,hd,hs,hr,Or.inl ⟨rfl,rfl⟩⟩
   · have h0 : ns[a]? = some ⟨t.text, t.s, t.attrs, par, qi d (a + 1) t.kids⟩ := hs 0 _ rfl;have hsk:Seg ns (a+1) (qp d (layF d) a (a+1) t.kids):=Seg.tail hs
     have key:∀ (ks:List Tr) (b:Nat),(∀ k∈ks,Deep d k.kids)→(∀ k∈ks,rgt (d+1) [k]=true)→Seg ns b (qp d (layF d) a b ks)→a≤b→b≤j→j<b+cnt (d+1) ks →
      ∃ d' t' par',Deep d' t'.kids∧Seg ns j (layF d' t' par' j)∧rgt (d'+1) [t']=true∧((par'=(a:Int)∧(j:Int)∈qi d b ks)∨∃ q y,ns[q]?=some y∧par'=((q:Nat):Int)∧q<j∧(j:Int)∈y.kids∧a≤q):=by
      intro ks
      induction ks with
      | nil=>intro b _ _ _ _ hb1 hb2;rw[qx]at hb2;omega
      | cons k ks ihk =>
        intro b hdk hrk hsb hab hb1 hb2;rw[qp]at hsb
        have hl:=hsb.left;have hr2:=hsb.right;have hdk0:=hdk k List.mem_cons_self;rw[layF_length d k a b hdk0]at hr2
        rw[qG]at hb2
        by_cases hjk:j<b+cnt (d+1) [k]
        · obtain ⟨d', t', par', g1, g2, g3, hor⟩ := ih k a b hdk0 hl (hrk k List.mem_cons_self) j hb1 hjk;refine ⟨d',t',par',g1,g2,g3,?_⟩
          rcases hor with ⟨hp1,hp2⟩|hor
          · exact Or.inl ⟨hp2,by rw[qi,hp1];exact List.mem_cons_self⟩
          · obtain ⟨q, y, k1, k2, k3, k4, k5⟩ := hor;exact Or.inr ⟨q,y,k1,k2,k3,k4,by omega⟩
        · obtain ⟨d', t', par', g1, g2, g3, hor⟩ := ihk (b + cnt (d + 1) [k]) (fun u hu => hdk u (List.mem_cons_of_mem _ hu)) (fun u hu => hrk u (List.mem_cons_of_mem _ hu)) hr2 (by omega) (by omega) (by omega)
          refine ⟨d',t',par',g1,g2,g3,?_⟩
          rcases hor with ⟨hp1,hp2⟩|hor
          · exact Or.inl ⟨hp1,by rw[qi];exact List.mem_cons_of_mem _ hp2⟩
          · exact Or.inr hor
     have hc1:cnt (d+1+1) [t]=1+cnt (d+1) t.kids:=qt (d+1) t;obtain ⟨d',t',par',g1,g2,g3,hor⟩:=key t.kids (a+1) hd (fun k hk=>VE hr hk) hsk (by omega) (by omega) (by omega)
     refine ⟨d',t',par',g1,g2,g3,Or.inr ?_⟩
     rcases hor with ⟨hp1,hp2⟩|hor
     · exact ⟨a,_,h0,hp1,by omega,hp2,nR9 _⟩
     · exact hor
theorem x9 {ns:List Nd}(hg:qu ns=true):∃ (d:Nat)(t:Tr),Deep d t.kids∧Seg ns 0 (layF d t (-1) 0)∧cnt (d+1) [t]=ns.length∧rgt (d+1) [t]=true∧t.text=false∧qR t=true∧growF ns.length ns 0=t:=by
 have hg2:=hg;simp only[qu,Bool.and_eq_true,decide_eq_true_eq]at hg2
 have ho:=yu hg2.1.2;obtain ⟨t,hd,hs,hn⟩:=ord_conv (ns.length+1) ns (-1) 0 (by rw[ho])
 rw[ho]at hn
 simp only[Nat.zero_add]at hn
 have hgr:=grow_lay _ t ns.length ns (-1) 0 hd hs (by omega)
 have hG:=hg2.2;rw[hgr]at hG
 have hG2:=hG;rw[jh hd]at hG
 simp only[Bool.and_eq_true,Bool.not_eq_true']at hG
 exact ⟨_,t,hd,hs,hn.symm,hG.2,hG.1.1.1,hG2,hgr⟩
structure Fam (ns:List Nd) (j:Nat) (x:Nd):Prop where
 kids:∀ u∈x.kids,∃ (k:Nat) (y:Nd),u=(k:Int)∧j<k∧k<ns.length∧j6 ns (k:Int)≤j6 ns (j:Int)∧ns[k]?=some y∧y.parent=(j:Int)
 row:x.kids.Pairwise (fun u v=>j6 ns u≤v)
 par:(j=0∧x.parent=-1)∨∃ (q:Nat) (y:Nd),ns[q]?=some y∧x.parent=(q:Int)∧q<j∧(j:Int)∈y.kids
 text:x.text=true→x.kids=[]
 name:x.text=false→zo x.s=true
 gt:(j:Int)<j6 ns (j:Int)
theorem qg {α:Type}{l:List α}{j:Nat}{x:α}(hx:l[j]?=some x):j<l.length:=by
 rcases Nat.lt_or_ge j l.length with h'|h'
 · exact h'
 · rw[List.getElem?_eq_none h']at hx;cases hx
theorem Vt {ns:List Nd}(hg:qu ns=true){d j:Nat}{t:Tr}{par:Int}(hd:Deep d t.kids)(hs:Seg ns j (layF d t par j)){x:Nd}(hx:ns[j]?=some x) :
 (∀ u∈x.kids,∃ (k:Nat) (y:Nd),u=(k:Int)∧j<k∧k<ns.length∧j6 ns (k:Int)≤j6 ns (j:Int)∧ns[k]?=some y∧y.parent=(j:Int))∧x.kids.Pairwise (fun u v=>j6 ns u≤v)∧(j:Int)<j6 ns (j:Int):=by
 have hj:=qg hx;obtain ⟨_,he,hl,_⟩:=Xg hg ⟨d,t,hd,hs,rfl⟩ hj;have hh:=yh hd par j
 have hx2:x=⟨t.text,t.s,t.attrs,par,qi (d-1) (j+1) t.kids⟩:=by
  have:=hs 0 _ (by rw[hh];rfl)
  rw[Nat.add_zero,hx]at this
  exact Option.some.inj this
 have hgt:(j:Int)<j6 ns (j:Int):=by rw[he,qt];omega
 cases d with
 | zero =>
   have e:t.kids=[]:=hd;have ek:x.kids=[]:=by rw[hx2,e];rfl
   rw[ek];exact ⟨by simp,List.Pairwise.nil,hgt⟩
 | succ e =>
   have hsk:Seg ns (j+1) (qp e (layF e) j (j+1) t.kids):=Seg.tail hs
   have key:∀ (ks:List Tr) (b:Nat),(∀ k∈ks,Deep e k.kids)→Seg ns b (qp e (layF e) j b ks)→b+cnt (e+1) ks≤ns.length →
    (qi e b ks).Pairwise (fun u v=>j6 ns u≤v)∧∀ u∈qi e b ks,∃ (k:Nat) (y:Nd),u=(k:Int)∧b≤k∧k<ns.length∧j6 ns (k:Int)≤((b+cnt (e+1) ks:Nat):Int)∧ns[k]?=some y∧y.parent=(j:Int):=by
    intro ks
    induction ks with
    | nil=>intro b _ _ _;exact ⟨List.Pairwise.nil,by simp[qi]⟩
    | cons k ks ihk =>
      intro b hdk hsb hle;rw[qp]at hsb
      have hl1:=hsb.left;have hr2:=hsb.right;have hdk0:=hdk k List.mem_cons_self;rw[layF_length e k j b hdk0]at hr2
      rw[qG]at hle ⊢
      have hc1:=qt e k;obtain ⟨_,heb,_,y,hy,hyp⟩:=Xg hg ⟨e,k,hdk0,hl1,rfl⟩ (by omega)
      obtain ⟨hP,hM⟩:=ihk (b+cnt (e+1) [k]) (fun u hu=>hdk u (List.mem_cons_of_mem _ hu)) hr2 (by omega)
      rw[qi];refine ⟨List.Pairwise.cons (fun v hv=>?_) hP,fun u hu=>?_⟩
      · obtain ⟨k2, _, rfl, hk2, _⟩ := hM v hv;rw[heb];omega
      · rw[List.mem_cons]at hu
        rcases hu with rfl|hu
        · exact ⟨b,y,rfl,nR9 _,by omega,by rw[heb];omega,hy,hyp⟩
        · obtain ⟨k2, y2, g1, g2, g3, g4, g5⟩ := hM u hu;exact ⟨k2,y2,g1,by omega,g3,by omega,g5⟩
   have hc:=qt (e+1) t;obtain ⟨hP,hM⟩:=key t.kids (j+1) hd hsk (by omega)
   have ek:x.kids=qi e (j+1) t.kids:=by rw[hx2];rfl
   rw[ek];refine ⟨fun u hu=>?_,hP,hgt⟩
   obtain ⟨k2,y2,g1,g2,g3,g4,g5⟩:=hM u hu;exact ⟨k2,y2,g1,by omega,g3,by rw[he];omega,g5⟩
theorem qV {ns:List Nd}(hg:qu ns=true){j:Nat}{x:Nd}(hx:ns[j]?=some x):Fam ns j x:=by
 have hj:=qg hx;obtain ⟨d,t,hd,hs,hn,hr,_,_,_⟩:=x9 hg;obtain ⟨d',t',par',g1,g2,g3,hor⟩:=YL ns d t (-1) 0 hd hs hr j (nZ9 _) (by omega)
 obtain ⟨k1,k2,k3⟩:=Vt hg g1 g2 hx
 have hx2:x=⟨t'.text,t'.s,t'.attrs,par',qi (d'-1) (j+1) t'.kids⟩:=by
  have:=g2 0 _ (by rw[yh g1 par' j];rfl)
  rw[Nat.add_zero,hx]at this
  exact Option.some.inj this
 rw[ZW]at g3
 simp only[Bool.and_eq_true]at g3
 refine ⟨k1,k2,?_,?_,?_,k3⟩
 · rcases hor with ⟨h1, h2⟩ | ⟨q, y, h1, h2, h3, h4, _⟩
   · exact Or.inl ⟨h1,by rw[hx2];exact h2⟩
   · exact Or.inr ⟨q,y,h1,by rw[hx2];exact h2,h3,h4⟩
 · intro ht;have ht':t'.text=true:=by rw[hx2]at ht;exact ht
   rw[hx2,xS g3.1 ht'];rfl
 · intro ht;have ht':t'.text=false:=by rw[hx2]at ht;exact ht
   have h1:=g3.1;simp[qD,ht']at h1
   rw[hx2];exact h1.1
end Go.Proofs.YtnppmdpmippcoaaGreatDoor
namespace Go.Proofs.YtnppmdpmippcoaaGreatDoor
open Go.ChangeShapes Go.WideShapes Go.ChangeAt Go.RowKit
set_option maxRecDepth 100000
section
attribute [local go_sem] qk
end
section
attribute [local go_sem] qk
theorem intInfo:(Tryz.prog.info? 3).map (fun i=>(i.zero,i.size,i.bytes))=some (some (.int .i64 0),1,8):=by kernel_rfl
theorem jQ {ops:Array Oper}{o:Oper}{a:Act}{w:World}{K:Act→World→Prop}{Q:Exit→Act→World→Prop}{E:Prop}
 (hg:o.guard=none) (s x:Operand) (hop:o.op=Op.call { callee:=Callee.builtin Builtin.append,args:=#[s,x],argTypes:=#[41,41] })
 (B:Nat) (v:Value) (n:Nat) (xs:List Value) (hs:a.eval s=v) (hown:w.ownsRow B 3 1 v n xs) (ad:Addr) (k:Int) (hx:a.eval x=.slice (some ad) 1 1)
 (hnews:∀ j u,[Value.int .i64 k][j]?=some u→w.cell? (ad.add j)=some u) (hn:n≤1048576) (hB:B≤w.heap.size)
 (hK:∀ v' w',w'.ownsRow B 3 1 v' (n+1) (xs++[.int .i64 k])→w.grownBy w' v.ownBlock→(v'.ownBlock=v.ownBlock∨v'.ownBlock=some w.heap.size)→K (a.put o.dst v') w') :
 if Region.wanted o (yielded ops a.tmps)=true then Oper.wp Tryz.prog o a w K Q else E:=by
 have hw:Region.wanted o (yielded ops a.tmps)=true:=by simp[Region.wanted,hg]
 rw[if_pos hw];obtain ⟨i0,hi,hz0,hz1,hz2⟩:=info_parts intInfo;obtain ⟨v',w',hr,h2,h3,_,h5⟩:=run_append_own_at (P:=Tryz.prog) w B 41 o.type 3 i0 _ 1 8 Tryz.underlying41 hi hz0 hz1 hz2 rfl (by decide) v n xs hown ad 1 1 [.int .i64 k] rfl hnews (by intro u hu;simp at hu;subst hu;rfl) (by unfold maxLen;omega) (by omega) hB
 unfold Oper.wp;simp[execOp,hop,resolve,invoke,builtin,hs,hx,hr,Result.andThen];exact hK v' w' h2 h3 h5
def JY (d:Nat):Prop:=∀ (S:Nat→Prop)(va vk:Value)(t:Tr)(par:Int)(nb cb nx:Nat)(ms:List Rw)(w:World),qj S w va t.attrs→qd S w d vk t.kids→(∀ b,S b→b<w.heap.size∧b≠nb∧b≠cb)→nb≠cb→Row nb ms w→Cnt cb nx w →
 nx+cnt (d+1) [t]≤ms.length→ms.length≤80→FewN (d+1) [t] →
 Calls Tryz.prog 72 #[.slice (some ⟨nb,0,none⟩) ms.length ms.length,.agg #[.bool t.text,.string t.s,va,vk],.int .i64 par,.pointer (some ⟨cb,0,none⟩)] w fun e w'=>e=.returned (.tuple #[]) ∧
  ∃ ms',Row nb ms' w'∧ms'.length=ms.length∧Cnt cb (nx+cnt (d+1) [t]) w'∧(∀ i,i<nx∨nx+cnt (d+1) [t]≤i→ms'[i]?=ms[i]?)∧Laid (fun b=>w.heap.size≤b) w' ms' nx (layF d t par nx)∧LFr nb cb w w'
structure LS (w:World) (nb cb nx d:Nat) (t:Tr) (par:Int) (ms:List Rw) (bx:Array Value) (M:Nat) (va:Value) (i j:Nat) (v:Value) (mi:List Rw) (W:World):Prop where
 row:Row nb mi W
 len:mi.length=ms.length
 num:Cnt cb (nx+1+cnt d (t.kids.take j)) W
 old:∀ l,l<nx∨nx+cnt (d+1) [t]≤l→mi[l]?=ms[l]?
 me:mi[nx]?=some ⟨t.text,t.s,va,par,v⟩
 own:W.ownsRow M 3 1 v i ((qi (d-1) (nx+1) (t.kids.take i)).map fun k=>Value.int .i64 k)
 att:qj (fun b=>w.heap.size≤b∧b<M) W va t.attrs
 laid:Laid (fun b=>w.heap.size≤b∧v.ownBlock≠some b) W mi (nx+1) (qp (d-1) (layF (d-1)) nx (nx+1) (t.kids.take j))
 box:W.heap[w.heap.size]?=some (.cells bx 56 (0,0))
 fr:LFr nb cb w W
 le:M≤W.heap.size
 lo:w.heap.size<M
theorem xD {d:Nat}{ts:List Tr}{i:Nat}{k:Tr}(hk:ts[i]?=some k):cnt (d+1) (ts.take (i+1))=cnt (d+1) (ts.take i)+cnt (d+1) [k]∧cnt (d+1) (ts.take i)+cnt (d+1) [k]≤cnt (d+1) ts:=by
  have hi:i<ts.length:=by
    rcases Nat.lt_or_ge i ts.length with h'|h'
    · exact h'
    · rw[List.getElem?_eq_none h']at hk;cases hk
  have e1:ts.take (i+1)=ts.take i++[k]:=by
    rw[List.take_succ_eq_append_getElem hi];congr 2;simpa[hi] using hk
  have e2:ts=ts.take (i+1)++ts.drop (i+1):=(List.take_append_drop _ _).symm;have happ:∀ a b:List Tr,cnt (d+1) (a++b)=cnt (d+1) a+cnt (d+1) b:=by intro a b;simp[cnt]
  refine ⟨by rw[e1,happ],?_⟩
  have h3 : cnt (d + 1) ts = cnt (d + 1) (ts.take (i + 1)) + cnt (d + 1) (ts.drop (i + 1)) := by conv => lhs;rw[e2]
                                                                                                 exact happ _ _
  rw[h3,e1,happ];omega
theorem j3 {ts:List Tr}{i:Nat}{k:Tr}(hk:ts[i]?=some k):ts.take (i+1)=ts.take i++[k]:=by
 have hi:i<ts.length:=by
  rcases Nat.lt_or_ge i ts.length with h'|h'
  · exact h'
  · rw[List.getElem?_eq_none h']at hk;cases hk
 rw[List.take_succ_eq_append_getElem hi];congr 2;simpa[hi] using hk
theorem XB {w:World}{nb cb nx d:Nat}{t:Tr}{par:Int}{ms:List Rw}{bx:Array Value}{M:Nat}{va:Value}{i:Nat}{v v':Value}{mi:List Rw}{wr w6:World}{k:Tr}{X Y:Obj}
 (hL:LS w nb cb nx (d+1) t par ms bx M va i i v mi wr) (hk:t.kids[i]?=some k) (hnl:nb<w.heap.size) (hcl:cb<w.heap.size) (hnc:nb≠cb)
 (hown:w6.ownsRow M 3 1 v' (i+1) ((qi d (nx+1) (t.kids.take i)).map (fun k=>Value.int .i64 k)++[.int .i64 ((nx+1+cnt (d+1) (t.kids.take i):Nat):Int)]))
 (hgr:((wr.alloc Y).alloc X).drew.grownBy w6 v.ownBlock) (hat:v'.ownBlock=v.ownBlock∨v'.ownBlock=some ((wr.alloc Y).alloc X).drew.heap.size) :
 LS w nb cb nx (d+1) t par ms bx M va (i+1) i v' (mi.set nx ⟨t.text,t.s,va,par,v'⟩) (w6.setCell ⟨nb,nx*5+4,none⟩ v')∧(∀ b,b<wr.heap.size→b<M→b≠nb→(w6.setCell ⟨nb,nx*5+4,none⟩ v').heap[b]?=wr.heap[b]?)∧(w6.setCell ⟨nb,nx*5+4,none⟩ v').heap[wr.heap.size]?=some Y∧wr.heap.size<(w6.setCell ⟨nb,nx*5+4,none⟩ v').heap.size:=by
 have hlo:=hL.lo;have hle:=hL.le;have hs6:=hgr.size
 have hsx:((wr.alloc Y).alloc X).drew.heap.size=wr.heap.size+1+1:=by
  show ((wr.alloc Y).alloc X).heap.size=_
  rw[World.size_alloc,World.size_alloc]
 rw[hsx]at hs6
 have hrow:∀ b,v.ownBlock=some b→M≤b∧b<wr.heap.size:=fun b hb=>hL.own.lt b hb
 have hkeep6:∀ b,b<wr.heap.size→v.ownBlock≠some b→w6.heap[b]?=wr.heap[b]?:=by
  intro b h1 h2;rw[hgr.block b (by rw[hsx];omega) (fun e=>h2 e.symm)]
  show ((wr.alloc Y).alloc X).heap[b]?=_
  rw[Lib.alloc_old _ _ _ (by rw[World.size_alloc];omega)]
  exact Lib.alloc_old _ _ _ h1
 have hkeep:∀ b,b<wr.heap.size→b≠nb→v.ownBlock≠some b→(w6.setCell ⟨nb,nx*5+4,none⟩ v').heap[b]?=wr.heap[b]?:=fun b h1 h2 h3=>by rw[qb h2,hkeep6 b h1 h3]
 have hsz:(w6.setCell ⟨nb,nx*5+4,none⟩ v').heap.size=w6.heap.size:=by simp
 have hnv:v.ownBlock≠some nb:=fun e=>by have:=(hrow nb e).1;omega
 have hcv:v.ownBlock≠some cb:=fun e=>by have:=(hrow cb e).1;omega
 have hfr:=hL.fr.below.size;have hr6:Row nb mi w6:=(hkeep6 nb (by omega) hnv).trans hL.row
 have hnx:nx<mi.length:=by
  rcases Nat.lt_or_ge nx mi.length with h'|h'
  · exact h'
  · have:=hL.me;rw[List.getElem?_eq_none h']at this;cases this
 have hvb:v.ownBlock≠some wr.heap.size:=fun e=>by have:=(hrow _ e).2;omega
 have hB6:Below 0 w w6:=((hL.fr.below.alloc (nZ9 _) Y).alloc (nZ9 _) X).drew.grown hgr (nZ9 _) (fun _ _=>nZ9 _)
 refine ⟨⟨hr6.putK hL.me v',by simp[hL.len],?_,?_,?_,?_,?_,?_,?_,⟨hB6.setCell (p:=⟨nb,nx*5+4,none⟩) (nZ9 _) _,?_⟩,by rw[hsz];omega,hlo⟩,?_,?_,by rw[hsz];omega⟩
 · unfold Cnt;rw[hkeep cb (by omega) (fun e=>hnc e.symm) hcv]
   exact hL.num
 · intro l hl;rw[List.getElem?_set_ne (by have:=qt (d+1) t;omega)]
   exact hL.old l hl
 · rw[List.getElem?_set_self hnx]
 · have e:(qi (d+1-1) (nx+1) (t.kids.take (i+1))).map (fun k=>Value.int .i64 k)=(qi d (nx+1) (t.kids.take i)).map (fun k=>Value.int .i64 k)++[.int .i64 ((nx+1+cnt (d+1) (t.kids.take i):Nat):Int)]:=by
    rw[j3 hk]
    show (qi d (nx+1) (t.kids.take i++[k])).map _=_
    rw[yd,List.map_append];rfl
   rw[e];refine qo hown fun b hb=>qb ?_
   have:=(hown.lt b hb).1;omega
 · refine hL.att.bounded.carry fun b hb=>⟨hb.1,hkeep b hb.2 (by have:=hb.1.1;omega) (fun e=>by have:=(hrow b e).1;have:=hb.1.2;omega)⟩
 · refine hL.laid.carry (fun b hb hlt => ⟨⟨hb.1, fun e => ?_⟩, hkeep b hlt (by have := hb.1;omega) hb.2⟩) (fun l h1 _ => by rw[List.getElem?_set_ne (by omega)])
   rcases hat with h1|h1
   · exact hb.2 (h1.symm.trans e)
   · rw[h1,hsx]at e;injection e with e;omega
 · rw[hkeep _ (by omega) (by omega) (fun e=>by have:=(hrow _ e).1;omega)];exact hL.box
 · intro b h1 h2 h3;rw[hkeep b (by omega) h2 (fun e=>by have:=(hrow b e).1;omega)]
   exact hL.fr.frame b h1 h2 h3
 · intro b h1 h2 h3;exact hkeep b h1 h3 (fun e=>by have:=(hrow b e).1;omega)
 · rw[qb (by omega), hgr.block _ (by rw[hsx];omega) (fun e => hvb e.symm)]
   show ((wr.alloc Y).alloc X).heap[wr.heap.size]?=_
   rw[Lib.alloc_old _ _ _ (by rw[World.size_alloc];omega)]
   exact heap_alloc_new _ _
theorem XC {w:World}{nb cb nx d:Nat}{t:Tr}{par:Int}{ms:List Rw}{bx:Array Value}{M:Nat}{va:Value}{i:Nat}{v:Value}{mi mj:List Rw}{w7 w8:World}{k:Tr}
 (hL:LS w nb cb nx (d+1) t par ms bx M va (i+1) i v mi w7) (hk:t.kids[i]?=some k) (hdk:Deep d k.kids) (hdt:Deep (d+1) t.kids) (hnl:nb<w.heap.size) (hcl:cb<w.heap.size) (hR:Row nb mj w8) (hlen:mj.length=mi.length)
 (hC:Cnt cb (nx+1+cnt (d+1) (t.kids.take i)+cnt (d+1) [k]) w8) (hold:∀ l,l<nx+1+cnt (d+1) (t.kids.take i)∨nx+1+cnt (d+1) (t.kids.take i)+cnt (d+1) [k]≤l→mj[l]?=mi[l]?)
 (hLd:Laid (fun b=>w7.heap.size≤b) w8 mj (nx+1+cnt (d+1) (t.kids.take i)) (layF d k nx (nx+1+cnt (d+1) (t.kids.take i)))) (hF:LFr nb cb w7 w8) :
 LS w nb cb nx (d+1) t par ms bx M va (i+1) (i+1) v mj w8:=by
 have hs:=hF.below.size;have hfr:=hL.fr.below.size;have hlo:=hL.lo;obtain ⟨hcu,hcl2⟩:=xD (d:=d) hk;have hct:=qt (d+1) t;have hrow:∀ b,v.ownBlock=some b→M≤b∧b<w7.heap.size:=fun b hb=>hL.own.lt b hb
 have hkeep:∀ b,b<w7.heap.size→w.heap.size≤b→w8.heap[b]?=w7.heap[b]?:=fun b h1 h2=>hF.frame b h1 (by omega) (by omega)
 have hll:(qp d (layF d) nx (nx+1) (t.kids.take i)).length=cnt (d+1) (t.kids.take i):=by
  have:∀ (ts:List Tr) (a:Nat),Deep (d+1) ts→(qp d (layF d) nx a ts).length=cnt (d+1) ts:=by
   intro ts
   induction ts with
   | nil=>intro _ _;rfl
   | cons u ts ih2 =>
     intro a hd;rw[qp,List.length_append,layF_length d u _ _ (hd u List.mem_cons_self),ih2 _ (fun x hx=>hd x (List.mem_cons_of_mem _ hx)),qG d u ts]
  exact this _ _ (fun u hu=>hdt u (List.mem_of_mem_take hu))
 have hlk:=layF_length d k (nx:Int) (nx+1+cnt (d+1) (t.kids.take i)) hdk;refine ⟨hR,hlen.trans hL.len,?_,?_,?_,?_,?_,?_,?_,?_,by have:=hL.le;omega,hlo⟩
 · rw[hcu,←Nat.add_assoc];exact hC
 · intro l hl;rw[hold l (by omega)]
   exact hL.old l hl
 · rw[hold nx (by omega)];exact hL.me
 · exact qo hL.own fun b hb=>hkeep b (hrow b hb).2 (by have:=(hrow b hb).1;omega)
 · exact hL.att.bounded.carry fun b hb=>⟨hb.1,hkeep b hb.2 hb.1.1⟩
 · rw[j3 hk]
   show Laid _ _ _ _ (qp d (layF d) nx (nx+1) (t.kids.take i++[k]))
   rw[yB];have hone:qp d (layF d) nx (nx+1+cnt (d+1) (t.kids.take i)) [k]=layF d k nx (nx+1+cnt (d+1) (t.kids.take i)):=by simp[qp]
   rw[hone];refine Laid.append (hL.laid.carry (fun b hb hlt=>⟨hb,hkeep b hlt hb.1⟩) (fun l h1 h2=>?_)) ?_
   · rw[hold l (Or.inl ?_)];have h3:(qp (d+1-1) (layF (d+1-1)) nx (nx+1) (t.kids.take i)).length=cnt (d+1) (t.kids.take i):=hll;omega
   · rw[hll];exact hLd.carry (fun b hb _=>⟨⟨by omega,fun e=>by have:=(hrow b e).2;omega⟩,rfl⟩) (fun _ _ _=>rfl)
 · rw[hkeep _ (qh hL.box) (nR9 _)];exact hL.box
 · exact hL.fr.trans hF
theorem zk.of_owns {w:World}{B:Nat}{v:Value}{l:List Int}{S:Nat→Prop}(hS:∀ b,B≤b→S b)(h:w.ownsRow B 3 1 v l.length (l.map fun k=>Value.int .i64 k)):zk S w v l:=by
 rcases h.2 with ⟨hv,h0⟩|⟨g,cap,cur,hv,hg,hh,hc,hm,hs,ht⟩
 · have : l = [] := List.eq_nil_of_length_eq_zero h0;subst this hv;exact zk.nil
 · subst hv;refine ⟨_,cap,rfl,hc,hm,fun _=>⟨g,0,rfl,hS g hg,fun i x hx=>?_⟩⟩
   have hi:i<l.length:=by
    rcases Nat.lt_or_ge i l.length with h'|h'
    · exact h'
    · rw[List.getElem?_eq_none h']at hx;cases hx
   rw[Nat.zero_add,World.ownsRow.cellAt h i (by omega)]
   simp[hx]
theorem Vr {d:Nat}{t:Tr}(h:Deep d t.kids)(par:Int)(nx:Nat):layF d t par nx=⟨t.text,t.s,t.attrs,par,qi (d-1) (nx+1) t.kids⟩::qp (d-1) (layF (d-1)) nx (nx+1) t.kids:=by
 cases d with
 | zero =>
   have e:t.kids=[]:=h;rw[e];rfl
 | succ d=>rfl
theorem Ku {w:World}{nb cb nx d:Nat}{t:Tr}{par:Int}{ms:List Rw}{bx:Array Value}{M:Nat}{va:Value}{v:Value}{mi:List Rw}{W:World}(hd:Deep d t.kids)(h:LS w nb cb nx d t par ms bx M va t.kids.length t.kids.length v mi W) :
 Row nb mi W∧mi.length=ms.length∧Cnt cb (nx+cnt (d+1) [t]) W∧(∀ i,i<nx∨nx+cnt (d+1) [t]≤i→mi[i]?=ms[i]?)∧Laid (fun b=>w.heap.size≤b) W mi nx (layF d t par nx)∧LFr nb cb w W:=by
 have hn:=h.num;rw[List.take_length]at hn
 have hlo:=h.lo;refine ⟨h.row,h.len,?_,h.old,?_,h.fr⟩
 · rw[qt,←Nat.add_assoc];exact hn
 · rw[Vr hd];have hl:=h.laid;have ho:=h.own;rw[List.take_length]at hl ho
   intro i x hx;cases i with
   | zero =>
     simp only[List.getElem?_cons_zero,Option.some.injEq]at hx
     subst hx;refine ⟨_,h.me,rfl,rfl,rfl,h.att.carry fun b hb=>⟨hb.1,rfl⟩,?_⟩
     exact zk.of_owns (B:=M) (fun b hb=>by omega) (by rw[ye];exact ho)
   | succ i =>
     simp only[List.getElem?_cons_succ]at hx
     obtain ⟨r,hr,hR⟩:=hl i x hx;exact ⟨r,by rw[show nx+(i+1)=nx+1+i by omega];exact hr,hR.carry fun b hb=>⟨hb.1,rfl⟩⟩
set_option maxHeartbeats 2000000 in
theorem Kw (d:Nat)(ih:∀ m,d=m+1→JY m):JY d:=by
 intro S va vk t par nb cb nx ms w hA hK hS hnc hR hC hN h80 hFw;obtain ⟨aa,ac,rfl⟩:=hA.shape;obtain ⟨ka,kc,rfl,hkl,hkm⟩:=qd.shape d hK;unfold maxLen at hkm
 have hcnt:=qt d t;have hnx:nx<ms.length:=by omega
 obtain ⟨r0,hr0⟩:∃ r0,ms[nx]?=some r0:=⟨ms[nx],by simp[hnx]⟩
 have hal:=(hFw t List.mem_cons_self).1;have c0:=hC.c0;have f0:=hC.f0;have hcl:=hC.lt;have hnl:nb<w.heap.size:=qh hR;have IH:Hid (∀ m,d=m+1→JY m):=ih;have hcx:∀ X,(w.alloc X).cell? ⟨cb,0,none⟩=some (.int .i64 (nx:Int)):=fun X=>Lib.cell?_alloc_some _ c0
 have hb1:=Below.alloc1 w (.cells #[.bool t.text,.string t.s,.slice aa t.attrs.length ac,.slice ka t.kids.length kc] 56);have hx1:=heap_alloc_new w (.cells #[.bool t.text,.string t.s,.slice aa t.attrs.length ac,.slice ka t.kids.length kc] 56);have hC1:=hC.later hb1;have hfz1:=hC1.f0;have hce1:=hC1.c0;have hz1:(w.alloc (.cells #[.bool t.text,.string t.s,.slice aa t.attrs.length ac,.slice ka t.kids.length kc] 56)).heap.size=w.heap.size+1:=by simp
 clear ih hcx c0 f0
 go_enter Tryz.func72,Tryz.ntmps72
 go_wp2_with fail
 have hc2:Cnt cb (nx+1) (w.setCell ⟨cb,0,none⟩ (.int .i64 ((nx:Int)+1))):=by
  have:=hC.put (nx+1)
  simpa using this
 have hsz2:(w.setCell ⟨cb,0,none⟩ (.int .i64 ((nx:Int)+1))).heap.size=w.heap.size:=by simp
 have hb2:=Below.alloc1 (w.setCell ⟨cb,0,none⟩ (.int .i64 ((nx:Int)+1))) (.cells #[.bool t.text,.string t.s,.slice aa t.attrs.length ac,.slice ka t.kids.length kc] 56);have hx2:=heap_alloc_new (w.setCell ⟨cb,0,none⟩ (.int .i64 ((nx:Int)+1))) (.cells #[.bool t.text,.string t.s,.slice aa t.attrs.length ac,.slice ka t.kids.length kc] 56);rw[hsz2]at hx2
 have hC2:=hc2.later hb2;have hF2:LFr nb cb w _:=(LFr.putC nb cb w 0 (.int .i64 ((nx:Int)+1))).trans (LFr.later hb2)
 have hR2:Row nb ms ((w.setCell ⟨cb,0,none⟩ (.int .i64 ((nx:Int)+1))).alloc (.cells #[.bool t.text,.string t.s,.slice aa t.attrs.length ac,.slice ka t.kids.length kc] 56)):=by
  unfold Row;rw[hb2.block nb (by rw[hsz2];exact hnl),qb hnc]
  exact hR
 have hz2:((w.setCell ⟨cb,0,none⟩ (.int .i64 ((nx:Int)+1))).alloc (.cells #[.bool t.text,.string t.s,.slice aa t.attrs.length ac,.slice ka t.kids.length kc] 56)).heap.size=w.heap.size+1:=by simp
 generalize (w.setCell ⟨cb,0,none⟩ (.int .i64 ((nx:Int)+1))).alloc (.cells #[.bool t.text,.string t.s,.slice aa t.attrs.length ac,.slice ka t.kids.length kc] 56)=W2 at hb2 hx2 hC2 hF2 hR2 hz2 ⊢
 have HZ2:Hid (W2.heap.size=w.heap.size+1):=hz2;have hlt2:w.heap.size<W2.heap.size:=by omega
 have HCL:Hid (∀ W,(∀ b,S b→W.heap[b]?=w.heap[b]?)→Calls Tryz.prog 56 #[.slice aa t.attrs.length ac] W fun e w'=>∃ v',e=.returned v'∧qj (qA W.heap.size 79 w') w' v' t.attrs∧Below W.heap.size W w'):=fun W hW=>xZ S _ t.attrs W (hA.carry fun b hb=>⟨hb,hW b hb⟩) (Nat.le_trans hal (by decide))
 have HSF:Hid (∀ W,LFr nb cb w W→∀ b,S b→W.heap[b]?=w.heap[b]?):=fun W hW b hb=>hW.frame b (hS b hb).1 (hS b hb).2.1 (hS b hb).2.2
 have HWW:Hid (∀ W':World,W'.heap[w.heap.size]?=W2.heap[w.heap.size]?→W'.cell? ⟨w.heap.size,0,none⟩=some (.bool t.text)∧W'.cell? ⟨w.heap.size,1,none⟩=some (.string t.s)∧W'.cell? ⟨w.heap.size,2,none⟩=some (.slice aa t.attrs.length ac)):=by
  intro W' h2;rw[hx2]at h2
  exact ⟨by rw[cH9 h2];rfl,by rw[cH9 h2];rfl,by rw[cH9 h2];rfl⟩
 have HKT:Hid (qd S w d (.slice ka t.kids.length kc) t.kids):=hK;have HFW:Hid (FewN d t.kids):=(hFw t List.mem_cons_self).2;have HSS:Hid (∀ b,S b→b<w.heap.size∧b≠nb∧b≠cb):=hS;have HR2:Hid (Row nb ms W2):=hR2;have HC2:Hid (Cnt cb (nx+1) W2):=hC2;have HF2:Hid (LFr nb cb w W2):=hF2;have HX2:Hid _:=hx2;have HFD:Hid (LFr nb cb w W2.drew):=⟨hF2.below.drew,hF2.frame⟩;have hnxi:(nx:Int)<(ms.length:Int):=by omega
 obtain ⟨y0,y1,y2⟩:=HWW.out W2 rfl;have HSD:Hid _:=HWW.out W2.drew rfl;have hnbw:w.heap.size≠nb:=by omega
 have hncw:w.heap.size≠cb:=by omega
 clear hA hK hS hR hC hFw hb1 hx1 hC1 hfz1 hce1 hz1 hb2 hx2 hC2 hF2 hR2 hz2 hc2 hsz2
 go_region_held3 (fun W:World=>W.cell? ⟨w.heap.size,0,none⟩=some (.bool t.text)∧W.cell? ⟨w.heap.size,1,none⟩=some (.string t.s)∧W.cell? ⟨w.heap.size,2,none⟩=some (.slice aa t.attrs.length ac))
  (first
   | with_reducible exact HS3.out
   | with_reducible exact HS4.out
   | with_reducible exact HSD.out)
  (first
   | (go_at_call 56;refine (Calls.mono (HCL.out W2.drew (HSF.out _ HFD.out)) ?_);rintro e w3 ⟨va3,rfl,hA3,hb3⟩;obtain ⟨a3,c3',rfl⟩:=hA3.shape;have hr3:Row nb ms w3:=(hb3.block nb (Nat.lt_trans hnl hlt2)).trans HR2.out;obtain ⟨g0,g1,g2,g3,g4⟩:=hr3.cells hr0;have k0:=hr3.frozen (nx*5);have k1:=hr3.frozen (nx*5+1);have k2:=hr3.frozen (nx*5+2);have k3:=hr3.frozen (nx*5+3);have k4:=hr3.frozen (nx*5+4);have HS3:Hid _:=HWW.out w3 (hb3.block _ hlt2);have HS4:Hid _:=HWW.out (((((w3.setCell ⟨nb,nx*5,none⟩ (.bool t.text)).setCell ⟨nb,nx*5+1,none⟩ (.string t.s)).setCell ⟨nb,nx*5+2,none⟩ (.slice a3 t.attrs.length c3')).setCell ⟨nb,nx*5+3,none⟩ (.int .i64 par)).setCell ⟨nb,nx*5+4,none⟩ (.slice none 0 0)) (by rw[qb hnbw,qb hnbw,qb hnbw,qb hnbw,qb hnbw];exact hb3.block _ hlt2)))
 have hLS:LS w nb cb nx d t par ms #[.bool t.text,.string t.s,.slice aa t.attrs.length ac,.slice ka t.kids.length kc] (((((w3.setCell ⟨nb,nx*5,none⟩ (.bool t.text)).setCell ⟨nb,nx*5+1,none⟩ (.string t.s)).setCell ⟨nb,nx*5+2,none⟩ (.slice a3 t.attrs.length c3')).setCell ⟨nb,nx*5+3,none⟩ (.int .i64 par)).setCell ⟨nb,nx*5+4,none⟩ (.slice none 0 0)).heap.size (.slice a3 t.attrs.length c3') 0 0 (.slice none 0 0) (ms.set nx ⟨t.text,t.s,.slice a3 t.attrs.length c3',par,.slice none 0 0⟩) (((((w3.setCell ⟨nb,nx*5,none⟩ (.bool t.text)).setCell ⟨nb,nx*5+1,none⟩ (.string t.s)).setCell ⟨nb,nx*5+2,none⟩ (.slice a3 t.attrs.length c3')).setCell ⟨nb,nx*5+3,none⟩ (.int .i64 par)).setCell ⟨nb,nx*5+4,none⟩ (.slice none 0 0)):=by
  have hz:=HZ2.out;have hs3:W2.heap.size≤w3.heap.size:=hb3.size;have hsz:(((((w3.setCell ⟨nb,nx*5,none⟩ (.bool t.text)).setCell ⟨nb,nx*5+1,none⟩ (.string t.s)).setCell ⟨nb,nx*5+2,none⟩ (.slice a3 t.attrs.length c3')).setCell ⟨nb,nx*5+3,none⟩ (.int .i64 par)).setCell ⟨nb,nx*5+4,none⟩ (.slice none 0 0)).heap.size=w3.heap.size:=by simp
  have hkeep:∀ b,b≠nb→(((((w3.setCell ⟨nb,nx*5,none⟩ (.bool t.text)).setCell ⟨nb,nx*5+1,none⟩ (.string t.s)).setCell ⟨nb,nx*5+2,none⟩ (.slice a3 t.attrs.length c3')).setCell ⟨nb,nx*5+3,none⟩ (.int .i64 par)).setCell ⟨nb,nx*5+4,none⟩ (.slice none 0 0)).heap[b]?=w3.heap[b]?:=fun b hb=>by rw[qb hb,qb hb,qb hb,qb hb,qb hb]
  refine ⟨hr3.put hnx ⟨t.text,t.s,.slice a3 t.attrs.length c3',par,.slice none 0 0⟩,by simp,?_,?_,?_,World.ownsRow_nil _ _ _ _,?_,?_,?_,?_,nR9 _,by rw[hsz];omega⟩
  · unfold Cnt;rw[hkeep cb (fun e=>hnc e.symm),hb3.block cb (by show cb<W2.heap.size;omega)]
    have e:nx+1+cnt d (t.kids.take 0)=nx+1:=by simp[qx]
    rw[e];exact HC2.out
  · intro j hj;rw[List.getElem?_set_ne (by omega)]
  · rw[List.getElem?_set_self hnx]
  · refine hA3.bounded.carry fun b hb=>⟨⟨by have h1:W2.heap.size≤b:=hb.1.1;omega,by rw[hsz];exact hb.2⟩,hkeep b (by have h1:W2.heap.size≤b:=hb.1.1;omega)⟩
  · intro j x hx;simp[qp]at hx
  · rw[hkeep _ hnbw,hb3.block _ hlt2];exact HX2.out
  · exact ⟨(HFD.out.below.trans (hb3.mono (nZ9 _))).trans (((((Below.refl 0 w3).setCell (p:=⟨nb,nx*5,none⟩) (nZ9 _) _).setCell (p:=⟨nb,nx*5+1,none⟩) (nZ9 _) _).setCell (p:=⟨nb,nx*5+2,none⟩) (nZ9 _) _).setCell (p:=⟨nb,nx*5+3,none⟩) (nZ9 _) _ |>.setCell (p:=⟨nb,nx*5+4,none⟩) (nZ9 _) _),
     fun b h1 h2 h3=>by rw[hkeep b h2,hb3.block b (by show b<W2.heap.size;omega)];exact HFD.out.frame b h1 h2 h3⟩
 generalize (((((w3.setCell ⟨nb,nx*5,none⟩ (.bool t.text)).setCell ⟨nb,nx*5+1,none⟩ (.string t.s)).setCell ⟨nb,nx*5+2,none⟩ (.slice a3 t.attrs.length c3')).setCell ⟨nb,nx*5+3,none⟩ (.int .i64 par)).setCell ⟨nb,nx*5+4,none⟩ (.slice none 0 0))=W4 at hLS ⊢
 have q3:W4.cell? ⟨w.heap.size,3,none⟩=some (.slice ka t.kids.length kc):=by rw[cH9 hLS.box];rfl
 have HLS:Hid _:=hLS;clear hLS HS3 HS4 HSD HWW HCL HFD HX2 HF2 HC2 HR2 hr3 hA3 hb3 g0 g1 g2 g3 g4 k0 k1 k2 k3 k4 y0 y1 y2 HZ2 hlt2;go_wp2_with fail
 go_loopg [34] t.kids.length (fun g j wr=>∃ (i:Nat) (v:Value) (mi:List Rw),i+g=t.kids.length∧j=.int .i64 (i:Int)∧LS w nb cb nx d t par ms #[.bool t.text,.string t.s,.slice aa t.attrs.length ac,.slice ka t.kids.length kc] W4.heap.size (.slice a3 t.attrs.length c3') i i v mi wr)
 case atStart => exact ⟨0,.slice none 0 0,_,by omega,rfl,HLS.out⟩
 case round =>
  obtain ⟨i,v,mi,hi,rfl,hL⟩:=hrel;have HL:Hid _:=hL;obtain ⟨ja,jn,jc,rfl⟩:=qw hL.own
  by_cases hil:i<t.kids.length
  · obtain ⟨d',rfl⟩:∃ d',d=d'+1:=by
     cases d with
     | zero=>have:t.kids=[]:=(qd.deep 0 HKT.out);rw[this]at hil;simp at hil
     | succ d'=>exact ⟨d',rfl⟩
    obtain ⟨k,hk⟩:∃ k,t.kids[i]?=some k:=⟨t.kids[i],by simp[hil]⟩
    obtain ⟨ta,tcap,htv,_,_,ht4⟩:=HKT.out;obtain ⟨tb,tof,hta,hSb,htc⟩:=ht4 (by intro e;rw[e]at hil;simp at hil)
    injection htv with htv1 _ htv2
    subst htv1 htv2 hta;obtain ⟨kva,kvk,e0,e1,e2,e3,hkA,hkK⟩:=htc i k hk;have hbw:tb<w.heap.size:=World.block_lt_of_cell? w _ e0;have hbr:wr.heap[tb]?=w.heap[tb]?:=HSF.out wr HL.out.fr tb hSb;rw[←World.cell?_of_block (a:=⟨tb,tof+i*4,none⟩) hbr]at e0
    rw[←World.cell?_of_block (a:=⟨tb,tof+i*4+1,none⟩) hbr]at e1
    rw[←World.cell?_of_block (a:=⟨tb,tof+i*4+2,none⟩) hbr]at e2
    rw[←World.cell?_of_block (a:=⟨tb,tof+i*4+3,none⟩) hbr]at e3
    obtain ⟨xa,xc,rfl⟩:=hkA.shape;obtain ⟨ya,yc,rfl,_,_⟩:=qd.shape d' hkK;obtain ⟨m,hm⟩:∃ m,nx+1+cnt (d'+1) (t.kids.take i)=m:=⟨_,rfl⟩;have hnum:=HL.out.num;rw[hm]at hnum
    have hb5:=Below.alloc1 wr (.cells #[.bool k.text,.string k.s,.slice xa k.attrs.length xc,.slice ya k.kids.length yc] 56);have hC5:=hnum.later hb5;have hR5:Row nb mi (wr.alloc (.cells #[.bool k.text,.string k.s,.slice xa k.attrs.length xc,.slice ya k.kids.length yc] 56)):=(hb5.block nb (qh HL.out.row)).trans HL.out.row;obtain ⟨_,_,_,_,g4⟩:=hR5.cells HL.out.me;have cc:=hC5.c0;have g4a:((wr.alloc (.cells #[.bool k.text,.string k.s,.slice xa k.attrs.length xc,.slice ya k.kids.length yc] 56)).alloc (.cells #[.int .i64 (m:Int)] 3)).cell? ⟨nb,nx*5+4,none⟩=some (.slice ja jn jc):=Lib.cell?_alloc_some _ g4
    have hOW:∀ Y X,((wr.alloc Y).alloc X).drew.ownsRow W4.heap.size 3 1 (.slice ja jn jc) i ((qi d' (nx+1) (t.kids.take i)).map fun k=>Value.int .i64 k):=fun Y X =>
     qq (qq HL.out.own (Below.alloc1 wr Y)) (Below.alloc1 _ X).drew
    have HOW:Hid _:=hOW;have HM:Hid (nx+1+cnt (d'+1) (t.kids.take i)=m):=hm;have hlen5:mi.length=ms.length:=HL.out.len;have HME:Hid _:=HL.out.me;have hili:(i:Int)<(t.kids.length:Int):=by omega
    have hi20:i≤1048576:=by
     have h1:=(xD (d:=d') hk).2;have h2:=qt (d'+1) t
     have h3:i≤cnt (d'+1) (t.kids.take i):=by
      have:∀ (l:List Tr),l.length≤cnt (d'+1) l:=by
       intro l
       induction l with
       | nil=>simp
       | cons x l ihl=>rw[qG d' x l,qt,List.length_cons];omega
      have:=this (t.kids.take i);rw[List.length_take]at this
      omega
     omega
    have hsr:W4.heap.size≤wr.heap.size:=HL.out.le;have HKA:Hid (qj S w (.slice xa k.attrs.length xc) k.attrs):=hkA;have HKK:Hid (qd S w d' (.slice ya k.kids.length yc) k.kids):=hkK
    have hroom:m+cnt (d'+1) [k]≤ms.length:=by
     have h1:=(xD (d:=d') hk).2;have h2:=qt (d'+1) t;omega
    have hnxm:nx<mi.length:=by omega
    have hfz4:(wr.alloc (.cells #[.bool k.text,.string k.s,.slice xa k.attrs.length xc,.slice ya k.kids.length yc] 56)).frozen? ⟨nb,nx*5+4,none⟩=false:=hR5.frozen _
    have HRW:Hid (∀ (X:Obj) (w6:World),((wr.alloc (.cells #[.bool k.text,.string k.s,.slice xa k.attrs.length xc,.slice ya k.kids.length yc] 56)).alloc X).drew.grownBy w6 (Value.slice ja jn jc).ownBlock→Row nb mi w6):=by
     intro X w6 hg;have hlt5:nb<(wr.alloc (.cells #[.bool k.text,.string k.s,.slice xa k.attrs.length xc,.slice ya k.kids.length yc] 56)).heap.size:=qh hR5;unfold Row;rw[hg.block nb (by show nb<((wr.alloc (.cells #[.bool k.text,.string k.s,.slice xa k.attrs.length xc,.slice ya k.kids.length yc] 56)).alloc X).heap.size;rw[World.size_alloc];omega) (fun e=>by have:=(HL.out.own.lt nb e.symm).1;have:=HL.out.lo;omega)]
     show ((wr.alloc (.cells #[.bool k.text,.string k.s,.slice xa k.attrs.length xc,.slice ya k.kids.length yc] 56)).alloc X).heap[nb]?=_
     rw[Lib.alloc_old _ _ _ hlt5];exact hR5
    clear hL hkA hkK htc ht4 hnum hOW hm hR5 hC5 q3;go_wp2_with fail
    go_region_law (first
     | (refine jQ (by rfl) (.tmp 44) (.tmp 48) (by rfl) W4.heap.size (.slice ja jn jc) i ((qi d' (nx+1) (t.kids.take i)).map fun k=>Value.int .i64 k) (by simp[Act.eval]) (HOW.out _ _) ⟨(wr.alloc (.cells #[.bool k.text,.string k.s,.slice xa k.attrs.length xc,.slice ya k.kids.length yc] 56)).heap.size,0,none⟩ (m:Int) (by simp[Act.eval]) (fun j u hj=>cell_one_new _ _ _ j u hj) hi20 (by simp;omega) ?_;intro v6 w6 hown6 hgr6 hat6;obtain ⟨a6,n6,c6,rfl⟩:=qw hown6;obtain ⟨_,_,_,_,z6⟩:=(HRW.out _ w6 hgr6).cells HME.out;have f6:=(HRW.out _ w6 hgr6).frozen (nx*5+4)))
    all_goals
     obtain ⟨hL7,hkp7,hbx7,hs7⟩:=XB HL.out hk hnl hcl hnc (by rw[HM.out];exact hown6) hgr6 hat6
     generalize w6.setCell ⟨nb,nx*5+4,none⟩ (.slice a6 n6 c6)=W7 at hL7 hkp7 hbx7 hs7 ⊢
     have q0:W7.cell? ⟨wr.heap.size,0,none⟩=some (.bool k.text):=by rw[cH9 hbx7];rfl
     have q1:W7.cell? ⟨wr.heap.size,1,none⟩=some (.string k.s):=by rw[cH9 hbx7];rfl
     have q2:W7.cell? ⟨wr.heap.size,2,none⟩=some (.slice xa k.attrs.length xc):=by rw[cH9 hbx7];rfl
     have q3:W7.cell? ⟨wr.heap.size,3,none⟩=some (.slice ya k.kids.length yc):=by rw[cH9 hbx7];rfl
     have hn7:=hL7.num;rw[HM.out]at hn7
     have hSF7:=HSF.out W7 hL7.fr;have hw7:=hL7.fr.below.size
     have hcall:=IH.out d' rfl S _ _ k (nx:Int) nb cb m _ W7 (HKA.out.carry fun b hb=>⟨hb,hSF7 b hb⟩) (qd.carry (fun b hb=>⟨hb,hSF7 b hb⟩) d' HKK.out) (fun b hb=>⟨by have:=(HSS.out b hb).1;omega,(HSS.out b hb).2⟩) hnc hL7.row hn7 (by rw[hL7.len];exact hroom) (by rw[hL7.len];exact h80) (by
      intro u hu;simp only[List.mem_singleton]at hu
      subst hu;exact HFW.out _ (List.mem_of_getElem? hk))
     rw[hL7.len]at hcall
     have HCALL:Hid _:=hcall;have HL7:Hid _:=hL7;clear hcall hL7 hown6 hgr6 hat6 z6 f6 g4 g4a cc e0 e1 e2 e3 hn7 hSF7 hkp7 hbx7;go_wp2_with fail;refine (Calls.mono HCALL.out ?_);rintro e w8 ⟨rfl,mj,hR8,hlen8,hC8,hold8,hLd8,hF8⟩;have HL8:Hid _:=XC HL7.out hk (qd.deep d' HKK.out) (qd.deep (d'+1) HKT.out) hnl hcl hR8 (by rw[HL7.out.len];exact hlen8) (by rw[HM.out];exact hC8) (by rw[HM.out];exact hold8) (by rw[HM.out];exact hLd8) hF8
     clear HCALL hR8 hC8 hold8 hLd8 hF8;go_wp2_with fail
     go_roundg (t.kids.length-(i+1))
     case measure => omega
     case rel => exact ⟨i+1,_,mj,by omega,by go_num,HL8.out⟩
  · have hii : i = t.kids.length := by omega
    have hili:¬ (i:Int)<(t.kids.length:Int):=by omega
    have HLD:Hid _:=Ku (qd.deep d HKT.out) (by rw[←hii];exact HL.out)
    clear hL hii q3;go_wp2_with fail
    go_returns
    obtain ⟨h1,h2,h3,h4,h5,h6⟩:=HLD.out;exact ⟨rfl,mi,h1,h2,h3,h4,h5,h6⟩
theorem Vs (d:Nat):JY d:=by
 induction d with
 | zero=>exact Kw 0 (fun m hm=>by omega)
 | succ d ih=>exact Kw (d+1) (fun m hm=>by cases hm;exact ih)
end
section
attribute [local go_sem] qk
theorem ZQ {S:Nat→Prop}{nb:Nat}{ms:List Rw}{w:World}{L:List Nd}(hR:Row nb ms w)(hl:L.length=ms.length)(hL:Laid S w ms 0 L)(hS:S nb)(h80:ms.length≤80):qv S w (.slice (some ⟨nb,0,none⟩) ms.length ms.length) L:=by
 refine ⟨_,ms.length,by rw[hl],by omega,by unfold maxLen;omega,fun _=>⟨nb,0,rfl,hS,fun i x hx=>?_⟩⟩
 obtain ⟨r,hr,h1,h2,h3,h4,h5⟩:=hL i x hx;rw[Nat.zero_add]at hr
 obtain ⟨g0,g1,g2,g3,g4⟩:=hR.cells hr;rw[Nat.zero_add];exact ⟨r.va,r.vk,by rw[g0,h1],by rw[g1,h2],g2,by rw[g3,h3],g4,h4,h5⟩
theorem VD {n:Nat}(hf:∀ k,rgt n k=true→FewN n k):∀ (ts:List Tr)(p:Bool),rgL (rgt n) p ts=true→FewN (n+1) ts:=by
 intro ts
 induction ts with
 | nil=>intro p _ t ht;simp at ht
 | cons x r ih =>
   intro p h t ht;unfold rgL at h
   simp only[Bool.and_eq_true]at h
   rw[List.mem_cons]at ht
   rcases ht with rfl|ht
   · have h1 := h.1.1.1;unfold qD at h1
     cases htx:t.text with
     | true =>
       simp only[htx,if_true,Bool.and_eq_true,decide_eq_true_eq]at h1
       have hk:t.kids=[]:=List.eq_nil_of_length_eq_zero h1.2;refine ⟨by omega,?_⟩
       rw[hk];cases n with
       | zero=>trivial
       | succ n=>intro u hu;simp at hu
     | false =>
       simp only[htx,Bool.false_eq_true,if_false,Bool.and_eq_true]at h1
       have h2:=h1.2;simp only[zD,Bool.and_eq_true,decide_eq_true_eq]at h2
       refine ⟨by omega,hf _ ?_⟩
       have:=h.1.2
       simpa[htx] using this
   · exact ih x.text h.2 t ht
theorem rgt_few:∀ (n:Nat)(ts:List Tr),rgt n ts=true→FewN n ts:=by
 intro n
 induction n with
 | zero=>intro ts _;trivial
 | succ n ih=>intro ts h;exact VD ih ts false h
theorem nodeInfo:(Tryz.prog.info? 43).map (fun i=>(i.zero,i.size,i.bytes))=some (some (.agg #[.bool false,.string ⟨#[]⟩,.slice none 0 0,.int .i64 0,.slice none 0 0]),5,80):=by kernel_rfl
def zeroRw:Rw:=⟨false,⟨#[]⟩,.slice none 0 0,0,.slice none 0 0⟩
theorem Vu (N:Nat):madeCells (Value.agg #[.bool false,.string ⟨#[]⟩,.slice none 0 0,.int .i64 0,.slice none 0 0]).cells (N*5)=(rawCells (List.replicate N zeroRw)).toArray:=by
 apply Array.ext
 · simp[madeCells,yb]
 · intro k h1 h2;have hk:k<N*5:=by simpa[madeCells] using h1
   have hr:(List.replicate N zeroRw)[k / 5]?=some zeroRw:=by rw[List.getElem?_replicate];simp;omega
   obtain ⟨g0,g1,g2,g3,g4⟩:=zq _ _ _ hr
   have key:(rawCells (List.replicate N zeroRw))[k]?=some ((#[Value.bool false,.string ⟨#[]⟩,.slice none 0 0,.int .i64 0,.slice none 0 0]:Array Value)[k % 5]!):=by
    rcases (by omega:k % 5=0∨k % 5=1∨k % 5=2∨k % 5=3∨k % 5=4) with h|h|h|h|h
    · rw[show k=k / 5*5 by omega,g0,show k / 5*5 % 5=0 by omega];rfl
    · rw[show k=k / 5*5+1 by omega,g1,show (k / 5*5+1) % 5=1 by omega];rfl
    · rw[show k=k / 5*5+2 by omega,g2,show (k / 5*5+2) % 5=2 by omega];rfl
    · rw[show k=k / 5*5+3 by omega,g3,show (k / 5*5+3) % 5=3 by omega];rfl
    · rw[show k=k / 5*5+4 by omega,g4,show (k / 5*5+4) % 5=4 by omega];rfl
   have h3:(rawCells (List.replicate N zeroRw)).toArray[k]?=some ((#[Value.bool false,.string ⟨#[]⟩,.slice none 0 0,.int .i64 0,.slice none 0 0]:Array Value)[k % 5]!):=by simpa using key
   rw[Array.getElem?_eq_getElem h2]at h3
   rw[Option.some.inj h3];simp[madeCells,Value.cells]
def yi (n:Nat)(t:Tr):List Nd:=if qR t then layF n t (-1) 0 else []
def y5 (t:Tr):Int:=if qR t then 0 else 1
set_option maxHeartbeats 2000000 in
theorem KB (S:Nat→Prop)(n:Nat)(va vk:Value)(t:Tr)(w:World)(hA:qj S w va t.attrs)(hK:qd S w n vk t.kids)(hx:TextsN (n+1) [t])(hS:∀ b,S b→b<w.heap.size) :
 Calls Tryz.prog 33 #[.agg #[.bool t.text,.string t.s,va,vk]] w fun e w'=>∃ v,e=.returned (.tuple #[.agg #[v],.int .i64 (y5 t)])∧qv (fun b=>w.heap.size≤b) w' v (yi n t)∧Below w.heap.size w w':=by
 obtain ⟨aa,ac,rfl⟩:=hA.shape;obtain ⟨ka,kc,rfl,_,_⟩:=qd.shape n hK;have hb1:Below w.heap.size w ((w.alloc (.cells #[.bool t.text,.string t.s,.slice aa t.attrs.length ac,.slice ka t.kids.length kc] 56)).alloc (.cells #[.slice none 0 0] 24)):=(Below.alloc1 w _).alloc (by simp) _
 have hx1:((w.alloc (.cells #[.bool t.text,.string t.s,.slice aa t.attrs.length ac,.slice ka t.kids.length kc] 56)).alloc (.cells #[.slice none 0 0] 24)).heap[w.heap.size]?=some (.cells #[.bool t.text,.string t.s,.slice aa t.attrs.length ac,.slice ka t.kids.length kc] 56 (0,0)):=by
  rw[Lib.alloc_old _ _ _ (by simp)];exact heap_alloc_new _ _
 have hy1:((w.alloc (.cells #[.bool t.text,.string t.s,.slice aa t.attrs.length ac,.slice ka t.kids.length kc] 56)).alloc (.cells #[.slice none 0 0] 24)).heap[w.heap.size+1]?=some (.cells #[.slice none 0 0] 24 (0,0)):=by
  have e:=heap_alloc_new (w.alloc (.cells #[.bool t.text,.string t.s,.slice aa t.attrs.length ac,.slice ka t.kids.length kc] 56)) (.cells #[.slice none 0 0] 24);rw[World.size_alloc]at e
  exact e
 have HG:Hid _:=Yu S n _ _ t _ (hA.later hb1) (qd.later hb1 n hK) hx;have HA:Hid (qj S w (.slice aa t.attrs.length ac) t.attrs):=hA;have HK:Hid (qd S w n (.slice ka t.kids.length kc) t.kids):=hK;have HS:Hid (∀ b,S b→b<w.heap.size):=hS;have HD:Hid (yi n t=if qR t then layF n t (-1) 0 else []):=rfl
 have HE:Hid (y5 t=if qR t then 0 else 1):=rfl
 clear hA hK hx hS
 go_enter Tryz.func33,Tryz.ntmps33
 go_wp2_with fail;refine (Calls.mono HG.out ?_);rintro e w2 ⟨rfl,hb2⟩;have hx2:=(hb2.block _ (qh hx1)).trans hx1;have hy2:=(hb2.block _ (qh hy1)).trans hy1;have hB2:Below w.heap.size w w2:=hb1.trans (hb2.mono hb1.size);have d0:w2.cell? ⟨w.heap.size,0,none⟩=some (.bool t.text):=by rw[cH9 hx2];rfl
 have d1:w2.cell? ⟨w.heap.size,1,none⟩=some (.string t.s):=by rw[cH9 hx2];rfl
 have d2:w2.cell? ⟨w.heap.size,2,none⟩=some (.slice aa t.attrs.length ac):=by rw[cH9 hx2];rfl
 have d3:w2.cell? ⟨w.heap.size,3,none⟩=some (.slice ka t.kids.length kc):=by rw[cH9 hx2];rfl
 have p0:w2.cell? ⟨w.heap.size+1,0,none⟩=some (.slice none 0 0):=by rw[cH9 hy2];rfl
 have f0:w2.frozen? ⟨w.heap.size+1,0,none⟩=false:=fH9 hy2 0;clear HG hb1 hx1 hb2 hy1;obtain ⟨q,hq⟩:∃ q,qR t=q:=⟨_,rfl⟩;rw[hq];cases q with
 | false =>
   have HD2:Hid (yi n t=[]):=by show _=_;rw[HD.out,hq];rfl
   have HE2:Hid (y5 t=1):=by show _=_;rw[HE.out,hq];rfl
   clear HD HE hq;go_wp2_with fail;refine bodyPost_ret (v:=.tuple #[.agg #[.slice none 0 0],.int .i64 1]) (by simp[results,Tryz.results33,go_sem,qk,p0]) rfl ⟨.slice none 0 0,by rw[HE2.out],by rw[HD2.out];exact qv.nil,?_⟩
   exact hB2.setCell (p:=⟨w.heap.size+1,0,none⟩) (Nat.le_succ _) _
 | true =>
   have HD2:Hid (yi n t=layF n t (-1) 0):=by show _=_;rw[HD.out,hq];rfl
   have HE2:Hid (y5 t=0):=by show _=_;rw[HE.out,hq];rfl
   have hdeep:=qd.deep n HK.out;have hg:=hq;rw[jh hdeep]at hg
   simp only[Bool.and_eq_true,Bool.not_eq_true',decide_eq_true_eq]at hg
   obtain ⟨⟨⟨hg1,hg2⟩,hc81⟩,hrg⟩:=hg;clear hg1 hg2;have HFW:Hid (FewN (n+1) [t]):=rgt_few (n+1) [t] hrg;have HSZ:Hid _:=KS S n _ _ t w2 (HA.out.later hB2) (qd.later hB2 n HK.out) (by omega)
   have hpos:0<cnt (n+1) [t]:=by rw[qt];omega
   have HLN:Hid ((layF n t (-1) 0).length=cnt (n+1) [t]):=layF_length n t (-1) 0 hdeep;obtain ⟨N,hN⟩:∃ N,cnt (n+1) [t]=N:=⟨_,rfl⟩;rw[hN]at hc81 HSZ hpos HLN
   have HN:Hid (cnt (n+1) [t]=N):=hN;clear HD HE hq hrg hN hdeep;go_wp2_with fail;refine (Calls.mono HSZ.out ?_);rintro e w3 ⟨rfl,hb3⟩;have hx3:=(hb3.block _ (qh hx2)).trans hx2;have hy3:=(hb3.block _ (qh hy2)).trans hy2;have hB3:Below w.heap.size w w3:=hB2.trans (hb3.mono hB2.size);have e0:w3.cell? ⟨w.heap.size,0,none⟩=some (.bool t.text):=by rw[cH9 hx3];rfl
   have e1:w3.cell? ⟨w.heap.size,1,none⟩=some (.string t.s):=by rw[cH9 hx3];rfl
   have e2:w3.cell? ⟨w.heap.size,2,none⟩=some (.slice aa t.attrs.length ac):=by rw[cH9 hx3];rfl
   have e3:w3.cell? ⟨w.heap.size,3,none⟩=some (.slice ka t.kids.length kc):=by rw[cH9 hx3];rfl
   clear HSZ hb3 d0 d1 d2 d3 p0 f0 hx2 hy2
   have hmk:(Instr.makeSlice 22 (.int .i64 (N:Int)) (.int .i64 (N:Int))).run Tryz.prog w3=.ok (.slice (some ⟨w3.heap.size,0,none⟩) N N) (w3.alloc (.cells (rawCells (List.replicate N zeroRw)).toArray 43)):=by
    obtain ⟨i0,hi,hz0,hz1,hz2⟩:=info_parts nodeInfo;have:=run_makeSlice (P:=Tryz.prog) w3 22 43 i0 _ Tryz.underlying22 hi hz0 .i64 .i64 (N:Int) (N:Int) (by omega) (Int.le_refl _) (by rw[hz1];simp;omega) (by rw[hz2];omega) (by omega)
    rw[this,hz1,Int.toNat_natCast,Vu]
   have hb5:Below w3.heap.size w3 ((w3.alloc (.cells (rawCells (List.replicate N zeroRw)).toArray 43)).alloc (.cells #[.int .i64 0] 3)):=(Below.alloc1 w3 _).alloc (by simp) _
   have hR5:Row w3.heap.size (List.replicate N zeroRw) ((w3.alloc (.cells (rawCells (List.replicate N zeroRw)).toArray 43)).alloc (.cells #[.int .i64 0] 3)):=by
    unfold Row;rw[Lib.alloc_old _ _ _ (by simp)]
    exact heap_alloc_new _ _
   have hC5:Cnt (w3.heap.size+1) 0 ((w3.alloc (.cells (rawCells (List.replicate N zeroRw)).toArray 43)).alloc (.cells #[.int .i64 0] 3)):=by
    have e:=heap_alloc_new (w3.alloc (.cells (rawCells (List.replicate N zeroRw)).toArray 43)) (.cells #[.int .i64 0] 3);rw[World.size_alloc]at e
    exact e
   have hz5:((w3.alloc (.cells (rawCells (List.replicate N zeroRw)).toArray 43)).alloc (.cells #[.int .i64 0] 3)).heap.size=w3.heap.size+2:=by simp
   have HMK:Hid _:=hmk;have HRP:Hid ((List.replicate N zeroRw).length=N):=by show _=_;simp
   obtain ⟨ms0,hms0⟩:∃ ms0,List.replicate N zeroRw=ms0:=⟨_,rfl⟩;rw[hms0]at hmk hb5 hR5 hC5 hz5 HRP
   clear hms0 HMK;have e0a:(w3.alloc (.cells (rawCells ms0).toArray 43)).cell? ⟨w.heap.size,0,none⟩=some (.bool t.text):=Lib.cell?_alloc_some _ e0;have e1a:(w3.alloc (.cells (rawCells ms0).toArray 43)).cell? ⟨w.heap.size,1,none⟩=some (.string t.s):=Lib.cell?_alloc_some _ e1;have e2a:(w3.alloc (.cells (rawCells ms0).toArray 43)).cell? ⟨w.heap.size,2,none⟩=some (.slice aa t.attrs.length ac):=Lib.cell?_alloc_some _ e2;have e3a:(w3.alloc (.cells (rawCells ms0).toArray 43)).cell? ⟨w.heap.size,3,none⟩=some (.slice ka t.kids.length kc):=Lib.cell?_alloc_some _ e3;have e0b:((w3.alloc (.cells (rawCells ms0).toArray 43)).alloc (.cells #[.int .i64 0] 3)).cell? ⟨w.heap.size,0,none⟩=some (.bool t.text):=Lib.cell?_alloc_some _ e0a;have e1b:((w3.alloc (.cells (rawCells ms0).toArray 43)).alloc (.cells #[.int .i64 0] 3)).cell? ⟨w.heap.size,1,none⟩=some (.string t.s):=Lib.cell?_alloc_some _ e1a;have e2b:((w3.alloc (.cells (rawCells ms0).toArray 43)).alloc (.cells #[.int .i64 0] 3)).cell? ⟨w.heap.size,2,none⟩=some (.slice aa t.attrs.length ac):=Lib.cell?_alloc_some _ e2a;have e3b:((w3.alloc (.cells (rawCells ms0).toArray 43)).alloc (.cells #[.int .i64 0] 3)).cell? ⟨w.heap.size,3,none⟩=some (.slice ka t.kids.length kc):=Lib.cell?_alloc_some _ e3a;have hs3:=hB3.size;have hB5:Below w.heap.size w _:=hB3.trans (hb5.mono hs3);have hcall:=Vs n S _ _ t (-1) w3.heap.size (w3.heap.size+1) 0 ms0 _ (HA.out.later hB5) (qd.later hB5 n HK.out) (fun b hb=>⟨by have:=HS.out b hb;rw[hz5];omega,by have:=HS.out b hb;omega,by have:=HS.out b hb;omega⟩) (by omega) hR5 hC5 (by rw[HN.out,HRP.out];omega) (by rw[HRP.out];omega) HFW.out
   rw[HRP.out]at hcall
   have HCALL:Hid _:=hcall;have HZ5:Hid _:=hz5;clear hcall hR5 hC5 hz5 e0 e1 e2 e3;go_wp2_with fail;refine (Calls.mono HCALL.out ?_);rintro e w6 ⟨rfl,ms',hR6,hl6,hC6,_,hL6,hF6⟩;have hz:=HZ5.out
   have hy5:w6.heap[w.heap.size+1]?=some (.cells #[.slice none 0 0] 24 (0,0)):=by
    have h1:=qh hy3;rw[hF6.frame (w.heap.size+1) (by rw[hz];omega) (by omega) (by omega),hb5.block _ h1]
    exact hy3
   have p0:w6.cell? ⟨w.heap.size+1,0,none⟩=some (.slice none 0 0):=by rw[cH9 hy5];rfl
   have f0:w6.frozen? ⟨w.heap.size+1,0,none⟩=false:=fH9 hy5 0;have hB6:Below w.heap.size w w6:=⟨hF6.below.os.trans hB5.os,hF6.below.tape.trans hB5.tape,hF6.below.output.trans hB5.output,Nat.le_trans hB5.size hF6.below.size,fun k hk=>by rw[hF6.frame k (by rw[hz];omega) (by omega) (by omega)];exact hB5.block k hk⟩
   have hnb:=qh hR6;have hlen6:ms'.length=N:=hl6
   have hND:qv (fun b=>w.heap.size+2≤b) w6 (.slice (some ⟨w3.heap.size,0,none⟩) N N) (layF n t (-1) 0):=by
    have h1:=qh hy3;have:=ZQ (S:=fun b=>w.heap.size+2≤b) hR6 (by rw[HLN.out,hlen6]) (hL6.carry (fun b hb _=>⟨by have h2:((w3.alloc (.cells (rawCells ms0).toArray 43)).alloc (.cells #[.int .i64 0] 3)).heap.size≤b:=hb;rw[hz]at h2;omega,rfl⟩) (fun _ _ _=>rfl)) (by show w.heap.size+2≤w3.heap.size;omega) (by omega)
    rw[hlen6]at this
    exact this
   clear HCALL hR6 hL6 hC6 hF6 hb5 e0a e1a e2a e3a e0b e1b e2b e3b hmk hB5;go_wp2_with fail;refine bodyPost_ret (v:=.tuple #[.agg #[.slice (some ⟨w3.heap.size,0,none⟩) N N],.int .i64 0]) (by simp[results,Tryz.results33,go_sem,qk,p0]) rfl ⟨.slice (some ⟨w3.heap.size,0,none⟩) N N,by rw[HE2.out],?_,?_⟩
   · rw[HD2.out];exact hND.carry fun b hb=>⟨by omega,qb (by omega)⟩
   · exact hB6.setCell (p:=⟨w.heap.size+1,0,none⟩) (Nat.le_succ _) _
end
end Go.Proofs.YtnppmdpmippcoaaGreatDoor
namespace Go.Proofs.YtnppmdpmippcoaaGreatDoor
open Go.RowKit
set_option maxRecDepth 100000
theorem Zr {n:Nat}{t:Tr}(hd:Deep n t.kids)(hg:qR t=true):qu (layF n t (-1) 0)=true∧growF (layF n t (-1) 0).length (layF n t (-1) 0) 0=t∧j6 (layF n t (-1) 0) 0=((cnt (n+1) [t]:Nat):Int)∧(layF n t (-1) 0).length=cnt (n+1) [t]:=by
 have hlen:=layF_length n t (-1) 0 hd;have hseg:=QS (layF n t (-1) 0);have hg2:=hg;rw[jh hd]at hg2
 simp only[Bool.and_eq_true,Bool.not_eq_true',decide_eq_true_eq]at hg2
 obtain ⟨⟨_,hc⟩,_⟩:=hg2;have hgr:=grow_lay n t (layF n t (-1) 0).length (layF n t (-1) 0) (-1) 0 hd hseg (by omega)
 have hor:=ord_lay n t ((layF n t (-1) 0).length+1) (layF n t (-1) 0) (-1) 0 hd hseg (by omega)
 have hla:=last_lay n t (layF n t (-1) 0).length (layF n t (-1) 0) (-1) 0 hd hseg (by omega)
 have hgd:qu (layF n t (-1) 0)=true:=by
  unfold qu yN;rw[hor,hgr,hg,hlen];simp;omega
 refine ⟨hgd,hgr,?_,hlen⟩;unfold j6;have hpos:0<cnt (n+1) [t]:=by rw[qt];omega
 have ham:ZE (layF n t (-1) 0) 0=true:=by unfold ZE;rw[hlen];simp;omega
 rw[hgd,ham];simp only[Bool.and_self,if_true,Int.toNat_zero];omega
def zA (Q:Tr→Prop):Nat→List Tr→Prop
 | 0,_=>True
 | n+1,ts=>∀ t∈ts,Q t∧zA Q n t.kids
def yD (n:Nat)(x:Nd):Nd:={ x with kids:=x.kids.filter fun u=>decide (u<(n:Int)) }
def zy (L:List Nd)(n:Nat):List Nd:=(L.take n).map (yD n)
def WL (L:List Nd):Nat→List (Tr × Int)→Prop
 | n,[]=>n=L.length
 | n,i::r=>∃ d,Deep d i.1.kids∧Seg L n (layF d i.1 i.2 n)∧WL L (n+cnt (d+1) [i.1]) r
theorem WL.kids {L:List Nd}{d n:Nat}:∀ (ks:List Tr)(b:Nat)(r:List (Tr × Int)),(∀ k∈ks,Deep d k.kids)→Seg L b (qp d (layF d) n b ks)→WL L (b+cnt (d+1) ks) r→WL L b (ks.map (fun k=>(k,(n:Int)))++r):=by
 intro ks
 induction ks with
 | nil=>intro b r _ _ h;rw[qx]at h;exact h
 | cons k ks ih =>
   intro b r hd hs h;rw[qp]at hs
   have hl:=hs.left;have hr:=hs.right;have hdk:=hd k List.mem_cons_self;rw[layF_length d k n b hdk]at hr
   rw[qG]at h
   refine ⟨d,hdk,hl,ih _ r (fun u hu=>hd u (List.mem_cons_of_mem _ hu)) hr ?_⟩
   rw[Nat.add_assoc];exact h
theorem WL.step {L:List Nd}{n:Nat}{t:Tr}{p:Int}{r:List (Tr × Int)}(h:WL L n ((t,p)::r)):∃ x,L[n]?=some x∧x.text=t.text∧x.s=t.s∧x.attrs=t.attrs∧x.parent=p∧WL L (n+1) (t.kids.map (fun k=>(k,(n:Int)))++r):=by
 obtain ⟨d,hd,hs,hr⟩:=h;have h0:=hs 0 _ (by rw[yh hd p n];rfl)
 refine ⟨_,h0,rfl,rfl,rfl,rfl,?_⟩;simp only at hd hs hr
 rw[qt]at hr
 cases d with
 | zero =>
   have e:t.kids=[]:=hd;rw[e]at hr ⊢
   rw[qx]at hr
   exact hr
 | succ d=>exact WL.kids t.kids (n+1) r hd (Seg.tail hs) (by rw[Nat.add_assoc];exact hr)
theorem WL.start {n:Nat}{t:Tr}(hd:Deep n t.kids):WL (layF n t (-1) 0) 0 [(t,-1)] :=
 ⟨n,hd,QS _,by show 0+cnt (n+1) [t]=_;rw[layF_length n t _ _ hd,Nat.zero_add]⟩
theorem jj {L:List Nd}{n:Nat}(h:n≤L.length):(zy L n).length=n:=by
 unfold zy;rw[List.length_map,List.length_take];omega
theorem Qb {L:List Nd}{n i:Nat}(h:i<n):(zy L n)[i]?=(L[i]?).map (yD n):=by
 unfold zy;rw[List.getElem?_map,List.getElem?_take,if_pos h]
theorem jG {n:Nat}{l:List Int}(h:∀ u∈l,(n:Int)≤u):(l.filter fun u=>decide (u<(n:Int)))=[]:=by
 rw[List.filter_eq_nil_iff];intro u hu;have:=h u hu;simp;omega
theorem YS {L:List Nd}(hg:qu L=true){n:Nat}{x:Nd}(hx:L[n]?=some x):(zy L (n+1))[n]?=some { x with kids:=[] }:=by
 rw[Qb (Nat.lt_succ_self n),hx]
 show some (yD (n+1) x)=_
 unfold yD;rw[jG (fun u hu=>by obtain ⟨k,_,rfl,h,_⟩:=(qV hg hx).kids u hu;omega)]
theorem Yp {n:Nat}:∀ {l:List Int},l.Pairwise (fun a b=>a<b)→(l.filter fun u=>decide (u<((n+1:Nat):Int)))=(l.filter fun u=>decide (u<(n:Int)))++(if (n:Int)∈l then [(n:Int)] else []):=by
 intro l
 induction l with
 | nil=>intro _;simp
 | cons x l ih =>
   intro h;rw[List.pairwise_cons]at h
   by_cases h1:x<(n:Int)
   · rw[List.filter_cons_of_pos (by simp;omega), List.filter_cons_of_pos (by simpa using h1), ih h.2, List.cons_append]
     have:((n:Int)∈x::l)↔(n:Int)∈l:=by
      rw[List.mem_cons];exact ⟨fun h=>h.resolve_left (by omega),Or.inr⟩
     simp only[this]
   · by_cases h2 : x = (n : Int)
     · subst h2;rw[List.filter_cons_of_pos (by simp;omega),List.filter_cons_of_neg (by simp),if_pos List.mem_cons_self]
       rw[jG (n:=n+1) (fun u hu=>by have:=h.1 u hu;omega),jG (fun u hu=>by have:=h.1 u hu;omega)]
       rfl
     · rw[List.filter_cons_of_neg (by simp;omega), List.filter_cons_of_neg (by simp;omega), ih h.2]
       have:((n:Int)∈x::l)↔(n:Int)∈l:=by
        rw[List.mem_cons];exact ⟨fun h=>h.resolve_left (fun e=>h2 e.symm),Or.inr⟩
       simp only[this]
theorem Qe {ns:List Nd}(hg:qu ns=true){q:Nat}{y:Nd}(hy:ns[q]?=some y):y.kids.Pairwise (fun u v=>u<v):=by
 refine List.Pairwise.imp_of_mem ?_ (qV hg hy).row;intro a b ha _ hab;obtain ⟨k,z,rfl,_,_,_,hz,_⟩:=(qV hg hy).kids a ha;have:=(qV hg hz).gt;omega
theorem J6 {ns:List Nd}(hg:qu ns=true){q n:Nat}{y x:Nd}(hy:ns[q]?=some y)(hx:ns[n]?=some x):(n:Int)∈y.kids↔x.parent=(q:Int):=by
 constructor
 · intro h;obtain ⟨k,z,e,_,_,_,hz,hp⟩:=(qV hg hy).kids _ h;have:k=n:=by omega
   subst this;rw[hx]at hz
   obtain rfl:=Option.some.inj hz;exact hp
 · intro h
   rcases (qV hg hx).par with ⟨_,hp⟩|⟨q',y',hy',hp,_,hm⟩
   · omega
   · have : q' = q := by omega
     subst this;rw[hy]at hy'
     obtain rfl:=Option.some.inj hy';exact hm
theorem YT {L:List Nd}(hg:qu L=true){n i:Nat}{x y:Nd}(hx:L[n]?=some x)(hi:i<n)(hy:L[i]?=some y) :
 (zy L n)[i]?=some (yD n y)∧(zy L (n+1))[i]?=some { yD n y with kids:=(yD n y).kids++(if x.parent=(i:Int) then [(n:Int)] else []) }:=by
 rw[Qb hi,Qb (by omega),hy]
 refine ⟨rfl,?_⟩
 show some (yD (n+1) y)=_
 unfold yD;simp only;rw[Yp (Qe hg hy)];simp only[J6 hg hy hx]
theorem KK {L:List Nd}(hg:qu L=true):zy L L.length=L:=by
 unfold zy;rw[List.take_length]
 conv=>rhs;rw[←List.map_id L]
 apply List.map_congr_left
 intro y hy;obtain ⟨i,hi⟩:=List.mem_iff_getElem?.1 hy;unfold yD
 have:(y.kids.filter fun u=>decide (u<(L.length:Int)))=y.kids:=by
  rw[List.filter_eq_self];intro u hu;obtain ⟨k,_,rfl,_,h,_⟩:=(qV hg hi).kids u hu;simp;omega
 rw[this];rfl
def QN (ns:List Nd)(n k:Nat):Bool:=match ns[k]? with|some y=>decide (y.parent=(n:Int))|none=>false
def zb (ns:List Nd)(n:Nat):Nat→List Int
 | 0=>[]
 | k+1=>zb ns n k++(if n<k∧QN ns n k=true then [(k:Int)] else [])
def treeF:Nat→List Nd→Nat→Tr
 | 0,_,_=>⟨false,⟨#[]⟩,[],[]⟩
 | f + 1, ns, n => match ns[n]? with
   | none=>⟨false,⟨#[]⟩,[],[]⟩
   | some x=>⟨x.text,x.s,x.attrs,(zb ns n ns.length).map fun k=>treeF f ns k.toNat⟩
theorem Zx (ns:List Nd)(n:Nat):∀ (m:Nat)(u:Int),u∈zb ns n m↔∃ k:Nat,u=(k:Int)∧k<m∧n<k∧QN ns n k=true:=by
 intro m
 induction m with
 | zero=>intro u;simp[zb]
 | succ m ih =>
   intro u;rw[zb,List.mem_append,ih]
   constructor
   · rintro (⟨k, h1, h2, h3⟩ | h)
     · exact ⟨k,h1,by omega,h3⟩
     · split at h
       · rename_i hc
         rw[List.mem_singleton]at h
         exact ⟨m,h,by omega,hc⟩
       · simp at h
   · rintro ⟨k, h1, h2, h3⟩
     by_cases hk:k=m
     · subst hk
       right
       rw[if_pos h3,h1];exact List.mem_singleton.2 rfl
     · exact Or.inl ⟨k,h1,by omega,h3⟩
theorem ZX (ns:List Nd)(n:Nat):∀ (m:Nat),(zb ns n m).Pairwise (fun u v=>u<v):=by
 intro m
 induction m with
 | zero=>exact List.Pairwise.nil
 | succ m ih =>
   rw[zb,List.pairwise_append];refine ⟨ih,?_,?_⟩
   · split
     · exact List.Pairwise.cons (by simp) List.Pairwise.nil
     · exact List.Pairwise.nil
   · intro u hu v hv;obtain ⟨k,rfl,hk,_⟩:=(Zx ns n m u).1 hu
     split at hv
     · rw[List.mem_singleton]at hv;omega
     · simp at hv
theorem rise_ext:∀ {a b:List Int},a.Pairwise (fun u v=>u<v)→b.Pairwise (fun u v=>u<v)→(∀ u,u∈a↔u∈b)→a=b:=by
 intro a
 induction a with
 | nil =>
   intro b _ _ h;cases b with
   | nil=>rfl
   | cons y b=>exact absurd ((h y).2 List.mem_cons_self) (by simp)
 | cons x a ih =>
   intro b ha hb h;cases b with
   | nil=>exact absurd ((h x).1 List.mem_cons_self) (by simp)
   | cons y b =>
     rw[List.pairwise_cons]at ha hb
     have hxy:x=y:=by
      have h1:=(h x).1 List.mem_cons_self;have h2:=(h y).2 List.mem_cons_self;rw[List.mem_cons]at h1 h2
      rcases h1 with h1|h1
      · exact h1
      · rcases h2 with h2 | h2
        · exact h2.symm
        · have := hb.1 x h1;have:=ha.1 y h2;omega
     subst hxy;rw[ih ha.2 hb.2 (fun u=>?_)]
     constructor
     · intro hu;have h1:=(h u).1 (List.mem_cons_of_mem _ hu);rw[List.mem_cons]at h1
       rcases h1 with rfl|h1
       · exact absurd (ha.1 u hu) (by omega)
       · exact h1
     · intro hu;have h1:=(h u).2 (List.mem_cons_of_mem _ hu);rw[List.mem_cons]at h1
       rcases h1 with rfl|h1
       · exact absurd (hb.1 u hu) (by omega)
       · exact h1
theorem XT {ns:List Nd}(hg:qu ns=true){n:Nat}{x:Nd}(hx:ns[n]?=some x):zb ns n ns.length=x.kids:=by
 refine rise_ext (ZX _ _ _) (Qe hg hx) (fun u=>?_)
 rw[Zx]
 constructor
 · rintro ⟨k, rfl, hk, hnk, hp⟩;unfold QN at hp
   cases hy:ns[k]? with
   | none=>rw[hy]at hp;cases hp
   | some y =>
     rw[hy]at hp
     simp only[decide_eq_true_eq]at hp
     exact (J6 hg hx hy).2 hp
 · intro hu;obtain ⟨k,y,rfl,h1,h2,_,hy,hp⟩:=(qV hg hx).kids u hu;exact ⟨k,rfl,h2,h1,by unfold QN;rw[hy];simp[hp]⟩
theorem XY {ns:List Nd}(hg:qu ns=true):∀ (f n:Nat),treeF f ns n=growF f ns n:=by
 intro f
 induction f with
 | zero=>intro n;rfl
 | succ f ih =>
   intro n;rw[treeF,growF];cases hx:ns[n]? with
   | none=>rfl
   | some x =>
     simp only;rw[XT hg hx]
     congr 1
     apply List.map_congr_left
     intro k _;exact ih _
def yr (ns:List Nd):Nat→Bool
 | 0=>true
 | k+1=>yr ns k&&(match ns[k]? with|some x=>decide (k=0)||(decide (0≤x.parent)&&decide (x.parent<(k:Int)))|none=>true)
def V1 (ns:List Nd)(t:Tr):Prop:=qR t=true∧∃ d,Deep d t.kids∧layF d t (-1) 0=ns
theorem Zq {ns:List Nd}:qu ns=true↔(0<ns.length∧ns.length≤80∧(∃ x,ns[0]?=some x∧x.parent=-1)∧yr ns ns.length=true∧V1 ns (treeF ns.length ns 0)):=by
 constructor
 · intro hg;obtain ⟨d,t,hd,hs,hc,_,_,hgb,hgr⟩:=x9 hg
   have h80:ns.length≤80:=by
    have:=hg;simp only[qu,Bool.and_eq_true,decide_eq_true_eq]at this
    exact this.1.1
   have hpos:0<ns.length:=by rw[←hc,qt];omega
   refine ⟨hpos,h80,⟨_,hs 0 _ (by rw[yh hd (-1) 0];rfl),rfl⟩,?_,?_⟩
   · have:∀ k,yr ns k=true:=by
      intro k
      induction k with
      | zero=>rfl
      | succ k ih =>
        rw[yr,ih,Bool.true_and];cases hx:ns[k]? with
        | none=>rfl
        | some x =>
          simp only[Bool.or_eq_true,Bool.and_eq_true,decide_eq_true_eq]
          rcases (qV hg hx).par with ⟨h,_⟩|⟨q,_,_,hp,hq,_⟩
          · exact Or.inl h
          · exact Or.inr (by omega)
     exact this _
   · rw[XY hg, hgr];refine ⟨hgb,d,hd,?_⟩;have hlen:=layF_length d t (-1) 0 hd
     apply List.ext_getElem?
     intro i
     rcases Nat.lt_or_ge i ns.length with hi|hi
     · have : (layF d t (-1) 0)[i]? = some (layF d t (-1) 0)[i] := List.getElem?_eq_getElem (by omega)
       rw[this];have:=hs i _ this;rw[Nat.zero_add]at this
       exact this.symm
     · rw[List.getElem?_eq_none (by omega),List.getElem?_eq_none (by omega)]
 · rintro ⟨_, _, _, _, hgb, d, hd, hL⟩;have:=(Zr hd hgb).1;rw[hL]at this
   exact this
end Go.Proofs.YtnppmdpmippcoaaGreatDoor
namespace Go.Proofs.YtnppmdpmippcoaaGreatDoor
open Go.ChangeShapes Go.WideShapes Go.ChangeAt Go.RowKit
set_option maxRecDepth 100000
section
attribute [local go_sem] qk
def IsDocOk:Prop:=∀ (S:Nat→Prop)(v:Value)(ns:List Nd)(w:World),Qn S w v ns →
 Calls Tryz.prog 21 #[.agg #[v]] w fun e w'=>e=.returned (.bool (qu ns))∧Below w.heap.size w w'
end
end Go.Proofs.YtnppmdpmippcoaaGreatDoor
namespace Go.Proofs.YtnppmdpmippcoaaGreatDoor
open Go.RowKit
set_option maxRecDepth 100000
theorem QJ {l:List Nd}{n k:Nat}(f:Nd→Nd)(h:n≠k):(l.modify n f)[k]?=l[k]?:=by simp[h]
theorem ZO {l:List Nd}{n:Nat}(f:Nd→Nd):(l.modify n f)[n]?=(l[n]?).map f:=by simp
structure Opn where
 kind:Int
 target:Int
 content:List Tr
 name:ByteArray
 s:ByteArray
structure Sg where
 nm:Option ByteArray
 attrs:List (ByteArray × ByteArray)
 first:List Tr
 last:List Tr
 bef:List Tr
 aft:List Tr
 gone:Bool
 val:Option ByteArray
def qU (l:List Tr):List (Nat ⊕ Tr):=l.map Sum.inr
def xv (g:Sg)(k:Nat):List (Nat ⊕ Tr):=if g.gone then [] else [Sum.inl k]
def qH (g:Sg)(k:Nat):List (Nat ⊕ Tr):=qU g.bef++(xv g k++qU g.aft)
def zG (σ:Nat→Sg)(n:Nat)(kids:List Int):List (Nat ⊕ Tr):=qU (σ n).first++(kids.flatMap (fun u=>qH (σ u.toNat) u.toNat)++qU (σ n).last)
def valT (s:ByteArray):Tr:=⟨true,s,[],[]⟩
def zd (σ:Nat→Sg)(n:Nat)(x:Nd):List (Nat ⊕ Tr):=if x.text then zG σ n x.kids else match (σ n).val with
 | some s=>[Sum.inr (valT s)]
 | none=>zG σ n x.kids
def sK (σ:Nat→Sg)(n:Nat)(x:Nd):ByteArray:=if x.text then (σ n).val.getD x.s else (σ n).nm.getD x.s
def Qs (N:Nat)(ns:List Nd)(u:Int):Nat ⊕ Tr→Prop
 | .inl k=>u=(k:Int)∧k<N
 | .inr t=>∃ (m d:Nat) (par:Int),u=(m:Int)∧N≤m∧Deep d t.kids∧Seg ns m (layF d t par m)
def zh (N:Nat)(ns:List Nd):List Int→List (Nat ⊕ Tr)→Prop
 | [],[]=>True
 | u::l,e::m=>Qs N ns u e∧zh N ns l m
 | _,_=>False
theorem zh.len {N:Nat}{ns:List Nd}:∀ {l:List Int}{m:List (Nat ⊕ Tr)},zh N ns l m→l.length=m.length:=by
 intro l
 induction l with
 | nil=>intro m h;cases m with|nil=>rfl|cons e m=>exact h.elim
 | cons u l ih=>intro m h;cases m with|nil=>exact h.elim|cons e m=>rw[List.length_cons,List.length_cons,ih h.2]
theorem zh.append {N:Nat}{ns:List Nd}:∀ {l l':List Int}{m m':List (Nat ⊕ Tr)},zh N ns l m→zh N ns l' m'→zh N ns (l++l') (m++m'):=by
 intro l
 induction l with
 | nil=>intro l' m m' h h';cases m with|nil=>exact h'|cons e m=>exact h.elim
 | cons u l ih=>intro l' m m' h h';cases m with|nil=>exact h.elim|cons e m=>exact ⟨h.1,ih h.2 h'⟩
theorem zh.split {N:Nat}{ns:List Nd}:∀ {m m':List (Nat ⊕ Tr)}{l:List Int},zh N ns l (m++m')→zh N ns (l.take m.length) m∧zh N ns (l.drop m.length) m':=by
 intro m
 induction m with
 | nil=>intro m' l h;exact ⟨by simp[zh],by simpa using h⟩
 | cons e m ih =>
   intro m' l h;cases l with
   | nil=>exact h.elim
   | cons u l =>
     obtain ⟨h1,h2⟩:=ih h.2;exact ⟨⟨h.1,h1⟩,h2⟩
theorem Seg.grow {ns L:List Nd}{a:Nat}(h:Seg ns a L)(X:List Nd):Seg (ns++X) a L:=by
 intro i x hx;have h1:=h i x hx;rw[List.getElem?_append_left (qg h1)];exact h1
theorem Seg.mod {ns L:List Nd}{a n:Nat}(h:Seg ns a L)(hn:n<a)(f:Nd→Nd):Seg (ns.modify n f) a L:=by
 intro i x hx;rw[QJ f (by omega)]
 exact h i x hx
theorem Qs.keep {N:Nat}{ns ns':List Nd}(hk:∀ a L,N≤a→Seg ns a L→Seg ns' a L){u:Int}{e:Nat ⊕ Tr}(h:Qs N ns u e):Qs N ns' u e:=by
 cases e with
 | inl k=>exact h
 | inr t=>obtain ⟨m,d,par,h1,h2,h3,h4⟩:=h;exact ⟨m,d,par,h1,h2,h3,hk m _ h2 h4⟩
theorem zh.keep {N:Nat}{ns ns':List Nd}(hk:∀ a L,N≤a→Seg ns a L→Seg ns' a L):∀ {l:List Int}{m:List (Nat ⊕ Tr)},zh N ns l m→zh N ns' l m:=by
 intro l
 induction l with
 | nil=>intro m h;cases m with|nil=>trivial|cons e m=>exact h.elim
 | cons u l ih=>intro m h;cases m with|nil=>exact h.elim|cons e m=>exact ⟨h.1.keep hk,ih h.2⟩
theorem zh.laid {N:Nat}{ns:List Nd}{d p:Nat}:∀ (l:List Tr)(a:Nat),N≤a→(∀ k∈l,Deep d k.kids)→Seg ns a (qp d (layF d) p a l)→zh N ns (qi d a l) (qU l):=by
 intro l
 induction l with
 | nil=>intro a _ _ _;trivial
 | cons k l ih =>
   intro a ha hd hs;rw[qp]at hs
   have hk:=hd k List.mem_cons_self;have hr:=hs.right;rw[layF_length d k p a hk]at hr
   exact ⟨⟨a,d,p,rfl,ha,hk,hs.left⟩,ih _ (by omega) (fun u hu=>hd u (List.mem_cons_of_mem _ hu)) hr⟩
structure Bch (ns0:List Nd) (σ:Nat→Sg) (ns:List Nd):Prop where
 len:ns0.length≤ns.length
 each:∀ (n:Nat) (x:Nd),ns0[n]?=some x→∃ y,ns[n]?=some y∧y.text=x.text∧y.s=sK σ n x∧y.attrs=(σ n).attrs∧y.parent=x.parent∧zh ns0.length ns y.kids (zd σ n x)
def sg0 (x:Nd):Sg:=⟨none,x.attrs,[],[],[],[],false,none⟩
def zE (ns:List Nd)(n:Nat):Sg:=match ns[n]? with
 | some x=>sg0 x
 | none=>⟨none,[],[],[],[],[],false,none⟩
theorem Bch.start {ns:List Nd}(hg:qu ns=true):Bch ns (zE ns) ns:=by
 refine ⟨nR9 _,fun n x hx=>⟨x,hx,rfl,?_,?_,rfl,?_⟩⟩
 · unfold sK zE;rw[hx];cases x.text<;>rfl
 · unfold zE;rw[hx];rfl
 · have hf := qV hg hx;have hs:zE ns n=sg0 x:=by unfold zE;rw[hx]
   have hall:zd (zE ns) n x=zG (zE ns) n x.kids:=by
    unfold zd;rw[hs];cases x.text<;>rfl
   rw[hall];unfold zG;rw[hs]
   show zh _ _ _ ([]++(_++[]))
   rw[List.nil_append,List.append_nil]
   have:∀ l:List Int,(∀ u∈l,∃ k:Nat,u=(k:Int)∧k<ns.length)→zh ns.length ns l (l.flatMap fun u=>qH (zE ns u.toNat) u.toNat):=by
    intro l
    induction l with
    | nil=>intro _;trivial
    | cons u l ih =>
      intro h;obtain ⟨k,rfl,hk⟩:=h u List.mem_cons_self;have hk2:zE ns (k:Int).toNat=sg0 (ns[k]):=by unfold zE;simp[hk]
      rw[List.flatMap_cons,hk2];exact ⟨⟨rfl,hk⟩,ih (fun v hv=>h v (List.mem_cons_of_mem _ hv))⟩
   exact this x.kids (fun u hu=>by obtain ⟨k,_,h1,_,h3,_⟩:=hf.kids u hu;exact ⟨k,h1,h3⟩)
theorem Bch.mod {ns0 ns:List Nd}{σ σ':Nat→Sg}(h:Bch ns0 σ ns){n:Nat}{x:Nd}(hx:ns0[n]?=some x)(f:Nd→Nd)(hσ:∀ k y,ns0[k]?=some y→k≠n→sK σ' k y=sK σ k y∧(σ' k).attrs=(σ k).attrs)(hall:∀ k y,ns0[k]?=some y→zd σ' k y=zd σ k y)
 (hf:∀ y:Nd,y.text=x.text→y.s=sK σ n x→y.attrs=(σ n).attrs→(f y).text=y.text∧(f y).s=sK σ' n x∧(f y).attrs=(σ' n).attrs∧(f y).parent=y.parent∧(f y).kids=y.kids):Bch ns0 σ' (ns.modify n f):=by
 have hn:=qg hx;have hk:∀ a L,ns0.length≤a→Seg ns a L→Seg (ns.modify n f) a L:=fun a L ha hs=>hs.mod (by omega) f
 refine ⟨by rw[List.length_modify];exact h.len,fun k z hz=>?_⟩
 obtain ⟨y,h1,h2,h3,h4,h5,h6⟩:=h.each k z hz
 by_cases hkn:k=n
 · subst hkn;rw[hx]at hz
   obtain rfl:=Option.some.inj hz;obtain ⟨g1,g2,g3,g4,g5⟩:=hf y h2 h3 h4;refine ⟨f y,by rw[ZO,h1];rfl,by rw[g1,h2],g2,g3,by rw[g4,h5],?_⟩
   rw[g5,hall k x hx];exact h6.keep hk
 · obtain ⟨e1, e2⟩ := hσ k z hz hkn;refine ⟨y,by rw[QJ _ (fun e=>hkn e.symm)];exact h1,h2,by rw[e1];exact h3,by rw[e2];exact h4,h5,?_⟩
   rw[hall k z hz];exact h6.keep hk
def zg (d:Nat)(ns:List Nd)(p at':Nat)(l:List Tr):List Nd :=
 (ns++qp d (layF d) p ns.length l).modify p (fun y=>{ y with kids:=y.kids.take at'++(qi d ns.length l++y.kids.drop at') })
theorem Bch.put {ns0 ns:List Nd}{σ σ':Nat→Sg}(h:Bch ns0 σ ns){p:Nat}{x:Nd}(hx:ns0[p]?=some x){d:Nat}{l:List Tr}(hd:∀ k∈l,Deep d k.kids){at':Nat}{E F:List (Nat ⊕ Tr)}
 (h0:zd σ p x=E++F) (h1:zd σ' p x=E++(qU l++F)) (hE:at'=E.length) (hall:∀ k y,ns0[k]?=some y→k≠p→zd σ' k y=zd σ k y) (hσ:∀ k y,ns0[k]?=some y→sK σ' k y=sK σ k y∧(σ' k).attrs=(σ k).attrs):Bch ns0 σ' (zg d ns p at' l):=by
 have hn:=qg hx;have hl:=h.len;have hk:∀ a L,ns0.length≤a→Seg ns a L→Seg (zg d ns p at' l) a L:=fun a L ha hs=>(hs.grow _).mod (by omega) _
 refine ⟨by unfold zg;rw[List.length_modify,List.length_append];omega,fun k z hz=>?_⟩
 obtain ⟨y,g1,g2,g3,g4,g5,g6⟩:=h.each k z hz;obtain ⟨e1,e2⟩:=hσ k z hz;have hkl:k<ns.length:=qg g1
 by_cases hkp:k=p
 · subst hkp;rw[hx]at hz
   obtain rfl:=Option.some.inj hz;refine ⟨{ y with kids:=y.kids.take at'++(qi d ns.length l++y.kids.drop at') },?_,g2,by rw[e1];exact g3,by rw[e2];exact g4,g5,?_⟩
   · unfold zg;rw[ZO,List.getElem?_append_left hkl,g1];rfl
   · rw[h1];rw[h0]at g6
     obtain ⟨s1,s2⟩:=g6.split;rw[←hE]at s1 s2
     refine (s1.keep hk).append (zh.append ?_ (s2.keep hk));refine zh.laid (p:=k) l ns.length hl hd ?_;refine Seg.mod ?_ (by omega) _
     intro i z hz;rw[List.getElem?_append_right (by omega),show ns.length+i-ns.length=i by omega]
     exact hz
 · refine ⟨y, ?_, g2, by rw[e1];exact g3, by rw[e2];exact g4, g5, ?_⟩
   · unfold zg;rw[QJ _ (fun e=>hkp e.symm),List.getElem?_append_left hkl];exact g1
   · rw[hall k z hz hkp];exact g6.keep hk
def Q4 (ns:List Nd)(p at':Nat):List Nd:=ns.modify p (fun y=>{ y with kids:=y.kids.take at'++y.kids.drop (at'+1) })
theorem Bch.out {ns0 ns:List Nd}{σ σ':Nat→Sg}(h:Bch ns0 σ ns){p:Nat}{x:Nd}(hx:ns0[p]?=some x){at':Nat}{e:Nat ⊕ Tr}{E F:List (Nat ⊕ Tr)}
 (h0:zd σ p x=E++(e::F)) (h1:zd σ' p x=E++F) (hE:at'=E.length) (hall:∀ k y,ns0[k]?=some y→k≠p→zd σ' k y=zd σ k y) (hσ:∀ k y,ns0[k]?=some y→sK σ' k y=sK σ k y∧(σ' k).attrs=(σ k).attrs):Bch ns0 σ' (Q4 ns p at'):=by
 have hn:=qg hx;have hk:∀ a L,ns0.length≤a→Seg ns a L→Seg (Q4 ns p at') a L:=fun a L ha hs=>hs.mod (by omega) _
 refine ⟨by unfold Q4;rw[List.length_modify];exact h.len,fun k z hz=>?_⟩
 obtain ⟨y,g1,g2,g3,g4,g5,g6⟩:=h.each k z hz;obtain ⟨e1,e2⟩:=hσ k z hz
 by_cases hkp:k=p
 · subst hkp;rw[hx]at hz
   obtain rfl:=Option.some.inj hz;refine ⟨{ y with kids:=y.kids.take at'++y.kids.drop (at'+1) },?_,g2,by rw[e1];exact g3,by rw[e2];exact g4,g5,?_⟩
   · unfold Q4;rw[ZO,g1];rfl
   · rw[h1];rw[h0]at g6
     obtain ⟨s1,s2⟩:=g6.split;rw[←hE]at s1 s2
     refine (s1.keep hk).append ?_;cases hq:y.kids.drop at' with
     | nil=>rw[hq]at s2;exact s2.elim
     | cons u r =>
       rw[hq]at s2
       rw[←List.drop_drop,hq,List.drop_succ_cons,List.drop_zero];exact s2.2.keep hk
 · refine ⟨y, ?_, g2, by rw[e1];exact g3, by rw[e2];exact g4, g5, ?_⟩
   · unfold Q4;rw[QJ _ (fun e=>hkp e.symm)];exact g1
   · rw[hall k z hz hkp];exact g6.keep hk
def Ze (ns:List Nd)(n:Nat)(s:ByteArray):List Nd:=(ns++[(⟨true,s,[],(n:Int),[]⟩:Nd)]).modify n (fun y=>{ y with kids:=[(ns.length:Int)] })
theorem Bch.val {ns0 ns:List Nd}{σ σ':Nat→Sg}(h:Bch ns0 σ ns){n:Nat}{x:Nd}(hx:ns0[n]?=some x){s:ByteArray}(h1:zd σ' n x=[Sum.inr (valT s)])(hall:∀ k y,ns0[k]?=some y→k≠n→zd σ' k y=zd σ k y)(hσ:∀ k y,ns0[k]?=some y→sK σ' k y=sK σ k y∧(σ' k).attrs=(σ k).attrs):Bch ns0 σ' (Ze ns n s):=by
 have hn:=qg hx;have hl:=h.len;have hk:∀ a L,ns0.length≤a→Seg ns a L→Seg (Ze ns n s) a L:=fun a L ha hs=>(hs.grow _).mod (by omega) _
 refine ⟨by unfold Ze;rw[List.length_modify,List.length_append];omega,fun k z hz=>?_⟩
 obtain ⟨y,g1,g2,g3,g4,g5,g6⟩:=h.each k z hz;obtain ⟨e1,e2⟩:=hσ k z hz;have hkl:k<ns.length:=qg g1
 by_cases hkp:k=n
 · subst hkp;rw[hx]at hz
   obtain rfl:=Option.some.inj hz;refine ⟨{ y with kids:=[(ns.length:Int)] },?_,g2,by rw[e1];exact g3,by rw[e2];exact g4,g5,?_⟩
   · unfold Ze;rw[ZO,List.getElem?_append_left hkl,g1];rfl
   · rw[h1];refine ⟨⟨ns.length,0,(k:Int),rfl,hl,rfl,?_⟩,trivial⟩;refine Seg.mod ?_ (by omega) _
     intro i z hz;rw[List.getElem?_append_right (by omega),show ns.length+i-ns.length=i by omega]
     exact hz
 · refine ⟨y, ?_, g2, by rw[e1];exact g3, by rw[e2];exact g4, g5, ?_⟩
   · unfold Ze;rw[QJ _ (fun e=>hkp e.symm),List.getElem?_append_left hkl];exact g1
   · rw[hall k z hz hkp];exact g6.keep hk
def bodyF:Nat→List Nd→(Nat→Sg)→Nat→Tr
 | 0,_,_,_=>⟨false,⟨#[]⟩,[],[]⟩
 | f + 1, ns0, σ, n => match ns0[n]? with
   | none=>⟨false,⟨#[]⟩,[],[]⟩
   | some x=>⟨x.text,sK σ n x,(σ n).attrs,(zd σ n x).map (Sum.elim (fun k=>bodyF f ns0 σ k) id)⟩
theorem Z7 {ns0:List Nd}(hg:qu ns0=true){σ:Nat→Sg}{n k:Nat}{x:Nd}(hx:ns0[n]?=some x)(hk:Sum.inl k∈zd σ n x):n<k∧k<ns0.length:=by
 have hin:Sum.inl k∈zG σ n x.kids:=by
  unfold zd at hk
  split at hk
  · exact hk
  · split at hk
    · simp at hk
    · exact hk
 unfold zG qU at hin
 simp only[List.mem_append,List.mem_map,List.mem_flatMap]at hin
 rcases hin with ⟨_,_,h⟩|⟨u,hu,h⟩|⟨_,_,h⟩
 · cases h
 · obtain ⟨j, y, rfl, h1, h2, _⟩ := (qV hg hx).kids u hu;unfold qH qU xv at h
   simp only[List.mem_append,List.mem_map]at h
   rcases h with ⟨_,_,h⟩|h|⟨_,_,h⟩
   · cases h
   · split at h
     · simp at h
     · simp at h
       subst h;exact ⟨h1,h2⟩
   · cases h
 · cases h
theorem Jk {ns0 ns:List Nd}{σ:Nat→Sg}(hg:qu ns0=true)(h:Bch ns0 σ ns):∀ (f F n:Nat),n<ns0.length→ns0.length≤n+f→ns.length≤n+F→growF F ns n=bodyF f ns0 σ n:=by
 intro f
 induction f with
 | zero=>intro F n h1 h2;omega
 | succ f ih =>
   intro F n hn hf hF;have hl:=h.len;obtain ⟨F,rfl⟩:∃ F',F=F'+1:=⟨F-1,by omega⟩
   obtain ⟨x,hx⟩:∃ x,ns0[n]?=some x:=⟨ns0[n],by simp[hn]⟩
   obtain ⟨y,g1,g2,g3,g4,g5,g6⟩:=h.each n x hx;rw[growF,g1,bodyF,hx];simp only;rw[g2,g3,g4]
   congr 1
   have hall:=fun k=>Z7 (k:=k) hg (σ:=σ) hx
   have key:∀ (l:List Int) (m:List (Nat ⊕ Tr)),zh ns0.length ns l m→(∀ k,Sum.inl k∈m→n<k∧k<ns0.length)→(l.map fun k=>growF F ns k.toNat)=m.map (Sum.elim (fun k=>bodyF f ns0 σ k) id):=by
    intro l
    induction l with
    | nil=>intro m hr _;cases m with|nil=>rfl|cons e m=>exact hr.elim
    | cons u l ihl =>
      intro m hr hm;cases m with
      | nil=>exact hr.elim
      | cons e m =>
        rw[List.map_cons,List.map_cons,ihl m hr.2 (fun k hk=>hm k (List.mem_cons_of_mem _ hk))]
        congr 1
        cases e with
        | inl k =>
          obtain ⟨rfl,hk⟩:=hr.1;have h1:=hm k List.mem_cons_self;exact ih F k hk (by omega) (by omega)
        | inr t =>
          obtain ⟨m',d,par,rfl,h1,h2,h3⟩:=hr.1;refine grow_lay d t F ns par m' h2 h3 ?_;have h4:=layF_length d t par m' h2;have h5:0<cnt (d+1) [t]:=by rw[qt];omega
          obtain ⟨z,hz⟩:∃ z,(layF d t par m')[cnt (d+1) [t]-1]?=some z:=⟨(layF d t par m')[cnt (d+1) [t]-1]'(by omega),by simp⟩
          have h6:=qg (h3 _ z hz);omega
   exact key y.kids _ g6 hall
def upd (σ:Nat→Sg)(n:Nat)(g:Sg→Sg):Nat→Sg:=fun k=>if k=n then g (σ k) else σ k
theorem zx (σ:Nat→Sg)(n:Nat)(g:Sg→Sg):upd σ n g n=g (σ n):=by simp[upd]
theorem qX {σ:Nat→Sg}{n k:Nat}(g:Sg→Sg)(h:k≠n):upd σ n g k=σ k:=by simp[upd,h]
def yJ (l:List (ByteArray × ByteArray))(name v:ByteArray):List (ByteArray × ByteArray) :=
 l.filter (fun a=>Op.bytesLess a.1.toList name.toList)++(name,v)::l.filter (fun a=>Op.bytesLess name.toList a.1.toList)
def yM (l:List (ByteArray × ByteArray))(name:ByteArray):List (ByteArray × ByteArray) :=
 l.filter (fun a=>Op.bytesLess a.1.toList name.toList)++l.filter (fun a=>Op.bytesLess name.toList a.1.toList)
def Kq (o:Opn)(g:Sg):Sg:={ g with nm:=some o.name }
def Vj (o:Opn)(g:Sg):Sg:={ g with attrs:=yJ g.attrs o.name o.s }
def J5 (o:Opn)(g:Sg):Sg:={ g with attrs:=yM g.attrs o.name }
def x6 (o:Opn)(g:Sg):Sg:={ g with bef:=g.bef++o.content }
def j9 (o:Opn)(g:Sg):Sg:={ g with last:=g.last++o.content }
def y8 (o:Opn)(g:Sg):Sg:={ g with first:=o.content++g.first }
def Xu (o:Opn)(g:Sg):Sg:={ g with aft:=o.content++g.aft }
def jg (g:Sg):Sg:={ g with gone:=true }
def Xv (o:Opn)(g:Sg):Sg:=jg (x6 o g)
def Yt (o:Opn)(g:Sg):Sg:={ g with val:=some o.s }
theorem YJ {σ τ:Nat→Sg}{n:Nat}{l:List Int}(h1:(τ n).first=(σ n).first)(h2:(τ n).last=(σ n).last)(h3:∀ u∈l,qH (τ u.toNat) u.toNat=qH (σ u.toNat) u.toNat):zG τ n l=zG σ n l:=by
 unfold zG;rw[h1,h2]
 congr 2
 induction l with
 | nil=>rfl
 | cons u l ih =>
   rw[List.flatMap_cons,List.flatMap_cons,h3 u List.mem_cons_self,ih (fun v hv=>h3 v (List.mem_cons_of_mem _ hv))]
theorem jo {σ τ:Nat→Sg}{n:Nat}{x:Nd}(h1:(τ n).first=(σ n).first)(h2:(τ n).last=(σ n).last)(h3:∀ u∈x.kids,qH (τ u.toNat) u.toNat=qH (σ u.toNat) u.toNat)(h4:(τ n).val=(σ n).val):zd τ n x=zd σ n x:=by
 unfold zd;rw[YJ h1 h2 h3,h4]
theorem KQ {σ τ:Nat→Sg}{n:Nat}{x:Nd}(h1:(τ n).nm=(σ n).nm)(h2:(τ n).val=(σ n).val):sK τ n x=sK σ n x:=by unfold sK;rw[h1,h2]
theorem Bch.ren {ns0 ns:List Nd}{σ:Nat→Sg}(h:Bch ns0 σ ns){n:Nat}{x:Nd}(hx:ns0[n]?=some x)(ht:x.text=false)(o:Opn):Bch ns0 (upd σ n (Kq o)) (ns.modify n fun y=>{ y with s:=o.name }):=by
 refine h.mod hx _ (fun k y _ hk=>⟨by unfold sK;rw[qX _ hk],by rw[qX _ hk]⟩) (fun k y _=>?_) (fun y _ _ h4=>⟨rfl,?_,by rw[zx];exact h4,rfl,rfl⟩)
 · refine jo ?_ ?_ (fun u _ => ?_) ?_
   · unfold upd;split<;>rfl
   · unfold upd;split<;>rfl
   · unfold upd;split<;>rfl
   · unfold upd;split<;>rfl
 · unfold sK;rw[ht,zx];rfl
theorem Bch.attr {ns0 ns:List Nd}{σ:Nat→Sg}(h:Bch ns0 σ ns){n:Nat}{x:Nd}(hx:ns0[n]?=some x)(f:List (ByteArray × ByteArray)→List (ByteArray × ByteArray)):Bch ns0 (upd σ n fun g=>{ g with attrs:=f g.attrs }) (ns.modify n fun y=>{ y with attrs:=f y.attrs }):=by
 refine h.mod hx _ (fun k y _ hk=>⟨by unfold sK;rw[qX _ hk],by rw[qX _ hk]⟩) (fun k y _=>?_) (fun y _ h3 h4=>⟨rfl,?_,by rw[zx,←h4],rfl,rfl⟩)
 · refine jo ?_ ?_ (fun u _ => ?_) ?_
   · unfold upd;split<;>rfl
   · unfold upd;split<;>rfl
   · unfold upd;split<;>rfl
   · unfold upd;split<;>rfl
 · rw[h3];unfold sK;rw[zx]
theorem Bch.first {ns0 ns:List Nd}{σ:Nat→Sg}(h:Bch ns0 σ ns){n:Nat}{x:Nd}(hx:ns0[n]?=some x)(hv:(σ n).val=none)(o:Opn){d:Nat}(hd:∀ k∈o.content,Deep d k.kids):Bch ns0 (upd σ n (y8 o)) (zg d ns n 0 o.content):=by
 have hp:∀ k,qH (upd σ n (y8 o) k) k=qH (σ k) k:=fun k=>by unfold upd;split<;>rfl
 have hall:zd σ n x=[]++zG σ n x.kids:=by unfold zd;rw[hv];cases x.text<;>rfl
 have hall2:zd (upd σ n (y8 o)) n x=[]++(qU o.content++zG σ n x.kids):=by
  have e:zd (upd σ n (y8 o)) n x=zG (upd σ n (y8 o)) n x.kids:=by
   unfold zd;rw[zx]
   show (if x.text=true then _ else match (σ n).val with|some s=>_|none=>_)=_
   rw[hv];cases x.text<;>rfl
  rw[e];unfold zG;rw[zx]
  show qU (o.content++(σ n).first)++(x.kids.flatMap (fun u=>qH (upd σ n (y8 o) u.toNat) u.toNat)++qU (σ n).last)=_
  simp only[hp];unfold qU;rw[List.map_append,List.append_assoc,List.nil_append]
 refine h.put hx hd hall hall2 rfl (fun k y _ hk=>jo (by rw[qX _ hk]) (by rw[qX _ hk]) (fun u _=>hp _) (by rw[qX _ hk])) (fun k y _=>⟨KQ ?_ ?_,?_⟩)
 · unfold upd;split<;>rfl
 · unfold upd;split<;>rfl
 · unfold upd;split<;>rfl
theorem Bch.last {ns0 ns:List Nd}{σ:Nat→Sg}(h:Bch ns0 σ ns){n:Nat}{x y:Nd}(hx:ns0[n]?=some x)(hy:ns[n]?=some y)(hv:(σ n).val=none)(o:Opn){d:Nat}(hd:∀ k∈o.content,Deep d k.kids):Bch ns0 (upd σ n (j9 o)) (zg d ns n y.kids.length o.content):=by
 have hp:∀ k,qH (upd σ n (j9 o) k) k=qH (σ k) k:=fun k=>by unfold upd;split<;>rfl
 have hall:zd σ n x=zG σ n x.kids++[]:=by unfold zd;rw[hv,List.append_nil];cases x.text<;>rfl
 have hall2:zd (upd σ n (j9 o)) n x=zG σ n x.kids++(qU o.content++[]):=by
  have e:zd (upd σ n (j9 o)) n x=zG (upd σ n (j9 o)) n x.kids:=by
   unfold zd;rw[zx]
   show (if x.text=true then _ else match (σ n).val with|some s=>_|none=>_)=_
   rw[hv];cases x.text<;>rfl
  rw[e];unfold zG;rw[zx]
  show qU (σ n).first++(x.kids.flatMap (fun u=>qH (upd σ n (j9 o) u.toNat) u.toNat)++qU ((σ n).last++o.content))=_
  simp only[hp];unfold qU;rw[List.map_append,List.append_nil,List.append_assoc,List.append_assoc]
 refine h.put hx hd hall hall2 ?_ (fun k y _ hk=>jo (by rw[qX _ hk]) (by rw[qX _ hk]) (fun u _=>hp _) (by rw[qX _ hk])) (fun k y _=>⟨KQ ?_ ?_,?_⟩)
 · obtain ⟨y', g1, _, _, _, _, g6⟩ := h.each n x hx;rw[hy]at g1
   obtain rfl:=Option.some.inj g1;rw[g6.len,hall,List.append_nil]
 · unfold upd;split<;>rfl
 · unfold upd;split<;>rfl
 · unfold upd;split<;>rfl
structure ym (ns0:List Nd) (σ:Nat→Sg) (n p:Nat) (x:Nd) (A C:List Int):Prop where
 par:ns0[p]?=some x
 kids:x.kids=A++(n:Int)::C
 ahead:∀ u∈A,u.toNat≠n
 behind:∀ u∈C,u.toNat≠n
 none:(σ p).val=none
 other:∀ k y,ns0[k]?=some y→k≠p→∀ u∈y.kids,u.toNat≠n
 ne:p≠n
def fmK (σ:Nat→Sg)(l:List Int):List (Nat ⊕ Tr):=l.flatMap fun u=>qH (σ u.toNat) u.toNat
theorem Ko {σ:Nat→Sg}{n:Nat}(g:Sg→Sg){l:List Int}(h:∀ u∈l,u.toNat≠n):fmK (upd σ n g) l=fmK σ l:=by
 unfold fmK
 induction l with
 | nil=>rfl
 | cons u l ih=>rw[List.flatMap_cons,List.flatMap_cons,qX g (h u List.mem_cons_self),ih (fun v hv=>h v (List.mem_cons_of_mem _ hv))]
theorem ym.all {ns0:List Nd}{σ:Nat→Sg}{n p:Nat}{x:Nd}{A C:List Int}(h:ym ns0 σ n p x A C)(g:Sg→Sg):zd (upd σ n g) p x=qU (σ p).first++(fmK σ A++(qH (g (σ n)) n++(fmK σ C++qU (σ p).last))):=by
 have hpn:=h.ne
 have e:zd (upd σ n g) p x=zG (upd σ n g) p x.kids:=by
  unfold zd;rw[qX g hpn,h.none];cases x.text<;>rfl
 rw[e];unfold zG;rw[qX g hpn,h.kids]
 have e2:(A++(n:Int)::C).flatMap (fun u=>qH (upd σ n g u.toNat) u.toNat)=fmK σ A++(qH (g (σ n)) n++fmK σ C):=by
  rw[List.flatMap_append,List.flatMap_cons]
  show fmK (upd σ n g) A++(qH (upd σ n g (n:Int).toNat) (n:Int).toNat++fmK (upd σ n g) C)=_
  rw[Ko g h.ahead,Ko g h.behind,Int.toNat_natCast,zx]
 rw[e2];simp only[List.append_assoc]
theorem ym.self {ns0:List Nd}{σ:Nat→Sg}{n p:Nat}{x:Nd}{A C:List Int}(h:ym ns0 σ n p x A C):zd σ p x=qU (σ p).first++(fmK σ A++(qH (σ n) n++(fmK σ C++qU (σ p).last))):=by
 have:=h.all id;have e:upd σ n id=σ:=by funext k;unfold upd;split<;>rfl
 rw[e]at this
 exact this
theorem ym.rest {ns0:List Nd}{σ:Nat→Sg}{n p:Nat}{x:Nd}{A C:List Int}(h:ym ns0 σ n p x A C){g:Sg→Sg}(g1:∀ s,(g s).first=s.first)(g2:∀ s,(g s).last=s.last)(g3:∀ s,(g s).val=s.val)(g4:∀ s,(g s).nm=s.nm)(g5:∀ s,(g s).attrs=s.attrs) :
 (∀ k y,ns0[k]?=some y→k≠p→zd (upd σ n g) k y=zd σ k y)∧(∀ k y,ns0[k]?=some y→sK (upd σ n g) k y=sK σ k y∧(upd σ n g k).attrs=(σ k).attrs):=by
 refine ⟨fun k y hy hk=>jo ?_ ?_ (fun u hu=>by rw[qX g (h.other k y hy hk u hu)]) ?_,fun k y _=>⟨KQ ?_ ?_,?_⟩⟩
 · unfold upd;split
   · exact g1 _
   · rfl
 · unfold upd;split
   · exact g2 _
   · rfl
 · unfold upd;split
   · exact g3 _
   · rfl
 · unfold upd;split
   · exact g4 _
   · rfl
 · unfold upd;split
   · exact g3 _
   · rfl
 · unfold upd;split
   · exact g5 _
   · rfl
def zJ (σ:Nat→Sg)(n p:Nat)(A:List Int):List (Nat ⊕ Tr):=qU (σ p).first++(fmK σ A++qU (σ n).bef)
theorem Bch.bef {ns0 ns:List Nd}{σ:Nat→Sg}(h:Bch ns0 σ ns){n p:Nat}{x:Nd}{A C:List Int}(hs:ym ns0 σ n p x A C)(o:Opn){d:Nat}(hd:∀ k∈o.content,Deep d k.kids):Bch ns0 (upd σ n (x6 o)) (zg d ns p (zJ σ n p A).length o.content):=by
 obtain ⟨r1,r2⟩:=hs.rest (g:=x6 o) (fun _=>rfl) (fun _=>rfl) (fun _=>rfl) (fun _=>rfl) (fun _=>rfl)
 refine h.put hs.par hd (E:=zJ σ n p A) (F:=xv (σ n) n++(qU (σ n).aft++(fmK σ C++qU (σ p).last))) ?_ ?_ rfl r1 r2
 · rw[hs.self];unfold zJ qH;simp only[List.append_assoc]
 · rw[hs.all]
   show qU (σ p).first++(fmK σ A++((qU ((σ n).bef++o.content)++(xv (σ n) n++qU (σ n).aft))++_))=_
   unfold zJ qU;simp only[List.map_append,List.append_assoc]
theorem Bch.aft {ns0 ns:List Nd}{σ:Nat→Sg}(h:Bch ns0 σ ns){n p:Nat}{x:Nd}{A C:List Int}(hs:ym ns0 σ n p x A C)(hgo:(σ n).gone=false)(o:Opn){d:Nat}(hd:∀ k∈o.content,Deep d k.kids):Bch ns0 (upd σ n (Xu o)) (zg d ns p ((zJ σ n p A).length+1) o.content):=by
 obtain ⟨r1,r2⟩:=hs.rest (g:=Xu o) (fun _=>rfl) (fun _=>rfl) (fun _=>rfl) (fun _=>rfl) (fun _=>rfl)
 refine h.put hs.par hd (E:=zJ σ n p A++[Sum.inl n]) (F:=qU (σ n).aft++(fmK σ C++qU (σ p).last)) ?_ ?_ (by rw[List.length_append];rfl) r1 r2
 · rw[hs.self];unfold zJ qH xv;rw[hgo];simp[List.append_assoc]
 · rw[hs.all]
   show qU (σ p).first++(fmK σ A++((qU (σ n).bef++(xv (σ n) n++qU (o.content++(σ n).aft)))++_))=_
   unfold zJ qU xv;rw[hgo];simp[List.append_assoc]
theorem Bch.gone {ns0 ns:List Nd}{σ:Nat→Sg}(h:Bch ns0 σ ns){n p:Nat}{x:Nd}{A C:List Int}(hs:ym ns0 σ n p x A C)(hgo:(σ n).gone=false):Bch ns0 (upd σ n jg) (Q4 ns p (zJ σ n p A).length):=by
 obtain ⟨r1,r2⟩:=hs.rest (g:=jg) (fun _=>rfl) (fun _=>rfl) (fun _=>rfl) (fun _=>rfl) (fun _=>rfl)
 refine h.out hs.par (E:=zJ σ n p A) (e:=Sum.inl n) (F:=qU (σ n).aft++(fmK σ C++qU (σ p).last)) ?_ ?_ rfl r1 r2
 · rw[hs.self];unfold zJ qH xv;rw[hgo];simp[List.append_assoc]
 · rw[hs.all]
   show qU (σ p).first++(fmK σ A++((qU (σ n).bef++([]++qU (σ n).aft))++_))=_
   unfold zJ;simp[List.append_assoc]
theorem Bch.valE {ns0 ns:List Nd}{σ:Nat→Sg}(h:Bch ns0 σ ns){n:Nat}{x:Nd}(hx:ns0[n]?=some x)(ht:x.text=false)(o:Opn):Bch ns0 (upd σ n (Yt o)) (Ze ns n o.s):=by
 have hp:∀ k,qH (upd σ n (Yt o) k) k=qH (σ k) k:=fun k=>by unfold upd;split<;>rfl
 refine h.val hx (s:=o.s) ?_ (fun k y _ hk=>jo (by rw[qX _ hk]) (by rw[qX _ hk]) (fun u _=>hp _) (by rw[qX _ hk])) (fun k y hy=>⟨?_,?_⟩)
 · unfold zd;rw[ht,zx];rfl
 · by_cases hk : k = n
   · subst hk;rw[hx]at hy
     obtain rfl:=Option.some.inj hy;unfold sK;rw[ht,zx];rfl
   · unfold sK;rw[qX _ hk]
 · unfold upd;split<;>rfl
theorem Bch.valT {ns0 ns:List Nd}{σ:Nat→Sg}(h:Bch ns0 σ ns){n:Nat}{x:Nd}(hx:ns0[n]?=some x)(ht:x.text=true)(o:Opn):Bch ns0 (upd σ n (Yt o)) (ns.modify n fun y=>{ y with s:=o.s }):=by
 have hp:∀ k,qH (upd σ n (Yt o) k) k=qH (σ k) k:=fun k=>by unfold upd;split<;>rfl
 refine h.mod hx _ (fun k y _ hk=>⟨by unfold sK;rw[qX _ hk],by rw[qX _ hk]⟩) (fun k y hy=>?_) (fun y _ _ h4=>⟨rfl,?_,by rw[zx];exact h4,rfl,rfl⟩)
 · by_cases hk : k = n
   · subst hk;rw[hx]at hy
     obtain rfl:=Option.some.inj hy;unfold zd;rw[ht];exact YJ (by rw[zx];rfl) (by rw[zx];rfl) (fun u _=>hp _)
   · exact jo (by rw[qX _ hk]) (by rw[qX _ hk]) (fun u _=>hp _) (by rw[qX _ hk])
 · unfold sK;rw[ht,zx];rfl
theorem zh.get {N:Nat}{ns:List Nd}:∀ {l:List Int}{m:List (Nat ⊕ Tr)},zh N ns l m→∀ (i:Nat)(u:Int),l[i]?=some u→∃ e,m[i]?=some e∧Qs N ns u e:=by
 intro l
 induction l with
 | nil=>intro m _ i u h;simp at h
 | cons v l ih =>
   intro m h i u hu;cases m with
   | nil=>exact h.elim
   | cons e m =>
     cases i with
     | zero=>simp at hu;subst hu;exact ⟨e,rfl,h.1⟩
     | succ i=>exact ih h.2 i u (by simpa using hu)
theorem Qs.own {N:Nat}{ns:List Nd}{n:Nat}{e:Nat ⊕ Tr}(hn:n<N)(h:Qs N ns (n:Int) e):e=Sum.inl n:=by
 cases e with
 | inl k=>obtain ⟨h1,_⟩:=h;rw[show n=k by omega]
 | inr t=>obtain ⟨m,_,_,h1,h2,_⟩:=h;omega
theorem zh.index {N:Nat}{ns:List Nd}{l:List Int}{E F:List (Nat ⊕ Tr)}{n:Nat}(h:zh N ns l (E++Sum.inl n::F))(hn:n<N)(hE:Sum.inl n∉E):l.findIdx (fun u=>u==(n:Int))=E.length∧E.length<l.length:=by
 have hl:=h.len;rw[List.length_append,List.length_cons]at hl
 refine ⟨?_,by omega⟩
 have hlt:E.length<l.length:=by omega
 have h1:l[E.length]?=some (n:Int):=by
  obtain ⟨u,hu⟩:∃ u,l[E.length]?=some u:=⟨l[E.length],by simp[hlt]⟩
  obtain ⟨e,he,hk⟩:=h.get _ u hu;rw[List.getElem?_append_right (nR9 _),Nat.sub_self]at he
  simp at he
  subst he;rw[hu,hk.1]
 have h2:∀ j,j<E.length→l[j]?≠some (n:Int):=by
  intro j hj e;obtain ⟨e',he,hk⟩:=h.get j _ e;rw[List.getElem?_append_left hj]at he
  rw[hk.own hn]at he
  exact hE (List.mem_of_getElem? he)
 rw[List.findIdx_eq hlt];refine ⟨?_,fun j hj=>?_⟩
 · rw[List.getElem?_eq_getElem hlt]at h1
   rw[Option.some.inj h1];simp
 · have hjl : j < l.length := by omega
   have:=h2 j hj;rw[List.getElem?_eq_getElem hjl]at this
   simp only[beq_eq_false_iff_ne];exact fun e=>this (by rw[e])
theorem zh.no {N:Nat}{ns:List Nd}{l:List Int}{m:List (Nat ⊕ Tr)}{n:Nat}(h:zh N ns l m)(hn:n<N)(hm:Sum.inl n∉m):¬ l.findIdx (fun u=>u==(n:Int))<l.length:=by
 intro hlt;have h1:=List.findIdx_getElem (w:=hlt);obtain ⟨e,he,hk⟩:=h.get _ _ (List.getElem?_eq_getElem hlt);have h2:l[l.findIdx (fun u=>u==(n:Int))]=(n:Int):=by simpa using h1
 rw[h2]at hk
 rw[hk.own hn]at he
 exact hm (List.mem_of_getElem? he)
def QO (ns:List Nd)(n:Nat):Nat:=match ns[n]? with
 | some y=>y.parent.toNat
 | none=>0
def yZ (ns:List Nd)(p:Nat):List Int:=match ns[p]? with
 | some y=>y.kids
 | none=>[]
def atN (ns:List Nd)(n:Nat):Nat:=(yZ ns (QO ns n)).findIdx (fun u=>u==(n:Int))
def Qa (ns:List Nd)(n:Nat):List Nd:=if atN ns n<(yZ ns (QO ns n)).length then Q4 ns (QO ns n) (atN ns n) else ns
def Qy (d:Nat)(ns:List Nd)(n:Nat)(l:List Tr):List Nd:=zg d ns (QO ns n) (atN ns n) l
def K3 (d:Nat)(ns:List Nd)(n:Nat)(l:List Tr):List Nd:=zg d ns (QO ns n) (atN ns n+1) l
def J7 (d:Nat)(ns:List Nd)(n:Nat)(l:List Tr):List Nd:=zg d ns n (yZ ns n).length l
def XZ (ns:List Nd)(n:Nat)(s:ByteArray):List Nd:=match ns[n]? with
 | some y=>if y.text then ns.modify n (fun y=>{ y with s:=s }) else Ze ns n s
 | none=>ns
def qK (d:Nat)(k:Int)(ns:List Nd)(o:Opn):List Nd :=
 if k=8 then ns.modify o.target.toNat (fun y=>{ y with s:=o.name })
 else if k=9 then ns.modify o.target.toNat (fun y=>{ y with attrs:=yJ y.attrs o.name o.s })
 else if k=10 then ns.modify o.target.toNat (fun y=>{ y with attrs:=yM y.attrs o.name })
 else if k=3 then Qy d ns o.target.toNat o.content
 else if k=2 then J7 d ns o.target.toNat o.content
 else if k=1 then zg d ns o.target.toNat 0 o.content
 else if k=4 then K3 d ns o.target.toNat o.content
 else if k=6 then Qa (Qy d ns o.target.toNat o.content) o.target.toNat
 else if k=5 then Qa ns o.target.toNat
 else XZ ns o.target.toNat o.s
def gOf (k:Int)(o:Opn):Sg→Sg :=
 if k=8 then Kq o
 else if k=9 then Vj o
 else if k=10 then J5 o
 else if k=3 then x6 o
 else if k=2 then j9 o
 else if k=1 then y8 o
 else if k=4 then Xu o
 else if k=6 then Xv o
 else if k=5 then jg
 else Yt o
def doN (d:Nat)(k:Int)(ns:List Nd)(l:List Opn):List Nd:=l.foldl (fun ns o=>if o.kind=k then qK d k ns o else ns) ns
def doF (k:Int)(σ:Nat→Sg)(l:List Opn):Nat→Sg:=l.foldl (fun σ o=>if o.kind=k then upd σ o.target.toNat (gOf k o) else σ) σ
def xn (d:Nat)(ns:List Nd)(l:List Opn):List Nd :=
 doN d 7 (doN d 5 (doN d 6 (doN d 4 (doN d 1 (doN d 2 (doN d 3 (doN d 10 (doN d 9 (doN d 8 ns l) l) l) l) l) l.reverse) l.reverse) l) l) l
def jm (ns:List Nd)(l:List Opn):Nat→Sg :=
 doF 7 (doF 5 (doF 6 (doF 4 (doF 1 (doF 2 (doF 3 (doF 10 (doF 9 (doF 8 (zE ns) l) l) l) l) l) l.reverse) l.reverse) l) l) l
structure qae (ns0:List Nd) (d:Nat) (o:Opn):Prop where
 pos:0≤o.target
 lt:o.target.toNat<ns0.length
 deep:∀ k∈o.content,Deep d k.kids
 elem:∀ x,ns0[o.target.toNat]?=some x→o.kind=1∨o.kind=2∨o.kind=8∨o.kind=9∨o.kind=10→x.text=false
 root:o.kind=3∨o.kind=4∨o.kind=5∨o.kind=6→o.target.toNat≠0
theorem Qg {ns0:List Nd}(hg:qu ns0=true){σ:Nat→Sg}(hv:∀ n,(σ n).val=none){n:Nat}{x:Nd}(hx:ns0[n]?=some x)(h0:n≠0):∃ (p:Nat)(y:Nd)(A C:List Int),ym ns0 σ n p y A C∧x.parent=(p:Int):=by
 rcases (qV hg hx).par with ⟨h1,_⟩|⟨p,y,hy,hp,hpn,hm⟩
 · exact absurd h1 h0
 · obtain ⟨A, C, hAC⟩ := List.append_of_mem hm;have hrise:=Qe hg hy;rw[hAC,List.pairwise_append]at hrise
   obtain ⟨_,h2,h3⟩:=hrise;rw[List.pairwise_cons]at h2
   have hpos:∀ u∈y.kids,0≤u:=fun u hu=>by obtain ⟨k,_,e,_⟩:=(qV hg hy).kids u hu;omega
   refine ⟨p,y,A,C,⟨hy,hAC,fun u hu=>?_,fun u hu=>?_,hv p,fun k z hz hk u hu e=>?_,by omega⟩,hp⟩
   · have h4 := h3 u hu (n : Int) List.mem_cons_self;have h5:=hpos u (by rw[hAC];exact List.mem_append_left _ hu)
     omega
   · have h4 := h2.1 u hu;omega
   · obtain ⟨j, z', e1, _, _, _, hz', hp'⟩ := (qV hg hz).kids u hu;have:j=n:=by omega
     subst this;rw[hx]at hz'
     obtain rfl:=Option.some.inj hz';omega
theorem Zh {ns0:List Nd}{σ:Nat→Sg}{n p:Nat}{x:Nd}{A C:List Int}(h:ym ns0 σ n p x A C):Sum.inl n∉zJ σ n p A:=by
 unfold zJ qU fmK;simp only[List.mem_append,List.mem_map,List.mem_flatMap,not_or];refine ⟨(by rintro ⟨_,_,h⟩;cases h),?_,(by rintro ⟨_,_,h⟩;cases h)⟩
 rintro ⟨u,hu,hp⟩;have hne:=h.ahead u hu;unfold qH qU xv at hp
 simp only[List.mem_append,List.mem_map]at hp
 rcases hp with ⟨_,_,h⟩|hp|⟨_,_,h⟩
 · cases h
 · split at hp
   · simp at hp
   · simp at hp;exact hne hp.symm
 · cases h
theorem Bch.at {ns0 ns:List Nd}{σ:Nat→Sg}(h:Bch ns0 σ ns){n p:Nat}{x z:Nd}{A C:List Int}(hs:ym ns0 σ n p x A C)(hz:ns0[n]?=some z)(hp:z.parent=(p:Int)) :
 QO ns n=p∧((σ n).gone=false→atN ns n=(zJ σ n p A).length∧atN ns n<(yZ ns p).length)∧((σ n).gone=true→¬ atN ns n<(yZ ns (QO ns n)).length):=by
 obtain ⟨y,g1,_,_,_,g5,_⟩:=h.each n z hz;have hpar:QO ns n=p:=by unfold QO;rw[g1];show y.parent.toNat=p;rw[g5,hp];omega
 obtain ⟨y',k1,_,_,_,_,k6⟩:=h.each p x hs.par;have hkid:yZ ns p=y'.kids:=by unfold yZ;rw[k1]
 have hn:=qg hz;refine ⟨hpar,fun hgo=>?_,fun hgo=>?_⟩
 · have e:zd σ p x=zJ σ n p A++Sum.inl n::(qU (σ n).aft++(fmK σ C++qU (σ p).last)):=by
    rw[hs.self];unfold zJ qH xv;rw[hgo];simp[List.append_assoc]
   rw[e]at k6
   obtain ⟨i1,i2⟩:=k6.index hn (Zh hs);unfold atN;rw[hpar,hkid,i1];exact ⟨rfl,i2⟩
 · unfold atN;rw[hpar,hkid];refine k6.no hn ?_;rw[hs.self];unfold qH xv;rw[hgo];simp only[if_true,List.nil_append,List.mem_append,not_or];have h1:=Zh hs;unfold zJ at h1
   simp only[List.mem_append,not_or]at h1
   refine ⟨h1.1,h1.2.1,⟨h1.2.2,?_⟩,?_,?_⟩
   · unfold qU;simp only[List.mem_map];rintro ⟨_,_,h⟩;cases h
   · unfold fmK;simp only[List.mem_flatMap];rintro ⟨u,hu,hq⟩;have hne:=hs.behind u hu;unfold qH qU xv at hq
     simp only[List.mem_append,List.mem_map]at hq
     rcases hq with ⟨_,_,h⟩|hq|⟨_,_,h⟩
     · cases h
     · split at hq
       · simp at hq
       · simp at hq;exact hne hq.symm
     · cases h
   · unfold qU;simp only[List.mem_map];rintro ⟨_,_,h⟩;cases h
theorem Bch.step {ns0 ns:List Nd}(hg:qu ns0=true){σ:Nat→Sg}(h:Bch ns0 σ ns){d:Nat}{o:Opn}(ho:qae ns0 d o)(hk:1≤o.kind∧o.kind≤10)(hv:o.kind≤6→∀ n,(σ n).val=none)(hgo:o.kind=3∨o.kind=4∨o.kind=6→(σ o.target.toNat).gone=false) :
 Bch ns0 (upd σ o.target.toNat (gOf o.kind o)) (qK d o.kind ns o):=by
 obtain ⟨x,hx⟩:∃ x,ns0[o.target.toNat]?=some x:=⟨ns0[o.target.toNat]'ho.lt,by simp[ho.lt]⟩
 have hel:=ho.elem x hx;have hro:=ho.root;have hde:=ho.deep;have stand:o.kind=3∨o.kind=4∨o.kind=5∨o.kind=6→∃ (p:Nat) (y:Nd) (A C:List Int),ym ns0 σ o.target.toNat p y A C∧x.parent=(p:Int):=fun h1=>Qg hg (hv (by omega)) hx (hro h1)
 generalize hn:o.target.toNat=n at *
 rcases (by omega:o.kind=8∨o.kind=9∨o.kind=10∨o.kind=3∨o.kind=2∨o.kind=1∨o.kind=4∨o.kind=6∨o.kind=5∨o.kind=7) with hc|hc|hc|hc|hc|hc|hc|hc|hc|hc
 · rw[hc];unfold qK gOf;simp only[hn];exact h.ren hx (hel (by omega)) o
 · rw[hc];unfold qK gOf;simp only[hn];exact h.attr hx (fun l=>yJ l o.name o.s)
 · rw[hc];unfold qK gOf;simp only[hn];exact h.attr hx (fun l=>yM l o.name)
 · obtain ⟨p, y, A, C, hs, hp⟩ := stand (by omega)
   obtain ⟨e1,e2,_⟩:=h.at hs hx hp
   obtain ⟨e3,_⟩:=e2 (hgo (by omega))
   have:=h.bef hs o hde;rw[hc];unfold qK gOf Qy;simp only[hn,e1,e3];exact this
 · have hvn := hv (by omega) n
   obtain ⟨y,g1,_⟩:=h.each n x hx;have:=h.last hx g1 hvn o hde;rw[hc];unfold qK gOf J7 yZ;simp only[hn,g1];exact this
 · rw[hc];unfold qK gOf;simp only[hn];exact h.first hx (hv (by omega) n) o hde
 · obtain ⟨p, y, A, C, hs, hp⟩ := stand (by omega)
   obtain ⟨e1,e2,_⟩:=h.at hs hx hp
   have hgn:=hgo (by omega)
   obtain ⟨e3,_⟩:=e2 hgn;have:=h.aft hs hgn o hde;rw[hc];unfold qK gOf K3;simp only[hn,e1,e3];exact this
 · obtain ⟨p, y, A, C, hs, hp⟩ := stand (by omega)
   obtain ⟨e1,e2,_⟩:=h.at hs hx hp
   have hgn:=hgo (by omega)
   obtain ⟨e3,_⟩:=e2 hgn;have h1:=h.bef hs o hde;have hs1:ym ns0 (upd σ n (x6 o)) n p y A C:=⟨hs.par,hs.kids,hs.ahead,hs.behind,by rw[qX _ hs.ne];exact hs.none,hs.other,hs.ne⟩
   obtain ⟨i1,i2,_⟩:=h1.at hs1 hx hp
   have hgn1:(upd σ n (x6 o) n).gone=false:=by rw[zx];exact hgn
   obtain ⟨i3,i4⟩:=i2 hgn1;have h2:=h1.gone hs1 hgn1
   have e:upd (upd σ n (x6 o)) n jg=upd σ n (Xv o):=by
    funext k
    unfold upd
    split
    · rfl
    · rfl
   rw[e]at h2
   rw[←i3]at h2
   rw[←e3]at h1 h2 i1 i3 i4
   rw[hc];unfold qK gOf;simp only[hn]
   show Bch ns0 (upd σ n (Xv o)) (Qa (Qy d ns n o.content) n)
   have eb:Qy d ns n o.content=zg d ns p (atN ns n) o.content:=by unfold Qy;rw[e1]
   rw[eb];unfold Qa;rw[i1,if_pos i4];exact h2
 · obtain ⟨p, y, A, C, hs, hp⟩ := stand (by omega)
   obtain ⟨e1,e2,e4⟩:=h.at hs hx hp
   rw[hc];unfold qK gOf Qa;simp only[hn];cases hgn:(σ n).gone with
   | false =>
     obtain ⟨e3,e5⟩:=e2 hgn;have:=h.gone hs hgn;rw[e1]at *
     show Bch ns0 (upd σ n jg) (if atN ns n<(yZ ns p).length then _ else _)
     rw[if_pos e5,e3];exact this
   | true =>
     show Bch ns0 (upd σ n jg) (if atN ns n<(yZ ns (QO ns n)).length then _ else _)
     rw[if_neg (e4 hgn)]
     have:upd σ n jg=σ:=by
      funext k
      unfold upd
      split
      · rename_i hk2
        subst hk2;unfold jg;cases hq:σ k with
        | mk a b c d e f g i=>rw[hq]at hgn;simp at hgn;subst hgn;rfl
      · rfl
     rw[this];exact h
 · obtain ⟨y, g1, g2, _⟩ := h.each n x hx;rw[hc];unfold qK gOf XZ;simp only[hn,g1];cases htx:x.text with
   | true=>rw[g2,htx];exact h.valT hx htx o
   | false=>rw[g2,htx];exact h.valE hx htx o
theorem xF (k:Int)(σ:Nat→Sg)(o:Opn)(l:List Opn):doF k σ (o::l)=doF k (if o.kind=k then upd σ o.target.toNat (gOf k o) else σ) l:=rfl
def Yx (k:Int):Bool:=decide (k=1)||decide (k=2)||decide (k=3)||decide (k=4)||decide (k=6)
def Yy (k:Int):Bool:=decide (k=8)||decide (k=9)||decide (k=10)
def Yz (k:Int):Bool:=decide (k=7)||decide (k=9)
def qL (k:Int):Bool:=decide (k=3)||decide (k=4)||decide (k=5)||decide (k=6)
def zi (o:Opn):Bool:=if Yx o.kind then qI o.content else decide (o.content.length=0)
def zK (o:Opn):Bool:=if Yy o.kind then zo o.name else decide (o.name=⟨#[]⟩)
def zT (o:Opn):Bool:=if Yz o.kind then zf o.s else decide (o.s=⟨#[]⟩)
def yx (ns:List Nd)(n:Int):Bool:=match ns[n.toNat]? with
 | some x=>x.text
 | none=>false
def qE (ns:List Nd)(o:Opn):Int :=
 if decide (o.kind<1)||decide (10<o.kind) then 4
 else if decide (o.target<0)||decide ((ns.length:Int)≤o.target) then 3
 else if !(zi o)||!(zK o)||!(zT o) then 1
 else if decide (o.target=0)&&qL o.kind then 6
 else if yx ns o.target&&!(qL o.kind)&&!(decide (o.kind=7)) then 4
 else 0
def agB (a b:Opn):Bool:=decide (a.target=b.target)&&((decide (a.kind=6)&&decide (b.kind=6))||(decide (a.kind=7)&&decide (b.kind=7))||(decide (a.kind=8)&&decide (b.kind=8)) ||
 ((decide (a.kind=9)||decide (a.kind=10))&&(decide (b.kind=9)||decide (b.kind=10))&&decide (a.name=b.name)))
def twiceB:List Opn→Bool
 | []=>false
 | o::l=>l.any (agB o)||twiceB l
def qP (ns:List Nd):List Opn→Int
 | []=>0
 | o::l=>if qE ns o=0 then qP ns l else qE ns o
def qJ (ns:List Nd)(l:List Opn):Int :=
 if !qu ns then 1 else if 20<l.length then 2 else if qP ns l≠0 then qP ns l else if twiceB l then 5 else 0
theorem X8 (a b:Opn):agB a b=agB b a:=by
 unfold agB;rw[Bool.eq_iff_iff];simp only[Bool.and_eq_true,Bool.or_eq_true,decide_eq_true_eq]
 constructor
 · rintro ⟨h1, h2⟩;refine ⟨h1.symm,?_⟩
   rcases h2 with ((h2|h2)|h2)|h2
   · exact Or.inl (Or.inl (Or.inl ⟨h2.2,h2.1⟩))
   · exact Or.inl (Or.inl (Or.inr ⟨h2.2,h2.1⟩))
   · exact Or.inl (Or.inr ⟨h2.2,h2.1⟩)
   · exact Or.inr ⟨⟨h2.1.2,h2.1.1⟩,h2.2.symm⟩
 · rintro ⟨h1, h2⟩;refine ⟨h1.symm,?_⟩
   rcases h2 with ((h2|h2)|h2)|h2
   · exact Or.inl (Or.inl (Or.inl ⟨h2.2,h2.1⟩))
   · exact Or.inl (Or.inl (Or.inr ⟨h2.2,h2.1⟩))
   · exact Or.inl (Or.inr ⟨h2.2,h2.1⟩)
   · exact Or.inr ⟨⟨h2.1.2,h2.1.1⟩,h2.2.symm⟩
theorem Yq (ns:List Nd):∀ l:List Opn,qP ns l=0↔∀ o∈l,qE ns o=0:=by
 intro l
 induction l with
 | nil=>simp[qP]
 | cons o l ih =>
   rw[qP]
   by_cases h:qE ns o=0
   · rw[if_pos h,ih];simp[h]
   · rw[if_neg h];simp[h]
theorem twiceB_false:∀ l:List Opn,twiceB l=false↔l.Pairwise (fun a b=>agB a b=false):=by
 intro l
 induction l with
 | nil=>simp[twiceB]
 | cons o l ih=>rw[twiceB,List.pairwise_cons,Bool.or_eq_false_iff,ih];simp
theorem je (ns:List Nd)(l:List Opn):qJ ns l=0↔qu ns=true∧l.length≤20∧(∀ o∈l,qE ns o=0)∧l.Pairwise (fun a b=>agB a b=false):=by
 rw[←Yq,←twiceB_false];unfold qJ;cases hg:qu ns with
 | false=>simp
 | true =>
   simp only[Bool.not_true,Bool.false_eq_true,if_false,true_and]
   by_cases hl:20<l.length
   · rw[if_pos hl];constructor
     · intro h;omega
     · rintro ⟨h,_⟩;omega
   · rw[if_neg hl]
     by_cases hf:qP ns l=0
     · rw[if_neg (by simpa using hf)]
       cases ht:twiceB l with
       | true=>simp
       | false=>simp[hf];omega
     · rw[if_pos hf]
       constructor
       · intro h;exact absurd h hf
       · rintro ⟨_,h,_⟩;exact absurd h hf
theorem rb_deep:∀ (d:Nat)(room:Int)(l:List Tr),0≤rb d room l→Deep d l:=by
 intro d
 induction d with
 | zero =>
   intro room l h;unfold rb at h
   split at h
   · rename_i he
     have:l=[]:=by simpa using he
     exact this
   · omega
 | succ d ih =>
   intro room l h;unfold rb at h
   split at h
   · rename_i he
     have:l=[]:=by simpa using he
     subst this;intro t ht;simp at ht
   · split at h
     · omega
     · obtain ⟨_, _, h3⟩ := KP (rb d) (Deep d) (fun room l h => ih room l h) l false _ h (by omega)
       exact h3
theorem Deep.more:∀ {n:Nat}{ts:List Tr},Deep n ts→Deep (n+1) ts:=by
 intro n
 induction n with
 | zero=>intro ts h;have h:ts=[]:=h;subst h;intro t ht;simp at ht
 | succ n ih=>intro ts h t ht;exact ih (h t ht)
theorem Deep.upto {n m:Nat}{ts:List Tr}(h:Deep n ts)(hm:n≤m):Deep m ts:=by
 obtain ⟨k,rfl⟩:∃ k,m=n+k:=⟨m-n,by omega⟩
 clear hm
 induction k with
 | zero=>exact h
 | succ k ih=>exact ih.more
theorem xE {l:List Tr}(h:qI l=true):∀ k∈l,Deep 8 k.kids:=by
 have h1:Deep 8 l:=rb_deep 8 80 l (by simpa[qI] using h)
 intro k hk;exact Deep.more (n:=7) (h1 k hk)
theorem xO {ns:List Nd}{o:Opn}(h:qE ns o=0):qae ns 8 o∧1≤o.kind∧o.kind≤10∧zi o=true∧zK o=true∧zT o=true:=by
 unfold qE at h
 split at h
 · omega
 · rename_i h1
   split at h
   · omega
   · rename_i h2
     split at h
     · omega
     · rename_i h3
       split at h
       · omega
       · rename_i h4
         split at h
         · omega
         · rename_i h5
           simp only[Bool.or_eq_true,decide_eq_true_eq,not_or,Bool.not_eq_true',Bool.not_eq_false,Bool.and_eq_true,not_and]at h1 h2 h3 h4 h5
           obtain ⟨⟨hc,hn⟩,ht⟩:=h3;refine ⟨⟨by omega,by omega,?_,?_,?_⟩,by omega,by omega,hc,hn,ht⟩
           · unfold zi at hc
             split at hc
             · exact xE hc
             · have : o.content = [] := List.eq_nil_of_length_eq_zero (by simpa using hc)
               rw[this];intro k hk;simp at hk
           · intro x hx hk;cases htx:x.text with
             | false=>rfl
             | true =>
               have e:yx ns o.target=true:=by unfold yx;rw[hx];exact htx
               by_cases hp:qL o.kind=false
               · exfalso
                 have h6:=h5 ⟨e,hp⟩;omega
               · exfalso
                 simp[qL]at hp
                 omega
           · intro hk e;have e1:o.target=0:=by omega
             have:=h4 e1;simp[qL]at this
             omega
def zr (ns:List Nd)(l:List Opn):Tr:=bodyF ns.length ns (jm ns l) 0
def zC (ns:List Nd)(l:List Opn):Tr:=jk (ns.length+9) (zr ns l)
def jp (ns:List Nd)(l:List Opn):List Nd:=if qJ ns l=0 then (if qR (zC ns l) then layF (ns.length+9) (zC ns l) (-1) 0 else ns) else ns
def jq (ns:List Nd)(l:List Opn):Int:=if qJ ns l=0 then (if qR (zC ns l) then 0 else 2) else qJ ns l
def inK (k:Int)(n:Nat)(o:Opn):Bool:=decide (o.kind=k)&&decide (o.target.toNat=n)
end Go.Proofs.YtnppmdpmippcoaaGreatDoor
namespace Go.Proofs.YtnppmdpmippcoaaGreatDoor
open Go.ChangeShapes Go.WideShapes Go.ChangeAt Go.RowKit
set_option maxRecDepth 100000
section
attribute [local go_sem] qk
theorem YM (k:Int)(w:World):Calls Tryz.prog 47 #[.int .i64 k] w fun e w'=>e=.returned (.bool (qL k))∧w'=w:=by
 have HP:Hid (qL k=(decide (k=3)||decide (k=4)||decide (k=5)||decide (k=6))):=rfl
 by_cases h3:k=3
 · have HE : Hid (qL k = true) := by show _ = _;rw[HP.out];simp[h3]
   subst h3
   go_enter Tryz.func47,Tryz.ntmps47
   go_wp2;go_ret;exact ⟨by rw[HE.out];rfl,rfl⟩
 by_cases h4:k=4
 · have HE : Hid (qL k = true) := by show _ = _;rw[HP.out];simp[h4]
   subst h4
   go_enter Tryz.func47,Tryz.ntmps47
   go_wp2;go_ret;exact ⟨by rw[HE.out];rfl,rfl⟩
 by_cases h5:k=5
 · have HE : Hid (qL k = true) := by show _ = _;rw[HP.out];simp[h5]
   subst h5
   go_enter Tryz.func47,Tryz.ntmps47
   go_wp2;go_ret;exact ⟨by rw[HE.out];rfl,rfl⟩
 by_cases h6:k=6
 · have HE : Hid (qL k = true) := by show _ = _;rw[HP.out];simp[h6]
   subst h6
   go_enter Tryz.func47,Tryz.ntmps47
   go_wp2;go_ret;exact ⟨by rw[HE.out];rfl,rfl⟩
 have HE:Hid (qL k=false):=by show _=_;rw[HP.out];simp[h3,h4,h5,h6]
 have b3:(k==3)=false:=by simpa using h3
 have b4:(k==4)=false:=by simpa using h4
 have b5:(k==5)=false:=by simpa using h5
 have b6:(k==6)=false:=by simpa using h6
 clear h3 h4 h5 h6 HP
 go_enter Tryz.func47,Tryz.ntmps47
 go_wp2;go_ret;exact ⟨by rw[HE.out];rfl,rfl⟩
theorem Xa (n:Nat):((n:Int)==0)=decide (n=0):=by
 by_cases h:n=0<;>simp[h]
theorem Qq (a:ByteArray):a.toList.isEmpty=decide (a=⟨#[]⟩):=by
 rw[ByteArray.toList_eq];obtain ⟨d⟩:=a
 by_cases h:d=#[]
 · subst h;simp
 · have h2 : ¬ (⟨d⟩ : ByteArray) = ⟨#[]⟩ := by intro e;injection e with e;exact h e
   simp[h,h2]
theorem Qd (S:Nat→Prop)(n:Nat)(ca:Option Addr)(cc:Nat)(o:Opn)(w:World)(hC:qd S w n (.slice ca o.content.length cc) o.content)(hx:TextsN n o.content) :
 Calls Tryz.prog 44 #[.agg #[.int .i64 o.kind,.int .i64 o.target,.slice ca o.content.length cc,.string o.name,.string o.s]] w fun e w'=>e=.returned (.bool (zi o))∧Below w.heap.size w w':=by
 have HP:Hid (Yx o.kind=(decide (o.kind=1)||decide (o.kind=2)||decide (o.kind=3)||decide (o.kind=4)||decide (o.kind=6))):=rfl
 have HC:Hid (∀ W,qd S W n (.slice ca o.content.length cc) o.content→Calls Tryz.prog 79 #[.slice ca o.content.length cc] W fun e w'=>e=.returned (.bool (qI o.content))∧Below W.heap.size W w'):=fun W hW=>Ql S n _ _ W hW hx
 have HO:Hid (zi o=if Yx o.kind then qI o.content else decide (o.content.length=0)):=rfl
 obtain ⟨k,tg,ct,nm,s⟩:=o;dsimp only at *
 by_cases h1:k=1
 · have HE : Hid (zi ⟨k, tg, ct, nm, s⟩ = qI ct) := by show _ = _;rw[HO.out, HP.out];simp[h1]
   clear HP HO;subst h1;have hb:=Below.alloc1 w (.cells #[.int .i64 1,.int .i64 tg,.slice ca ct.length cc,.string nm,.string s] 30)
   go_enter Tryz.func44,Tryz.ntmps44
   go_wp2_with fail;refine (HC.out _ (hC.later hb)).mono ?_;rintro e w1 ⟨rfl,hb1⟩;go_wp2_with fail;go_ret;exact ⟨by rw[HE.out];rfl,hb.trans (hb1.mono hb.size)⟩
 by_cases h2:k=2
 · have HE : Hid (zi ⟨k, tg, ct, nm, s⟩ = qI ct) := by show _ = _;rw[HO.out, HP.out];simp[h2]
   clear HP HO;subst h2;have hb:=Below.alloc1 w (.cells #[.int .i64 2,.int .i64 tg,.slice ca ct.length cc,.string nm,.string s] 30)
   go_enter Tryz.func44,Tryz.ntmps44
   go_wp2_with fail;refine (HC.out _ (hC.later hb)).mono ?_;rintro e w1 ⟨rfl,hb1⟩;go_wp2_with fail;go_ret;exact ⟨by rw[HE.out];rfl,hb.trans (hb1.mono hb.size)⟩
 by_cases h3:k=3
 · have HE : Hid (zi ⟨k, tg, ct, nm, s⟩ = qI ct) := by show _ = _;rw[HO.out, HP.out];simp[h3]
   clear HP HO;subst h3;have hb:=Below.alloc1 w (.cells #[.int .i64 3,.int .i64 tg,.slice ca ct.length cc,.string nm,.string s] 30)
   go_enter Tryz.func44,Tryz.ntmps44
   go_wp2_with fail;refine (HC.out _ (hC.later hb)).mono ?_;rintro e w1 ⟨rfl,hb1⟩;go_wp2_with fail;go_ret;exact ⟨by rw[HE.out];rfl,hb.trans (hb1.mono hb.size)⟩
 by_cases h4:k=4
 · have HE : Hid (zi ⟨k, tg, ct, nm, s⟩ = qI ct) := by show _ = _;rw[HO.out, HP.out];simp[h4]
   clear HP HO;subst h4;have hb:=Below.alloc1 w (.cells #[.int .i64 4,.int .i64 tg,.slice ca ct.length cc,.string nm,.string s] 30)
   go_enter Tryz.func44,Tryz.ntmps44
   go_wp2_with fail;refine (HC.out _ (hC.later hb)).mono ?_;rintro e w1 ⟨rfl,hb1⟩;go_wp2_with fail;go_ret;exact ⟨by rw[HE.out];rfl,hb.trans (hb1.mono hb.size)⟩
 by_cases h6:k=6
 · have HE : Hid (zi ⟨k, tg, ct, nm, s⟩ = qI ct) := by show _ = _;rw[HO.out, HP.out];simp[h6]
   clear HP HO;subst h6;have hb:=Below.alloc1 w (.cells #[.int .i64 6,.int .i64 tg,.slice ca ct.length cc,.string nm,.string s] 30)
   go_enter Tryz.func44,Tryz.ntmps44
   go_wp2_with fail;refine (HC.out _ (hC.later hb)).mono ?_;rintro e w1 ⟨rfl,hb1⟩;go_wp2_with fail;go_ret;exact ⟨by rw[HE.out];rfl,hb.trans (hb1.mono hb.size)⟩
 have HE:Hid (zi ⟨k,tg,ct,nm,s⟩=decide (ct.length=0)):=by show _=_;rw[HO.out,HP.out];simp[h1,h2,h3,h4,h6]
 have b1:(k==1)=false:=by simpa using h1
 have b2:(k==2)=false:=by simpa using h2
 have b3:(k==3)=false:=by simpa using h3
 have b4:(k==4)=false:=by simpa using h4
 have b6:(k==6)=false:=by simpa using h6
 clear HP HO h1 h2 h3 h4 h6;have hb:=Below.alloc1 w (.cells #[.int .i64 k,.int .i64 tg,.slice ca ct.length cc,.string nm,.string s] 30)
 go_enter Tryz.func44,Tryz.ntmps44
 go_wp2_with fail;go_ret;exact ⟨by rw[HE.out,←Xa];rfl,hb⟩
theorem Zd (vc:Value)(o:Opn)(w:World)(hx:o.name.size≤maxLen) :
 Calls Tryz.prog 45 #[.agg #[.int .i64 o.kind,.int .i64 o.target,vc,.string o.name,.string o.s]] w fun e w'=>e=.returned (.bool (zK o))∧Below w.heap.size w w':=by
 have HP:Hid (Yy o.kind=(decide (o.kind=8)||decide (o.kind=9)||decide (o.kind=10))):=rfl
 have HC:Hid (∀ W,Calls Tryz.prog 80 #[.string o.name] W fun e w'=>e=.returned (.bool (zo o.name))∧w'=W):=fun W=>yj _ W hx
 have HO:Hid (zK o=if Yy o.kind then zo o.name else decide (o.name=⟨#[]⟩)):=rfl
 obtain ⟨k,tg,ct,nm,s⟩:=o;dsimp only at *
 by_cases h8:k=8
 · have HE : Hid (zK ⟨k, tg, ct, nm, s⟩ = zo nm) := by show _ = _;rw[HO.out, HP.out];simp[h8]
   clear HP HO;subst h8;have hb:=Below.alloc1 w (.cells #[.int .i64 8,.int .i64 tg,vc,.string nm,.string s] 30)
   go_enter Tryz.func45,Tryz.ntmps45
   go_wp2_with fail;refine (HC.out _).mono ?_;rintro e w1 ⟨rfl,rfl⟩;go_wp2_with fail;go_ret;exact ⟨by rw[HE.out];rfl,hb⟩
 by_cases h9:k=9
 · have HE : Hid (zK ⟨k, tg, ct, nm, s⟩ = zo nm) := by show _ = _;rw[HO.out, HP.out];simp[h9]
   clear HP HO;subst h9;have hb:=Below.alloc1 w (.cells #[.int .i64 9,.int .i64 tg,vc,.string nm,.string s] 30)
   go_enter Tryz.func45,Tryz.ntmps45
   go_wp2_with fail;refine (HC.out _).mono ?_;rintro e w1 ⟨rfl,rfl⟩;go_wp2_with fail;go_ret;exact ⟨by rw[HE.out];rfl,hb⟩
 by_cases h10:k=10
 · have HE : Hid (zK ⟨k, tg, ct, nm, s⟩ = zo nm) := by show _ = _;rw[HO.out, HP.out];simp[h10]
   clear HP HO;subst h10;have hb:=Below.alloc1 w (.cells #[.int .i64 10,.int .i64 tg,vc,.string nm,.string s] 30)
   go_enter Tryz.func45,Tryz.ntmps45
   go_wp2_with fail;refine (HC.out _).mono ?_;rintro e w1 ⟨rfl,rfl⟩;go_wp2_with fail;go_ret;exact ⟨by rw[HE.out];rfl,hb⟩
 have HE:Hid (zK ⟨k,tg,ct,nm,s⟩=decide (nm=⟨#[]⟩)):=by show _=_;rw[HO.out,HP.out];simp[h8,h9,h10]
 have b8:(k==8)=false:=by simpa using h8
 have b9:(k==9)=false:=by simpa using h9
 have b10:(k==10)=false:=by simpa using h10
 clear HP HO h8 h9 h10;have hb:=Below.alloc1 w (.cells #[.int .i64 k,.int .i64 tg,vc,.string nm,.string s] 30)
 go_enter Tryz.func45,Tryz.ntmps45
 go_wp2_with fail;go_ret;exact ⟨by rw[HE.out,←Qq];rfl,hb⟩
theorem JE (vc:Value)(o:Opn)(w:World)(hx:o.s.size≤maxLen) :
 Calls Tryz.prog 46 #[.agg #[.int .i64 o.kind,.int .i64 o.target,vc,.string o.name,.string o.s]] w fun e w'=>e=.returned (.bool (zT o))∧Below w.heap.size w w':=by
 have HP:Hid (Yz o.kind=(decide (o.kind=7)||decide (o.kind=9))):=rfl
 have HC:Hid (∀ W,Calls Tryz.prog 81 #[.string o.s] W fun e w'=>e=.returned (.bool (zf o.s))∧w'=W):=fun W=>zU _ W hx
 have HO:Hid (zT o=if Yz o.kind then zf o.s else decide (o.s=⟨#[]⟩)):=rfl
 obtain ⟨k,tg,ct,nm,s⟩:=o;dsimp only at *
 by_cases h7:k=7
 · have HE : Hid (zT ⟨k, tg, ct, nm, s⟩ = zf s) := by show _ = _;rw[HO.out, HP.out];simp[h7]
   clear HP HO;subst h7;have hb:=Below.alloc1 w (.cells #[.int .i64 7,.int .i64 tg,vc,.string nm,.string s] 30)
   go_enter Tryz.func46,Tryz.ntmps46
   go_wp2_with fail;refine (HC.out _).mono ?_;rintro e w1 ⟨rfl,rfl⟩;go_wp2_with fail;go_ret;exact ⟨by rw[HE.out];rfl,hb⟩
 by_cases h9:k=9
 · have HE : Hid (zT ⟨k, tg, ct, nm, s⟩ = zf s) := by show _ = _;rw[HO.out, HP.out];simp[h9]
   clear HP HO;subst h9;have hb:=Below.alloc1 w (.cells #[.int .i64 9,.int .i64 tg,vc,.string nm,.string s] 30)
   go_enter Tryz.func46,Tryz.ntmps46
   go_wp2_with fail;refine (HC.out _).mono ?_;rintro e w1 ⟨rfl,rfl⟩;go_wp2_with fail;go_ret;exact ⟨by rw[HE.out];rfl,hb⟩
 have HE:Hid (zT ⟨k,tg,ct,nm,s⟩=decide (s=⟨#[]⟩)):=by show _=_;rw[HO.out,HP.out];simp[h7,h9]
 have b7:(k==7)=false:=by simpa using h7
 have b9:(k==9)=false:=by simpa using h9
 clear HP HO h7 h9;have hb:=Below.alloc1 w (.cells #[.int .i64 k,.int .i64 tg,vc,.string nm,.string s] 30)
 go_enter Tryz.func46,Tryz.ntmps46
 go_wp2_with fail;go_ret;exact ⟨by rw[HE.out,←Qq];rfl,hb⟩
theorem zI {w w1:World}{cs:Array Value}{T:TypeId}(h:Below (w.alloc (.cells cs T)).heap.size (w.alloc (.cells cs T)) w1):w1.heap[w.heap.size]?=some (.cells cs T (0,0)):=by
 rw[h.block _ (by simp)];show (w.heap.push _)[w.heap.size]?=_;simp
theorem zN {W:World}{b:Nat}{T:TypeId}{c0 c1 c2 c3 c4:Value}(h:W.heap[b]?=some (.cells #[c0,c1,c2,c3,c4] T (0,0))) :
 W.cell? ⟨b,0,none⟩=some c0∧W.cell? ⟨b,1,none⟩=some c1∧W.cell? ⟨b,2,none⟩=some c2∧W.cell? ⟨b,3,none⟩=some c3∧W.cell? ⟨b,4,none⟩=some c4:=by
 simp[World.cell?,h]
set_option maxHeartbeats 4000000 in
theorem xi (S:Nat→Prop)(n:Nat)(v:Value)(ca:Option Addr)(cc:Nat)(ns:List Nd)(o:Opn)(w:World)(hN:qv S w v ns)(hC:qd S w n (.slice ca o.content.length cc) o.content)(hx:TextsN n o.content)(hn:o.name.size≤maxLen)(hs:o.s.size≤maxLen) :
 Calls Tryz.prog 20 #[v,.agg #[.int .i64 o.kind,.int .i64 o.target,.slice ca o.content.length cc,.string o.name,.string o.s]] w fun e w'=>e=.returned (.int .i64 (qE ns o))∧Below w.heap.size w w':=by
 have HC:Hid (∀ W,Below w.heap.size w W→Calls Tryz.prog 44 #[.agg #[.int .i64 o.kind,.int .i64 o.target,.slice ca o.content.length cc,.string o.name,.string o.s]] W fun e w'=>e=.returned (.bool (zi o))∧Below W.heap.size W w'):=fun W hW=>Qd S n ca cc o W (hC.later hW) hx
 have HM:Hid (∀ W,Calls Tryz.prog 45 #[.agg #[.int .i64 o.kind,.int .i64 o.target,.slice ca o.content.length cc,.string o.name,.string o.s]] W fun e w'=>e=.returned (.bool (zK o))∧Below W.heap.size W w'):=fun W=>Zd _ o W hn
 have HT:Hid (∀ W,Calls Tryz.prog 46 #[.agg #[.int .i64 o.kind,.int .i64 o.target,.slice ca o.content.length cc,.string o.name,.string o.s]] W fun e w'=>e=.returned (.bool (zT o))∧Below W.heap.size W w'):=fun W=>JE _ o W hs
 have HW:Hid (qE ns o=if decide (o.kind<1)||decide (10<o.kind) then 4
  else if decide (o.target<0)||decide ((ns.length:Int)≤o.target) then 3
  else if !(zi o)||!(zK o)||!(zT o) then 1
  else if decide (o.target=0)&&qL o.kind then 6
  else if yx ns o.target&&!(qL o.kind)&&!(decide (o.kind=7)) then 4
  else 0):=rfl
 have HX:Hid (∀ i:Nat,yx ns (i:Int)=match ns[i]? with
  | some x=>x.text
  | none=>false):=fun i=>rfl
 have hb:=Below.alloc1 w (.cells #[.int .i64 o.kind,.int .i64 o.target,.slice ca o.content.length cc,.string o.name,.string o.s] 30);have HN:Hid (qv S w v ns):=hN;obtain ⟨na,nc,rfl,hnl,hnc,hnodes⟩:=hN;clear hC hx hn hs hnodes
 generalize zi o=bc at *
 generalize zK o=bn at *
 generalize zT o=bt at *
 generalize qE ns o=R at *
 obtain ⟨k,tg,ct,nm,s⟩:=o;dsimp only at *
 by_cases hk1:k<1
 · have HR : Hid (R = 4) := by show _ = _;rw[HW.out];simp[hk1]
   clear HW
   go_enter Tryz.func20,Tryz.ntmps20
   go_wp2_with fail;go_ret;exact ⟨by rw[HR.out];rfl,hb⟩
 by_cases hk2:10<k
 · have HR : Hid (R = 4) := by show _ = _;rw[HW.out];simp[hk2]
   clear HW
   go_enter Tryz.func20,Tryz.ntmps20
   go_wp2_with fail;go_ret;exact ⟨by rw[HR.out];rfl,hb⟩
 by_cases ht1:tg<0
 · have HR : Hid (R = 3) := by show _ = _;rw[HW.out];simp[hk1, hk2, ht1]
   clear HW
   go_enter Tryz.func20,Tryz.ntmps20
   go_wp2_with fail;go_ret;exact ⟨by rw[HR.out];rfl,hb⟩
 by_cases ht2:(ns.length:Int)≤tg
 · have HR : Hid (R = 3) := by show _ = _;rw[HW.out];simp[hk1, hk2, ht2]
   clear HW
   go_enter Tryz.func20,Tryz.ntmps20
   go_wp2_with fail;go_ret;exact ⟨by rw[HR.out];rfl,hb⟩
 have HR:Hid (R=if !bc||!bn||!bt then 1 else if decide (tg=0)&&qL k then 6 else if yx ns tg&&!(qL k)&&!(decide (k=7)) then 4 else 0):=by show _=_;rw[HW.out];simp[hk1,hk2,ht1,ht2]
 clear HW;cases bc with
 | false =>
   go_enter Tryz.func20,Tryz.ntmps20
   go_wp2_with fail;refine (HC.out _ hb).mono ?_;rintro e w1 ⟨rfl,hb1⟩;have hB1:=hb.trans (hb1.mono hb.size);have hz1:w.heap.size<w1.heap.size:=by have:=hb1.size;simp at this;omega
   have HB1:Hid (w1.heap[w.heap.size]?=some (.cells #[.int .i64 k,.int .i64 tg,.slice ca ct.length cc,.string nm,.string s] 30 (0,0))):=zI hb1;obtain ⟨x10,x11,x12,x13,x14⟩:=zN HB1.out;go_wp2_with fail;go_ret;exact ⟨by rw[HR.out];rfl,hB1⟩
 | true =>
 cases bn with
 | false =>
   go_enter Tryz.func20,Tryz.ntmps20
   go_wp2_with fail;refine (HC.out _ hb).mono ?_;rintro e w1 ⟨rfl,hb1⟩;have hB1:=hb.trans (hb1.mono hb.size);have hz1:w.heap.size<w1.heap.size:=by have:=hb1.size;simp at this;omega
   have HB1:Hid (w1.heap[w.heap.size]?=some (.cells #[.int .i64 k,.int .i64 tg,.slice ca ct.length cc,.string nm,.string s] 30 (0,0))):=zI hb1;obtain ⟨x10,x11,x12,x13,x14⟩:=zN HB1.out;go_wp2_with fail;refine (HM.out _).mono ?_;rintro e w2 ⟨rfl,hb2⟩;have hB2:=hB1.trans (hb2.mono (by omega))
   have hz2:w.heap.size<w2.heap.size:=by have:=hb2.size;omega
   have HB2:Hid (w2.heap[w.heap.size]?=some (.cells #[.int .i64 k,.int .i64 tg,.slice ca ct.length cc,.string nm,.string s] 30 (0,0))):=(hb2.block _ (by omega)).trans HB1.out
   clear x10 x11 x12 x13 x14;obtain ⟨x20,x21,x22,x23,x24⟩:=zN HB2.out;go_wp2_with fail;go_ret;exact ⟨by rw[HR.out];rfl,hB2⟩
 | true =>
 cases bt with
 | false =>
   go_enter Tryz.func20,Tryz.ntmps20
   go_wp2_with fail;refine (HC.out _ hb).mono ?_;rintro e w1 ⟨rfl,hb1⟩;have hB1:=hb.trans (hb1.mono hb.size);have hz1:w.heap.size<w1.heap.size:=by have:=hb1.size;simp at this;omega
   have HB1:Hid (w1.heap[w.heap.size]?=some (.cells #[.int .i64 k,.int .i64 tg,.slice ca ct.length cc,.string nm,.string s] 30 (0,0))):=zI hb1;obtain ⟨x10,x11,x12,x13,x14⟩:=zN HB1.out;go_wp2_with fail;refine (HM.out _).mono ?_;rintro e w2 ⟨rfl,hb2⟩;have hB2:=hB1.trans (hb2.mono (by omega))
   have hz2:w.heap.size<w2.heap.size:=by have:=hb2.size;omega
   have HB2:Hid (w2.heap[w.heap.size]?=some (.cells #[.int .i64 k,.int .i64 tg,.slice ca ct.length cc,.string nm,.string s] 30 (0,0))):=(hb2.block _ (by omega)).trans HB1.out
   clear x10 x11 x12 x13 x14;obtain ⟨x20,x21,x22,x23,x24⟩:=zN HB2.out;go_wp2_with fail;refine (HT.out _).mono ?_;rintro e w3 ⟨rfl,hb3⟩;have hB3:=hB2.trans (hb3.mono (by omega))
   have hz3:w.heap.size<w3.heap.size:=by have:=hb3.size;omega
   have HB3:Hid (w3.heap[w.heap.size]?=some (.cells #[.int .i64 k,.int .i64 tg,.slice ca ct.length cc,.string nm,.string s] 30 (0,0))):=(hb3.block _ (by omega)).trans HB2.out
   clear x20 x21 x22 x23 x24;obtain ⟨x30,x31,x32,x33,x34⟩:=zN HB3.out;go_wp2_with fail;go_ret;exact ⟨by rw[HR.out];rfl,hB3⟩
 | true =>
 have HR2:Hid (R=if decide (tg=0)&&qL k then 6 else if yx ns tg&&!(qL k)&&!(decide (k=7)) then 4 else 0):=by show _=_;rw[HR.out];simp
 clear HR;have HP:Hid (∀ W,Calls Tryz.prog 47 #[.int .i64 k] W fun e w'=>e=.returned (.bool (qL k))∧w'=W):=fun W=>YM k W
 by_cases h0:tg=0
 · subst h0;obtain ⟨x,hxi⟩:∃ x,ns[0]?=some x:=⟨ns[0]'(by omega),by simp⟩
   have HR3:Hid (R=if qL k then 6 else if x.text&&!(qL k)&&!(decide (k=7)) then 4 else 0):=by
    show _=_
    have e:yx ns 0=x.text:=by rw[show (0:Int)=((0:Nat):Int) from rfl,HX.out 0,hxi]
    rw[HR2.out,e];simp
   obtain ⟨b,of,cap,va,vk,hv,_,_,hSb,hbw,c0,c1,c2,c3,c4,hAt,hKi⟩:=HN.out.at hxi
   clear HR2 HX HN c1 c2 c3 c4 hAt hKi hSb hxi
   injection hv with hv1 _ hv2
   subst hv1 hv2;have hL0:¬ ns.length=0:=by omega
   generalize ns.length=L at *
   generalize qL k=pb at *
   cases pb with
   | true =>
     go_enter Tryz.func20,Tryz.ntmps20
     go_wp2_with fail;refine (HC.out _ hb).mono ?_;rintro e w1 ⟨rfl,hb1⟩;have hB1:=hb.trans (hb1.mono hb.size);have hz1:w.heap.size<w1.heap.size:=by have:=hb1.size;simp at this;omega
     have HB1:Hid (w1.heap[w.heap.size]?=some (.cells #[.int .i64 k,.int .i64 0,.slice ca ct.length cc,.string nm,.string s] 30 (0,0))):=zI hb1;obtain ⟨x10,x11,x12,x13,x14⟩:=zN HB1.out;go_wp2_with fail;refine (HM.out _).mono ?_;rintro e w2 ⟨rfl,hb2⟩;have hB2:=hB1.trans (hb2.mono (by omega))
     have hz2:w.heap.size<w2.heap.size:=by have:=hb2.size;omega
     have HB2:Hid (w2.heap[w.heap.size]?=some (.cells #[.int .i64 k,.int .i64 0,.slice ca ct.length cc,.string nm,.string s] 30 (0,0))):=(hb2.block _ (by omega)).trans HB1.out
     clear x10 x11 x12 x13 x14;obtain ⟨x20,x21,x22,x23,x24⟩:=zN HB2.out;go_wp2_with fail;refine (HT.out _).mono ?_;rintro e w3 ⟨rfl,hb3⟩;have hB3:=hB2.trans (hb3.mono (by omega))
     have hz3:w.heap.size<w3.heap.size:=by have:=hb3.size;omega
     have HB3:Hid (w3.heap[w.heap.size]?=some (.cells #[.int .i64 k,.int .i64 0,.slice ca ct.length cc,.string nm,.string s] 30 (0,0))):=(hb3.block _ (by omega)).trans HB2.out
     clear x20 x21 x22 x23 x24;obtain ⟨x30,x31,x32,x33,x34⟩:=zN HB3.out;go_wp2_with fail;refine (HP.out _).mono ?_;rintro e w4 ⟨rfl,rfl⟩;go_wp2_with fail;go_ret;exact ⟨by rw[HR3.out];rfl,hB3⟩
   | false =>
     simp only[Nat.zero_mul,Nat.add_zero]at c0
     have d0:Hid (∀ W,Below w.heap.size w W→W.cell? ⟨b,of,none⟩=some (.bool x.text)):=fun W hW=>(World.cell?_of_block (a:=⟨b,of,none⟩) (hW.block b hbw)).trans c0
     clear c0
     generalize x.text=tx at *
     cases tx with
     | false =>
       go_enter Tryz.func20,Tryz.ntmps20
       go_wp2_with fail;refine (HC.out _ hb).mono ?_;rintro e w1 ⟨rfl,hb1⟩;have hB1:=hb.trans (hb1.mono hb.size);have hz1:w.heap.size<w1.heap.size:=by have:=hb1.size;simp at this;omega
       have HB1:Hid (w1.heap[w.heap.size]?=some (.cells #[.int .i64 k,.int .i64 0,.slice ca ct.length cc,.string nm,.string s] 30 (0,0))):=zI hb1;obtain ⟨x10,x11,x12,x13,x14⟩:=zN HB1.out;go_wp2_with fail;refine (HM.out _).mono ?_;rintro e w2 ⟨rfl,hb2⟩;have hB2:=hB1.trans (hb2.mono (by omega))
       have hz2:w.heap.size<w2.heap.size:=by have:=hb2.size;omega
       have HB2:Hid (w2.heap[w.heap.size]?=some (.cells #[.int .i64 k,.int .i64 0,.slice ca ct.length cc,.string nm,.string s] 30 (0,0))):=(hb2.block _ (by omega)).trans HB1.out
       clear x10 x11 x12 x13 x14;obtain ⟨x20,x21,x22,x23,x24⟩:=zN HB2.out;go_wp2_with fail;refine (HT.out _).mono ?_;rintro e w3 ⟨rfl,hb3⟩;have hB3:=hB2.trans (hb3.mono (by omega))
       have hz3:w.heap.size<w3.heap.size:=by have:=hb3.size;omega
       have HB3:Hid (w3.heap[w.heap.size]?=some (.cells #[.int .i64 k,.int .i64 0,.slice ca ct.length cc,.string nm,.string s] 30 (0,0))):=(hb3.block _ (by omega)).trans HB2.out
       clear x20 x21 x22 x23 x24;obtain ⟨x30,x31,x32,x33,x34⟩:=zN HB3.out;go_wp2_with fail;refine (HP.out _).mono ?_;rintro e w4 ⟨rfl,rfl⟩;have e0:=d0.out _ hB3;go_wp2_with fail;go_ret;exact ⟨by rw[HR3.out];rfl,hB3⟩
     | true =>
       by_cases h7:k=7
       · subst h7
         go_enter Tryz.func20,Tryz.ntmps20
         go_wp2_with fail;refine (HC.out _ hb).mono ?_;rintro e w1 ⟨rfl,hb1⟩;have hB1:=hb.trans (hb1.mono hb.size);have hz1:w.heap.size<w1.heap.size:=by have:=hb1.size;simp at this;omega
         have HB1:Hid (w1.heap[w.heap.size]?=some (.cells #[.int .i64 7,.int .i64 0,.slice ca ct.length cc,.string nm,.string s] 30 (0,0))):=zI hb1;obtain ⟨x10,x11,x12,x13,x14⟩:=zN HB1.out;go_wp2_with fail;refine (HM.out _).mono ?_;rintro e w2 ⟨rfl,hb2⟩;have hB2:=hB1.trans (hb2.mono (by omega))
         have hz2:w.heap.size<w2.heap.size:=by have:=hb2.size;omega
         have HB2:Hid (w2.heap[w.heap.size]?=some (.cells #[.int .i64 7,.int .i64 0,.slice ca ct.length cc,.string nm,.string s] 30 (0,0))):=(hb2.block _ (by omega)).trans HB1.out
         clear x10 x11 x12 x13 x14;obtain ⟨x20,x21,x22,x23,x24⟩:=zN HB2.out;go_wp2_with fail;refine (HT.out _).mono ?_;rintro e w3 ⟨rfl,hb3⟩;have hB3:=hB2.trans (hb3.mono (by omega))
         have hz3:w.heap.size<w3.heap.size:=by have:=hb3.size;omega
         have HB3:Hid (w3.heap[w.heap.size]?=some (.cells #[.int .i64 7,.int .i64 0,.slice ca ct.length cc,.string nm,.string s] 30 (0,0))):=(hb3.block _ (by omega)).trans HB2.out
         clear x20 x21 x22 x23 x24;obtain ⟨x30,x31,x32,x33,x34⟩:=zN HB3.out;go_wp2_with fail;refine (HP.out _).mono ?_;rintro e w4 ⟨rfl,rfl⟩;have e0:=d0.out _ hB3;go_wp2_with fail;refine (HP.out _).mono ?_;rintro e w5 ⟨rfl,rfl⟩;go_wp2_with fail;go_ret;exact ⟨by rw[HR3.out];rfl,hB3⟩
       · have HR4 : Hid (R = 4) := by show _ = _;rw[HR3.out];simp[h7]
         have b7:(k==7)=false:=by simpa using h7
         clear HR3 h7
         go_enter Tryz.func20,Tryz.ntmps20
         go_wp2_with fail;refine (HC.out _ hb).mono ?_;rintro e w1 ⟨rfl,hb1⟩;have hB1:=hb.trans (hb1.mono hb.size);have hz1:w.heap.size<w1.heap.size:=by have:=hb1.size;simp at this;omega
         have HB1:Hid (w1.heap[w.heap.size]?=some (.cells #[.int .i64 k,.int .i64 0,.slice ca ct.length cc,.string nm,.string s] 30 (0,0))):=zI hb1;obtain ⟨x10,x11,x12,x13,x14⟩:=zN HB1.out;go_wp2_with fail;refine (HM.out _).mono ?_;rintro e w2 ⟨rfl,hb2⟩;have hB2:=hB1.trans (hb2.mono (by omega))
         have hz2:w.heap.size<w2.heap.size:=by have:=hb2.size;omega
         have HB2:Hid (w2.heap[w.heap.size]?=some (.cells #[.int .i64 k,.int .i64 0,.slice ca ct.length cc,.string nm,.string s] 30 (0,0))):=(hb2.block _ (by omega)).trans HB1.out
         clear x10 x11 x12 x13 x14;obtain ⟨x20,x21,x22,x23,x24⟩:=zN HB2.out;go_wp2_with fail;refine (HT.out _).mono ?_;rintro e w3 ⟨rfl,hb3⟩;have hB3:=hB2.trans (hb3.mono (by omega))
         have hz3:w.heap.size<w3.heap.size:=by have:=hb3.size;omega
         have HB3:Hid (w3.heap[w.heap.size]?=some (.cells #[.int .i64 k,.int .i64 0,.slice ca ct.length cc,.string nm,.string s] 30 (0,0))):=(hb3.block _ (by omega)).trans HB2.out
         clear x20 x21 x22 x23 x24;obtain ⟨x30,x31,x32,x33,x34⟩:=zN HB3.out;go_wp2_with fail;refine (HP.out _).mono ?_;rintro e w4 ⟨rfl,rfl⟩;have e0:=d0.out _ hB3;go_wp2_with fail;refine (HP.out _).mono ?_;rintro e w5 ⟨rfl,rfl⟩;go_wp2_with fail;go_ret;exact ⟨by rw[HR4.out];rfl,hB3⟩
 · obtain ⟨i, rfl⟩ : ∃ i : Nat, tg = (i : Int) := ⟨tg.toNat, by omega⟩
   have hil:i<ns.length:=by omega
   obtain ⟨x,hxi⟩:∃ x,ns[i]?=some x:=⟨ns[i],by simp[hil]⟩
   have HR3:Hid (R=if x.text&&!(qL k)&&!(decide (k=7)) then 4 else 0):=by
    show _=_
    rw[HR2.out,HX.out i,hxi,decide_eq_false h0];simp
   obtain ⟨b,of,cap,va,vk,hv,_,_,hSb,hbw,c0,c1,c2,c3,c4,hAt,hKi⟩:=HN.out.at hxi
   clear HR2 HX HN c1 c2 c3 c4 hAt hKi hSb hxi
   injection hv with hv1 _ hv2
   subst hv1 hv2;have d0:Hid (∀ W,Below w.heap.size w W→W.cell? ⟨b,of+i*5,none⟩=some (.bool x.text)):=fun W hW=>(World.cell?_of_block (a:=⟨b,of+i*5,none⟩) (hW.block b hbw)).trans c0
   have hi0:((i:Int)==0)=false:=by simpa using h0
   clear c0 h0
   generalize ns.length=L at *
   generalize qL k=pb at *
   generalize x.text=tx at *
   cases tx with
   | false =>
     go_enter Tryz.func20,Tryz.ntmps20
     go_wp2_with fail;refine (HC.out _ hb).mono ?_;rintro e w1 ⟨rfl,hb1⟩;have hB1:=hb.trans (hb1.mono hb.size);have hz1:w.heap.size<w1.heap.size:=by have:=hb1.size;simp at this;omega
     have HB1:Hid (w1.heap[w.heap.size]?=some (.cells #[.int .i64 k,.int .i64 (i:Int),.slice ca ct.length cc,.string nm,.string s] 30 (0,0))):=zI hb1;obtain ⟨x10,x11,x12,x13,x14⟩:=zN HB1.out;go_wp2_with fail;refine (HM.out _).mono ?_;rintro e w2 ⟨rfl,hb2⟩;have hB2:=hB1.trans (hb2.mono (by omega))
     have hz2:w.heap.size<w2.heap.size:=by have:=hb2.size;omega
     have HB2:Hid (w2.heap[w.heap.size]?=some (.cells #[.int .i64 k,.int .i64 (i:Int),.slice ca ct.length cc,.string nm,.string s] 30 (0,0))):=(hb2.block _ (by omega)).trans HB1.out
     clear x10 x11 x12 x13 x14;obtain ⟨x20,x21,x22,x23,x24⟩:=zN HB2.out;go_wp2_with fail;refine (HT.out _).mono ?_;rintro e w3 ⟨rfl,hb3⟩;have hB3:=hB2.trans (hb3.mono (by omega))
     have hz3:w.heap.size<w3.heap.size:=by have:=hb3.size;omega
     have e0:=d0.out _ hB3;have HB3:Hid (w3.heap[w.heap.size]?=some (.cells #[.int .i64 k,.int .i64 (i:Int),.slice ca ct.length cc,.string nm,.string s] 30 (0,0))):=(hb3.block _ (by omega)).trans HB2.out
     clear x20 x21 x22 x23 x24;obtain ⟨x30,x31,x32,x33,x34⟩:=zN HB3.out;go_wp2_with fail;go_ret;exact ⟨by rw[HR3.out];rfl,hB3⟩
   | true =>
     cases pb with
     | true =>
       go_enter Tryz.func20,Tryz.ntmps20
       go_wp2_with fail;refine (HC.out _ hb).mono ?_;rintro e w1 ⟨rfl,hb1⟩;have hB1:=hb.trans (hb1.mono hb.size);have hz1:w.heap.size<w1.heap.size:=by have:=hb1.size;simp at this;omega
       have HB1:Hid (w1.heap[w.heap.size]?=some (.cells #[.int .i64 k,.int .i64 (i:Int),.slice ca ct.length cc,.string nm,.string s] 30 (0,0))):=zI hb1;obtain ⟨x10,x11,x12,x13,x14⟩:=zN HB1.out;go_wp2_with fail;refine (HM.out _).mono ?_;rintro e w2 ⟨rfl,hb2⟩;have hB2:=hB1.trans (hb2.mono (by omega))
       have hz2:w.heap.size<w2.heap.size:=by have:=hb2.size;omega
       have HB2:Hid (w2.heap[w.heap.size]?=some (.cells #[.int .i64 k,.int .i64 (i:Int),.slice ca ct.length cc,.string nm,.string s] 30 (0,0))):=(hb2.block _ (by omega)).trans HB1.out
       clear x10 x11 x12 x13 x14;obtain ⟨x20,x21,x22,x23,x24⟩:=zN HB2.out;go_wp2_with fail;refine (HT.out _).mono ?_;rintro e w3 ⟨rfl,hb3⟩;have hB3:=hB2.trans (hb3.mono (by omega))
       have hz3:w.heap.size<w3.heap.size:=by have:=hb3.size;omega
       have e0:=d0.out _ hB3;have HB3:Hid (w3.heap[w.heap.size]?=some (.cells #[.int .i64 k,.int .i64 (i:Int),.slice ca ct.length cc,.string nm,.string s] 30 (0,0))):=(hb3.block _ (by omega)).trans HB2.out
       clear x20 x21 x22 x23 x24;obtain ⟨x30,x31,x32,x33,x34⟩:=zN HB3.out;go_wp2_with fail;refine (HP.out _).mono ?_;rintro e w5 ⟨rfl,rfl⟩;go_wp2_with fail;go_ret;exact ⟨by rw[HR3.out];rfl,hB3⟩
     | false =>
       by_cases h7:k=7
       · subst h7
         go_enter Tryz.func20,Tryz.ntmps20
         go_wp2_with fail;refine (HC.out _ hb).mono ?_;rintro e w1 ⟨rfl,hb1⟩;have hB1:=hb.trans (hb1.mono hb.size);have hz1:w.heap.size<w1.heap.size:=by have:=hb1.size;simp at this;omega
         have HB1:Hid (w1.heap[w.heap.size]?=some (.cells #[.int .i64 7,.int .i64 (i:Int),.slice ca ct.length cc,.string nm,.string s] 30 (0,0))):=zI hb1;obtain ⟨x10,x11,x12,x13,x14⟩:=zN HB1.out;go_wp2_with fail;refine (HM.out _).mono ?_;rintro e w2 ⟨rfl,hb2⟩;have hB2:=hB1.trans (hb2.mono (by omega))
         have hz2:w.heap.size<w2.heap.size:=by have:=hb2.size;omega
         have HB2:Hid (w2.heap[w.heap.size]?=some (.cells #[.int .i64 7,.int .i64 (i:Int),.slice ca ct.length cc,.string nm,.string s] 30 (0,0))):=(hb2.block _ (by omega)).trans HB1.out
         clear x10 x11 x12 x13 x14;obtain ⟨x20,x21,x22,x23,x24⟩:=zN HB2.out;go_wp2_with fail;refine (HT.out _).mono ?_;rintro e w3 ⟨rfl,hb3⟩;have hB3:=hB2.trans (hb3.mono (by omega))
         have hz3:w.heap.size<w3.heap.size:=by have:=hb3.size;omega
         have e0:=d0.out _ hB3;have HB3:Hid (w3.heap[w.heap.size]?=some (.cells #[.int .i64 7,.int .i64 (i:Int),.slice ca ct.length cc,.string nm,.string s] 30 (0,0))):=(hb3.block _ (by omega)).trans HB2.out
         clear x20 x21 x22 x23 x24;obtain ⟨x30,x31,x32,x33,x34⟩:=zN HB3.out;go_wp2_with fail;refine (HP.out _).mono ?_;rintro e w5 ⟨rfl,rfl⟩;go_wp2_with fail;go_ret;exact ⟨by rw[HR3.out];rfl,hB3⟩
       · have HR4 : Hid (R = 4) := by show _ = _;rw[HR3.out];simp[h7]
         have b7:(k==7)=false:=by simpa using h7
         clear HR3 h7
         go_enter Tryz.func20,Tryz.ntmps20
         go_wp2_with fail;refine (HC.out _ hb).mono ?_;rintro e w1 ⟨rfl,hb1⟩;have hB1:=hb.trans (hb1.mono hb.size);have hz1:w.heap.size<w1.heap.size:=by have:=hb1.size;simp at this;omega
         have HB1:Hid (w1.heap[w.heap.size]?=some (.cells #[.int .i64 k,.int .i64 (i:Int),.slice ca ct.length cc,.string nm,.string s] 30 (0,0))):=zI hb1;obtain ⟨x10,x11,x12,x13,x14⟩:=zN HB1.out;go_wp2_with fail;refine (HM.out _).mono ?_;rintro e w2 ⟨rfl,hb2⟩;have hB2:=hB1.trans (hb2.mono (by omega))
         have hz2:w.heap.size<w2.heap.size:=by have:=hb2.size;omega
         have HB2:Hid (w2.heap[w.heap.size]?=some (.cells #[.int .i64 k,.int .i64 (i:Int),.slice ca ct.length cc,.string nm,.string s] 30 (0,0))):=(hb2.block _ (by omega)).trans HB1.out
         clear x10 x11 x12 x13 x14;obtain ⟨x20,x21,x22,x23,x24⟩:=zN HB2.out;go_wp2_with fail;refine (HT.out _).mono ?_;rintro e w3 ⟨rfl,hb3⟩;have hB3:=hB2.trans (hb3.mono (by omega))
         have hz3:w.heap.size<w3.heap.size:=by have:=hb3.size;omega
         have e0:=d0.out _ hB3;have HB3:Hid (w3.heap[w.heap.size]?=some (.cells #[.int .i64 k,.int .i64 (i:Int),.slice ca ct.length cc,.string nm,.string s] 30 (0,0))):=(hb3.block _ (by omega)).trans HB2.out
         clear x20 x21 x22 x23 x24;obtain ⟨x30,x31,x32,x33,x34⟩:=zN HB3.out;go_wp2_with fail;refine (HP.out _).mono ?_;rintro e w5 ⟨rfl,rfl⟩;go_wp2_with fail;go_ret;exact ⟨by rw[HR4.out];rfl,hB3⟩
end
section
attribute [local go_sem] qk
set_option maxHeartbeats 4000000 in
theorem Qj (a b:Opn)(va vb:Value)(w:World) :
 Calls Tryz.prog 9 #[.agg #[.int .i64 a.kind,.int .i64 a.target,va,.string a.name,.string a.s],.agg #[.int .i64 b.kind,.int .i64 b.target,vb,.string b.name,.string b.s]] w fun e w'=>e=.returned (.bool (agB a b))∧Below w.heap.size w w':=by
 have HA:Hid (agB a b=(decide (a.target=b.target)&&((decide (a.kind=6)&&decide (b.kind=6))||(decide (a.kind=7)&&decide (b.kind=7))||(decide (a.kind=8)&&decide (b.kind=8)) ||
  ((decide (a.kind=9)||decide (a.kind=10))&&(decide (b.kind=9)||decide (b.kind=10))&&decide (a.name=b.name))))):=rfl
 have hb:=(Below.alloc1 w (.cells #[.int .i64 a.kind,.int .i64 a.target,va,.string a.name,.string a.s] 30)).alloc (by simp) (.cells #[.int .i64 b.kind,.int .i64 b.target,vb,.string b.name,.string b.s] 30)
 generalize agB a b=R at *
 obtain ⟨k,tg,ct,nm,s⟩:=a;obtain ⟨k',tg',ct',nm',s'⟩:=b;dsimp only at *
 by_cases ht:tg=tg'
 · subst ht
   by_cases h6:k=6
   · subst h6
     by_cases g:k'=6
     · subst g;have HR:Hid (R=true):=by show _=_;rw[HA.out];simp
       clear HA
       go_enter Tryz.func9,Tryz.ntmps9
       go_wp2_with fail;go_ret;exact ⟨by rw[HR.out];rfl,hb⟩
     · have HR : Hid (R = false) := by show _ = _;rw[HA.out];simp[g]
       have b1:(k'==6)=false:=by simpa using g
       have b2:((6:Int)==k')=false:=by simpa using fun e=>g e.symm
       clear HA g
       go_enter Tryz.func9,Tryz.ntmps9
       go_wp2_with fail;go_ret;exact ⟨by rw[HR.out];rfl,hb⟩
   by_cases h7:k=7
   · subst h7
     by_cases g:k'=7
     · subst g;have HR:Hid (R=true):=by show _=_;rw[HA.out];simp
       clear HA
       go_enter Tryz.func9,Tryz.ntmps9
       go_wp2_with fail;go_ret;exact ⟨by rw[HR.out];rfl,hb⟩
     · have HR : Hid (R = false) := by show _ = _;rw[HA.out];simp[g]
       have b1:(k'==7)=false:=by simpa using g
       have b2:((7:Int)==k')=false:=by simpa using fun e=>g e.symm
       clear HA g
       go_enter Tryz.func9,Tryz.ntmps9
       go_wp2_with fail;go_ret;exact ⟨by rw[HR.out];rfl,hb⟩
   by_cases h8:k=8
   · subst h8
     by_cases g:k'=8
     · subst g;have HR:Hid (R=true):=by show _=_;rw[HA.out];simp
       clear HA
       go_enter Tryz.func9,Tryz.ntmps9
       go_wp2_with fail;go_ret;exact ⟨by rw[HR.out];rfl,hb⟩
     · have HR : Hid (R = false) := by show _ = _;rw[HA.out];simp[g]
       have b1:(k'==8)=false:=by simpa using g
       have b2:((8:Int)==k')=false:=by simpa using fun e=>g e.symm
       clear HA g
       go_enter Tryz.func9,Tryz.ntmps9
       go_wp2_with fail;go_ret;exact ⟨by rw[HR.out];rfl,hb⟩
   by_cases h9:k=9
   · subst h9
     by_cases g9:k'=9
     · subst g9;have HR:Hid (R=decide (nm=nm')):=by show _=_;rw[HA.out];simp
       clear HA
       go_enter Tryz.func9,Tryz.ntmps9
       go_wp2_with fail;go_ret;exact ⟨by rw[HR.out,yg];rfl,hb⟩
     by_cases g10:k'=10
     · subst g10;have HR:Hid (R=decide (nm=nm')):=by show _=_;rw[HA.out];simp
       clear HA
       go_enter Tryz.func9,Tryz.ntmps9
       go_wp2_with fail;go_ret;exact ⟨by rw[HR.out,yg];rfl,hb⟩
     have HR:Hid (R=false):=by show _=_;rw[HA.out];simp[g9,g10]
     have b1:(k'==9)=false:=by simpa using g9
     have b2:(k'==10)=false:=by simpa using g10
     clear HA g9 g10
     go_enter Tryz.func9,Tryz.ntmps9
     go_wp2_with fail;go_ret;exact ⟨by rw[HR.out];rfl,hb⟩
   by_cases h10:k=10
   · subst h10
     by_cases g9:k'=9
     · subst g9;have HR:Hid (R=decide (nm=nm')):=by show _=_;rw[HA.out];simp
       clear HA
       go_enter Tryz.func9,Tryz.ntmps9
       go_wp2_with fail;go_ret;exact ⟨by rw[HR.out,yg];rfl,hb⟩
     by_cases g10:k'=10
     · subst g10;have HR:Hid (R=decide (nm=nm')):=by show _=_;rw[HA.out];simp
       clear HA
       go_enter Tryz.func9,Tryz.ntmps9
       go_wp2_with fail;go_ret;exact ⟨by rw[HR.out,yg];rfl,hb⟩
     have HR:Hid (R=false):=by show _=_;rw[HA.out];simp[g9,g10]
     have b1:(k'==9)=false:=by simpa using g9
     have b2:(k'==10)=false:=by simpa using g10
     clear HA g9 g10
     go_enter Tryz.func9,Tryz.ntmps9
     go_wp2_with fail;go_ret;exact ⟨by rw[HR.out];rfl,hb⟩
   have HR:Hid (R=false):=by show _=_;rw[HA.out];simp[h6,h7,h8,h9,h10]
   have b6:(k==6)=false:=by simpa using h6
   have b7:(k==7)=false:=by simpa using h7
   have b8:(k==8)=false:=by simpa using h8
   have b9:(k==9)=false:=by simpa using h9
   have b10:(k==10)=false:=by simpa using h10
   clear HA h6 h7 h8 h9 h10
   go_enter Tryz.func9,Tryz.ntmps9
   go_wp2_with fail;go_ret;exact ⟨by rw[HR.out];rfl,hb⟩
 · have HR : Hid (R = false) := by show _ = _;rw[HA.out, decide_eq_false ht];rfl
   have b1:(tg==tg')=false:=by simpa using ht
   clear HA ht
   go_enter Tryz.func9,Tryz.ntmps9
   go_wp2_with fail;go_ret;exact ⟨by rw[HR.out];rfl,hb⟩
end
end Go.Proofs.YtnppmdpmippcoaaGreatDoor
namespace Go.Proofs.YtnppmdpmippcoaaGreatDoor
set_option maxRecDepth 100000
theorem bytes_lt:∀ a b:List UInt8,Op.bytesLess a b=decide (a<b):=by
 intro a
 induction a with
 | nil =>
   intro b;cases b with
   | nil=>simp[Op.bytesLess]
   | cons d b=>simp[Op.bytesLess]
 | cons c a ih =>
   intro b;cases b with
   | nil=>simp[Op.bytesLess]
   | cons d b =>
     rw[Op.bytesLess,ih b]
     by_cases h1:c<d
     · simp[h1,List.cons_lt_cons_iff]
     · by_cases h3 : c = d
       · subst h3;simp
       · simp[h1,h3,List.cons_lt_cons_iff]
def UpA (l:List (ByteArray × ByteArray)):Prop:=l.Pairwise fun x y=>x.1.toList<y.1.toList
theorem Ke {l:List (ByteArray × ByteArray)}(h:zD l=true):UpA l:=by
 simp only[zD,Bool.and_eq_true,decide_eq_true_eq,List.all_eq_true]at h
 have step:∀ i,i+1<l.length→∀ x y,l[i]?=some x→l[i+1]?=some y→x.1.toList<y.1.toList:=by
  intro i hi x y hx hy;have hk:=h.2 (i+1) (by simpa using hi)
  unfold okA at hk
  rw[hy]at hk
  simp only[hx,Bool.and_eq_true]at hk
  have:=hk.2;rw[bytes_lt,decide_eq_true_eq]at this
  exact this
 have gen:∀ (m:List (ByteArray × ByteArray)),(∀ i,i+1<m.length→∀ x y,m[i]?=some x→m[i+1]?=some y→x.1.toList<y.1.toList)→UpA m:=by
  intro m
  induction m with
  | nil=>intro _;exact List.Pairwise.nil
  | cons a m ih =>
    intro hs;have hm:=ih (fun i hi x y hx hy=>hs (i+1) (by simpa using hi) x y (by simpa using hx) (by simpa using hy))
    unfold UpA;rw[List.pairwise_cons];refine ⟨fun b hb=>?_,hm⟩
    cases m with
    | nil=>simp at hb
    | cons c m =>
      have h1:a.1.toList<c.1.toList:=hs 0 (by simp) a c rfl rfl
      rw[List.mem_cons]at hb
      rcases hb with rfl|hb
      · exact h1
      · unfold UpA at hm
        rw[List.pairwise_cons]at hm
        exact List.lt_trans h1 (hm.1 b hb)
 exact gen _ step
def ltA (name:ByteArray)(a:ByteArray × ByteArray):Bool:=Op.bytesLess a.1.toList name.toList
def gtA (name:ByteArray)(a:ByteArray × ByteArray):Bool:=Op.bytesLess name.toList a.1.toList
theorem QK {a b:ByteArray}(h:a.toList=b.toList):a=b:=by
 rw[ByteArray.toList_eq,ByteArray.toList_eq]at h
 cases a;cases b;simp only at h
 rw[Array.toList_inj]at h
 rw[h]
theorem KU {l:List (ByteArray × ByteArray)}(h:UpA l){name:ByteArray}(hn:∀ a∈l,a.1≠name):l.filter (ltA name)++l.filter (gtA name)=l:=by
 induction l with
 | nil=>rfl
 | cons a l ih =>
   unfold UpA at h
   rw[List.pairwise_cons]at h
   have hne:=hn a List.mem_cons_self;have ihl:=ih h.2 (fun x hx=>hn x (List.mem_cons_of_mem _ hx))
   by_cases hlt:a.1.toList<name.toList
   · have h1 : ltA name a = true := by unfold ltA;rw[bytes_lt];simpa using hlt
     have h2:gtA name a=false:=by unfold gtA;rw[bytes_lt];simpa using fun h3=>List.lt_irrefl _ (List.lt_trans hlt h3)
     rw[List.filter_cons_of_pos h1,List.filter_cons_of_neg (by simp[h2]),List.cons_append,ihl]
   · have h3:name.toList<a.1.toList:=by
      have hle:name.toList≤a.1.toList:=List.not_lt.1 hlt
      rcases List.le_iff_lt_or_eq.1 hle with h4|h4
      · exact h4
      · exact absurd (QK h4).symm hne
     have h1:ltA name a=false:=by unfold ltA;rw[bytes_lt];simpa using hlt
     have h2:gtA name a=true:=by unfold gtA;rw[bytes_lt];simpa using h3
     have e0:l.filter (ltA name)=[]:=by
      rw[List.filter_eq_nil_iff];intro x hx;have h5:=List.lt_trans h3 (h.1 x hx);unfold ltA;rw[bytes_lt]
      simpa using fun h6=>List.lt_irrefl _ (List.lt_trans h5 h6)
     rw[e0]at ihl
     rw[List.filter_cons_of_neg (by simp[h1]),List.filter_cons_of_pos h2,e0]
     rw[List.nil_append]at ihl ⊢
     rw[ihl]
end Go.Proofs.YtnppmdpmippcoaaGreatDoor
