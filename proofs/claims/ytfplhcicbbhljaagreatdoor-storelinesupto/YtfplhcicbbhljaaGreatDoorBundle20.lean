/- Bundled: LayM DocK DocT DocU LayB DocN Fam PathM Steps Lay DocMk BenchM BenchP BenchD ChangeM OpsL ApplyM ZipM KeepM NGrow BenchW WrongW AgainW. What each says stands ahead of it. -/
import Derived.Test.YtfplhcicbbhljaaGreatDoorBundle19
import Derived.Test.YtfplhcicbbhljaaGreatDoorBundle17
namespace Go.Proofs.YtfplhcicbbhljaaGreatDoor
open Go.ChangeShapes Go.WideShapes Go.ChangeAt Go.RowKit
set_option maxRecDepth 100000
def qk (d:Nat):Nat→List Tr→List Int
 | _,[]=>[]
 | at',k::ks=>(at':Int)::qk d (at'+cnt (d+1) [k]) ks
def qu (d:Nat)(g:Tr→Int→Nat→List Nd)(par:Nat):Nat→List Tr→List Nd
 | _,[]=>[]
 | at',k::ks=>g k par at'++qu d g par (at'+cnt (d+1) [k]) ks
def layF:Nat→Tr→Int→Nat→List Nd
 | 0,t,par,_=>[⟨t.text,t.s,t.attrs,par,[]⟩]
 | d+1,t,par,at'=>⟨t.text,t.s,t.attrs,par,qk d (at'+1) t.kids⟩::qu d (layF d) at' (at'+1) t.kids
theorem qS (d:Nat)(t:Tr):cnt (d+1) [t]=1+cnt d t.kids:=by simp[cnt]
theorem zj (d:Nat)(t:Tr)(r:List Tr):cnt (d+1) (t::r)=cnt (d+1) [t]+cnt (d+1) r:=by simp[cnt]
theorem jC (d:Nat)(g:Tr→Int→Nat→List Nd)(par:Nat):∀ (a b:List Tr)(at':Nat),qu d g par at' (a++b)=qu d g par at' a++qu d g par (at'+cnt (d+1) a) b:=by
 intro a
 induction a with
 | nil=>intro b at';simp[qu,cnt]
 | cons k a ih =>
   intro b at'
   rw[List.cons_append,qu,qu,ih,zj d k a,List.append_assoc,Nat.add_assoc]
theorem yP (d:Nat):∀ (a b:List Tr)(at':Nat),qk d at' (a++b)=qk d at' a++qk d (at'+cnt (d+1) a) b:=by
 intro a
 induction a with
 | nil=>intro b at';simp[qk,cnt]
 | cons k a ih =>
   intro b at'
   rw[List.cons_append,qk,qk,ih,zj d k a,List.cons_append,Nat.add_assoc]
theorem Ql (d:Nat):∀ (a:List Tr)(at':Nat),(qk d at' a).length=a.length:=by
 intro a
 induction a with
 | nil=>intro _;rfl
 | cons k a ih=>intro at';simp[qk,ih]
theorem layF_length:∀ (d:Nat)(t:Tr)(par:Int)(at':Nat),Deep d t.kids→(layF d t par at').length=cnt (d+1) [t]:=by
 intro d
 induction d with
 | zero =>
   intro t par at' h
   have:t.kids=[]:=h;rw[qS,this];rfl
 | succ d ih =>
   intro t par at' h
   rw[layF,List.length_cons,qS]
   have:∀ (ts:List Tr) (a:Nat),Deep (d+1) ts→(qu d (layF d) at' a ts).length=cnt (d+1) ts:=by
    intro ts
    induction ts with
    | nil=>intro _ _;rfl
    | cons k ts ih2 =>
      intro a hd;rw[qu,List.length_append,ih k _ _ (hd k List.mem_cons_self),ih2 _ (fun u hu=>hd u (List.mem_cons_of_mem _ hu)),zj d k ts]
   rw[this t.kids (at'+1) h]
   omega
structure Rw where
 text:Bool
 s:ByteArray
 va:Value
 par:Int
 vk:Value
def rawCells:List Rw→List Value
 | []=>[]
 | r::l=>.bool r.text::.string r.s::r.va::.int .i64 r.par::r.vk::rawCells l
theorem yo (l:List Rw):(rawCells l).length=l.length*5:=by
 induction l with
 | nil=>rfl
 | cons x r ih=>simp[rawCells,ih];omega
theorem zU (l:List Rw):∀ i r,l[i]?=some r→(rawCells l)[i*5]?=some (.bool r.text)∧(rawCells l)[i*5+1]?=some (.string r.s)∧(rawCells l)[i*5+2]?=some r.va∧(rawCells l)[i*5+3]?=some (.int .i64 r.par)∧(rawCells l)[i*5+4]?=some r.vk:=by
 induction l with
 | nil=>intro i x h;simp at h
 | cons y r ih =>
   intro i x h;cases i with
   | zero=>simp at h;subst h;simp[rawCells]
   | succ i =>
     have:=ih i x (by simpa using h)
     rw[show (i+1)*5=i*5+5 from by omega]
     simpa[rawCells] using this
theorem Kb (l:List Rw):∀ (i:Nat)(r:Rw),i<l.length→rawCells (l.set i r)=(((((rawCells l).set (i*5) (.bool r.text)).set (i*5+1) (.string r.s)).set (i*5+2) r.va).set (i*5+3) (.int .i64 r.par)).set (i*5+4) r.vk:=by
 induction l with
 | nil=>intro i r h;simp at h
 | cons y l ih =>
   intro i r h;cases i with
   | zero=>simp[rawCells]
   | succ i =>
     rw[List.set_cons_succ,rawCells,ih i r (by simpa using h),show (i+1)*5=i*5+5 from by omega,rawCells]
     rfl
theorem yK (l:List Rw):∀ (i:Nat)(r:Rw)(v:Value),l[i]?=some r→rawCells (l.set i { r with vk:=v })=(rawCells l).set (i*5+4) v:=by
 induction l with
 | nil=>intro i r v h;simp at h
 | cons y l ih =>
   intro i r v h;cases i with
   | zero=>simp at h;subst h;simp[rawCells]
   | succ i =>
     rw[List.set_cons_succ,rawCells,ih i r v (by simpa using h),show (i+1)*5=i*5+5 from by omega,rawCells]
     rfl
def Row (nb:Nat)(ms:List Rw)(w:World):Prop:=w.heap[nb]?=some (.cells (rawCells ms).toArray 90 (0,0))
theorem Row.cells {nb:Nat}{ms:List Rw}{w:World}(h:Row nb ms w){i:Nat}{r:Rw}(hr:ms[i]?=some r):w.cell? ⟨nb,i*5,none⟩=some (.bool r.text)∧w.cell? ⟨nb,i*5+1,none⟩=some (.string r.s)∧w.cell? ⟨nb,i*5+2,none⟩=some r.va∧w.cell? ⟨nb,i*5+3,none⟩=some (.int .i64 r.par)∧w.cell? ⟨nb,i*5+4,none⟩=some r.vk:=by
 obtain ⟨g0,g1,g2,g3,g4⟩:=zU ms i r hr;refine ⟨?_,?_,?_,?_,?_⟩<;>rw[cH9 h]<;>simpa
theorem Row.frozen {nb:Nat}{ms:List Rw}{w:World}(h:Row nb ms w)(k:Nat):w.frozen? ⟨nb,k,none⟩=false:=fH9 h k
theorem Row.set1 {nb:Nat}{cs:List Value}{w:World}{e:TypeId}(h:w.heap[nb]?=some (.cells cs.toArray e (0,0)))(k:Nat)(v:Value):(w.setCell ⟨nb,k,none⟩ v).heap[nb]?=some (.cells (cs.set k v).toArray e (0,0)):=by
 simp[World.setCell,Array.getElem?_modify,h]
theorem Row.put {nb:Nat}{ms:List Rw}{w:World}(h:Row nb ms w){i:Nat}(hi:i<ms.length)(r:Rw):Row nb (ms.set i r) (((((w.setCell ⟨nb,i*5,none⟩ (.bool r.text)).setCell ⟨nb,i*5+1,none⟩ (.string r.s)).setCell ⟨nb,i*5+2,none⟩ r.va).setCell ⟨nb,i*5+3,none⟩ (.int .i64 r.par)).setCell ⟨nb,i*5+4,none⟩ r.vk):=by
 unfold Row;rw[Kb ms i r hi];exact Row.set1 (Row.set1 (Row.set1 (Row.set1 (Row.set1 h _ _) _ _) _ _) _ _) _ _
theorem Row.putK {nb:Nat}{ms:List Rw}{w:World}(h:Row nb ms w){i:Nat}{r:Rw}(hr:ms[i]?=some r)(v:Value):Row nb (ms.set i { r with vk:=v }) (w.setCell ⟨nb,i*5+4,none⟩ v):=by
 unfold Row;rw[yK ms i r v hr];exact Row.set1 h _ _
def xq (S:Nat→Prop)(w:World)(r:Rw)(x:Nd):Prop:=r.text=x.text∧r.s=x.s∧r.par=x.parent∧qm S w r.va x.attrs∧zr S w r.vk x.kids
def Laid (S:Nat→Prop)(w:World)(ms:List Rw)(at':Nat)(L:List Nd):Prop:=∀ (i:Nat)(x:Nd),L[i]?=some x→∃ r,ms[at'+i]?=some r∧xq S w r x
theorem xq.carry {S S':Nat→Prop}{w w':World}{r:Rw}{x:Nd}(h:xq S w r x)(hw:∀ b,S b→S' b∧w'.heap[b]?=w.heap[b]?):xq S' w' r x :=
 ⟨h.1,h.2.1,h.2.2.1,h.2.2.2.1.carry hw,h.2.2.2.2.carry hw⟩
theorem xq.bounded {S:Nat→Prop}{w:World}{r:Rw}{x:Nd}(h:xq S w r x):xq (fun b=>S b∧b<w.heap.size) w r x :=
 ⟨h.1,h.2.1,h.2.2.1,h.2.2.2.1.bounded,h.2.2.2.2.bounded⟩
theorem Laid.carry {S S':Nat→Prop}{w w':World}{ms ms':List Rw}{at':Nat}{L:List Nd}(h:Laid S w ms at' L)(hw:∀ b,S b→b<w.heap.size→S' b∧w'.heap[b]?=w.heap[b]?)(hm:∀ i,at'≤i→i<at'+L.length→ms'[i]?=ms[i]?):Laid S' w' ms' at' L:=by
 intro i x hx;obtain ⟨r,hr,hR⟩:=h i x hx
 have hi:i<L.length:=by
  rcases Nat.lt_or_ge i L.length with h'|h'
  · exact h'
  · rw[List.getElem?_eq_none h']at hx;cases hx
 exact ⟨r,by rw[hm _ (by omega) (by omega)];exact hr,hR.bounded.carry fun b hb=>hw b hb.1 hb.2⟩
theorem Laid.append {S:Nat→Prop}{w:World}{ms:List Rw}{at':Nat}{L M:List Nd}(h:Laid S w ms at' L)(k:Laid S w ms (at'+L.length) M):Laid S w ms at' (L++M):=by
 intro i x hx
 rcases Nat.lt_or_ge i L.length with h'|h'
 · rw[List.getElem?_append_left h']at hx;exact h i x hx
 · rw[List.getElem?_append_right h']at hx
   obtain ⟨r,hr,hR⟩:=k (i-L.length) x hx;exact ⟨r,by rw[show at'+i=at'+L.length+(i-L.length) by omega];exact hr,hR⟩
structure LFr (nb cb:Nat) (w w':World):Prop where
 below:Below 0 w w'
 frame:∀ x,x<w.heap.size→x≠nb→x≠cb→w'.heap[x]?=w.heap[x]?
theorem LFr.trans {nb cb:Nat}{w w1 w2:World}(h:LFr nb cb w w1)(k:LFr nb cb w1 w2):LFr nb cb w w2 :=
 ⟨h.below.trans k.below,fun x hx h1 h2=>by rw[k.frame x (Nat.lt_of_lt_of_le hx h.below.size) h1 h2,h.frame x hx h1 h2]⟩
theorem LFr.later {nb cb:Nat}{w w':World}(h:Below w.heap.size w w'):LFr nb cb w w':=⟨h.mono (nZ9 _),fun x hx _ _=>h.block x hx⟩
theorem LFr.putC (nb cb:Nat)(w:World)(k:Nat)(v:Value):LFr nb cb w (w.setCell ⟨cb,k,none⟩ v):=⟨(Below.refl 0 w).setCell (nZ9 _) _,fun _ _ _ h2=>Below.heap_setCell _ _ _ _ h2⟩
def FewN:Nat→List Tr→Prop
 | 0,_=>True
 | n+1,ts=>∀ t∈ts,t.attrs.length≤1048576∧FewN n t.kids
end Go.Proofs.YtfplhcicbbhljaaGreatDoor
namespace Go.Proofs.YtfplhcicbbhljaaGreatDoor
open Go.RowKit
set_option maxRecDepth 100000
def qfu (ns:List Nd)(i:Nat):Prop:=∀ x,ns[i]?=some x→x.kids.length≤ns.length∧∀ k∈x.kids,(i:Int)<k∧k<ns.length
def qcX (ns:List Nd)(a b:Nat):Prop:=a≤b∧b≤ns.length∧∀ i,a≤i→i<b→qfu ns i
theorem Vu {ns:List Nd}{G:Nat→Bool × Nat}(hG:∀ m,(G m).1=true→m<(G m).2∧qcX ns m (G m).2) :
 ∀ (ks:List Int) (m:Nat),m≤ns.length→(qJ G ks m).1=true→qcX ns m (qJ G ks m).2∧ks.length+m≤(qJ G ks m).2∧∀ k∈ks,(m:Int)≤k∧k<(qJ G ks m).2:=by
 intro ks
 induction ks with
 | nil=>intro m hm _;exact ⟨⟨nR9 _,hm,fun i h1 h2=>absurd h1 (by have:i<m:=h2;omega)⟩,by simp[qJ],by intro k hk;simp at hk⟩
 | cons k ks ih =>
   intro m _ h;unfold qJ at h ⊢
   by_cases hc:k=(m:Int)∧(G m).1=true
   · rw[if_pos hc]at h ⊢
     obtain ⟨h1,h2,h3,h4⟩:=hG m hc.2;obtain ⟨⟨k1,k2,k3⟩,k4,k5⟩:=ih (G m).2 h3 h;refine ⟨⟨by omega,k2,fun i hi1 hi2=>?_⟩,by simp;omega,fun k' hk'=>?_⟩
     · rcases Nat.lt_or_ge i (G m).2 with h' | h'
       · exact h4 i hi1 h'
       · exact k3 i h' hi2
     · rw[List.mem_cons]at hk'
       rcases hk' with rfl|hk'
       · rw[hc.1];omega
       · have:=k5 k' hk';omega
   · rw[if_neg hc]at h;simp at h
theorem ordF_seg:∀ (f:Nat)(ns:List Nd)(par:Int)(nx:Nat),(ordF f ns par nx).1=true→nx<(ordF f ns par nx).2∧qcX ns nx (ordF f ns par nx).2:=by
 intro f
 induction f with
 | zero=>intro ns par nx h;simp[ordF]at h
 | succ f ih =>
   intro ns par nx h;unfold ordF at h ⊢
   cases hx:ns[nx]? with
   | none=>simp[hx]at h
   | some x =>
     simp only[hx]at h ⊢
     have hlt:nx<ns.length:=by
      rcases Nat.lt_or_ge nx ns.length with h'|h'
      · exact h'
      · rw[List.getElem?_eq_none h']at hx;cases hx
     by_cases hp:x.parent=par
     · rw[if_pos hp]at h ⊢
       obtain ⟨⟨k1,k2,k3⟩,k4,k5⟩:=Vu (fun m hm=>ih ns nx m hm) x.kids (nx+1) (by omega) h
       refine ⟨by omega,by omega,k2,fun i hi1 hi2=>?_⟩
       rcases Nat.lt_or_ge nx i with h'|h'
       · exact k3 i h' hi2
       · have : i = nx := by omega
         subst this;intro y hy;rw[hx]at hy
         cases hy;refine ⟨by omega,fun k hk=>?_⟩
         have:=k5 k hk;omega
     · rw[if_neg hp]at h;simp at h
theorem Ja {f:Nat}{ns:List Nd}(h:ordF f ns (-1) 0=(true,ns.length))(hl:ns.length≤80)(ha:∀ x∈ns,x.attrs.length≤4398046511104):XH ns:=by
 have h1:=ordF_seg f ns (-1) 0 (by rw[h])
 rw[h]at h1
 intro n x hx
 have hlt:n<ns.length:=by
  rcases Nat.lt_or_ge n ns.length with h'|h'
  · exact h'
  · rw[List.getElem?_eq_none h']at hx;cases hx
 obtain ⟨k1,k2⟩:=h1.2.2.2 n (nZ9 _) hlt x hx;exact ⟨ha x (List.mem_of_getElem? hx),by omega,k2⟩
def Qq (ns:List Nd):Prop:=∀ x∈ns,x.s.size≤maxLen∧∀ y∈x.attrs,y.1.size≤maxLen∧y.2.size≤maxLen
theorem qan {ns:List Nd}(h:Qq ns):∀ (f n:Nat),YC (growF f ns n)∧TextsN f (growF f ns n).kids:=by
 intro f
 induction f with
 | zero=>intro n;exact ⟨⟨nZ9 _,by intro y hy;simp[growF]at hy⟩,trivial⟩
 | succ f ih =>
   intro n;rw[growF];cases hx:ns[n]? with
   | none=>exact ⟨⟨nZ9 _,by intro y hy;simp at hy⟩,by intro t ht;simp at ht⟩
   | some x =>
     refine ⟨h x (List.mem_of_getElem? hx),fun t ht=>?_⟩
     simp only[List.mem_map]at ht
     obtain ⟨k,_,rfl⟩:=ht;exact ih _
end Go.Proofs.YtfplhcicbbhljaaGreatDoor
namespace Go.Proofs.YtfplhcicbbhljaaGreatDoor
open Go.ChangeShapes Go.WideShapes Go.ChangeAt Go.RowKit
set_option maxRecDepth 100000
section
attribute [local go_sem] qd
def xA (ns:List Nd):Bool:=(ordF (ns.length+1) ns (-1) 0).1&&decide ((ordF (ns.length+1) ns (-1) 0).2=ns.length)
def qG (ns:List Nd):Bool:=decide (ns.length≤80)&&xA ns&&zZ (growF ns.length ns 0)
theorem js {ns:List Nd}(h:xA ns=true):ordF (ns.length+1) ns (-1) 0=(true,ns.length):=by
 simp only[xA,Bool.and_eq_true,decide_eq_true_eq]at h
 exact Prod.ext h.1 h.2
theorem Ze {ns:List Nd}(h:xA ns=true):0<ns.length:=by
 have h1:=ordF_seg (ns.length+1) ns (-1) 0 (by rw[js h])
 rw[js h]at h1
 exact h1.1
set_option maxHeartbeats 1000000 in
theorem Xi (S:Nat→Prop)(v:Value)(ns:List Nd)(w:World)(hN:qB S w v ns)(hS:∀ b,S b→b<w.heap.size)(ha:∀ x∈ns,x.attrs.length≤4398046511104)(hx:Qq ns) :
 Calls Tryz.prog 115 #[.agg #[v]] w fun e w'=>e=.returned (.bool (qG ns))∧Below w.heap.size w w':=by
 obtain ⟨a,cap,rfl,hlc,hcm⟩:=hN.shape;unfold maxLen at hcm
 have HG:Hid (qG ns=(decide (ns.length≤80)&&xA ns&&zZ (growF ns.length ns 0))):=rfl
 by_cases h80:ns.length≤80
 · have hi80 : ¬ (80 : Int) < (ns.length : Int) := by omega
   have HG2:Hid (qG ns=(xA ns&&zZ (growF ns.length ns 0))):=by show _=_;rw[HG.out];simp[h80]
   clear HG;have hb2:Below w.heap.size w ((w.alloc (.cells #[.slice a ns.length cap] 60)).alloc (.cells #[.int .i64 0] 3)):=(Below.alloc1 w _).alloc (by simp) _
   have hC2:Cnt (w.heap.size+1) 0 ((w.alloc (.cells #[.slice a ns.length cap] 60)).alloc (.cells #[.int .i64 0] 3)):=by
    have e:=heap_alloc_new (w.alloc (.cells #[.slice a ns.length cap] 60)) (.cells #[.int .i64 0] 3);rw[World.size_alloc]at e
    exact e
   have hx2:((w.alloc (.cells #[.slice a ns.length cap] 60)).alloc (.cells #[.int .i64 0] 3)).heap[w.heap.size]?=some (.cells #[.slice a ns.length cap] 60 (0,0)):=by
    rw[Lib.alloc_old _ _ _ (by simp)];exact heap_alloc_new _ _
   have HO:Hid _:=qe1 (ns.length+1) S _ ns (-1) (w.heap.size+1) 0 _ (hN.later hb2) (fun b hb=>by have:=hS b hb;omega) hC2 h80 (by omega)
   have HN:Hid (qB S w (.slice a ns.length cap) ns):=hN;have HA:Hid (∀ x∈ns,x.attrs.length≤4398046511104):=ha;have HX:Hid (Qq ns):=hx;have HS:Hid (∀ b,S b→b<w.heap.size):=hS;have HOR:Hid (xA ns=((ordF (ns.length+1) ns (-1) 0).1&&decide ((ordF (ns.length+1) ns (-1) 0).2=ns.length))):=rfl;clear hN hC2 ha hx hS
   go_enter Tryz.func115,Tryz.ntmps115
   go_wp2_with fail;refine (Calls.mono HO.out ?_);rintro e w3 ⟨rfl,hC3,hF3⟩
   have hx3:w3.heap[w.heap.size]?=some (.cells #[.slice a ns.length cap] 60 (0,0)):=by
    rw[hF3.frame w.heap.size (by simp;omega) (by omega)];exact hx2
   have hB3:Below w.heap.size w w3:=⟨hF3.below.os.trans hb2.os,hF3.below.tape.trans hb2.tape,hF3.below.output.trans hb2.output,Nat.le_trans hb2.size hF3.below.size,fun k hk=>by rw[hF3.frame k (by simp;omega) (by omega)];exact hb2.block k hk⟩
   have d0:w3.cell? ⟨w.heap.size,0,none⟩=some (.slice a ns.length cap):=by rw[cH9 hx3];rfl
   have e0:=hC3.c0;have hlt3:=qh hx3;clear HO hb2 hx2 hF3;obtain ⟨q,hq⟩:∃ q,ordF (ns.length+1) ns (-1) 0=q:=⟨_,rfl⟩;rw[hq]at HOR e0 hC3 ⊢
   have HQ:Hid (ordF (ns.length+1) ns (-1) 0=q):=hq;clear hq;obtain ⟨q1,q2⟩:=q;simp only at HOR e0 hC3 ⊢
   cases q1 with
   | false =>
     have HE:Hid (qG ns=false):=by show _=_;rw[HG2.out,HOR.out];rfl
     clear HG2 HOR;go_wp2_with fail;go_ret;exact ⟨by rw[HE.out];rfl,hB3⟩
   | true =>
     by_cases hql:q2=ns.length
     · have hne : ((q2 : Int) != (ns.length : Int)) = false := by simp[hql]
       have hor:xA ns=true:=by rw[HOR.out,hql];simp
       have HE:Hid (qG ns=zZ (growF ns.length ns 0)):=by show _=_;rw[HG2.out,hor];rfl
       have hpos:=Ze hor;have HGR:Hid _:=Xl ns.length S _ ns 0 w3 (HN.out.later hB3) (Ja (js hor) h80 HA.out) hpos (by omega)
       have HTX:Hid (TextsN (ns.length+1) [growF ns.length ns 0]):=by
        intro t ht;simp only[List.mem_singleton]at ht
        subst ht;exact qan HX.out _ _
       clear HG2 HOR hor hql;go_wp2_with fail;refine (Calls.mono HGR.out ?_);rintro e w4 ⟨va4,vk4,rfl,hA4,hK4,hb4⟩;have hB4:Below w.heap.size w w4:=hB3.trans (hb4.mono hB3.size);have HGD:Hid _:=YT _ ns.length _ _ (growF ns.length ns 0) w4 hA4 hK4 HTX.out;obtain ⟨aa,ac,rfl⟩:=hA4.shape;obtain ⟨ka,kc,rfl,_,_⟩:=qb.shape ns.length hK4;clear hA4 hK4 HGR;go_wp2_with fail;refine (Calls.mono HGD.out ?_);rintro e w5 ⟨rfl,hb5⟩;have hB5:Below w.heap.size w w5:=hB4.trans (hb5.mono hB4.size);go_wp2_with fail;go_ret;exact ⟨by rw[HE.out];rfl,hB5⟩
     · have hne : ((q2 : Int) != (ns.length : Int)) = true := by simp;omega
       have HE:Hid (qG ns=false):=by show _=_;rw[HG2.out,HOR.out];simp[hql]
       clear HG2 HOR hql;go_wp2_with fail;go_ret;exact ⟨by rw[HE.out];rfl,hB3⟩
 · have hi80 : (80 : Int) < (ns.length : Int) := by omega
   have HE:Hid (qG ns=false):=by show _=_;rw[HG.out];simp[h80]
   clear HG hN
   go_enter Tryz.func115,Tryz.ntmps115
   go_wp2_with fail;go_ret;exact ⟨by rw[HE.out];rfl,Below.alloc1 _ _⟩
end
section
attribute [local go_sem] qd
structure Yk (S:Nat→Prop) (w:World) (v:Value) (ns:List Nd):Prop where
 nodes:qB S w v ns
 here:∀ b,S b→b<w.heap.size
 few:∀ x∈ns,x.attrs.length≤4398046511104
 short:Qq ns
theorem Yk.later {S:Nat→Prop}{w w':World}{v:Value}{ns:List Nd}(h:Yk S w v ns)(hb:Below w.heap.size w w'):Yk S w' v ns :=
 ⟨h.nodes.later hb,fun b hb'=>Nat.lt_of_lt_of_le (h.here b hb') hb.size,h.few,h.short⟩
theorem Yk.good {S:Nat→Prop}{w:World}{v:Value}{ns:List Nd}(h:Yk S w v ns):Calls Tryz.prog 115 #[.agg #[v]] w fun e w'=>e=.returned (.bool (qG ns))∧Below w.heap.size w w' :=
 Xi S v ns w h.nodes h.here h.few h.short
theorem YS {S:Nat→Prop}{w:World}{v:Value}{ns:List Nd}(h:Yk S w v ns)(hg:qG ns=true):XH ns:=by
 simp only[qG,Bool.and_eq_true,decide_eq_true_eq]at hg
 exact Ja (js hg.1.2) hg.1.1 h.few
def xD (ns:List Nd)(n:Int):Bool:=decide (0≤n)&&decide (n<ns.length)
def noTr:Tr:=⟨false,⟨#[]⟩,[],[]⟩
def jL (ns:List Nd)(n:Int):Tr × Int:=if qG ns then (if xD ns n then (growF ns.length ns n.toNat,0) else (noTr,3)) else (noTr,1)
def Q8 (ns:List Nd)(n:Int):Int:=if qG ns&&xD ns n then (lastF ns.length ns n.toNat:Int)+1 else 0
set_option maxHeartbeats 1000000 in
theorem qcP (S:Nat→Prop)(v:Value)(ns:List Nd)(n:Int)(w:World)(h:Yk S w v ns) :
 Calls Tryz.prog 79 #[.agg #[v],.int .i64 n] w fun e w'=>∃ va vk,e=.returned (.tuple #[.agg #[.bool (jL ns n).1.text,.string (jL ns n).1.s,va,vk],.int .i64 (jL ns n).2]) ∧
  qm (fun b=>w.heap.size≤b) w' va (jL ns n).1.attrs∧qb (fun b=>w.heap.size≤b) w' ns.length vk (jL ns n).1.kids∧Below w.heap.size w w':=by
 have hb1:Below w.heap.size w ((w.alloc (.cells #[v] 60)).alloc (.cells #[.bool false,.string ⟨#[]⟩,.slice none 0 0,.slice none 0 0] 79)):=(Below.alloc1 w _).alloc (by simp) _
 have hx1:((w.alloc (.cells #[v] 60)).alloc (.cells #[.bool false,.string ⟨#[]⟩,.slice none 0 0,.slice none 0 0] 79)).heap[w.heap.size]?=some (.cells #[v] 60 (0,0)):=by
  rw[Lib.alloc_old _ _ _ (by simp)];exact heap_alloc_new _ _
 have hy1:((w.alloc (.cells #[v] 60)).alloc (.cells #[.bool false,.string ⟨#[]⟩,.slice none 0 0,.slice none 0 0] 79)).heap[w.heap.size+1]?=some (.cells #[.bool false,.string ⟨#[]⟩,.slice none 0 0,.slice none 0 0] 79 (0,0)):=by
  have e:=heap_alloc_new (w.alloc (.cells #[v] 60)) (.cells #[.bool false,.string ⟨#[]⟩,.slice none 0 0,.slice none 0 0] 79);rw[World.size_alloc]at e
  exact e
 have H:Hid (Yk S w v ns):=h;have HG:Hid _:=(h.later hb1).good;have HE:Hid (jL ns n=if qG ns then (if xD ns n then (growF ns.length ns n.toNat,0) else (noTr,3)) else (noTr,1)):=rfl
 obtain ⟨a,cap,rfl,hlc,hcm⟩:=h.nodes.shape;unfold maxLen at hcm
 clear h
 go_enter Tryz.func79,Tryz.ntmps79
 go_wp2_with fail;refine (Calls.mono HG.out ?_);rintro e w2 ⟨rfl,hb2⟩;have hx2:=(hb2.block _ (qh hx1)).trans hx1;have hy2:=(hb2.block _ (qh hy1)).trans hy1;have hB2:Below w.heap.size w w2:=hb1.trans (hb2.mono hb1.size);have d0:w2.cell? ⟨w.heap.size,0,none⟩=some (.slice a ns.length cap):=by rw[cH9 hx2];rfl
 have p0:w2.cell? ⟨w.heap.size+1,0,none⟩=some (.bool false):=by rw[cH9 hy2];rfl
 have p1:w2.cell? ⟨w.heap.size+1,1,none⟩=some (.string ⟨#[]⟩):=by rw[cH9 hy2];rfl
 have p2:w2.cell? ⟨w.heap.size+1,2,none⟩=some (.slice none 0 0):=by rw[cH9 hy2];rfl
 have p3:w2.cell? ⟨w.heap.size+1,3,none⟩=some (.slice none 0 0):=by rw[cH9 hy2];rfl
 have f0:w2.frozen? ⟨w.heap.size+1,0,none⟩=false:=fH9 hy2 0;have f1:w2.frozen? ⟨w.heap.size+1,1,none⟩=false:=fH9 hy2 1;have f2:w2.frozen? ⟨w.heap.size+1,2,none⟩=false:=fH9 hy2 2;have f3:w2.frozen? ⟨w.heap.size+1,3,none⟩=false:=fH9 hy2 3;clear HG hb1 hx1 hb2 hy1;obtain ⟨q,hq⟩:∃ q,qG ns=q:=⟨_,rfl⟩;rw[hq];have hle1:w.heap.size≤w.heap.size+1:=Nat.le_succ _;cases q with
 | false =>
   have HE2:Hid (jL ns n=(noTr,1)):=by show _=_;rw[HE.out,hq];rfl
   clear HE hq;go_wp2_with fail;refine bodyPost_ret (v:=.tuple #[.agg #[.bool false,.string ⟨#[]⟩,.slice none 0 0,.slice none 0 0],.int .i64 1]) (by simp[results,Tryz.results79,go_sem,qd,p0,p1,p2,p3,World.cell?_setCell_other]) rfl ⟨.slice none 0 0,.slice none 0 0,by rw[HE2.out];rfl,by rw[HE2.out];exact qm.nil,by rw[HE2.out];exact qb.nil _ ⟨none,0,rfl,nZ9 _⟩,?_⟩
   exact (((hB2.setCell (p:=⟨w.heap.size+1,0,none⟩) hle1 _).setCell (p:=⟨w.heap.size+1,1,none⟩) hle1 _).setCell (p:=⟨w.heap.size+1,2,none⟩) hle1 _).setCell (p:=⟨w.heap.size+1,3,none⟩) hle1 _
 | true =>
   have HA:Hid _:=ZT S _ ns n w2 (H.out.later hB2).nodes;have HE2:Hid (jL ns n=if xD ns n then (growF ns.length ns n.toNat,0) else (noTr,3)):=by show _=_;rw[HE.out,hq];rfl
   have HKI:Hid (XH ns):=YS H.out hq;clear HE hq;have HAB:Hid (xD ns n=(decide (0≤n)&&decide (n<ns.length))):=rfl;rw[show (decide (0≤n)&&decide (n<(ns.length:Int)))=xD ns n from rfl]at HA
   obtain ⟨q2,hq2⟩:∃ q,xD ns n=q:=⟨_,rfl⟩;rw[hq2]at HA HE2 HAB
   clear hq2;cases q2 with
   | false =>
     have HE3:Hid (jL ns n=(noTr,3)):=by show _=_;rw[HE2.out];rfl
     clear HE2;go_wp2_with fail;refine (Calls.mono HA.out ?_);rintro e w3 ⟨rfl,rfl⟩;go_wp2_with fail;refine bodyPost_ret (v:=.tuple #[.agg #[.bool false,.string ⟨#[]⟩,.slice none 0 0,.slice none 0 0],.int .i64 3]) (by simp[results,Tryz.results79,go_sem,qd,p0,p1,p2,p3,World.cell?_setCell_other]) rfl ⟨.slice none 0 0,.slice none 0 0,by rw[HE3.out];rfl,by rw[HE3.out];exact qm.nil,by rw[HE3.out];exact qb.nil _ ⟨none,0,rfl,nZ9 _⟩,?_⟩
     exact (((hB2.setCell (p:=⟨w.heap.size+1,0,none⟩) hle1 _).setCell (p:=⟨w.heap.size+1,1,none⟩) hle1 _).setCell (p:=⟨w.heap.size+1,2,none⟩) hle1 _).setCell (p:=⟨w.heap.size+1,3,none⟩) hle1 _
   | true =>
     have hr:=HAB.out.symm;simp only[Bool.and_eq_true,decide_eq_true_eq]at hr
     obtain ⟨m,rfl⟩:∃ m:Nat,n=(m:Int):=⟨n.toNat,by omega⟩
     have HE3:Hid (jL ns (m:Int)=(growF ns.length ns m,0)):=by show _=_;rw[HE2.out];rfl
     have HGR:Hid _:=Xl ns.length S _ ns m w2 (H.out.later hB2).nodes HKI.out (by omega) (by omega)
     clear HE2 HAB hr;go_wp2_with fail;refine (Calls.mono HA.out ?_);rintro e w3 ⟨rfl,rfl⟩;go_wp2_with fail;refine (Calls.mono HGR.out ?_);rintro e w4 ⟨va4,vk4,rfl,hA4,hK4,hb4⟩;have hB4:Below w.heap.size w w4:=hB2.trans (hb4.mono hB2.size);obtain ⟨aa,ac,rfl⟩:=hA4.shape;obtain ⟨ka,kc,rfl,_,_⟩:=qb.shape ns.length hK4;have hy4:=(hb4.block _ (qh hy2)).trans hy2;have hs2:=qh hy2;clear p0 p1 p2 p3 f0 f1 f2 f3 HGR HA;have p0:w4.cell? ⟨w.heap.size+1,0,none⟩=some (.bool false):=by rw[cH9 hy4];rfl
     have p1:w4.cell? ⟨w.heap.size+1,1,none⟩=some (.string ⟨#[]⟩):=by rw[cH9 hy4];rfl
     have p2:w4.cell? ⟨w.heap.size+1,2,none⟩=some (.slice none 0 0):=by rw[cH9 hy4];rfl
     have p3:w4.cell? ⟨w.heap.size+1,3,none⟩=some (.slice none 0 0):=by rw[cH9 hy4];rfl
     have f0:w4.frozen? ⟨w.heap.size+1,0,none⟩=false:=fH9 hy4 0;have f1:w4.frozen? ⟨w.heap.size+1,1,none⟩=false:=fH9 hy4 1;have f2:w4.frozen? ⟨w.heap.size+1,2,none⟩=false:=fH9 hy4 2;have f3:w4.frozen? ⟨w.heap.size+1,3,none⟩=false:=fH9 hy4 3;obtain ⟨t,ht⟩:∃ t,growF ns.length ns m=t:=⟨_,rfl⟩;rw[ht]at hA4 hK4 HE3 ⊢
     clear ht;go_wp2_with fail;refine bodyPost_ret (v:=.tuple #[.agg #[.bool t.text,.string t.s,.slice aa t.attrs.length ac,.slice ka t.kids.length kc],.int .i64 0]) (by simp[results,Tryz.results79,go_sem,qd,p0,p1,p2,p3,World.cell?_setCell_other]) rfl ⟨.slice aa t.attrs.length ac,.slice ka t.kids.length kc,by rw[HE3.out],?_,?_,?_⟩
     · rw[HE3.out];refine hA4.carry fun b hb=>⟨by omega,?_⟩
       rw[qc (by omega),qc (by omega),qc (by omega),qc (by omega)]
     · rw[HE3.out];refine qb.carry (fun b hb=>⟨by omega,?_⟩) ns.length hK4
       rw[qc (by omega),qc (by omega),qc (by omega),qc (by omega)]
     · exact (((hB4.setCell (p:=⟨w.heap.size+1,0,none⟩) hle1 _).setCell (p:=⟨w.heap.size+1,1,none⟩) hle1 _).setCell (p:=⟨w.heap.size+1,2,none⟩) hle1 _).setCell (p:=⟨w.heap.size+1,3,none⟩) hle1 _
end
end Go.Proofs.YtfplhcicbbhljaaGreatDoor
namespace Go.Proofs.YtfplhcicbbhljaaGreatDoor
open Go.RowKit
set_option maxRecDepth 100000
def Seg (ns:List Nd)(at':Nat)(L:List Nd):Prop:=∀ (i:Nat)(x:Nd),L[i]?=some x→ns[at'+i]?=some x
theorem Seg.left {ns L M:List Nd}{at':Nat}(h:Seg ns at' (L++M)):Seg ns at' L:=by
 intro i x hx;refine h i x ?_
 have hi:i<L.length:=by
  rcases Nat.lt_or_ge i L.length with h'|h'
  · exact h'
  · rw[List.getElem?_eq_none h']at hx;cases hx
 rw[List.getElem?_append_left hi];exact hx
theorem Seg.right {ns L M:List Nd}{at':Nat}(h:Seg ns at' (L++M)):Seg ns (at'+L.length) M:=by
 intro i x hx;have:=h (L.length+i) x (by rw[List.getElem?_append_right (by omega)];rw[show L.length+i-L.length=i by omega];exact hx)
 rw[show at'+L.length+i=at'+(L.length+i) by omega];exact this
theorem Seg.tail {ns L:List Nd}{x:Nd}{at':Nat}(h:Seg ns at' (x::L)):Seg ns (at'+1) L:=by
 intro i y hy;have:=h (i+1) y (by simpa using hy)
 rw[show at'+1+i=at'+(i+1) by omega];exact this
theorem j0 {d:Nat}{t:Tr}(h:Deep d t.kids)(par:Int)(nx:Nat):layF d t par nx=⟨t.text,t.s,t.attrs,par,qk (d-1) (nx+1) t.kids⟩::qu (d-1) (layF (d-1)) nx (nx+1) t.kids:=by
 cases d with
 | zero =>
   have e:t.kids=[]:=h;rw[e];rfl
 | succ d=>rfl
theorem ord_lay:∀ (d:Nat)(t:Tr)(f:Nat)(ns:List Nd)(par:Int)(at':Nat),Deep d t.kids→Seg ns at' (layF d t par at')→cnt (d+1) [t]≤f→ordF f ns par at'=(true,at'+cnt (d+1) [t]):=by
 intro d
 induction d with
 | zero =>
   intro t f ns par at' hd hs hf
   have e:t.kids=[]:=hd;rw[qS,e]at hf ⊢
   obtain ⟨f',rfl⟩:∃ f',f=f'+1:=⟨f-1,by omega⟩
   have h0:ns[at']?=some ⟨t.text,t.s,t.attrs,par,[]⟩:=hs 0 _ rfl
   rw[ordF,h0];simp[qJ,cnt]
 | succ d ih =>
   intro t f ns par at' hd hs hf
   rw[qS]at hf ⊢
   obtain ⟨f',rfl⟩:∃ f',f=f'+1:=⟨f-1,by omega⟩
   have h0:ns[at']?=some ⟨t.text,t.s,t.attrs,par,qk d (at'+1) t.kids⟩:=hs 0 _ rfl
   have hsk:Seg ns (at'+1) (qu d (layF d) at' (at'+1) t.kids):=Seg.tail hs
   rw[ordF,h0];simp only[if_true]
   have key:∀ (ks:List Tr) (a:Nat),Deep (d+1) ks→Seg ns a (qu d (layF d) at' a ks)→cnt (d+1) ks≤f'→qJ (ordF f' ns at') (qk d a ks) a=(true,a+cnt (d+1) ks):=by
    intro ks
    induction ks with
    | nil=>intro a _ _ _;simp[qk,qJ,cnt]
    | cons k ks ihk =>
      intro a hdk hsg hc;rw[zj d k ks]at hc ⊢
      rw[qu]at hsg
      have hl:=layF_length d k (at':Int) a (hdk k List.mem_cons_self)
      have h1:=ih k f' ns at' a (hdk k List.mem_cons_self) hsg.left (by omega)
      have h2:=hsg.right;rw[hl]at h2
      rw[qk,qJ,h1,if_pos ⟨rfl,rfl⟩,ihk (a+cnt (d+1) [k]) (fun u hu=>hdk u (List.mem_cons_of_mem _ hu)) h2 (by omega),Nat.add_assoc]
   rw[key t.kids (at'+1) hd hsk (by omega),Nat.add_assoc]
theorem grow_lay:∀ (d:Nat)(t:Tr)(f:Nat)(ns:List Nd)(par:Int)(at':Nat),Deep d t.kids→Seg ns at' (layF d t par at')→cnt (d+1) [t]≤f→growF f ns at'=t:=by
 intro d
 induction d with
 | zero =>
   intro t f ns par at' hd hs hf
   have e:t.kids=[]:=hd;rw[qS,e]at hf
   obtain ⟨f',rfl⟩:∃ f',f=f'+1:=⟨f-1,by omega⟩
   have h0:ns[at']?=some ⟨t.text,t.s,t.attrs,par,[]⟩:=hs 0 _ rfl
   rw[growF,h0];cases t;simp at e
   subst e;rfl
 | succ d ih =>
   intro t f ns par at' hd hs hf
   rw[qS]at hf
   obtain ⟨f',rfl⟩:∃ f',f=f'+1:=⟨f-1,by omega⟩
   have h0:ns[at']?=some ⟨t.text,t.s,t.attrs,par,qk d (at'+1) t.kids⟩:=hs 0 _ rfl
   have hsk:Seg ns (at'+1) (qu d (layF d) at' (at'+1) t.kids):=Seg.tail hs
   rw[growF,h0]
   have key:∀ (ks:List Tr) (a:Nat),Deep (d+1) ks→Seg ns a (qu d (layF d) at' a ks)→cnt (d+1) ks≤f'→(qk d a ks).map (fun k=>growF f' ns k.toNat)=ks:=by
    intro ks
    induction ks with
    | nil=>intro a _ _ _;rfl
    | cons k ks ihk =>
      intro a hdk hsg hc;rw[zj d k ks]at hc
      rw[qu]at hsg
      have hl:=layF_length d k (at':Int) a (hdk k List.mem_cons_self)
      have h1:=ih k f' ns at' a (hdk k List.mem_cons_self) hsg.left (by omega)
      have h2:=hsg.right;rw[hl]at h2
      rw[qk,List.map_cons,ihk (a+cnt (d+1) [k]) (fun u hu=>hdk u (List.mem_cons_of_mem _ hu)) h2 (by omega)]
      rw[Int.toNat_natCast,h1]
   simp only[key t.kids (at'+1) hd hsk (by omega)]
   cases t;rfl
theorem VN {d:Nat}:∀ (ks:List Tr)(a:Nat)(k:Tr),(qk d a (ks++[k])).getLast?=some ((a+cnt (d+1) ks:Nat):Int):=by
 intro ks a k;rw[yP];simp[qk]
theorem last_lay:∀ (d:Nat)(t:Tr)(f:Nat)(ns:List Nd)(par:Int)(at':Nat),Deep d t.kids→Seg ns at' (layF d t par at')→cnt (d+1) [t]≤f→lastF f ns at'+1=at'+cnt (d+1) [t]:=by
 intro d
 induction d with
 | zero =>
   intro t f ns par at' hd hs hf
   have e:t.kids=[]:=hd;rw[qS,e]at hf ⊢
   obtain ⟨f',rfl⟩:∃ f',f=f'+1:=⟨f-1,by omega⟩
   have h0:ns[at']?=some ⟨t.text,t.s,t.attrs,par,[]⟩:=hs 0 _ rfl
   rw[lastF,h0];simp[cnt]
 | succ d ih =>
   intro t f ns par at' hd hs hf
   rw[qS]at hf ⊢
   obtain ⟨f',rfl⟩:∃ f',f=f'+1:=⟨f-1,by omega⟩
   have h0:ns[at']?=some ⟨t.text,t.s,t.attrs,par,qk d (at'+1) t.kids⟩:=hs 0 _ rfl
   have hsk:Seg ns (at'+1) (qu d (layF d) at' (at'+1) t.kids):=Seg.tail hs
   rw[lastF,h0];simp only
   rcases List.eq_nil_or_concat t.kids with he|⟨ks,k,he⟩
   · rw[he];simp[qk,cnt]
   · rw[List.concat_eq_append]at he
     rw[he]at hf hsk ⊢
     have hdk:Deep (d+1) (ks++[k]):=by rw[←he];exact hd
     have happ:cnt (d+1) (ks++[k])=cnt (d+1) ks+cnt (d+1) [k]:=by simp[cnt]
     rw[VN];simp only[Int.toNat_natCast];rw[jC]at hsk
     have hl:(qu d (layF d) at' (at'+1) ks).length=cnt (d+1) ks:=by
      have:∀ (ts:List Tr) (a:Nat),Deep (d+1) ts→(qu d (layF d) at' a ts).length=cnt (d+1) ts:=by
       intro ts
       induction ts with
       | nil=>intro _ _;rfl
       | cons u ts ih2 =>
         intro a hd2;rw[qu,List.length_append,layF_length d u _ _ (hd2 u List.mem_cons_self),ih2 _ (fun x hx=>hd2 x (List.mem_cons_of_mem _ hx)),zj d u ts]
      exact this _ _ (fun u hu=>hdk u (List.mem_append_left _ hu))
     have h2:=hsk.right;rw[hl]at h2
     have h3:qu d (layF d) at' (at'+1+cnt (d+1) ks) [k]=layF d k at' (at'+1+cnt (d+1) ks):=by simp[qu]
     rw[h3]at h2
     have:=ih k f' ns at' (at'+1+cnt (d+1) ks) (hdk k (by simp)) h2 (by omega)
     omega
theorem qd8 (L:List Nd):Seg L 0 L:=by intro i x hx;rw[Nat.zero_add];exact hx
theorem Seg.nil (ns:List Nd)(a:Nat):Seg ns a []:=by intro i x hx;simp at hx
theorem Seg.append {ns L M:List Nd}{a:Nat}(h:Seg ns a L)(k:Seg ns (a+L.length) M):Seg ns a (L++M):=by
 intro i x hx
 rcases Nat.lt_or_ge i L.length with h'|h'
 · rw[List.getElem?_append_left h']at hx;exact h i x hx
 · rw[List.getElem?_append_right h']at hx
   have:=k (i-L.length) x hx;rw[show a+L.length+(i-L.length)=a+i by omega]at this
   exact this
theorem Seg.cons {ns L:List Nd}{x:Nd}{a:Nat}(h:ns[a]?=some x)(k:Seg ns (a+1) L):Seg ns a (x::L):=by
 intro i y hy;cases i with
 | zero=>simp at hy;subst hy;exact h
 | succ i =>
   have:=k i y (by simpa using hy)
   rw[show a+(i+1)=a+1+i by omega];exact this
theorem ord_conv:∀ (f:Nat)(ns:List Nd)(par:Int)(nx:Nat),(ordF f ns par nx).1=true→∃ t:Tr,Deep f t.kids∧Seg ns nx (layF f t par nx)∧(ordF f ns par nx).2=nx+cnt (f+1) [t]:=by
 intro f
 induction f with
 | zero=>intro ns par nx h;simp[ordF]at h
 | succ f ih =>
   intro ns par nx h;rw[ordF]at h ⊢
   cases hx:ns[nx]? with
   | none=>simp[hx]at h
   | some x =>
     simp only[hx]at h ⊢
     by_cases hp:x.parent=par
     · rw[if_pos hp]at h ⊢
       have key:∀ (ks:List Int) (a:Nat),(qJ (ordF f ns nx) ks a).1=true→∃ ts:List Tr,(∀ k∈ts,Deep f k.kids)∧ks=qk f a ts∧Seg ns a (qu f (layF f) nx a ts)∧(qJ (ordF f ns nx) ks a).2=a+cnt (f+1) ts:=by
        intro ks
        induction ks with
        | nil=>intro a _;exact ⟨[],by simp,rfl,Seg.nil _ _,by simp[qJ,qR]⟩
        | cons k ks ihk =>
          intro a hk;rw[qJ]at hk ⊢
          by_cases hc:k=(a:Int)∧(ordF f ns nx a).1=true
          · rw[if_pos hc]at hk ⊢
            obtain ⟨t,ht1,ht2,ht3⟩:=ih ns nx a hc.2;rw[ht3]at hk ⊢
            obtain ⟨ts,hd,he,hs,hn⟩:=ihk _ hk;refine ⟨t::ts,?_,?_,?_,?_⟩
            · intro u hu;rw[List.mem_cons]at hu
              rcases hu with rfl|hu
              · exact ht1
              · exact hd u hu
            · rw[qk,←he,hc.1]
            · rw[qu];refine Seg.append ht2 ?_;rw[layF_length f t nx a ht1];exact hs
            · rw[hn,zj f t ts];omega
          · rw[if_neg hc]at hk;cases hk
       obtain ⟨ts,hd,he,hs,hn⟩:=key x.kids (nx+1) h;refine ⟨⟨x.text,x.s,x.attrs,ts⟩,hd,?_,?_⟩
       · rw[layF];refine Seg.cons ?_ hs;rw[hx];obtain ⟨xt,xs,xa,xp,xk⟩:=x;simp only at hp he
         rw[hp,he]
       · rw[hn,qS];show nx+1+cnt (f+1) ts=nx+(1+cnt (f+1) ts);omega
     · rw[if_neg hp]at h;cases h
def Sub (ns:List Nd)(j c:Nat)(par:Int):Prop:=∃ (d:Nat)(t:Tr),Deep d t.kids∧Seg ns j (layF d t par j)∧c=cnt (d+1) [t]
theorem qdm {ns:List Nd}(hg:qG ns=true){j:Nat}(hj:j<ns.length):Q8 ns (j:Int)=(lastF ns.length ns j:Int)+1:=by
 unfold Q8 xD;have h1:(0:Int)≤j:=by omega
 have h2:(j:Int)<ns.length:=by omega
 simp[hg,h1,h2]
theorem Seg.in {ns L:List Nd}{a:Nat}(h:Seg ns a L)(hne:0<L.length):a+L.length≤ns.length:=by
 have h1:L[L.length-1]?=some (L[L.length-1]'(by omega)):=List.getElem?_eq_getElem (by omega)
 have h2:=h _ _ h1
 rcases Nat.lt_or_ge (a+(L.length-1)) ns.length with h'|h'
 · omega
 · rw[List.getElem?_eq_none h']at h2;cases h2
theorem qbI {ns:List Nd}(hg:qG ns=true){j c:Nat}{par:Int}(h:Sub ns j c par)(hj:j<ns.length) :
 (∃ d,Deep d (growF ns.length ns j).kids∧c=cnt (d+1) [growF ns.length ns j])∧Q8 ns (j:Int)=(j:Int)+(c:Nat)∧j+c≤ns.length∧∃ x,ns[j]?=some x∧x.parent=par:=by
 obtain ⟨d,t,hd,hs,hc⟩:=h;have hlen:=layF_length d t par j hd;have hin:=hs.in (by rw[hlen,qS];omega)
 rw[hlen]at hin
 have hgr:=grow_lay d t ns.length ns par j hd hs (by omega)
 have hla:=last_lay d t ns.length ns par j hd hs (by omega)
 refine ⟨⟨d,by rw[hgr];exact hd,by rw[hgr];exact hc⟩,?_,by omega,?_⟩
 · rw[qdm hg hj];omega
 · rw[j0 hd]at hs
   exact ⟨_,hs 0 _ rfl,rfl⟩
theorem qbF (d:Nat)(t:Tr):rgt (d+1) [t]=(qz t&&(t.text||rgt d t.kids)):=by
 simp[rgt,rgL]
theorem QT {f:List Tr→Bool}:∀ (l:List Tr)(p:Bool),rgL f p l=true→∀ k∈l,qz k=true∧(k.text||f k.kids)=true:=by
 intro l
 induction l with
 | nil=>intro _ _ k hk;simp at hk
 | cons t r ih =>
   intro p h k hk;simp only[rgL,Bool.and_eq_true]at h
   rw[List.mem_cons]at hk
   rcases hk with rfl|hk
   · exact ⟨h.1.1.1,h.1.2⟩
   · exact ih _ h.2 k hk
theorem ZK {t:Tr}(h:qz t=true)(ht:t.text=true):t.kids=[]:=by
 simp only[qz,ht,if_true,Bool.and_eq_true,decide_eq_true_eq]at h
 exact List.length_eq_zero_iff.1 h.2
theorem qe6 {d:Nat}{t k:Tr}(h:rgt (d+2) [t]=true)(hk:k∈t.kids):rgt (d+1) [k]=true:=by
 rw[qbF]at h ⊢
 simp only[Bool.and_eq_true]at h
 cases ht:t.text with
 | true=>rw[ZK h.1 ht]at hk;simp at hk
 | false =>
   have h2:=h.2;rw[ht,Bool.false_or]at h2
   have:=QT t.kids false h2 k hk;simp only[Bool.and_eq_true];exact this
theorem qdN (ns:List Nd):∀ (d:Nat)(t:Tr)(par:Int)(a:Nat),Deep d t.kids→Seg ns a (layF d t par a)→rgt (d+1) [t]=true→∀ j,a≤j→j<a+cnt (d+1) [t] →
 ∃ d' t' par',Deep d' t'.kids∧Seg ns j (layF d' t' par' j)∧rgt (d'+1) [t']=true∧(j=a∧par'=par∨∃ q y,ns[q]?=some y∧par'=((q:Nat):Int)∧q<j∧(j:Int)∈y.kids∧a≤q):=by
 intro d
 induction d with
 | zero =>
   intro t par a hd hs hr j h1 h2;have e:t.kids=[]:=hd;have hc:cnt 1 [t]=1:=by rw[qS,e];rfl
   rw[hc]at h2
   obtain rfl:j=a:=by omega
   exact ⟨0,t,par,hd,hs,hr,Or.inl ⟨rfl,rfl⟩⟩
 | succ d ih =>
   intro t par a hd hs hr j h1 h2
   by_cases hj:j=a
   · subst hj;exact ⟨d+1,t,par,hd,hs,hr,Or.inl ⟨rfl,rfl⟩⟩
   · have h0 : ns[a]? = some ⟨t.text, t.s, t.attrs, par, qk d (a + 1) t.kids⟩ := hs 0 _ rfl;have hsk:Seg ns (a+1) (qu d (layF d) a (a+1) t.kids):=Seg.tail hs
     have key:∀ (ks:List Tr) (b:Nat),(∀ k∈ks,Deep d k.kids)→(∀ k∈ks,rgt (d+1) [k]=true)→Seg ns b (qu d (layF d) a b ks)→a≤b→b≤j→j<b+cnt (d+1) ks →
      ∃ d' t' par',Deep d' t'.kids∧Seg ns j (layF d' t' par' j)∧rgt (d'+1) [t']=true∧((par'=(a:Int)∧(j:Int)∈qk d b ks)∨∃ q y,ns[q]?=some y∧par'=((q:Nat):Int)∧q<j∧(j:Int)∈y.kids∧a≤q):=by
      intro ks
      induction ks with
      | nil=>intro b _ _ _ _ hb1 hb2;rw[qR]at hb2;omega
      | cons k ks ihk =>
        intro b hdk hrk hsb hab hb1 hb2;rw[qu]at hsb
        have hl:=hsb.left;have hr2:=hsb.right;have hdk0:=hdk k List.mem_cons_self;rw[layF_length d k a b hdk0]at hr2
        rw[zj]at hb2
        by_cases hjk:j<b+cnt (d+1) [k]
        · obtain ⟨d', t', par', g1, g2, g3, hor⟩ := ih k a b hdk0 hl (hrk k List.mem_cons_self) j hb1 hjk;refine ⟨d',t',par',g1,g2,g3,?_⟩
          rcases hor with ⟨hp1,hp2⟩|hor
          · exact Or.inl ⟨hp2,by rw[qk,hp1];exact List.mem_cons_self⟩
          · obtain ⟨q, y, k1, k2, k3, k4, k5⟩ := hor;exact Or.inr ⟨q,y,k1,k2,k3,k4,by omega⟩
        · obtain ⟨d', t', par', g1, g2, g3, hor⟩ := ihk (b + cnt (d + 1) [k]) (fun u hu => hdk u (List.mem_cons_of_mem _ hu)) (fun u hu => hrk u (List.mem_cons_of_mem _ hu)) hr2 (by omega) (by omega) (by omega)
          refine ⟨d',t',par',g1,g2,g3,?_⟩
          rcases hor with ⟨hp1,hp2⟩|hor
          · exact Or.inl ⟨hp1,by rw[qk];exact List.mem_cons_of_mem _ hp2⟩
          · exact Or.inr hor
     have hc1:cnt (d+1+1) [t]=1+cnt (d+1) t.kids:=qS (d+1) t;obtain ⟨d',t',par',g1,g2,g3,hor⟩:=key t.kids (a+1) hd (fun k hk=>qe6 hr hk) hsk (by omega) (by omega) (by omega)
     refine ⟨d',t',par',g1,g2,g3,Or.inr ?_⟩
     rcases hor with ⟨hp1,hp2⟩|hor
     · exact ⟨a,_,h0,hp1,by omega,hp2,nR9 _⟩
     · exact hor
theorem Xk {ns:List Nd}(hg:qG ns=true):∃ (d:Nat)(t:Tr),Deep d t.kids∧Seg ns 0 (layF d t (-1) 0)∧cnt (d+1) [t]=ns.length∧rgt (d+1) [t]=true∧t.text=false∧zZ t=true∧growF ns.length ns 0=t:=by
 have hg2:=hg;simp only[qG,Bool.and_eq_true,decide_eq_true_eq]at hg2
 have ho:=js hg2.1.2;obtain ⟨t,hd,hs,hn⟩:=ord_conv (ns.length+1) ns (-1) 0 (by rw[ho])
 rw[ho]at hn
 simp only[Nat.zero_add]at hn
 have hgr:=grow_lay _ t ns.length ns (-1) 0 hd hs (by omega)
 have hG:=hg2.2;rw[hgr]at hG
 have hG2:=hG;rw[QC hd]at hG
 simp only[Bool.and_eq_true,Bool.not_eq_true']at hG
 exact ⟨_,t,hd,hs,hn.symm,hG.2,hG.1.1.1,hG2,hgr⟩
structure Fam (ns:List Nd) (j:Nat) (x:Nd):Prop where
 kids:∀ u∈x.kids,∃ (k:Nat) (y:Nd),u=(k:Int)∧j<k∧k<ns.length∧Q8 ns (k:Int)≤Q8 ns (j:Int)∧ns[k]?=some y∧y.parent=(j:Int)
 row:x.kids.Pairwise (fun u v=>Q8 ns u≤v)
 par:(j=0∧x.parent=-1)∨∃ (q:Nat) (y:Nd),ns[q]?=some y∧x.parent=(q:Int)∧q<j∧(j:Int)∈y.kids
 text:x.text=true→x.kids=[]
 name:x.text=false→qM x.s=true
 gt:(j:Int)<Q8 ns (j:Int)
theorem qj {α:Type}{l:List α}{j:Nat}{x:α}(hx:l[j]?=some x):j<l.length:=by
 rcases Nat.lt_or_ge j l.length with h'|h'
 · exact h'
 · rw[List.getElem?_eq_none h']at hx;cases hx
theorem qeS {ns:List Nd}(hg:qG ns=true){d j:Nat}{t:Tr}{par:Int}(hd:Deep d t.kids)(hs:Seg ns j (layF d t par j)){x:Nd}(hx:ns[j]?=some x) :
 (∀ u∈x.kids,∃ (k:Nat) (y:Nd),u=(k:Int)∧j<k∧k<ns.length∧Q8 ns (k:Int)≤Q8 ns (j:Int)∧ns[k]?=some y∧y.parent=(j:Int))∧x.kids.Pairwise (fun u v=>Q8 ns u≤v)∧(j:Int)<Q8 ns (j:Int):=by
 have hj:=qj hx;obtain ⟨_,he,hl,_⟩:=qbI hg ⟨d,t,hd,hs,rfl⟩ hj;have hh:=j0 hd par j
 have hx2:x=⟨t.text,t.s,t.attrs,par,qk (d-1) (j+1) t.kids⟩:=by
  have:=hs 0 _ (by rw[hh];rfl)
  rw[Nat.add_zero,hx]at this
  exact Option.some.inj this
 have hgt:(j:Int)<Q8 ns (j:Int):=by rw[he,qS];omega
 cases d with
 | zero =>
   have e:t.kids=[]:=hd;have ek:x.kids=[]:=by rw[hx2,e];rfl
   rw[ek];exact ⟨by simp,List.Pairwise.nil,hgt⟩
 | succ e =>
   have hsk:Seg ns (j+1) (qu e (layF e) j (j+1) t.kids):=Seg.tail hs
   have key:∀ (ks:List Tr) (b:Nat),(∀ k∈ks,Deep e k.kids)→Seg ns b (qu e (layF e) j b ks)→b+cnt (e+1) ks≤ns.length →
    (qk e b ks).Pairwise (fun u v=>Q8 ns u≤v)∧∀ u∈qk e b ks,∃ (k:Nat) (y:Nd),u=(k:Int)∧b≤k∧k<ns.length∧Q8 ns (k:Int)≤((b+cnt (e+1) ks:Nat):Int)∧ns[k]?=some y∧y.parent=(j:Int):=by
    intro ks
    induction ks with
    | nil=>intro b _ _ _;exact ⟨List.Pairwise.nil,by simp[qk]⟩
    | cons k ks ihk =>
      intro b hdk hsb hle;rw[qu]at hsb
      have hl1:=hsb.left;have hr2:=hsb.right;have hdk0:=hdk k List.mem_cons_self;rw[layF_length e k j b hdk0]at hr2
      rw[zj]at hle ⊢
      have hc1:=qS e k;obtain ⟨_,heb,_,y,hy,hyp⟩:=qbI hg ⟨e,k,hdk0,hl1,rfl⟩ (by omega)
      obtain ⟨hP,hM⟩:=ihk (b+cnt (e+1) [k]) (fun u hu=>hdk u (List.mem_cons_of_mem _ hu)) hr2 (by omega)
      rw[qk];refine ⟨List.Pairwise.cons (fun v hv=>?_) hP,fun u hu=>?_⟩
      · obtain ⟨k2, _, rfl, hk2, _⟩ := hM v hv;rw[heb];omega
      · rw[List.mem_cons]at hu
        rcases hu with rfl|hu
        · exact ⟨b,y,rfl,nR9 _,by omega,by rw[heb];omega,hy,hyp⟩
        · obtain ⟨k2, y2, g1, g2, g3, g4, g5⟩ := hM u hu;exact ⟨k2,y2,g1,by omega,g3,by omega,g5⟩
   have hc:=qS (e+1) t;obtain ⟨hP,hM⟩:=key t.kids (j+1) hd hsk (by omega)
   have ek:x.kids=qk e (j+1) t.kids:=by rw[hx2];rfl
   rw[ek];refine ⟨fun u hu=>?_,hP,hgt⟩
   obtain ⟨k2,y2,g1,g2,g3,g4,g5⟩:=hM u hu;exact ⟨k2,y2,g1,by omega,g3,by rw[he];omega,g5⟩
theorem y7 {ns:List Nd}(hg:qG ns=true){j:Nat}{x:Nd}(hx:ns[j]?=some x):Fam ns j x:=by
 have hj:=qj hx;obtain ⟨d,t,hd,hs,hn,hr,_,_,_⟩:=Xk hg;obtain ⟨d',t',par',g1,g2,g3,hor⟩:=qdN ns d t (-1) 0 hd hs hr j (nZ9 _) (by omega)
 obtain ⟨k1,k2,k3⟩:=qeS hg g1 g2 hx
 have hx2:x=⟨t'.text,t'.s,t'.attrs,par',qk (d'-1) (j+1) t'.kids⟩:=by
  have:=g2 0 _ (by rw[j0 g1 par' j];rfl)
  rw[Nat.add_zero,hx]at this
  exact Option.some.inj this
 rw[qbF]at g3
 simp only[Bool.and_eq_true]at g3
 refine ⟨k1,k2,?_,?_,?_,k3⟩
 · rcases hor with ⟨h1, h2⟩ | ⟨q, y, h1, h2, h3, h4, _⟩
   · exact Or.inl ⟨h1,by rw[hx2];exact h2⟩
   · exact Or.inr ⟨q,y,h1,by rw[hx2];exact h2,h3,h4⟩
 · intro ht;have ht':t'.text=true:=by rw[hx2]at ht;exact ht
   rw[hx2,ZK g3.1 ht'];rfl
 · intro ht;have ht':t'.text=false:=by rw[hx2]at ht;exact ht
   have h1:=g3.1;simp[qz,ht']at h1
   rw[hx2];exact h1.1
structure St where
 name:ByteArray
 n:Int
def Zv (x:Nd)(name:ByteArray):Bool:=if x.text then decide (name=⟨#[]⟩) else decide (name=⟨#[42]⟩)||decide (name=x.s)
def qdo (ns:List Nd)(name:ByteArray)(u:Int):Bool:=match ns[u.toNat]? with|some x=>Zv x name|none=>false
def Y1 (ns:List Nd)(u:Int):List Int:=match ns[u.toNat]? with|some x=>x.kids|none=>[]
def qdS (ns:List Nd)(u:Int):Int:=match ns[u.toNat]? with|some x=>x.parent|none=>-1
def Ym (ns:List Nd)(l:List Int)(name:ByteArray):List Int:=l.filter (qdo ns name)
def ym (ns:List Nd)(l:List Int)(s:St):List Int:=if s.n=0 then Ym ns l s.name else ((Ym ns l s.name).drop (s.n.toNat-1)).take 1
def ZE (ns:List Nd)(here:List Int)(s:St):List Int:=here.flatMap fun u=>ym ns (Y1 ns u) s
def Yq (ns:List Nd):List St→List Int→List Int
 | [],here=>here
 | s::l,here=>Yq ns l (ZE ns here s)
def zg (s:St):Bool:=decide (0≤s.n)&&decide (s.n≤99)&&(decide (s.name=⟨#[]⟩)||decide (s.name=⟨#[42]⟩)||qM s.name)
def yj (l:List St):Bool:=decide (1≤l.length)&&decide (l.length≤5)&&l.all zg
def VK (ns:List Nd):List St→List Int
 | []=>[]
 | s::r=>Yq ns r (ym ns [0] s)
def QL (ns:List Nd)(l:List St):List Int:=if qG ns&&yj l then VK ns l else []
def ZM (ns:List Nd)(l:List St):Int:=if qG ns&&yj l then 0 else 1
theorem j9 (ns:List Nd)(l:List Int)(s:St):(ym ns l s).Sublist l:=by
 unfold ym
 split
 · exact List.filter_sublist
 · exact ((List.take_sublist _ _).trans (List.drop_sublist _ _)).trans List.filter_sublist
def depF:Nat→List Nd→Int→Nat
 | 0,_,_=>0
 | f+1,ns,k=>if 0≤k∧k<ns.length then depF f ns (qdS ns k)+1 else 0
theorem Z2 {ns:List Nd}{j:Nat}{x:Nd}(hx:ns[j]?=some x):qdS ns (j:Int)=x.parent:=by
 unfold qdS;rw[Int.toNat_natCast,hx]
theorem j8 {ns:List Nd}{j:Nat}{x:Nd}(hx:ns[j]?=some x):Y1 ns (j:Int)=x.kids:=by
 unfold Y1;rw[Int.toNat_natCast,hx]
theorem qbW {ns:List Nd}{j:Nat}{x:Nd}(hx:ns[j]?=some x)(s:ByteArray):qdo ns s (j:Int)=Zv x s:=by
 unfold qdo;rw[Int.toNat_natCast,hx]
theorem YO (f:Nat)(ns:List Nd){k:Int}(h:k<0):depF f ns k=0:=by
 cases f with
 | zero=>rfl
 | succ f=>rw[depF,if_neg (by omega)]
theorem KW {ns:List Nd}(hg:qG ns=true):∀ (f f' j:Nat),j<f→j<f'→depF f ns (j:Int)=depF f' ns (j:Int):=by
 intro f
 induction f with
 | zero=>intro f' j h;omega
 | succ f ih =>
   intro f' j h1 h2;obtain ⟨e,rfl⟩:∃ e,f'=e+1:=⟨f'-1,by omega⟩
   rw[depF,depF]
   by_cases hj:j<ns.length
   · rw[if_pos (by omega), if_pos (by omega)]
     obtain ⟨x,hx⟩:∃ x,ns[j]?=some x:=⟨ns[j],by simp[hj]⟩
     rw[Z2 hx]
     rcases (y7 hg hx).par with ⟨_,hp⟩|⟨q,y,_,hp,hq,_⟩
     · rw[hp,YO _ _ (by omega),YO _ _ (by omega)]
     · rw[hp,ih e q (by omega) (by omega)]
   · rw[if_neg (by omega),if_neg (by omega)]
def dp (ns:List Nd)(j:Nat):Nat:=depF (j+1) ns (j:Int)
theorem qeH {ns:List Nd}(hg:qG ns=true){f j:Nat}(h:j<f):depF f ns (j:Int)=dp ns j:=KW hg f (j+1) j h (by omega)
theorem qeI {ns:List Nd}(_hg:qG ns=true){x:Nd}(hx:ns[0]?=some x)(hp:x.parent=-1):dp ns 0=1:=by
 unfold dp;have:=qj hx;rw[depF,if_pos (by omega),Z2 hx,hp,YO _ _ (by omega)]
theorem qdk {ns:List Nd}(hg:qG ns=true){j q:Nat}{x:Nd}(hx:ns[j]?=some x)(hp:x.parent=(q:Int))(hq:q<j):dp ns j=dp ns q+1:=by
 have:=qj hx
 conv=>lhs;unfold dp
 rw[depF,if_pos (by omega),Z2 hx,hp,qeH hg hq]
structure Lev (ns:List Nd) (d:Nat) (l:List Int):Prop where
 mem:∀ u∈l,∃ (k:Nat) (x:Nd),u=(k:Int)∧ns[k]?=some x∧dp ns k=d
 row:l.Pairwise (fun u v=>Q8 ns u≤v)
theorem Lev.sub {ns:List Nd}{d:Nat}{l m:List Int}(h:Lev ns d l)(hs:m.Sublist l):Lev ns d m :=
 ⟨fun u hu=>h.mem u (hs.subset hu),h.row.sublist hs⟩
theorem JO {α β:Type}{R:β→β→Prop}{f:α→List β}:∀ (l:List α),(∀ a∈l,(f a).Pairwise R)→l.Pairwise (fun a b=>∀ u∈f a,∀ v∈f b,R u v)→(l.flatMap f).Pairwise R:=by
 intro l
 induction l with
 | nil=>intro _ _;exact List.Pairwise.nil
 | cons a l ih =>
   intro h1 h2;rw[List.flatMap_cons,List.pairwise_append];rw[List.pairwise_cons]at h2
   refine ⟨h1 a List.mem_cons_self,ih (fun b hb=>h1 b (List.mem_cons_of_mem _ hb)) h2.2,fun u hu v hv=>?_⟩
   obtain ⟨b,hb,hvb⟩:=List.mem_flatMap.1 hv;exact h2.1 b hb u hu v hvb
theorem Vd {ns:List Nd}(hg:qG ns=true){d:Nat}{here:List Int}(h:Lev ns d here)(s:St):Lev ns (d+1) (ZE ns here s):=by
 refine ⟨fun u hu=>?_,?_⟩
 · obtain ⟨v, hv, hu2⟩ := List.mem_flatMap.1 hu;obtain ⟨k,x,rfl,hx,hd⟩:=h.mem v hv;have hm:=(j9 _ _ _).subset hu2;rw[j8 hx]at hm
   obtain ⟨j,y,rfl,h1,_,_,hy,hp⟩:=(y7 hg hx).kids u hm;exact ⟨j,y,rfl,hy,by rw[qdk hg hy hp h1,hd]⟩
 · refine JO here (fun v hv => ?_) ?_
   · obtain ⟨k, x, rfl, hx, _⟩ := h.mem v hv;have hs:=j9 ns (Y1 ns (k:Int)) s;rw[j8 hx]at hs ⊢
     exact (y7 hg hx).row.sublist hs
   · refine List.Pairwise.imp_of_mem ?_ h.row;intro a b ha hb hab u hu v hv;obtain ⟨ka,xa,rfl,hxa,_⟩:=h.mem a ha;obtain ⟨kb,xb,rfl,hxb,_⟩:=h.mem b hb;have hu2:=(j9 _ _ _).subset hu;have hv2:=(j9 _ _ _).subset hv;rw[j8 hxa]at hu2
     rw[j8 hxb]at hv2
     obtain ⟨ju,_,rfl,_,_,he,_⟩:=(y7 hg hxa).kids u hu2;obtain ⟨jv,_,rfl,hj,_⟩:=(y7 hg hxb).kids v hv2;omega
theorem qbB {ns:List Nd}(hg:qG ns=true):∀ (l:List St)(d:Nat)(here:List Int),Lev ns d here→Lev ns (d+l.length) (Yq ns l here):=by
 intro l
 induction l with
 | nil=>intro d here h;exact h
 | cons s l ih =>
   intro d here h;have:=ih (d+1) _ (Vd hg h s);rw[Yq,List.length_cons,show d+(l.length+1)=d+1+l.length by omega]
   exact this
theorem YU {ns:List Nd}(hg:qG ns=true):∃ x,ns[0]?=some x∧x.parent=-1∧x.text=false:=by
 obtain ⟨d,t,hd,hs,hn,_,ht,_,_⟩:=Xk hg;have:=hs 0 _ (by rw[j0 hd (-1) 0];rfl)
 exact ⟨_,this,rfl,ht⟩
theorem Ve {ns:List Nd}(hg:qG ns=true)(s:St):Lev ns 1 (ym ns [0] s):=by
 obtain ⟨x,hx,hp,_⟩:=YU hg;refine Lev.sub ⟨fun u hu=>?_,List.Pairwise.cons (by simp) List.Pairwise.nil⟩ (j9 _ _ _)
 rw[List.mem_singleton]at hu
 exact ⟨0,x,hu,hx,qeI hg hx hp⟩
theorem qd9 {ns:List Nd}(hg:qG ns=true){l:List St}(hl:l≠[]):Lev ns l.length (VK ns l):=by
 cases l with
 | nil=>exact absurd rfl hl
 | cons s r =>
   have:=qbB hg r 1 _ (Ve hg s);rw[List.length_cons,Nat.add_comm];exact this
theorem Lev.rises {ns:List Nd}(hg:qG ns=true){d:Nat}{l:List Int}(h:Lev ns d l):l.Pairwise (fun u v=>u<v):=by
 refine List.Pairwise.imp_of_mem ?_ h.row;intro a b ha _ hab;obtain ⟨k,x,rfl,hx,_⟩:=h.mem a ha;have:=(y7 hg hx).gt;omega
theorem qcC (ns:List Nd):∀ (l:List St)(s:St)(here:List Int),Yq ns (l++[s]) here=ZE ns (Yq ns l here) s:=by
 intro l
 induction l with
 | nil=>intro s here;rfl
 | cons t l ih=>intro s here;exact ih s _
end Go.Proofs.YtfplhcicbbhljaaGreatDoor
namespace Go.Proofs.YtfplhcicbbhljaaGreatDoor
open Go.ChangeShapes Go.WideShapes Go.ChangeAt Go.RowKit
set_option maxRecDepth 100000
section
attribute [local go_sem] qd
def qC (S:Nat→Prop)(w:World)(v:Value)(l:List St):Prop :=
  ∃ a cap, v = .slice a l.length cap ∧ l.length ≤ cap ∧ cap ≤ maxLen ∧
    (l≠[]→∃ b o,a=some ⟨b,o,none⟩∧S b∧∀ (i:Nat) (x:St),l[i]?=some x→w.cell? ⟨b,o+i*2,none⟩=some (.string x.name)∧w.cell? ⟨b,o+i*2+1,none⟩=some (.int .i64 x.n))
theorem qC.carry {S S':Nat→Prop}{w w':World}{v:Value}{l:List St}(h:qC S w v l)(hw:∀ b,S b→S' b∧w'.heap[b]?=w.heap[b]?):qC S' w' v l:=by
 obtain ⟨a,cap,h1,h2,h3,h4⟩:=h;refine ⟨a,cap,h1,h2,h3,fun hne=>?_⟩
 obtain ⟨b,o,ha,hs,hc⟩:=h4 hne;refine ⟨b,o,ha,(hw b hs).1,fun i x hx=>?_⟩
 rw[World.cell?_of_block (a:=⟨b,o+i*2,none⟩) (hw b hs).2,World.cell?_of_block (a:=⟨b,o+i*2+1,none⟩) (hw b hs).2];exact hc i x hx
theorem qC.bounded {S:Nat→Prop}{w:World}{v:Value}{l:List St}(h:qC S w v l):qC (fun b=>S b∧b<w.heap.size) w v l:=by
 obtain ⟨a,cap,h1,h2,h3,h4⟩:=h;refine ⟨a,cap,h1,h2,h3,fun hne=>?_⟩
 obtain ⟨b,o,ha,hs,hc⟩:=h4 hne;refine ⟨b,o,ha,⟨hs,?_⟩,hc⟩;cases l with
 | nil=>exact absurd rfl hne
 | cons x r=>exact World.block_lt_of_cell? w _ (hc 0 x rfl).1
theorem qC.later {S:Nat→Prop}{w w':World}{v:Value}{l:List St}(h:qC S w v l)(hb:Below w.heap.size w w'):qC S w' v l :=
 h.bounded.carry fun b hb'=>⟨hb'.1,hb.block b hb'.2⟩
theorem qC.shape {S:Nat→Prop}{w:World}{v:Value}{l:List St}(h:qC S w v l):∃ a c,v=.slice a l.length c∧l.length≤c∧c≤maxLen:=by
 obtain ⟨a,cap,h1,h2,h3,_⟩:=h;exact ⟨a,cap,h1,h2,h3⟩
theorem qC.at {S:Nat→Prop}{w:World}{v:Value}{l:List St}(h:qC S w v l){i:Nat}{x:St}(hx:l[i]?=some x):∃ b o cap,v=.slice (some ⟨b,o,none⟩) l.length cap∧S b∧b<w.heap.size∧w.cell? ⟨b,o+i*2,none⟩=some (.string x.name)∧w.cell? ⟨b,o+i*2+1,none⟩=some (.int .i64 x.n):=by
 obtain ⟨a,cap,h1,h2,h3,h4⟩:=h;have hne:l≠[]:=by intro e;subst e;simp at hx
 obtain ⟨b,o,rfl,hs,hc⟩:=h4 hne;exact ⟨b,o,cap,h1,hs,World.block_lt_of_cell? w _ (hc i x hx).1,hc i x hx⟩
theorem zl (a:ByteArray)(l:List UInt8):a.toList=l↔a=⟨l.toArray⟩:=by
 rw[ByteArray.toList_eq]
 constructor
 · intro h;cases a;simp at h;simp[←h]
 · intro h;subst h;simp
theorem qbV (a:ByteArray):a.toList.isEmpty=decide (a=⟨#[]⟩):=by
 by_cases h:a=⟨#[]⟩
 · have:=(zl a []).2 h;rw[this];simp[h]
 · have : ¬ a.toList = [] := fun e => h ((zl a []).1 e)
   simp[h,this]
theorem qed (a:ByteArray):(a.toList==[42])=decide (a=⟨#[42]⟩):=by
 by_cases h:a=⟨#[42]⟩
 · have:=(zl a [42]).2 h;rw[this];simp[h]
 · have : ¬ a.toList = [42] := fun e => h ((zl a [42]).1 e)
   simp[h,this]
theorem qdp (x:Nd)(aa:Option Addr)(al ac:Nat)(ka:Option Addr)(kl kc:Nat)(name:ByteArray)(w:World) :
 Calls Tryz.prog 183 #[.agg #[.bool x.text,.string x.s,.slice aa al ac,.int .i64 x.parent,.slice ka kl kc],.string name] w fun e w'=>e=.returned (.bool (Zv x name))∧Below w.heap.size w w':=by
 have hb:=Below.alloc1 w (.cells #[.bool x.text,.string x.s,.slice aa al ac,.int .i64 x.parent,.slice ka kl kc] 90);have HF:Hid (Zv x name=if x.text then decide (name=⟨#[]⟩) else decide (name=⟨#[42]⟩)||decide (name=x.s)):=rfl
 cases ht:x.text with
 | true =>
   rw[ht]at hb HF
   have HF2:Hid (Zv x name=decide (name=⟨#[]⟩)):=HF.out;clear HF ht
   go_enter Tryz.func183,Tryz.ntmps183
   go_wp2_with fail;go_ret;refine ⟨?_,hb⟩;rw[HF2.out,qbV];rfl
 | false =>
   rw[ht]at hb HF
   have HF2:Hid (Zv x name=(decide (name=⟨#[42]⟩)||decide (name=x.s))):=HF.out
   clear HF ht
   go_enter Tryz.func183,Tryz.ntmps183
   go_wp2_with fail
   · rename_i h1
     go_ret;refine ⟨?_,hb⟩;rw[HF2.out];have:=(zl name [42]).1 h1;simp[this]
   · go_ret;refine ⟨?_,hb⟩;rw[HF2.out]
     show Ending.returned (Value.bool (name.toList==[42]||name.toList==x.s.toList))=_
     rw[qed,←xK]
set_option maxHeartbeats 1000000 in
theorem XT (s:St)(w:World)(hs:s.name.size≤maxLen) :
 Calls Tryz.prog 51 #[.agg #[.string s.name,.int .i64 s.n]] w fun e w'=>e=.returned (.bool (zg s))∧Below w.heap.size w w':=by
 have hb:=Below.alloc1 w (.cells #[.string s.name,.int .i64 s.n] 50);have HF:Hid (zg s=(decide (0≤s.n)&&decide (s.n≤99)&&(decide (s.name=⟨#[]⟩)||decide (s.name=⟨#[42]⟩)||qM s.name))):=rfl
 have HN:Hid (∀ W,Calls Tryz.prog 88 #[.string s.name] W fun e w'=>e=.returned (.bool (qM s.name))∧w'=W):=fun W=>yD s.name W hs
 clear hs
 by_cases h0:s.n<0
 · have HE : Hid (zg s = false) := by show _ = _;rw[HF.out];simp[show ¬ 0 ≤ s.n by omega]
   clear HF
   go_enter Tryz.func51,Tryz.ntmps51
   go_wp2_with fail;go_ret;exact ⟨by rw[HE.out];rfl,hb⟩
 · by_cases h99 : 99 < s.n
   · have HE : Hid (zg s = false) := by show _ = _;rw[HF.out];simp[show ¬ s.n ≤ 99 by omega]
     clear HF
     go_enter Tryz.func51,Tryz.ntmps51
     go_wp2_with fail;go_ret;exact ⟨by rw[HE.out];rfl,hb⟩
   · have HE : Hid (zg s = (decide (s.name = ⟨#[]⟩) || decide (s.name = ⟨#[42]⟩) || qM s.name)) := by show _ = _;rw[HF.out];simp[show 0 ≤ s.n by omega, show s.n ≤ 99 by omega]
     clear HF
     by_cases he:s.name=⟨#[]⟩
     · have hl : s.name.toList = [] := (zl _ _).2 he;have HE2:Hid (zg s=true):=by show _=_;rw[HE.out];simp[he]
       clear HE he
       go_enter Tryz.func51,Tryz.ntmps51
       go_wp2_with fail;go_ret;exact ⟨by rw[HE2.out];rfl,hb⟩
     · have hl : s.name.toList ≠ [] := fun e => he ((zl _ _).1 e)
       by_cases hst:s.name=⟨#[42]⟩
       · have hl2 : s.name.toList = [42] := (zl _ _).2 hst;have HE2:Hid (zg s=true):=by show _=_;rw[HE.out];simp[hst]
         clear HE he hst hl
         go_enter Tryz.func51,Tryz.ntmps51
         go_wp2_with fail;go_ret;exact ⟨by rw[HE2.out];rfl,hb⟩
       · have hl2 : s.name.toList ≠ [42] := fun e => hst ((zl _ _).1 e)
         have HE2:Hid (zg s=qM s.name):=by show _=_;rw[HE.out];simp[hst,he]
         clear HE he hst
         go_enter Tryz.func51,Tryz.ntmps51
         go_wp2_with (go_at_call 88;refine (Calls.mono (HN.out _) ?_);rintro e w2 ⟨rfl,rfl⟩);go_ret;refine ⟨?_,hb⟩;rw[HE2.out]
         show Ending.returned (Value.bool (s.name.toList.isEmpty||s.name.toList==[42]||qM s.name))=_
         simp[hl,hl2]
def xn (l:List St):Prop:=∀ s∈l,s.name.size≤maxLen
set_option maxHeartbeats 1000000 in
theorem Xj (S:Nat→Prop)(v:Value)(l:List St)(w:World)(h:qC S w v l)(hn:xn l) :
 Calls Tryz.prog 27 #[v] w fun e w'=>e=.returned (.bool (yj l))∧Below w.heap.size w w':=by
 have HP:Hid (yj l=(decide (1≤l.length)&&decide (l.length≤5)&&l.all zg)):=rfl;have HL:Hid (qC S w v l):=h;have HN:Hid (xn l):=hn;obtain ⟨a,cap,rfl,hlc,hcm⟩:=h.shape;unfold maxLen at hcm
 clear h hn
 by_cases h1:l.length<1
 · have HE : Hid (yj l = false) := by show _ = _;rw[HP.out];simp[show ¬ 1 ≤ l.length by omega]
   have h1i:(l.length:Int)<1:=by omega
   clear HP
   go_enter Tryz.func27,Tryz.ntmps27
   go_wp2_with fail;go_ret;exact ⟨by rw[HE.out];rfl,Below.refl _ _⟩
 · have h1i : ¬ (l.length : Int) < 1 := by omega
   by_cases h5:5<l.length
   · have HE : Hid (yj l = false) := by show _ = _;rw[HP.out];simp[show ¬ l.length ≤ 5 by omega]
     have h5i:5<(l.length:Int):=by omega
     clear HP
     go_enter Tryz.func27,Tryz.ntmps27
     go_wp2_with fail;go_ret;exact ⟨by rw[HE.out];rfl,Below.refl _ _⟩
   · have h5i : ¬ 5 < (l.length : Int) := by omega
     have HE:Hid (yj l=l.all zg):=by show _=_;rw[HP.out];simp[show 1≤l.length by omega,show l.length≤5 by omega]
     clear HP
     go_enter Tryz.func27,Tryz.ntmps27
     go_wp2_with fail
     go_loopg [15] l.length (fun g j wr=>∃ (i:Nat),i+g=l.length∧j=.int .i64 (i:Int)∧Below w.heap.size w wr∧l.all zg=(l.drop i).all zg)
     case atStart => exact ⟨0,by omega,rfl,Below.refl _ _,rfl⟩
     case round =>
      obtain ⟨i,hi,rfl,hB,hA⟩:=hrel;have HA:Hid (l.all zg=(l.drop i).all zg):=hA;clear hA;have hsz:=hB.size
      by_cases hil:i<l.length
      · obtain ⟨s, hs⟩ : ∃ s, l[i]? = some s := ⟨l[i], by simp[hil]⟩
        obtain ⟨b,o,c2,hv,_,_,e0,e1⟩:=(HL.out.later hB).at hs
        injection hv with hv1 _ hv2
        subst hv1 hv2
        have hdr:l.drop i=s::l.drop (i+1):=by
         rw[List.drop_eq_getElem_cons hil];congr 1;simpa[hil] using hs
        have HD:Hid ((l.drop i).all zg=(zg s&&(l.drop (i+1)).all zg)):=by show _=_;rw[hdr];rfl
        have HG:Hid (∀ W,Calls Tryz.prog 51 #[.agg #[.string s.name,.int .i64 s.n]] W fun e w'=>e=.returned (.bool (zg s))∧Below W.heap.size W w'):=fun W=>XT s W (HN.out s (List.mem_of_getElem? hs))
        have hili:(i:Int)<(l.length:Int):=by omega
        have hb1:=hB.alloc hsz (.cells #[.string s.name,.int .i64 s.n] 50);clear hs hdr;cases hq:zg s with
        | true =>
          rw[hq]at HG HD
          clear hq;go_wp2_with fail;refine (Calls.mono (HG.out _) ?_);rintro e w3 ⟨rfl,hb3⟩;go_wp2_with fail
          go_roundg (l.length-(i+1))
          case measure => omega
          case rel => exact ⟨i+1,by omega,by go_num,hb1.trans (hb3.mono hb1.size),by rw[HA.out,HD.out];rfl⟩
        | false =>
          rw[hq]at HG HD
          clear hq;go_wp2_with fail;refine (Calls.mono (HG.out _) ?_);rintro e w3 ⟨rfl,hb3⟩;go_wp2_with fail;go_ret;exact ⟨by rw[HE.out,HA.out,HD.out];rfl,hb1.trans (hb3.mono hb1.size)⟩
      · have hili : ¬ (i : Int) < (l.length : Int) := by omega
        have HD:Hid ((l.drop i).all zg=true):=by show _=_;rw[List.drop_of_length_le (by omega)];rfl
        go_wp2_with fail;go_ret;exact ⟨by rw[HE.out,HA.out,HD.out];rfl,hB⟩
end
section
attribute [local go_sem] qd
theorem intInfo:(Tryz.prog.info? 3).map (fun i=>(i.zero,i.size,i.bytes))=some (some (.int .i64 0),1,8):=by kernel_rfl
theorem Jq {ops:Array Oper}{o:Oper}{a:Act}{w:World}{K:Act→World→Prop}{Q:Exit→Act→World→Prop}{E:Prop}
 (hg:o.guard=none) (s x:Operand) (hop:o.op=Op.call { callee:=Callee.builtin Builtin.append,args:=#[s,x],argTypes:=#[88,88] })
 (B:Nat) (v:Value) (n:Nat) (xs:List Value) (hs:a.eval s=v) (hown:w.ownsRow B 3 1 v n xs) (ad:Addr) (k:Int) (hx:a.eval x=.slice (some ad) 1 1)
 (hnews:∀ j u,[Value.int .i64 k][j]?=some u→w.cell? (ad.add j)=some u) (hn:n≤1048576) (hB:B≤w.heap.size)
 (hK:∀ v' w',w'.ownsRow B 3 1 v' (n+1) (xs++[.int .i64 k])→w.grownBy w' v.ownBlock→(v'.ownBlock=v.ownBlock∨v'.ownBlock=some w.heap.size)→K (a.put o.dst v') w') :
 if Region.wanted o (yielded ops a.tmps)=true then Oper.wp Tryz.prog o a w K Q else E:=by
 have hw:Region.wanted o (yielded ops a.tmps)=true:=by simp[Region.wanted,hg]
 rw[if_pos hw];obtain ⟨i0,hi,hz0,hz1,hz2⟩:=info_parts intInfo;obtain ⟨v',w',hr,h2,h3,_,h5⟩:=run_append_own_at (P:=Tryz.prog) w B 88 o.type 3 i0 _ 1 8 Tryz.underlying88 hi hz0 hz1 hz2 rfl (by decide) v n xs hown ad 1 1 [.int .i64 k] rfl hnews (by intro u hu;simp at hu;subst hu;rfl) (by unfold maxLen;omega) (by omega) hB
 unfold Oper.wp;simp[execOp,hop,resolve,invoke,builtin,hs,hx,hr,Result.andThen];exact hK v' w' h2 h3 h5
def qbi (d:Nat):Prop:=∀ (S:Nat→Prop)(va vk:Value)(t:Tr)(par:Int)(nb cb nx:Nat)(ms:List Rw)(w:World),qm S w va t.attrs→qb S w d vk t.kids→(∀ b,S b→b<w.heap.size∧b≠nb∧b≠cb)→nb≠cb→Row nb ms w→Cnt cb nx w →
 nx+cnt (d+1) [t]≤ms.length→ms.length≤80→FewN (d+1) [t] →
 Calls Tryz.prog 75 #[.slice (some ⟨nb,0,none⟩) ms.length ms.length,.agg #[.bool t.text,.string t.s,va,vk],.int .i64 par,.pointer (some ⟨cb,0,none⟩)] w fun e w'=>e=.returned (.tuple #[]) ∧
  ∃ ms',Row nb ms' w'∧ms'.length=ms.length∧Cnt cb (nx+cnt (d+1) [t]) w'∧(∀ i,i<nx∨nx+cnt (d+1) [t]≤i→ms'[i]?=ms[i]?)∧Laid (fun b=>w.heap.size≤b) w' ms' nx (layF d t par nx)∧LFr nb cb w w'
structure LS (w:World) (nb cb nx d:Nat) (t:Tr) (par:Int) (ms:List Rw) (bx:Array Value) (M:Nat) (va:Value) (i j:Nat) (v:Value) (mi:List Rw) (W:World):Prop where
 row:Row nb mi W
 len:mi.length=ms.length
 num:Cnt cb (nx+1+cnt d (t.kids.take j)) W
 old:∀ l,l<nx∨nx+cnt (d+1) [t]≤l→mi[l]?=ms[l]?
 me:mi[nx]?=some ⟨t.text,t.s,va,par,v⟩
 own:W.ownsRow M 3 1 v i ((qk (d-1) (nx+1) (t.kids.take i)).map fun k=>Value.int .i64 k)
 att:qm (fun b=>w.heap.size≤b∧b<M) W va t.attrs
 laid:Laid (fun b=>w.heap.size≤b∧v.ownBlock≠some b) W mi (nx+1) (qu (d-1) (layF (d-1)) nx (nx+1) (t.kids.take j))
 box:W.heap[w.heap.size]?=some (.cells bx 79 (0,0))
 fr:LFr nb cb w W
 le:M≤W.heap.size
 lo:w.heap.size<M
theorem Zs {d:Nat}{ts:List Tr}{i:Nat}{k:Tr}(hk:ts[i]?=some k):cnt (d+1) (ts.take (i+1))=cnt (d+1) (ts.take i)+cnt (d+1) [k]∧cnt (d+1) (ts.take i)+cnt (d+1) [k]≤cnt (d+1) ts:=by
  have hi:i<ts.length:=by
    rcases Nat.lt_or_ge i ts.length with h'|h'
    · exact h'
    · rw[List.getElem?_eq_none h']at hk;cases hk
  have e1:ts.take (i+1)=ts.take i++[k]:=by
    rw[List.take_succ_eq_append_getElem hi];congr 2;simpa[hi] using hk
  have e2:ts=ts.take (i+1)++ts.drop (i+1):=(List.take_append_drop _ _).symm;have happ:∀ a b:List Tr,cnt (d+1) (a++b)=cnt (d+1) a+cnt (d+1) b:=by intro a b;simp[cnt]
  refine ⟨by rw[e1,happ],?_⟩
  have h3 : cnt (d + 1) ts = cnt (d + 1) (ts.take (i + 1)) + cnt (d + 1) (ts.drop (i + 1)) := by conv => lhs;rw[e2]
                                                                                                 exact happ _ _
  rw[h3,e1,happ];omega
theorem Yb {ts:List Tr}{i:Nat}{k:Tr}(hk:ts[i]?=some k):ts.take (i+1)=ts.take i++[k]:=by
 have hi:i<ts.length:=by
  rcases Nat.lt_or_ge i ts.length with h'|h'
  · exact h'
  · rw[List.getElem?_eq_none h']at hk;cases hk
 rw[List.take_succ_eq_append_getElem hi];congr 2;simpa[hi] using hk
theorem qb9 {w:World}{nb cb nx d:Nat}{t:Tr}{par:Int}{ms:List Rw}{bx:Array Value}{M:Nat}{va:Value}{i:Nat}{v v':Value}{mi:List Rw}{wr w6:World}{k:Tr}{X Y:Obj}
 (hL:LS w nb cb nx (d+1) t par ms bx M va i i v mi wr) (hk:t.kids[i]?=some k) (hnl:nb<w.heap.size) (hcl:cb<w.heap.size) (hnc:nb≠cb)
 (hown:w6.ownsRow M 3 1 v' (i+1) ((qk d (nx+1) (t.kids.take i)).map (fun k=>Value.int .i64 k)++[.int .i64 ((nx+1+cnt (d+1) (t.kids.take i):Nat):Int)]))
 (hgr:((wr.alloc Y).alloc X).drew.grownBy w6 v.ownBlock) (hat:v'.ownBlock=v.ownBlock∨v'.ownBlock=some ((wr.alloc Y).alloc X).drew.heap.size) :
 LS w nb cb nx (d+1) t par ms bx M va (i+1) i v' (mi.set nx ⟨t.text,t.s,va,par,v'⟩) (w6.setCell ⟨nb,nx*5+4,none⟩ v')∧(∀ b,b<wr.heap.size→b<M→b≠nb→(w6.setCell ⟨nb,nx*5+4,none⟩ v').heap[b]?=wr.heap[b]?)∧(w6.setCell ⟨nb,nx*5+4,none⟩ v').heap[wr.heap.size]?=some Y∧wr.heap.size<(w6.setCell ⟨nb,nx*5+4,none⟩ v').heap.size:=by
 have hlo:=hL.lo;have hle:=hL.le;have hs6:=hgr.size
 have hsx:((wr.alloc Y).alloc X).drew.heap.size=wr.heap.size+1+1:=by
  show ((wr.alloc Y).alloc X).heap.size=_
  rw[World.size_alloc,World.size_alloc]
 rw[hsx]at hs6
 have hrow:∀ b,v.ownBlock=some b→M≤b∧b<wr.heap.size:=fun b hb=>hL.own.lt b hb
 have hkeep6:∀ b,b<wr.heap.size→v.ownBlock≠some b→w6.heap[b]?=wr.heap[b]?:=by
  intro b h1 h2;rw[hgr.block b (by rw[hsx];omega) (fun e=>h2 e.symm)]
  show ((wr.alloc Y).alloc X).heap[b]?=_
  rw[Lib.alloc_old _ _ _ (by rw[World.size_alloc];omega)]
  exact Lib.alloc_old _ _ _ h1
 have hkeep:∀ b,b<wr.heap.size→b≠nb→v.ownBlock≠some b→(w6.setCell ⟨nb,nx*5+4,none⟩ v').heap[b]?=wr.heap[b]?:=fun b h1 h2 h3=>by rw[qc h2,hkeep6 b h1 h3]
 have hsz:(w6.setCell ⟨nb,nx*5+4,none⟩ v').heap.size=w6.heap.size:=by simp
 have hnv:v.ownBlock≠some nb:=fun e=>by have:=(hrow nb e).1;omega
 have hcv:v.ownBlock≠some cb:=fun e=>by have:=(hrow cb e).1;omega
 have hfr:=hL.fr.below.size;have hr6:Row nb mi w6:=(hkeep6 nb (by omega) hnv).trans hL.row
 have hnx:nx<mi.length:=by
  rcases Nat.lt_or_ge nx mi.length with h'|h'
  · exact h'
  · have:=hL.me;rw[List.getElem?_eq_none h']at this;cases this
 have hvb:v.ownBlock≠some wr.heap.size:=fun e=>by have:=(hrow _ e).2;omega
 have hB6:Below 0 w w6:=((hL.fr.below.alloc (nZ9 _) Y).alloc (nZ9 _) X).drew.grown hgr (nZ9 _) (fun _ _=>nZ9 _)
 refine ⟨⟨hr6.putK hL.me v',by simp[hL.len],?_,?_,?_,?_,?_,?_,?_,⟨hB6.setCell (p:=⟨nb,nx*5+4,none⟩) (nZ9 _) _,?_⟩,by rw[hsz];omega,hlo⟩,?_,?_,by rw[hsz];omega⟩
 · unfold Cnt;rw[hkeep cb (by omega) (fun e=>hnc e.symm) hcv]
   exact hL.num
 · intro l hl;rw[List.getElem?_set_ne (by have:=qS (d+1) t;omega)]
   exact hL.old l hl
 · rw[List.getElem?_set_self hnx]
 · have e:(qk (d+1-1) (nx+1) (t.kids.take (i+1))).map (fun k=>Value.int .i64 k)=(qk d (nx+1) (t.kids.take i)).map (fun k=>Value.int .i64 k)++[.int .i64 ((nx+1+cnt (d+1) (t.kids.take i):Nat):Int)]:=by
    rw[Yb hk]
    show (qk d (nx+1) (t.kids.take i++[k])).map _=_
    rw[yP,List.map_append];rfl
   rw[e];refine qn hown fun b hb=>qc ?_
   have:=(hown.lt b hb).1;omega
 · refine hL.att.bounded.carry fun b hb=>⟨hb.1,hkeep b hb.2 (by have:=hb.1.1;omega) (fun e=>by have:=(hrow b e).1;have:=hb.1.2;omega)⟩
 · refine hL.laid.carry (fun b hb hlt => ⟨⟨hb.1, fun e => ?_⟩, hkeep b hlt (by have := hb.1;omega) hb.2⟩) (fun l h1 _ => by rw[List.getElem?_set_ne (by omega)])
   rcases hat with h1|h1
   · exact hb.2 (h1.symm.trans e)
   · rw[h1,hsx]at e;injection e with e;omega
 · rw[hkeep _ (by omega) (by omega) (fun e=>by have:=(hrow _ e).1;omega)];exact hL.box
 · intro b h1 h2 h3;rw[hkeep b (by omega) h2 (fun e=>by have:=(hrow b e).1;omega)]
   exact hL.fr.frame b h1 h2 h3
 · intro b h1 h2 h3;exact hkeep b h1 h3 (fun e=>by have:=(hrow b e).1;omega)
 · rw[qc (by omega), hgr.block _ (by rw[hsx];omega) (fun e => hvb e.symm)]
   show ((wr.alloc Y).alloc X).heap[wr.heap.size]?=_
   rw[Lib.alloc_old _ _ _ (by rw[World.size_alloc];omega)]
   exact heap_alloc_new _ _
theorem qca {w:World}{nb cb nx d:Nat}{t:Tr}{par:Int}{ms:List Rw}{bx:Array Value}{M:Nat}{va:Value}{i:Nat}{v:Value}{mi mj:List Rw}{w7 w8:World}{k:Tr}
 (hL:LS w nb cb nx (d+1) t par ms bx M va (i+1) i v mi w7) (hk:t.kids[i]?=some k) (hdk:Deep d k.kids) (hdt:Deep (d+1) t.kids) (hnl:nb<w.heap.size) (hcl:cb<w.heap.size) (hR:Row nb mj w8) (hlen:mj.length=mi.length)
 (hC:Cnt cb (nx+1+cnt (d+1) (t.kids.take i)+cnt (d+1) [k]) w8) (hold:∀ l,l<nx+1+cnt (d+1) (t.kids.take i)∨nx+1+cnt (d+1) (t.kids.take i)+cnt (d+1) [k]≤l→mj[l]?=mi[l]?)
 (hLd:Laid (fun b=>w7.heap.size≤b) w8 mj (nx+1+cnt (d+1) (t.kids.take i)) (layF d k nx (nx+1+cnt (d+1) (t.kids.take i)))) (hF:LFr nb cb w7 w8) :
 LS w nb cb nx (d+1) t par ms bx M va (i+1) (i+1) v mj w8:=by
 have hs:=hF.below.size;have hfr:=hL.fr.below.size;have hlo:=hL.lo;obtain ⟨hcu,hcl2⟩:=Zs (d:=d) hk;have hct:=qS (d+1) t;have hrow:∀ b,v.ownBlock=some b→M≤b∧b<w7.heap.size:=fun b hb=>hL.own.lt b hb
 have hkeep:∀ b,b<w7.heap.size→w.heap.size≤b→w8.heap[b]?=w7.heap[b]?:=fun b h1 h2=>hF.frame b h1 (by omega) (by omega)
 have hll:(qu d (layF d) nx (nx+1) (t.kids.take i)).length=cnt (d+1) (t.kids.take i):=by
  have:∀ (ts:List Tr) (a:Nat),Deep (d+1) ts→(qu d (layF d) nx a ts).length=cnt (d+1) ts:=by
   intro ts
   induction ts with
   | nil=>intro _ _;rfl
   | cons u ts ih2 =>
     intro a hd;rw[qu,List.length_append,layF_length d u _ _ (hd u List.mem_cons_self),ih2 _ (fun x hx=>hd x (List.mem_cons_of_mem _ hx)),zj d u ts]
  exact this _ _ (fun u hu=>hdt u (List.mem_of_mem_take hu))
 have hlk:=layF_length d k (nx:Int) (nx+1+cnt (d+1) (t.kids.take i)) hdk;refine ⟨hR,hlen.trans hL.len,?_,?_,?_,?_,?_,?_,?_,?_,by have:=hL.le;omega,hlo⟩
 · rw[hcu,←Nat.add_assoc];exact hC
 · intro l hl;rw[hold l (by omega)]
   exact hL.old l hl
 · rw[hold nx (by omega)];exact hL.me
 · exact qn hL.own fun b hb=>hkeep b (hrow b hb).2 (by have:=(hrow b hb).1;omega)
 · exact hL.att.bounded.carry fun b hb=>⟨hb.1,hkeep b hb.2 hb.1.1⟩
 · rw[Yb hk]
   show Laid _ _ _ _ (qu d (layF d) nx (nx+1) (t.kids.take i++[k]))
   rw[jC];have hone:qu d (layF d) nx (nx+1+cnt (d+1) (t.kids.take i)) [k]=layF d k nx (nx+1+cnt (d+1) (t.kids.take i)):=by simp[qu]
   rw[hone];refine Laid.append (hL.laid.carry (fun b hb hlt=>⟨hb,hkeep b hlt hb.1⟩) (fun l h1 h2=>?_)) ?_
   · rw[hold l (Or.inl ?_)];have h3:(qu (d+1-1) (layF (d+1-1)) nx (nx+1) (t.kids.take i)).length=cnt (d+1) (t.kids.take i):=hll;omega
   · rw[hll];exact hLd.carry (fun b hb _=>⟨⟨by omega,fun e=>by have:=(hrow b e).2;omega⟩,rfl⟩) (fun _ _ _=>rfl)
 · rw[hkeep _ (qh hL.box) (nR9 _)];exact hL.box
 · exact hL.fr.trans hF
theorem zr.of_owns {w:World}{B:Nat}{v:Value}{l:List Int}{S:Nat→Prop}(hS:∀ b,B≤b→S b)(h:w.ownsRow B 3 1 v l.length (l.map fun k=>Value.int .i64 k)):zr S w v l:=by
 rcases h.2 with ⟨hv,h0⟩|⟨g,cap,cur,hv,hg,hh,hc,hm,hs,ht⟩
 · have : l = [] := List.eq_nil_of_length_eq_zero h0;subst this hv;exact zr.nil
 · subst hv;refine ⟨_,cap,rfl,hc,hm,fun _=>⟨g,0,rfl,hS g hg,fun i x hx=>?_⟩⟩
   have hi:i<l.length:=by
    rcases Nat.lt_or_ge i l.length with h'|h'
    · exact h'
    · rw[List.getElem?_eq_none h']at hx;cases hx
   rw[Nat.zero_add,World.ownsRow.cellAt h i (by omega)]
   simp[hx]
theorem qeQ {d:Nat}{t:Tr}(h:Deep d t.kids)(par:Int)(nx:Nat):layF d t par nx=⟨t.text,t.s,t.attrs,par,qk (d-1) (nx+1) t.kids⟩::qu (d-1) (layF (d-1)) nx (nx+1) t.kids:=by
 cases d with
 | zero =>
   have e:t.kids=[]:=h;rw[e];rfl
 | succ d=>rfl
theorem qdD {w:World}{nb cb nx d:Nat}{t:Tr}{par:Int}{ms:List Rw}{bx:Array Value}{M:Nat}{va:Value}{v:Value}{mi:List Rw}{W:World}(hd:Deep d t.kids)(h:LS w nb cb nx d t par ms bx M va t.kids.length t.kids.length v mi W) :
 Row nb mi W∧mi.length=ms.length∧Cnt cb (nx+cnt (d+1) [t]) W∧(∀ i,i<nx∨nx+cnt (d+1) [t]≤i→mi[i]?=ms[i]?)∧Laid (fun b=>w.heap.size≤b) W mi nx (layF d t par nx)∧LFr nb cb w W:=by
 have hn:=h.num;rw[List.take_length]at hn
 have hlo:=h.lo;refine ⟨h.row,h.len,?_,h.old,?_,h.fr⟩
 · rw[qS,←Nat.add_assoc];exact hn
 · rw[qeQ hd];have hl:=h.laid;have ho:=h.own;rw[List.take_length]at hl ho
   intro i x hx;cases i with
   | zero =>
     simp only[List.getElem?_cons_zero,Option.some.injEq]at hx
     subst hx;refine ⟨_,h.me,rfl,rfl,rfl,h.att.carry fun b hb=>⟨hb.1,rfl⟩,?_⟩
     exact zr.of_owns (B:=M) (fun b hb=>by omega) (by rw[Ql];exact ho)
   | succ i =>
     simp only[List.getElem?_cons_succ]at hx
     obtain ⟨r,hr,hR⟩:=hl i x hx;exact ⟨r,by rw[show nx+(i+1)=nx+1+i by omega];exact hr,hR.carry fun b hb=>⟨hb.1,rfl⟩⟩
set_option maxHeartbeats 2000000 in
theorem qdE (d:Nat)(ih:∀ m,d=m+1→qbi m):qbi d:=by
 intro S va vk t par nb cb nx ms w hA hK hS hnc hR hC hN h80 hFw;obtain ⟨aa,ac,rfl⟩:=hA.shape;obtain ⟨ka,kc,rfl,hkl,hkm⟩:=qb.shape d hK;unfold maxLen at hkm
 have hcnt:=qS d t;have hnx:nx<ms.length:=by omega
 obtain ⟨r0,hr0⟩:∃ r0,ms[nx]?=some r0:=⟨ms[nx],by simp[hnx]⟩
 have hal:=(hFw t List.mem_cons_self).1;have c0:=hC.c0;have f0:=hC.f0;have hcl:=hC.lt;have hnl:nb<w.heap.size:=qh hR;have IH:Hid (∀ m,d=m+1→qbi m):=ih;have hcx:∀ X,(w.alloc X).cell? ⟨cb,0,none⟩=some (.int .i64 (nx:Int)):=fun X=>Lib.cell?_alloc_some _ c0
 have hb1:=Below.alloc1 w (.cells #[.bool t.text,.string t.s,.slice aa t.attrs.length ac,.slice ka t.kids.length kc] 79);have hx1:=heap_alloc_new w (.cells #[.bool t.text,.string t.s,.slice aa t.attrs.length ac,.slice ka t.kids.length kc] 79);have hC1:=hC.later hb1;have hfz1:=hC1.f0;have hce1:=hC1.c0;have hz1:(w.alloc (.cells #[.bool t.text,.string t.s,.slice aa t.attrs.length ac,.slice ka t.kids.length kc] 79)).heap.size=w.heap.size+1:=by simp
 clear ih hcx c0 f0
 go_enter Tryz.func75,Tryz.ntmps75
 go_wp2_with fail
 have hc2:Cnt cb (nx+1) (w.setCell ⟨cb,0,none⟩ (.int .i64 ((nx:Int)+1))):=by
  have:=hC.put (nx+1)
  simpa using this
 have hsz2:(w.setCell ⟨cb,0,none⟩ (.int .i64 ((nx:Int)+1))).heap.size=w.heap.size:=by simp
 have hb2:=Below.alloc1 (w.setCell ⟨cb,0,none⟩ (.int .i64 ((nx:Int)+1))) (.cells #[.bool t.text,.string t.s,.slice aa t.attrs.length ac,.slice ka t.kids.length kc] 79);have hx2:=heap_alloc_new (w.setCell ⟨cb,0,none⟩ (.int .i64 ((nx:Int)+1))) (.cells #[.bool t.text,.string t.s,.slice aa t.attrs.length ac,.slice ka t.kids.length kc] 79);rw[hsz2]at hx2
 have hC2:=hc2.later hb2;have hF2:LFr nb cb w _:=(LFr.putC nb cb w 0 (.int .i64 ((nx:Int)+1))).trans (LFr.later hb2)
 have hR2:Row nb ms ((w.setCell ⟨cb,0,none⟩ (.int .i64 ((nx:Int)+1))).alloc (.cells #[.bool t.text,.string t.s,.slice aa t.attrs.length ac,.slice ka t.kids.length kc] 79)):=by
  unfold Row;rw[hb2.block nb (by rw[hsz2];exact hnl),qc hnc]
  exact hR
 have hz2:((w.setCell ⟨cb,0,none⟩ (.int .i64 ((nx:Int)+1))).alloc (.cells #[.bool t.text,.string t.s,.slice aa t.attrs.length ac,.slice ka t.kids.length kc] 79)).heap.size=w.heap.size+1:=by simp
 generalize (w.setCell ⟨cb,0,none⟩ (.int .i64 ((nx:Int)+1))).alloc (.cells #[.bool t.text,.string t.s,.slice aa t.attrs.length ac,.slice ka t.kids.length kc] 79)=W2 at hb2 hx2 hC2 hF2 hR2 hz2 ⊢
 have HZ2:Hid (W2.heap.size=w.heap.size+1):=hz2;have hlt2:w.heap.size<W2.heap.size:=by omega
 have HCL:Hid (∀ W,(∀ b,S b→W.heap[b]?=w.heap[b]?)→Calls Tryz.prog 46 #[.slice aa t.attrs.length ac] W fun e w'=>∃ v',e=.returned v'∧qm (zw W.heap.size 93 w') w' v' t.attrs∧Below W.heap.size W w'):=fun W hW=>ZW S _ t.attrs W (hA.carry fun b hb=>⟨hb,hW b hb⟩) (Nat.le_trans hal (by decide))
 have HSF:Hid (∀ W,LFr nb cb w W→∀ b,S b→W.heap[b]?=w.heap[b]?):=fun W hW b hb=>hW.frame b (hS b hb).1 (hS b hb).2.1 (hS b hb).2.2
 have HWW:Hid (∀ W':World,W'.heap[w.heap.size]?=W2.heap[w.heap.size]?→W'.cell? ⟨w.heap.size,0,none⟩=some (.bool t.text)∧W'.cell? ⟨w.heap.size,1,none⟩=some (.string t.s)∧W'.cell? ⟨w.heap.size,2,none⟩=some (.slice aa t.attrs.length ac)):=by
  intro W' h2;rw[hx2]at h2
  exact ⟨by rw[cH9 h2];rfl,by rw[cH9 h2];rfl,by rw[cH9 h2];rfl⟩
 have HKT:Hid (qb S w d (.slice ka t.kids.length kc) t.kids):=hK;have HFW:Hid (FewN d t.kids):=(hFw t List.mem_cons_self).2;have HSS:Hid (∀ b,S b→b<w.heap.size∧b≠nb∧b≠cb):=hS;have HR2:Hid (Row nb ms W2):=hR2;have HC2:Hid (Cnt cb (nx+1) W2):=hC2;have HF2:Hid (LFr nb cb w W2):=hF2;have HX2:Hid _:=hx2;have HFD:Hid (LFr nb cb w W2.drew):=⟨hF2.below.drew,hF2.frame⟩;have hnxi:(nx:Int)<(ms.length:Int):=by omega
 obtain ⟨y0,y1,y2⟩:=HWW.out W2 rfl;have HSD:Hid _:=HWW.out W2.drew rfl;have hnbw:w.heap.size≠nb:=by omega
 have hncw:w.heap.size≠cb:=by omega
 clear hA hK hS hR hC hFw hb1 hx1 hC1 hfz1 hce1 hz1 hb2 hx2 hC2 hF2 hR2 hz2 hc2 hsz2
 go_region_held3 (fun W:World=>W.cell? ⟨w.heap.size,0,none⟩=some (.bool t.text)∧W.cell? ⟨w.heap.size,1,none⟩=some (.string t.s)∧W.cell? ⟨w.heap.size,2,none⟩=some (.slice aa t.attrs.length ac))
  (first
   | with_reducible exact HS3.out
   | with_reducible exact HS4.out
   | with_reducible exact HSD.out)
  (first
   | (go_at_call 46;refine (Calls.mono (HCL.out W2.drew (HSF.out _ HFD.out)) ?_);rintro e w3 ⟨va3,rfl,hA3,hb3⟩;obtain ⟨a3,c3',rfl⟩:=hA3.shape;have hr3:Row nb ms w3:=(hb3.block nb (Nat.lt_trans hnl hlt2)).trans HR2.out;obtain ⟨g0,g1,g2,g3,g4⟩:=hr3.cells hr0;have k0:=hr3.frozen (nx*5);have k1:=hr3.frozen (nx*5+1);have k2:=hr3.frozen (nx*5+2);have k3:=hr3.frozen (nx*5+3);have k4:=hr3.frozen (nx*5+4);have HS3:Hid _:=HWW.out w3 (hb3.block _ hlt2);have HS4:Hid _:=HWW.out (((((w3.setCell ⟨nb,nx*5,none⟩ (.bool t.text)).setCell ⟨nb,nx*5+1,none⟩ (.string t.s)).setCell ⟨nb,nx*5+2,none⟩ (.slice a3 t.attrs.length c3')).setCell ⟨nb,nx*5+3,none⟩ (.int .i64 par)).setCell ⟨nb,nx*5+4,none⟩ (.slice none 0 0)) (by rw[qc hnbw,qc hnbw,qc hnbw,qc hnbw,qc hnbw];exact hb3.block _ hlt2)))
 have hLS:LS w nb cb nx d t par ms #[.bool t.text,.string t.s,.slice aa t.attrs.length ac,.slice ka t.kids.length kc] (((((w3.setCell ⟨nb,nx*5,none⟩ (.bool t.text)).setCell ⟨nb,nx*5+1,none⟩ (.string t.s)).setCell ⟨nb,nx*5+2,none⟩ (.slice a3 t.attrs.length c3')).setCell ⟨nb,nx*5+3,none⟩ (.int .i64 par)).setCell ⟨nb,nx*5+4,none⟩ (.slice none 0 0)).heap.size (.slice a3 t.attrs.length c3') 0 0 (.slice none 0 0) (ms.set nx ⟨t.text,t.s,.slice a3 t.attrs.length c3',par,.slice none 0 0⟩) (((((w3.setCell ⟨nb,nx*5,none⟩ (.bool t.text)).setCell ⟨nb,nx*5+1,none⟩ (.string t.s)).setCell ⟨nb,nx*5+2,none⟩ (.slice a3 t.attrs.length c3')).setCell ⟨nb,nx*5+3,none⟩ (.int .i64 par)).setCell ⟨nb,nx*5+4,none⟩ (.slice none 0 0)):=by
  have hz:=HZ2.out;have hs3:W2.heap.size≤w3.heap.size:=hb3.size;have hsz:(((((w3.setCell ⟨nb,nx*5,none⟩ (.bool t.text)).setCell ⟨nb,nx*5+1,none⟩ (.string t.s)).setCell ⟨nb,nx*5+2,none⟩ (.slice a3 t.attrs.length c3')).setCell ⟨nb,nx*5+3,none⟩ (.int .i64 par)).setCell ⟨nb,nx*5+4,none⟩ (.slice none 0 0)).heap.size=w3.heap.size:=by simp
  have hkeep:∀ b,b≠nb→(((((w3.setCell ⟨nb,nx*5,none⟩ (.bool t.text)).setCell ⟨nb,nx*5+1,none⟩ (.string t.s)).setCell ⟨nb,nx*5+2,none⟩ (.slice a3 t.attrs.length c3')).setCell ⟨nb,nx*5+3,none⟩ (.int .i64 par)).setCell ⟨nb,nx*5+4,none⟩ (.slice none 0 0)).heap[b]?=w3.heap[b]?:=fun b hb=>by rw[qc hb,qc hb,qc hb,qc hb,qc hb]
  refine ⟨hr3.put hnx ⟨t.text,t.s,.slice a3 t.attrs.length c3',par,.slice none 0 0⟩,by simp,?_,?_,?_,World.ownsRow_nil _ _ _ _,?_,?_,?_,?_,nR9 _,by rw[hsz];omega⟩
  · unfold Cnt;rw[hkeep cb (fun e=>hnc e.symm),hb3.block cb (by show cb<W2.heap.size;omega)]
    have e:nx+1+cnt d (t.kids.take 0)=nx+1:=by simp[qR]
    rw[e];exact HC2.out
  · intro j hj;rw[List.getElem?_set_ne (by omega)]
  · rw[List.getElem?_set_self hnx]
  · refine hA3.bounded.carry fun b hb=>⟨⟨by have h1:W2.heap.size≤b:=hb.1.1;omega,by rw[hsz];exact hb.2⟩,hkeep b (by have h1:W2.heap.size≤b:=hb.1.1;omega)⟩
  · intro j x hx;simp[qu]at hx
  · rw[hkeep _ hnbw,hb3.block _ hlt2];exact HX2.out
  · exact ⟨(HFD.out.below.trans (hb3.mono (nZ9 _))).trans (((((Below.refl 0 w3).setCell (p:=⟨nb,nx*5,none⟩) (nZ9 _) _).setCell (p:=⟨nb,nx*5+1,none⟩) (nZ9 _) _).setCell (p:=⟨nb,nx*5+2,none⟩) (nZ9 _) _).setCell (p:=⟨nb,nx*5+3,none⟩) (nZ9 _) _ |>.setCell (p:=⟨nb,nx*5+4,none⟩) (nZ9 _) _),
     fun b h1 h2 h3=>by rw[hkeep b h2,hb3.block b (by show b<W2.heap.size;omega)];exact HFD.out.frame b h1 h2 h3⟩
 generalize (((((w3.setCell ⟨nb,nx*5,none⟩ (.bool t.text)).setCell ⟨nb,nx*5+1,none⟩ (.string t.s)).setCell ⟨nb,nx*5+2,none⟩ (.slice a3 t.attrs.length c3')).setCell ⟨nb,nx*5+3,none⟩ (.int .i64 par)).setCell ⟨nb,nx*5+4,none⟩ (.slice none 0 0))=W4 at hLS ⊢
 have q3:W4.cell? ⟨w.heap.size,3,none⟩=some (.slice ka t.kids.length kc):=by rw[cH9 hLS.box];rfl
 have HLS:Hid _:=hLS;clear hLS HS3 HS4 HSD HWW HCL HFD HX2 HF2 HC2 HR2 hr3 hA3 hb3 g0 g1 g2 g3 g4 k0 k1 k2 k3 k4 y0 y1 y2 HZ2 hlt2;go_wp2_with fail
 go_loopg [34] t.kids.length (fun g j wr=>∃ (i:Nat) (v:Value) (mi:List Rw),i+g=t.kids.length∧j=.int .i64 (i:Int)∧LS w nb cb nx d t par ms #[.bool t.text,.string t.s,.slice aa t.attrs.length ac,.slice ka t.kids.length kc] W4.heap.size (.slice a3 t.attrs.length c3') i i v mi wr)
 case atStart => exact ⟨0,.slice none 0 0,_,by omega,rfl,HLS.out⟩
 case round =>
  obtain ⟨i,v,mi,hi,rfl,hL⟩:=hrel;have HL:Hid _:=hL;obtain ⟨ja,jn,jc,rfl⟩:=qQ hL.own
  by_cases hil:i<t.kids.length
  · obtain ⟨d',rfl⟩:∃ d',d=d'+1:=by
     cases d with
     | zero=>have:t.kids=[]:=(qb.deep 0 HKT.out);rw[this]at hil;simp at hil
     | succ d'=>exact ⟨d',rfl⟩
    obtain ⟨k,hk⟩:∃ k,t.kids[i]?=some k:=⟨t.kids[i],by simp[hil]⟩
    obtain ⟨ta,tcap,htv,_,_,ht4⟩:=HKT.out;obtain ⟨tb,tof,hta,hSb,htc⟩:=ht4 (by intro e;rw[e]at hil;simp at hil)
    injection htv with htv1 _ htv2
    subst htv1 htv2 hta;obtain ⟨kva,kvk,e0,e1,e2,e3,hkA,hkK⟩:=htc i k hk;have hbw:tb<w.heap.size:=World.block_lt_of_cell? w _ e0;have hbr:wr.heap[tb]?=w.heap[tb]?:=HSF.out wr HL.out.fr tb hSb;rw[←World.cell?_of_block (a:=⟨tb,tof+i*4,none⟩) hbr]at e0
    rw[←World.cell?_of_block (a:=⟨tb,tof+i*4+1,none⟩) hbr]at e1
    rw[←World.cell?_of_block (a:=⟨tb,tof+i*4+2,none⟩) hbr]at e2
    rw[←World.cell?_of_block (a:=⟨tb,tof+i*4+3,none⟩) hbr]at e3
    obtain ⟨xa,xc,rfl⟩:=hkA.shape;obtain ⟨ya,yc,rfl,_,_⟩:=qb.shape d' hkK;obtain ⟨m,hm⟩:∃ m,nx+1+cnt (d'+1) (t.kids.take i)=m:=⟨_,rfl⟩;have hnum:=HL.out.num;rw[hm]at hnum
    have hb5:=Below.alloc1 wr (.cells #[.bool k.text,.string k.s,.slice xa k.attrs.length xc,.slice ya k.kids.length yc] 79);have hC5:=hnum.later hb5;have hR5:Row nb mi (wr.alloc (.cells #[.bool k.text,.string k.s,.slice xa k.attrs.length xc,.slice ya k.kids.length yc] 79)):=(hb5.block nb (qh HL.out.row)).trans HL.out.row;obtain ⟨_,_,_,_,g4⟩:=hR5.cells HL.out.me;have cc:=hC5.c0;have g4a:((wr.alloc (.cells #[.bool k.text,.string k.s,.slice xa k.attrs.length xc,.slice ya k.kids.length yc] 79)).alloc (.cells #[.int .i64 (m:Int)] 3)).cell? ⟨nb,nx*5+4,none⟩=some (.slice ja jn jc):=Lib.cell?_alloc_some _ g4
    have hOW:∀ Y X,((wr.alloc Y).alloc X).drew.ownsRow W4.heap.size 3 1 (.slice ja jn jc) i ((qk d' (nx+1) (t.kids.take i)).map fun k=>Value.int .i64 k):=fun Y X =>
     qq (qq HL.out.own (Below.alloc1 wr Y)) (Below.alloc1 _ X).drew
    have HOW:Hid _:=hOW;have HM:Hid (nx+1+cnt (d'+1) (t.kids.take i)=m):=hm;have hlen5:mi.length=ms.length:=HL.out.len;have HME:Hid _:=HL.out.me;have hili:(i:Int)<(t.kids.length:Int):=by omega
    have hi20:i≤1048576:=by
     have h1:=(Zs (d:=d') hk).2;have h2:=qS (d'+1) t
     have h3:i≤cnt (d'+1) (t.kids.take i):=by
      have:∀ (l:List Tr),l.length≤cnt (d'+1) l:=by
       intro l
       induction l with
       | nil=>simp
       | cons x l ihl=>rw[zj d' x l,qS,List.length_cons];omega
      have:=this (t.kids.take i);rw[List.length_take]at this
      omega
     omega
    have hsr:W4.heap.size≤wr.heap.size:=HL.out.le;have HKA:Hid (qm S w (.slice xa k.attrs.length xc) k.attrs):=hkA;have HKK:Hid (qb S w d' (.slice ya k.kids.length yc) k.kids):=hkK
    have hroom:m+cnt (d'+1) [k]≤ms.length:=by
     have h1:=(Zs (d:=d') hk).2;have h2:=qS (d'+1) t;omega
    have hnxm:nx<mi.length:=by omega
    have hfz4:(wr.alloc (.cells #[.bool k.text,.string k.s,.slice xa k.attrs.length xc,.slice ya k.kids.length yc] 79)).frozen? ⟨nb,nx*5+4,none⟩=false:=hR5.frozen _
    have HRW:Hid (∀ (X:Obj) (w6:World),((wr.alloc (.cells #[.bool k.text,.string k.s,.slice xa k.attrs.length xc,.slice ya k.kids.length yc] 79)).alloc X).drew.grownBy w6 (Value.slice ja jn jc).ownBlock→Row nb mi w6):=by
     intro X w6 hg;have hlt5:nb<(wr.alloc (.cells #[.bool k.text,.string k.s,.slice xa k.attrs.length xc,.slice ya k.kids.length yc] 79)).heap.size:=qh hR5;unfold Row;rw[hg.block nb (by show nb<((wr.alloc (.cells #[.bool k.text,.string k.s,.slice xa k.attrs.length xc,.slice ya k.kids.length yc] 79)).alloc X).heap.size;rw[World.size_alloc];omega) (fun e=>by have:=(HL.out.own.lt nb e.symm).1;have:=HL.out.lo;omega)]
     show ((wr.alloc (.cells #[.bool k.text,.string k.s,.slice xa k.attrs.length xc,.slice ya k.kids.length yc] 79)).alloc X).heap[nb]?=_
     rw[Lib.alloc_old _ _ _ hlt5];exact hR5
    clear hL hkA hkK htc ht4 hnum hOW hm hR5 hC5 q3;go_wp2_with fail
    go_region_law (first
     | (refine Jq (by rfl) (.tmp 44) (.tmp 48) (by rfl) W4.heap.size (.slice ja jn jc) i ((qk d' (nx+1) (t.kids.take i)).map fun k=>Value.int .i64 k) (by simp[Act.eval]) (HOW.out _ _) ⟨(wr.alloc (.cells #[.bool k.text,.string k.s,.slice xa k.attrs.length xc,.slice ya k.kids.length yc] 79)).heap.size,0,none⟩ (m:Int) (by simp[Act.eval]) (fun j u hj=>cell_one_new _ _ _ j u hj) hi20 (by simp;omega) ?_;intro v6 w6 hown6 hgr6 hat6;obtain ⟨a6,n6,c6,rfl⟩:=qQ hown6;obtain ⟨_,_,_,_,z6⟩:=(HRW.out _ w6 hgr6).cells HME.out;have f6:=(HRW.out _ w6 hgr6).frozen (nx*5+4)))
    all_goals
     obtain ⟨hL7,hkp7,hbx7,hs7⟩:=qb9 HL.out hk hnl hcl hnc (by rw[HM.out];exact hown6) hgr6 hat6
     generalize w6.setCell ⟨nb,nx*5+4,none⟩ (.slice a6 n6 c6)=W7 at hL7 hkp7 hbx7 hs7 ⊢
     have q0:W7.cell? ⟨wr.heap.size,0,none⟩=some (.bool k.text):=by rw[cH9 hbx7];rfl
     have q1:W7.cell? ⟨wr.heap.size,1,none⟩=some (.string k.s):=by rw[cH9 hbx7];rfl
     have q2:W7.cell? ⟨wr.heap.size,2,none⟩=some (.slice xa k.attrs.length xc):=by rw[cH9 hbx7];rfl
     have q3:W7.cell? ⟨wr.heap.size,3,none⟩=some (.slice ya k.kids.length yc):=by rw[cH9 hbx7];rfl
     have hn7:=hL7.num;rw[HM.out]at hn7
     have hSF7:=HSF.out W7 hL7.fr;have hw7:=hL7.fr.below.size
     have hcall:=IH.out d' rfl S _ _ k (nx:Int) nb cb m _ W7 (HKA.out.carry fun b hb=>⟨hb,hSF7 b hb⟩) (qb.carry (fun b hb=>⟨hb,hSF7 b hb⟩) d' HKK.out) (fun b hb=>⟨by have:=(HSS.out b hb).1;omega,(HSS.out b hb).2⟩) hnc hL7.row hn7 (by rw[hL7.len];exact hroom) (by rw[hL7.len];exact h80) (by
      intro u hu;simp only[List.mem_singleton]at hu
      subst hu;exact HFW.out _ (List.mem_of_getElem? hk))
     rw[hL7.len]at hcall
     have HCALL:Hid _:=hcall;have HL7:Hid _:=hL7;clear hcall hL7 hown6 hgr6 hat6 z6 f6 g4 g4a cc e0 e1 e2 e3 hn7 hSF7 hkp7 hbx7;go_wp2_with fail;refine (Calls.mono HCALL.out ?_);rintro e w8 ⟨rfl,mj,hR8,hlen8,hC8,hold8,hLd8,hF8⟩;have HL8:Hid _:=qca HL7.out hk (qb.deep d' HKK.out) (qb.deep (d'+1) HKT.out) hnl hcl hR8 (by rw[HL7.out.len];exact hlen8) (by rw[HM.out];exact hC8) (by rw[HM.out];exact hold8) (by rw[HM.out];exact hLd8) hF8
     clear HCALL hR8 hC8 hold8 hLd8 hF8;go_wp2_with fail
     go_roundg (t.kids.length-(i+1))
     case measure => omega
     case rel => exact ⟨i+1,_,mj,by omega,by go_num,HL8.out⟩
  · have hii : i = t.kids.length := by omega
    have hili:¬ (i:Int)<(t.kids.length:Int):=by omega
    have HLD:Hid _:=qdD (qb.deep d HKT.out) (by rw[←hii];exact HL.out)
    clear hL hii q3;go_wp2_with fail
    go_returns
    obtain ⟨h1,h2,h3,h4,h5,h6⟩:=HLD.out;exact ⟨rfl,mi,h1,h2,h3,h4,h5,h6⟩
theorem qeR (d:Nat):qbi d:=by
 induction d with
 | zero=>exact qdE 0 (fun m hm=>by omega)
 | succ d ih=>exact qdE (d+1) (fun m hm=>by cases hm;exact ih)
end
section
attribute [local go_sem] qd
theorem X4 {S:Nat→Prop}{nb:Nat}{ms:List Rw}{w:World}{L:List Nd}(hR:Row nb ms w)(hl:L.length=ms.length)(hL:Laid S w ms 0 L)(hS:S nb)(h80:ms.length≤80):qB S w (.slice (some ⟨nb,0,none⟩) ms.length ms.length) L:=by
 refine ⟨_,ms.length,by rw[hl],by omega,by unfold maxLen;omega,fun _=>⟨nb,0,rfl,hS,fun i x hx=>?_⟩⟩
 obtain ⟨r,hr,h1,h2,h3,h4,h5⟩:=hL i x hx;rw[Nat.zero_add]at hr
 obtain ⟨g0,g1,g2,g3,g4⟩:=hR.cells hr;rw[Nat.zero_add];exact ⟨r.va,r.vk,by rw[g0,h1],by rw[g1,h2],g2,by rw[g3,h3],g4,h4,h5⟩
theorem qe5 {n:Nat}(hf:∀ k,rgt n k=true→FewN n k):∀ (ts:List Tr)(p:Bool),rgL (rgt n) p ts=true→FewN (n+1) ts:=by
 intro ts
 induction ts with
 | nil=>intro p _ t ht;simp at ht
 | cons x r ih =>
   intro p h t ht;unfold rgL at h
   simp only[Bool.and_eq_true]at h
   rw[List.mem_cons]at ht
   rcases ht with rfl|ht
   · have h1 := h.1.1.1;unfold qz at h1
     cases htx:t.text with
     | true =>
       simp only[htx,if_true,Bool.and_eq_true,decide_eq_true_eq]at h1
       have hk:t.kids=[]:=List.eq_nil_of_length_eq_zero h1.2;refine ⟨by omega,?_⟩
       rw[hk];cases n with
       | zero=>trivial
       | succ n=>intro u hu;simp at hu
     | false =>
       simp only[htx,Bool.false_eq_true,if_false,Bool.and_eq_true]at h1
       have h2:=h1.2;simp only[q7,Bool.and_eq_true,decide_eq_true_eq]at h2
       refine ⟨by omega,hf _ ?_⟩
       have:=h.1.2
       simpa[htx] using this
   · exact ih x.text h.2 t ht
theorem rgt_few:∀ (n:Nat)(ts:List Tr),rgt n ts=true→FewN n ts:=by
 intro n
 induction n with
 | zero=>intro ts _;trivial
 | succ n ih=>intro ts h;exact qe5 ih ts false h
theorem nodeInfo:(Tryz.prog.info? 90).map (fun i=>(i.zero,i.size,i.bytes))=some (some (.agg #[.bool false,.string ⟨#[]⟩,.slice none 0 0,.int .i64 0,.slice none 0 0]),5,80):=by kernel_rfl
def zeroRw:Rw:=⟨false,⟨#[]⟩,.slice none 0 0,0,.slice none 0 0⟩
theorem qeV (N:Nat):madeCells (Value.agg #[.bool false,.string ⟨#[]⟩,.slice none 0 0,.int .i64 0,.slice none 0 0]).cells (N*5)=(rawCells (List.replicate N zeroRw)).toArray:=by
 apply Array.ext
 · simp[madeCells,yo]
 · intro k h1 h2;have hk:k<N*5:=by simpa[madeCells] using h1
   have hr:(List.replicate N zeroRw)[k / 5]?=some zeroRw:=by rw[List.getElem?_replicate];simp;omega
   obtain ⟨g0,g1,g2,g3,g4⟩:=zU _ _ _ hr
   have key:(rawCells (List.replicate N zeroRw))[k]?=some ((#[Value.bool false,.string ⟨#[]⟩,.slice none 0 0,.int .i64 0,.slice none 0 0]:Array Value)[k % 5]!):=by
    rcases (by omega:k % 5=0∨k % 5=1∨k % 5=2∨k % 5=3∨k % 5=4) with h|h|h|h|h
    · rw[show k=k / 5*5 by omega,g0,show k / 5*5 % 5=0 by omega];rfl
    · rw[show k=k / 5*5+1 by omega,g1,show (k / 5*5+1) % 5=1 by omega];rfl
    · rw[show k=k / 5*5+2 by omega,g2,show (k / 5*5+2) % 5=2 by omega];rfl
    · rw[show k=k / 5*5+3 by omega,g3,show (k / 5*5+3) % 5=3 by omega];rfl
    · rw[show k=k / 5*5+4 by omega,g4,show (k / 5*5+4) % 5=4 by omega];rfl
   have h3:(rawCells (List.replicate N zeroRw)).toArray[k]?=some ((#[Value.bool false,.string ⟨#[]⟩,.slice none 0 0,.int .i64 0,.slice none 0 0]:Array Value)[k % 5]!):=by simpa using key
   rw[Array.getElem?_eq_getElem h2]at h3
   rw[Option.some.inj h3];simp[madeCells,Value.cells]
def Y4 (n:Nat)(t:Tr):List Nd:=if zZ t then layF n t (-1) 0 else []
def Y5 (t:Tr):Int:=if zZ t then 0 else 1
set_option maxHeartbeats 2000000 in
theorem Vh (S:Nat→Prop)(n:Nat)(va vk:Value)(t:Tr)(w:World)(hA:qm S w va t.attrs)(hK:qb S w n vk t.kids)(hx:TextsN (n+1) [t])(hS:∀ b,S b→b<w.heap.size) :
 Calls Tryz.prog 40 #[.agg #[.bool t.text,.string t.s,va,vk]] w fun e w'=>∃ v,e=.returned (.tuple #[.agg #[v],.int .i64 (Y5 t)])∧qB (fun b=>w.heap.size≤b) w' v (Y4 n t)∧Below w.heap.size w w':=by
 obtain ⟨aa,ac,rfl⟩:=hA.shape;obtain ⟨ka,kc,rfl,_,_⟩:=qb.shape n hK;have hb1:Below w.heap.size w ((w.alloc (.cells #[.bool t.text,.string t.s,.slice aa t.attrs.length ac,.slice ka t.kids.length kc] 79)).alloc (.cells #[.slice none 0 0] 60)):=(Below.alloc1 w _).alloc (by simp) _
 have hx1:((w.alloc (.cells #[.bool t.text,.string t.s,.slice aa t.attrs.length ac,.slice ka t.kids.length kc] 79)).alloc (.cells #[.slice none 0 0] 60)).heap[w.heap.size]?=some (.cells #[.bool t.text,.string t.s,.slice aa t.attrs.length ac,.slice ka t.kids.length kc] 79 (0,0)):=by
  rw[Lib.alloc_old _ _ _ (by simp)];exact heap_alloc_new _ _
 have hy1:((w.alloc (.cells #[.bool t.text,.string t.s,.slice aa t.attrs.length ac,.slice ka t.kids.length kc] 79)).alloc (.cells #[.slice none 0 0] 60)).heap[w.heap.size+1]?=some (.cells #[.slice none 0 0] 60 (0,0)):=by
  have e:=heap_alloc_new (w.alloc (.cells #[.bool t.text,.string t.s,.slice aa t.attrs.length ac,.slice ka t.kids.length kc] 79)) (.cells #[.slice none 0 0] 60);rw[World.size_alloc]at e
  exact e
 have HG:Hid _:=YT S n _ _ t _ (hA.later hb1) (qb.later hb1 n hK) hx;have HA:Hid (qm S w (.slice aa t.attrs.length ac) t.attrs):=hA;have HK:Hid (qb S w n (.slice ka t.kids.length kc) t.kids):=hK;have HS:Hid (∀ b,S b→b<w.heap.size):=hS;have HD:Hid (Y4 n t=if zZ t then layF n t (-1) 0 else []):=rfl
 have HE:Hid (Y5 t=if zZ t then 0 else 1):=rfl
 clear hA hK hx hS
 go_enter Tryz.func40,Tryz.ntmps40
 go_wp2_with fail;refine (Calls.mono HG.out ?_);rintro e w2 ⟨rfl,hb2⟩;have hx2:=(hb2.block _ (qh hx1)).trans hx1;have hy2:=(hb2.block _ (qh hy1)).trans hy1;have hB2:Below w.heap.size w w2:=hb1.trans (hb2.mono hb1.size);have d0:w2.cell? ⟨w.heap.size,0,none⟩=some (.bool t.text):=by rw[cH9 hx2];rfl
 have d1:w2.cell? ⟨w.heap.size,1,none⟩=some (.string t.s):=by rw[cH9 hx2];rfl
 have d2:w2.cell? ⟨w.heap.size,2,none⟩=some (.slice aa t.attrs.length ac):=by rw[cH9 hx2];rfl
 have d3:w2.cell? ⟨w.heap.size,3,none⟩=some (.slice ka t.kids.length kc):=by rw[cH9 hx2];rfl
 have p0:w2.cell? ⟨w.heap.size+1,0,none⟩=some (.slice none 0 0):=by rw[cH9 hy2];rfl
 have f0:w2.frozen? ⟨w.heap.size+1,0,none⟩=false:=fH9 hy2 0;clear HG hb1 hx1 hb2 hy1;obtain ⟨q,hq⟩:∃ q,zZ t=q:=⟨_,rfl⟩;rw[hq];cases q with
 | false =>
   have HD2:Hid (Y4 n t=[]):=by show _=_;rw[HD.out,hq];rfl
   have HE2:Hid (Y5 t=1):=by show _=_;rw[HE.out,hq];rfl
   clear HD HE hq;go_wp2_with fail;refine bodyPost_ret (v:=.tuple #[.agg #[.slice none 0 0],.int .i64 1]) (by simp[results,Tryz.results40,go_sem,qd,p0]) rfl ⟨.slice none 0 0,by rw[HE2.out],by rw[HD2.out];exact qB.nil,?_⟩
   exact hB2.setCell (p:=⟨w.heap.size+1,0,none⟩) (Nat.le_succ _) _
 | true =>
   have HD2:Hid (Y4 n t=layF n t (-1) 0):=by show _=_;rw[HD.out,hq];rfl
   have HE2:Hid (Y5 t=0):=by show _=_;rw[HE.out,hq];rfl
   have hdeep:=qb.deep n HK.out;have hg:=hq;rw[QC hdeep]at hg
   simp only[Bool.and_eq_true,Bool.not_eq_true',decide_eq_true_eq]at hg
   obtain ⟨⟨⟨hg1,hg2⟩,hc81⟩,hrg⟩:=hg;clear hg1 hg2;have HFW:Hid (FewN (n+1) [t]):=rgt_few (n+1) [t] hrg;have HSZ:Hid _:=qec S n _ _ t w2 (HA.out.later hB2) (qb.later hB2 n HK.out) (by omega)
   have hpos:0<cnt (n+1) [t]:=by rw[qS];omega
   have HLN:Hid ((layF n t (-1) 0).length=cnt (n+1) [t]):=layF_length n t (-1) 0 hdeep;obtain ⟨N,hN⟩:∃ N,cnt (n+1) [t]=N:=⟨_,rfl⟩;rw[hN]at hc81 HSZ hpos HLN
   have HN:Hid (cnt (n+1) [t]=N):=hN;clear HD HE hq hrg hN hdeep;go_wp2_with fail;refine (Calls.mono HSZ.out ?_);rintro e w3 ⟨rfl,hb3⟩;have hx3:=(hb3.block _ (qh hx2)).trans hx2;have hy3:=(hb3.block _ (qh hy2)).trans hy2;have hB3:Below w.heap.size w w3:=hB2.trans (hb3.mono hB2.size);have e0:w3.cell? ⟨w.heap.size,0,none⟩=some (.bool t.text):=by rw[cH9 hx3];rfl
   have e1:w3.cell? ⟨w.heap.size,1,none⟩=some (.string t.s):=by rw[cH9 hx3];rfl
   have e2:w3.cell? ⟨w.heap.size,2,none⟩=some (.slice aa t.attrs.length ac):=by rw[cH9 hx3];rfl
   have e3:w3.cell? ⟨w.heap.size,3,none⟩=some (.slice ka t.kids.length kc):=by rw[cH9 hx3];rfl
   clear HSZ hb3 d0 d1 d2 d3 p0 f0 hx2 hy2
   have hmk:(Instr.makeSlice 58 (.int .i64 (N:Int)) (.int .i64 (N:Int))).run Tryz.prog w3=.ok (.slice (some ⟨w3.heap.size,0,none⟩) N N) (w3.alloc (.cells (rawCells (List.replicate N zeroRw)).toArray 90)):=by
    obtain ⟨i0,hi,hz0,hz1,hz2⟩:=info_parts nodeInfo;have:=run_makeSlice (P:=Tryz.prog) w3 58 90 i0 _ Tryz.underlying58 hi hz0 .i64 .i64 (N:Int) (N:Int) (by omega) (Int.le_refl _) (by rw[hz1];simp;omega) (by rw[hz2];omega) (by omega)
    rw[this,hz1,Int.toNat_natCast,qeV]
   have hb5:Below w3.heap.size w3 ((w3.alloc (.cells (rawCells (List.replicate N zeroRw)).toArray 90)).alloc (.cells #[.int .i64 0] 3)):=(Below.alloc1 w3 _).alloc (by simp) _
   have hR5:Row w3.heap.size (List.replicate N zeroRw) ((w3.alloc (.cells (rawCells (List.replicate N zeroRw)).toArray 90)).alloc (.cells #[.int .i64 0] 3)):=by
    unfold Row;rw[Lib.alloc_old _ _ _ (by simp)]
    exact heap_alloc_new _ _
   have hC5:Cnt (w3.heap.size+1) 0 ((w3.alloc (.cells (rawCells (List.replicate N zeroRw)).toArray 90)).alloc (.cells #[.int .i64 0] 3)):=by
    have e:=heap_alloc_new (w3.alloc (.cells (rawCells (List.replicate N zeroRw)).toArray 90)) (.cells #[.int .i64 0] 3);rw[World.size_alloc]at e
    exact e
   have hz5:((w3.alloc (.cells (rawCells (List.replicate N zeroRw)).toArray 90)).alloc (.cells #[.int .i64 0] 3)).heap.size=w3.heap.size+2:=by simp
   have HMK:Hid _:=hmk;have HRP:Hid ((List.replicate N zeroRw).length=N):=by show _=_;simp
   obtain ⟨ms0,hms0⟩:∃ ms0,List.replicate N zeroRw=ms0:=⟨_,rfl⟩;rw[hms0]at hmk hb5 hR5 hC5 hz5 HRP
   clear hms0 HMK;have e0a:(w3.alloc (.cells (rawCells ms0).toArray 90)).cell? ⟨w.heap.size,0,none⟩=some (.bool t.text):=Lib.cell?_alloc_some _ e0;have e1a:(w3.alloc (.cells (rawCells ms0).toArray 90)).cell? ⟨w.heap.size,1,none⟩=some (.string t.s):=Lib.cell?_alloc_some _ e1;have e2a:(w3.alloc (.cells (rawCells ms0).toArray 90)).cell? ⟨w.heap.size,2,none⟩=some (.slice aa t.attrs.length ac):=Lib.cell?_alloc_some _ e2;have e3a:(w3.alloc (.cells (rawCells ms0).toArray 90)).cell? ⟨w.heap.size,3,none⟩=some (.slice ka t.kids.length kc):=Lib.cell?_alloc_some _ e3;have e0b:((w3.alloc (.cells (rawCells ms0).toArray 90)).alloc (.cells #[.int .i64 0] 3)).cell? ⟨w.heap.size,0,none⟩=some (.bool t.text):=Lib.cell?_alloc_some _ e0a;have e1b:((w3.alloc (.cells (rawCells ms0).toArray 90)).alloc (.cells #[.int .i64 0] 3)).cell? ⟨w.heap.size,1,none⟩=some (.string t.s):=Lib.cell?_alloc_some _ e1a;have e2b:((w3.alloc (.cells (rawCells ms0).toArray 90)).alloc (.cells #[.int .i64 0] 3)).cell? ⟨w.heap.size,2,none⟩=some (.slice aa t.attrs.length ac):=Lib.cell?_alloc_some _ e2a;have e3b:((w3.alloc (.cells (rawCells ms0).toArray 90)).alloc (.cells #[.int .i64 0] 3)).cell? ⟨w.heap.size,3,none⟩=some (.slice ka t.kids.length kc):=Lib.cell?_alloc_some _ e3a;have hs3:=hB3.size;have hB5:Below w.heap.size w _:=hB3.trans (hb5.mono hs3);have hcall:=qeR n S _ _ t (-1) w3.heap.size (w3.heap.size+1) 0 ms0 _ (HA.out.later hB5) (qb.later hB5 n HK.out) (fun b hb=>⟨by have:=HS.out b hb;rw[hz5];omega,by have:=HS.out b hb;omega,by have:=HS.out b hb;omega⟩) (by omega) hR5 hC5 (by rw[HN.out,HRP.out];omega) (by rw[HRP.out];omega) HFW.out
   rw[HRP.out]at hcall
   have HCALL:Hid _:=hcall;have HZ5:Hid _:=hz5;clear hcall hR5 hC5 hz5 e0 e1 e2 e3;go_wp2_with fail;refine (Calls.mono HCALL.out ?_);rintro e w6 ⟨rfl,ms',hR6,hl6,hC6,_,hL6,hF6⟩;have hz:=HZ5.out
   have hy5:w6.heap[w.heap.size+1]?=some (.cells #[.slice none 0 0] 60 (0,0)):=by
    have h1:=qh hy3;rw[hF6.frame (w.heap.size+1) (by rw[hz];omega) (by omega) (by omega),hb5.block _ h1]
    exact hy3
   have p0:w6.cell? ⟨w.heap.size+1,0,none⟩=some (.slice none 0 0):=by rw[cH9 hy5];rfl
   have f0:w6.frozen? ⟨w.heap.size+1,0,none⟩=false:=fH9 hy5 0;have hB6:Below w.heap.size w w6:=⟨hF6.below.os.trans hB5.os,hF6.below.tape.trans hB5.tape,hF6.below.output.trans hB5.output,Nat.le_trans hB5.size hF6.below.size,fun k hk=>by rw[hF6.frame k (by rw[hz];omega) (by omega) (by omega)];exact hB5.block k hk⟩
   have hnb:=qh hR6;have hlen6:ms'.length=N:=hl6
   have hND:qB (fun b=>w.heap.size+2≤b) w6 (.slice (some ⟨w3.heap.size,0,none⟩) N N) (layF n t (-1) 0):=by
    have h1:=qh hy3;have:=X4 (S:=fun b=>w.heap.size+2≤b) hR6 (by rw[HLN.out,hlen6]) (hL6.carry (fun b hb _=>⟨by have h2:((w3.alloc (.cells (rawCells ms0).toArray 90)).alloc (.cells #[.int .i64 0] 3)).heap.size≤b:=hb;rw[hz]at h2;omega,rfl⟩) (fun _ _ _=>rfl)) (by show w.heap.size+2≤w3.heap.size;omega) (by omega)
    rw[hlen6]at this
    exact this
   clear HCALL hR6 hL6 hC6 hF6 hb5 e0a e1a e2a e3a e0b e1b e2b e3b hmk hB5;go_wp2_with fail;refine bodyPost_ret (v:=.tuple #[.agg #[.slice (some ⟨w3.heap.size,0,none⟩) N N],.int .i64 0]) (by simp[results,Tryz.results40,go_sem,qd,p0]) rfl ⟨.slice (some ⟨w3.heap.size,0,none⟩) N N,by rw[HE2.out],?_,?_⟩
   · rw[HD2.out];exact hND.carry fun b hb=>⟨by omega,qc (by omega)⟩
   · exact hB6.setCell (p:=⟨w.heap.size+1,0,none⟩) (Nat.le_succ _) _
end
end Go.Proofs.YtfplhcicbbhljaaGreatDoor
namespace Go.Proofs.YtfplhcicbbhljaaGreatDoor
open Go.RowKit
set_option maxRecDepth 100000
structure Opn where
 kind:Int
 target:Int
 content:List Tr
 name:ByteArray
 s:ByteArray
structure Sg where
 nm:Option ByteArray
 attrs:List (ByteArray × ByteArray)
 first:List Tr
 last:List Tr
 bef:List Tr
 aft:List Tr
 gone:Bool
 val:Option ByteArray
def xV (d:Nat)(ns:List Nd)(p at':Nat)(l:List Tr):List Nd :=
 (ns++qu d (layF d) p ns.length l).modify p (fun y=>{ y with kids:=y.kids.take at'++(qk d ns.length l++y.kids.drop at') })
def qf0 (ns:List Nd)(p at':Nat):List Nd:=ns.modify p (fun y=>{ y with kids:=y.kids.take at'++y.kids.drop (at'+1) })
def qf3 (ns:List Nd)(n:Nat)(s:ByteArray):List Nd:=(ns++[(⟨true,s,[],(n:Int),[]⟩:Nd)]).modify n (fun y=>{ y with kids:=[(ns.length:Int)] })
def qf1 (l:List (ByteArray × ByteArray))(name v:ByteArray):List (ByteArray × ByteArray) :=
 l.filter (fun a=>Op.bytesLess a.1.toList name.toList)++(name,v)::l.filter (fun a=>Op.bytesLess name.toList a.1.toList)
def qfY (l:List (ByteArray × ByteArray))(name:ByteArray):List (ByteArray × ByteArray) :=
 l.filter (fun a=>Op.bytesLess a.1.toList name.toList)++l.filter (fun a=>Op.bytesLess name.toList a.1.toList)
def qdT (ns:List Nd)(n:Nat):Nat:=match ns[n]? with
 | some y=>y.parent.toNat
 | none=>0
def qbx (ns:List Nd)(p:Nat):List Int:=match ns[p]? with
 | some y=>y.kids
 | none=>[]
def atN (ns:List Nd)(n:Nat):Nat:=(qbx ns (qdT ns n)).findIdx (fun u=>u==(n:Int))
def qfR (ns:List Nd)(n:Nat):List Nd:=if atN ns n<(qbx ns (qdT ns n)).length then qf0 ns (qdT ns n) (atN ns n) else ns
def qfN (d:Nat)(ns:List Nd)(n:Nat)(l:List Tr):List Nd:=xV d ns (qdT ns n) (atN ns n) l
def qfX (d:Nat)(ns:List Nd)(n:Nat)(l:List Tr):List Nd:=xV d ns (qdT ns n) (atN ns n+1) l
def qdC (d:Nat)(ns:List Nd)(n:Nat)(l:List Tr):List Nd:=xV d ns n (qbx ns n).length l
def qf4 (ns:List Nd)(n:Nat)(s:ByteArray):List Nd:=match ns[n]? with
 | some y=>if y.text then ns.modify n (fun y=>{ y with s:=s }) else qf3 ns n s
 | none=>ns
def Yi (d:Nat)(k:Int)(ns:List Nd)(o:Opn):List Nd :=
 if k=8 then ns.modify o.target.toNat (fun y=>{ y with s:=o.name })
 else if k=9 then ns.modify o.target.toNat (fun y=>{ y with attrs:=qf1 y.attrs o.name o.s })
 else if k=10 then ns.modify o.target.toNat (fun y=>{ y with attrs:=qfY y.attrs o.name })
 else if k=3 then qfN d ns o.target.toNat o.content
 else if k=2 then qdC d ns o.target.toNat o.content
 else if k=1 then xV d ns o.target.toNat 0 o.content
 else if k=4 then qfX d ns o.target.toNat o.content
 else if k=6 then qfR (qfN d ns o.target.toNat o.content) o.target.toNat
 else if k=5 then qfR ns o.target.toNat
 else qf4 ns o.target.toNat o.s
def doN (d:Nat)(k:Int)(ns:List Nd)(l:List Opn):List Nd:=l.foldl (fun ns o=>if o.kind=k then Yi d k ns o else ns) ns
def qfz (k:Int):Bool:=decide (k=1)||decide (k=2)||decide (k=3)||decide (k=4)||decide (k=6)
def qfA (k:Int):Bool:=decide (k=8)||decide (k=9)||decide (k=10)
def qfB (k:Int):Bool:=decide (k=7)||decide (k=9)
def zX (k:Int):Bool:=decide (k=3)||decide (k=4)||decide (k=5)||decide (k=6)
def jN (o:Opn):Bool:=if qfz o.kind then qF o.content else decide (o.content.length=0)
def xF (o:Opn):Bool:=if qfA o.kind then qM o.name else decide (o.name=⟨#[]⟩)
def Qh (o:Opn):Bool:=if qfB o.kind then qN o.s else decide (o.s=⟨#[]⟩)
def Yc (ns:List Nd)(n:Int):Bool:=match ns[n.toNat]? with
 | some x=>x.text
 | none=>false
def yU (ns:List Nd)(o:Opn):Int :=
 if decide (o.kind<1)||decide (10<o.kind) then 4
 else if decide (o.target<0)||decide ((ns.length:Int)≤o.target) then 3
 else if !(jN o)||!(xF o)||!(Qh o) then 1
 else if decide (o.target=0)&&zX o.kind then 6
 else if Yc ns o.target&&!(zX o.kind)&&!(decide (o.kind=7)) then 4
 else 0
def agB (a b:Opn):Bool:=decide (a.target=b.target)&&((decide (a.kind=6)&&decide (b.kind=6))||(decide (a.kind=7)&&decide (b.kind=7))||(decide (a.kind=8)&&decide (b.kind=8)) ||
 ((decide (a.kind=9)||decide (a.kind=10))&&(decide (b.kind=9)||decide (b.kind=10))&&decide (a.name=b.name)))
def twiceB:List Opn→Bool
 | []=>false
 | o::l=>l.any (agB o)||twiceB l
def z8 (ns:List Nd):List Opn→Int
 | []=>0
 | o::l=>if yU ns o=0 then z8 ns l else yU ns o
def YK (ns:List Nd)(l:List Opn):Int :=
 if !qG ns then 1 else if 20<l.length then 2 else if z8 ns l≠0 then z8 ns l else if twiceB l then 5 else 0
theorem twiceB_false:∀ l:List Opn,twiceB l=false↔l.Pairwise (fun a b=>agB a b=false):=by
 intro l
 induction l with
 | nil=>simp[twiceB]
 | cons o l ih=>rw[twiceB,List.pairwise_cons,Bool.or_eq_false_iff,ih];simp
theorem rb_deep:∀ (d:Nat)(room:Int)(l:List Tr),0≤rb d room l→Deep d l:=by
 intro d
 induction d with
 | zero =>
   intro room l h;unfold rb at h
   split at h
   · rename_i he
     have:l=[]:=by simpa using he
     exact this
   · omega
 | succ d ih =>
   intro room l h;unfold rb at h
   split at h
   · rename_i he
     have:l=[]:=by simpa using he
     subst this;intro t ht;simp at ht
   · split at h
     · omega
     · obtain ⟨_, _, h3⟩ := qdX (rb d) (Deep d) (fun room l h => ih room l h) l false _ h (by omega)
       exact h3
end Go.Proofs.YtfplhcicbbhljaaGreatDoor
namespace Go.Proofs.YtfplhcicbbhljaaGreatDoor
open Go.ChangeShapes Go.WideShapes Go.ChangeAt Go.RowKit
set_option maxRecDepth 100000
def Ops (S:Nat→Prop)(w:World)(n:Nat)(v:Value)(l:List Opn):Prop :=
  ∃ a cap, v = .slice a l.length cap ∧ l.length ≤ cap ∧ cap ≤ maxLen ∧
    (l≠[]→∃ b o,a=some ⟨b,o,none⟩∧S b∧∀ (i:Nat) (x:Opn),l[i]?=some x→∃ ca cc,
      w.cell? ⟨b,o+i*5,none⟩=some (.int .i64 x.kind)∧w.cell? ⟨b,o+i*5+1,none⟩=some (.int .i64 x.target)∧w.cell? ⟨b,o+i*5+2,none⟩=some (.slice ca x.content.length cc) ∧
      w.cell? ⟨b,o+i*5+3,none⟩=some (.string x.name)∧w.cell? ⟨b,o+i*5+4,none⟩=some (.string x.s)∧qb S w n (.slice ca x.content.length cc) x.content)
def XJ (n:Nat)(l:List Opn):Prop:=∀ x∈l,TextsN n x.content∧x.name.size≤maxLen∧x.s.size≤maxLen
theorem Ops.carry {S S':Nat→Prop}{w w':World}{n:Nat}{v:Value}{l:List Opn}(h:Ops S w n v l)(hw:∀ b,S b→S' b∧w'.heap[b]?=w.heap[b]?):Ops S' w' n v l:=by
 obtain ⟨a,cap,h1,h2,h3,h4⟩:=h;refine ⟨a,cap,h1,h2,h3,fun hne=>?_⟩
 obtain ⟨b,o,ha,hs,hc⟩:=h4 hne;refine ⟨b,o,ha,(hw b hs).1,fun i x hx=>?_⟩
 obtain ⟨ca,cc,c0,c1,c2,c3,c4,hT⟩:=hc i x hx;refine ⟨ca,cc,?_,?_,?_,?_,?_,qb.carry hw n hT⟩
 · rw[World.cell?_of_block (a:=⟨b,o+i*5,none⟩) (hw b hs).2];exact c0
 · rw[World.cell?_of_block (a:=⟨b,o+i*5+1,none⟩) (hw b hs).2];exact c1
 · rw[World.cell?_of_block (a:=⟨b,o+i*5+2,none⟩) (hw b hs).2];exact c2
 · rw[World.cell?_of_block (a:=⟨b,o+i*5+3,none⟩) (hw b hs).2];exact c3
 · rw[World.cell?_of_block (a:=⟨b,o+i*5+4,none⟩) (hw b hs).2];exact c4
theorem Ops.bounded {S:Nat→Prop}{w:World}{n:Nat}{v:Value}{l:List Opn}(h:Ops S w n v l):Ops (fun b=>S b∧b<w.heap.size) w n v l:=by
 obtain ⟨a,cap,h1,h2,h3,h4⟩:=h;refine ⟨a,cap,h1,h2,h3,fun hne=>?_⟩
 obtain ⟨b,o,ha,hs,hc⟩:=h4 hne;refine ⟨b,o,ha,⟨hs,?_⟩,fun i x hx=>?_⟩
 · cases l with
   | nil=>exact absurd rfl hne
   | cons x r =>
     obtain ⟨_,_,c0,_⟩:=hc 0 x rfl;exact World.block_lt_of_cell? w _ c0
 · obtain ⟨ca, cc, c0, c1, c2, c3, c4, hT⟩ := hc i x hx;exact ⟨ca,cc,c0,c1,c2,c3,c4,qb.bounded n hT⟩
theorem Ops.later {S:Nat→Prop}{w w':World}{n:Nat}{v:Value}{l:List Opn}(h:Ops S w n v l)(hb:Below w.heap.size w w'):Ops S w' n v l :=
 h.bounded.carry fun b hb'=>⟨hb'.1,hb.block b hb'.2⟩
theorem Ops.shape {S:Nat→Prop}{w:World}{n:Nat}{v:Value}{l:List Opn}(h:Ops S w n v l):∃ a c,v=.slice a l.length c∧l.length≤c∧c≤maxLen:=by
 obtain ⟨a,cap,h1,h2,h3,_⟩:=h;exact ⟨a,cap,h1,h2,h3⟩
theorem Ops.at {S:Nat→Prop}{w:World}{n:Nat}{v:Value}{l:List Opn}(h:Ops S w n v l){i:Nat}{x:Opn}(hx:l[i]?=some x):∃ b o cap ca cc,v=.slice (some ⟨b,o,none⟩) l.length cap∧S b∧b<w.heap.size ∧
 w.cell? ⟨b,o+i*5,none⟩=some (.int .i64 x.kind)∧w.cell? ⟨b,o+i*5+1,none⟩=some (.int .i64 x.target)∧w.cell? ⟨b,o+i*5+2,none⟩=some (.slice ca x.content.length cc) ∧
 w.cell? ⟨b,o+i*5+3,none⟩=some (.string x.name)∧w.cell? ⟨b,o+i*5+4,none⟩=some (.string x.s)∧qb S w n (.slice ca x.content.length cc) x.content:=by
 obtain ⟨a,cap,h1,h2,h3,h4⟩:=h;have hne:l≠[]:=by intro e;subst e;simp at hx
 obtain ⟨b,o,rfl,hs,hc⟩:=h4 hne;obtain ⟨ca,cc,c0,c1,c2,c3,c4,hT⟩:=hc i x hx;exact ⟨b,o,cap,ca,cc,h1,hs,World.block_lt_of_cell? w _ c0,c0,c1,c2,c3,c4,hT⟩
theorem Ops.pairs {S:Nat→Prop}{w:World}{n:Nat}{b o cap m:Nat}{l:List Opn}(h:Ops S w n (.slice (some ⟨b,o,none⟩) m cap) l):∃ zs:List (Opn × Value),zs.map (·.1)=l ∧
    ∀ (j : Nat) (z : Opn × Value), zs[j]? = some z → w.cell? ⟨b, o + j * 5, none⟩ = some (.int .i64 z.1.kind) ∧ w.cell? ⟨b, o + j * 5 + 1, none⟩ = some (.int .i64 z.1.target) ∧ w.cell? ⟨b, o + j * 5 + 2, none⟩ = some z.2 ∧
      w.cell? ⟨b,o+j*5+3,none⟩=some (.string z.1.name)∧w.cell? ⟨b,o+j*5+4,none⟩=some (.string z.1.s):=by
  refine ⟨l.mapIdx (fun i x=>(x,(w.cell? ⟨b,o+i*5+2,none⟩).getD undef)),?_,?_⟩
  · apply List.ext_getElem?
    intro i;rw[List.getElem?_map,List.getElem?_mapIdx];cases l[i]?<;>rfl
  · intro j z hz;rw[List.getElem?_mapIdx]at hz
    cases hx:l[j]? with
    | none=>rw[hx]at hz;simp at hz
    | some x =>
      rw[hx]at hz
      obtain ⟨b',o',cap',ca,cc,hv,_,_,c0,c1,c2,c3,c4,_⟩:=h.at hx
      injection hv with hv1 _ _
      injection hv1 with hv1
      injection hv1 with hb ho _
      subst hb ho;have:z=(x,(w.cell? ⟨b,o+j*5+2,none⟩).getD undef):=by simpa using hz.symm
      subst this;refine ⟨c0,c1,?_,c3,c4⟩;rw[c2];rfl
theorem qdn {ns:List Nd}:∀ {l:List Opn}{i:Nat}{x:Opn},z8 ns (l.take i)=0→l[i]?=some x→z8 ns (l.take (i+1))=yU ns x∧(yU ns x≠0→z8 ns l=yU ns x):=by
 intro l
 induction l with
 | nil=>intro i x _ h;simp at h
 | cons y r ih =>
   intro i x h hx;cases i with
   | zero =>
     have:y=x:=by simpa using hx
     subst this
     constructor
     · simp only[List.take, z8]
       by_cases h0:yU ns y=0
       · rw[if_pos h0,h0]
       · rw[if_neg h0]
     · intro h0;rw[z8,if_neg h0]
   | succ i =>
     simp only[List.take_succ_cons,z8]at h
     by_cases h0:yU ns y=0
     · rw[if_pos h0]at h
       have:=ih h (by simpa using hx)
       constructor
       · rw[List.take_succ_cons,z8,if_pos h0];exact this.1
       · intro hn;rw[z8,if_pos h0];exact this.2 hn
     · rw[if_neg h0]at h;exact absurd h h0
theorem twice_take:∀ (l:List Opn)(i:Nat)(x:Opn),l[i]?=some x→twiceB (l.take (i+1))=(twiceB (l.take i)||(l.take i).any (fun e=>agB e x)):=by
 intro l
 induction l with
 | nil=>intro i x h;simp at h
 | cons y r ih =>
   intro i x hx;cases i with
   | zero=>simp[twiceB]
   | succ i =>
     have h:=ih i x (by simpa using hx)
     have ht:r.take (i+1)=r.take i++[x]:=by rw[List.take_add_one];simp at hx;simp[hx]
     rw[List.take_succ_cons,twiceB,h,List.take_succ_cons,twiceB,List.any_cons,ht,List.any_append];simp only[List.any_cons,List.any_nil,Bool.or_false];cases (r.take i).any (agB y)<;>cases agB y x<;>cases twiceB (r.take i)<;>simp
theorem twice_mono:∀ (l:List Opn)(i:Nat),twiceB (l.take i)=true→twiceB l=true:=by
 intro l i h;cases hn:twiceB l with
 | true=>rfl
 | false =>
   rw[twiceB_false]at hn
   have:twiceB (l.take i)=false:=(twiceB_false _).2 (hn.sublist (List.take_sublist _ _));rw[h]at this;exact absurd this (by decide)
end Go.Proofs.YtfplhcicbbhljaaGreatDoor
namespace Go.Proofs.YtfplhcicbbhljaaGreatDoor
open Go.RowKit
set_option maxRecDepth 100000
theorem cnt_wide:∀ {d:Nat}{ts:List Tr},Deep d ts→∀ {n:Nat},d≤n→cnt n ts=cnt d ts:=by
 intro d
 induction d with
 | zero=>intro ts h n _;have e:ts=[]:=h;subst e;rw[qR,qR]
 | succ d ih =>
   intro ts h n hn;obtain ⟨m,rfl⟩:∃ m,n=m+1:=⟨n-1,by omega⟩
   have:∀ l:List Tr,(∀ t∈l,Deep d t.kids)→cnt (m+1) l=cnt (d+1) l:=by
    intro l
    induction l with
    | nil=>intro _;rw[qR,qR]
    | cons t r ihl =>
      intro hl;rw[q5,q5,ih (hl t List.mem_cons_self) (by omega),ihl (fun u hu=>hl u (List.mem_cons_of_mem _ hu))]
   exact this ts h
theorem qb1 {ns:List Nd}(hg:qG ns=true):∃ (d:Nat)(t:Tr),Deep d t.kids∧layF d t (-1) 0=ns∧zZ t=true∧growF ns.length ns 0=t∧t.text=false∧rgt (d+1) [t]=true∧d≤ns.length+1:=by
 have hg2:=hg;simp only[qG,Bool.and_eq_true,decide_eq_true_eq]at hg2
 have ho:=js hg2.1.2;obtain ⟨t,hd,hs,hn⟩:=ord_conv (ns.length+1) ns (-1) 0 (by rw[ho])
 rw[ho]at hn
 simp only[Nat.zero_add]at hn
 have hgr:=grow_lay _ t ns.length ns (-1) 0 hd hs (by omega)
 have hG:=hg2.2;rw[hgr]at hG
 have hG2:=hG;rw[QC hd]at hG
 simp only[Bool.and_eq_true,Bool.not_eq_true']at hG
 refine ⟨_,t,hd,?_,hG2,hgr,hG.1.1.1,hG.2,nR9 _⟩;have hl:=layF_length _ t (-1) 0 hd;refine List.ext_getElem? (fun i=>?_)
 rcases Nat.lt_or_ge i ns.length with hi|hi
 · have e : (layF (ns.length + 1) t (-1) 0)[i]? = some ((layF (ns.length + 1) t (-1) 0)[i]'(by omega)) := List.getElem?_eq_getElem _
   have:=hs i _ e;rw[Nat.zero_add]at this
   rw[e,this]
 · rw[List.getElem?_eq_none hi,List.getElem?_eq_none (by omega)]
section
structure Fr where
 t:Tr
 ahead:List Tr
 behind:List Tr
def plug:List Fr→List Tr→List Tr
 | [],X=>X
 | f::fs,X=>[{ f.t with kids:=f.ahead++(plug fs X++f.behind) }]
def stZ (D:Nat):List Fr→Nat→Nat
 | [],a=>a
 | f::fs,a=>stZ D fs (a+1+cnt D f.ahead)
def V1 (ns:List Nd)(d:Nat):Nat→List Tr→Prop
 | _,[]=>True
 | b,k::ks=>(∃ par:Int,Seg ns b (layF d k par b))∧V1 ns d (b+cnt (d+1) [k]) ks
theorem qe8 {ns:List Nd}{d p:Nat}:∀ (ks:List Tr)(b:Nat),(∀ k∈ks,Deep d k.kids)→Seg ns b (qu d (layF d) p b ks)→V1 ns d b ks:=by
 intro ks
 induction ks with
 | nil=>intro b _ _;trivial
 | cons k ks ih =>
   intro b hd hs;rw[qu]at hs
   have hk:=hd k List.mem_cons_self;have hr:=hs.right;rw[layF_length d k p b hk]at hr
   exact ⟨⟨_,hs.left⟩,ih _ (fun u hu=>hd u (List.mem_cons_of_mem _ hu)) hr⟩
theorem Yg {ns:List Nd}{d:Nat}:∀ (A C:List Tr)(b:Nat),V1 ns d b (A++C)→V1 ns d b A∧V1 ns d (b+cnt (d+1) A) C:=by
 intro A
 induction A with
 | nil=>intro C b h;exact ⟨trivial,by simpa[qR] using h⟩
 | cons k A ih =>
   intro C b h;obtain ⟨h1,h2⟩:=ih C _ h.2;refine ⟨⟨h.1,h1⟩,?_⟩;rw[zj,←Nat.add_assoc];exact h2
theorem qbq (d:Nat)(t:Tr):0<cnt (d+1) [t]:=by rw[qS];omega
section
variable {ns : List Nd} {σ : Nat → Sg} {n : Nat}
theorem plug_ne:∀ (fs:List Fr)(u:Tr)(tl:List Tr),plug fs (u::tl)≠[]:=by
 intro fs u tl;cases fs<;>simp[plug]
theorem qf2 {D:Nat}:∀ (fs:List Fr)(d b:Nat)(u:Tr)(tl:List Tr),(∀ k∈plug fs (u::tl),Deep d k.kids)→d+1≤D→stZ D fs b<b+cnt (d+1) (plug fs (u::tl)):=by
 intro fs
 induction fs with
 | nil=>intro d b u tl _ _;show b<b+cnt (d+1) (u::tl);rw[zj];have:=qbq d u;omega
 | cons f fs ih =>
   intro d b u tl hd hD;have hk:=hd _ (List.mem_singleton.2 rfl);cases d with
   | zero =>
     have e:f.ahead++(plug fs (u::tl)++f.behind)=[]:=hk;simp at e
     exact absurd e.2.1 (plug_ne fs u tl)
   | succ d =>
     have hk':∀ k∈f.ahead++(plug fs (u::tl)++f.behind),Deep d k.kids:=hk;have hA:cnt D f.ahead=cnt (d+1) f.ahead:=cnt_wide (d:=d+1) (fun k h=>hk' k (List.mem_append_left _ h)) (by omega)
     have:=ih d (b+1+cnt D f.ahead) u tl (fun k h=>hk' k (List.mem_append_right _ (List.mem_append_left _ h))) (by omega)
     show stZ D fs (b+1+cnt D f.ahead)<b+cnt (d+1+1) [{ f.t with kids:=f.ahead++(plug fs (u::tl)++f.behind) }]
     rw[qS,zd,zd];omega
end
theorem qct {ns:List Nd}{D:Nat}{u:Tr}{tl:List Tr}:∀ (fs:List Fr)(d b:Nat),(∀ k∈plug fs (u::tl),Deep d k.kids)→V1 ns d b (plug fs (u::tl))→d+1≤D→∃ e par,Deep e u.kids∧Seg ns (stZ D fs b) (layF e u par (stZ D fs b))∧e≤d:=by
 intro fs
 induction fs with
 | nil =>
   intro d b hd hs _;obtain ⟨⟨par,h1⟩,h2⟩:=hs;exact ⟨d,par,hd u List.mem_cons_self,h1,nR9 _⟩
 | cons g fs ih =>
   intro d b hd hs hD;obtain ⟨⟨par,h1⟩,_⟩:=hs;have hk:=hd _ (List.mem_singleton.2 rfl);cases d with
   | zero =>
     have e:g.ahead++(plug fs (u::tl)++g.behind)=[]:=hk;simp at e
     exact absurd e.2.1 (plug_ne fs u tl)
   | succ d =>
     have hk':∀ k∈g.ahead++(plug fs (u::tl)++g.behind),Deep d k.kids:=hk;have hsl:=qe8 _ (b+1) hk' (Seg.tail h1);obtain ⟨s1,s2⟩:=Yg _ _ _ hsl;obtain ⟨s3,s4⟩:=Yg _ _ _ s2;have hA:cnt D g.ahead=cnt (d+1) g.ahead:=cnt_wide (d:=d+1) (fun k h=>hk' k (List.mem_append_left _ h)) (by omega)
     obtain ⟨e,p,e1,e2,e3⟩:=ih d (b+1+cnt (d+1) g.ahead) (fun k h=>hk' k (List.mem_append_right _ (List.mem_append_left _ h))) s3 (by omega)
     refine ⟨e,p,e1,?_,by omega⟩
     show Seg ns (stZ D fs (b+1+cnt D g.ahead)) (layF e u p (stZ D fs (b+1+cnt D g.ahead)))
     rw[hA];exact e2
theorem qfJ {D:Nat}:∀ (d:Nat)(T:Tr)(a n:Nat),Deep d T.kids→d+1≤D→a≤n→n<a+cnt (d+1) [T]→∃ fs u,plug fs [u]=[T]∧stZ D fs a=n:=by
 intro d
 induction d with
 | zero =>
   intro T a n hd _ h1 h2;have e:T.kids=[]:=hd;rw[qS,e,qR]at h2
   exact ⟨[],T,rfl,by show a=n;omega⟩
 | succ d ih =>
   intro T a n hd hD h1 h2
   by_cases hn:n=a
   · exact ⟨[],T,rfl,hn.symm⟩
   · rw[qS]at h2
     have key:∀ (ks:List Tr) (b:Nat),(∀ k∈ks,Deep d k.kids)→b≤n→n<b+cnt (d+1) ks→∃ A k C fs u,ks=A++k::C∧plug fs [u]=[k]∧stZ D fs (b+cnt (d+1) A)=n:=by
      intro ks
      induction ks with
      | nil=>intro b _ h3 h4;rw[qR]at h4;omega
      | cons k ks ihk =>
        intro b hdk h3 h4;rw[zj]at h4
        by_cases hk:n<b+cnt (d+1) [k]
        · obtain ⟨fs, u, e1, e2⟩ := ih k b n (hdk k List.mem_cons_self) (by omega) h3 hk
          exact ⟨[],k,ks,fs,u,rfl,e1,by rw[qR];exact e2⟩
        · obtain ⟨A, k', C, fs, u, e1, e2, e3⟩ := ihk (b + cnt (d + 1) [k]) (fun x hx => hdk x (List.mem_cons_of_mem _ hx)) (by omega) (by omega)
          exact ⟨k::A,k',C,fs,u,by rw[e1];rfl,e2,by rw[zj,←Nat.add_assoc];exact e3⟩
     obtain ⟨A,k,C,fs,u,e1,e2,e3⟩:=key T.kids (a+1) hd (by omega) (by omega)
     refine ⟨⟨T,A,C⟩::fs,u,?_,?_⟩
     · show [({ T with kids := A ++ (plug fs [u] ++ C) } : Tr)] = [T]
       rw[e2]
       show [({ T with kids:=A++(k::C) }:Tr)]=[T]
       rw[←e1];cases T;rfl
     · show stZ D fs (a + 1 + cnt D A) = n
       rw[cnt_wide (d:=d+1) (ts:=A) (fun x hx=>hd x (by rw[e1];exact List.mem_append_left _ hx)) (by omega)]
       exact e3
end
section
structure Zip (ns:List Nd) (n d:Nat) (T u:Tr) (tl:List Tr) (fs:List Fr):Prop where
 deep:Deep d T.kids
 wide:d≤100
 laid:layF d T (-1) 0=ns
 plug:plug fs (u::tl)=[T]
 num:stZ 1000 fs 0=n
 good:zZ T=true
theorem YV {ns:List Nd}(h:qG ns=true):ns.length≤80:=by
 simp only[qG,Bool.and_eq_true,decide_eq_true_eq]at h
 exact h.1.1
theorem Kq {ns:List Nd}(hg:qG ns=true){n:Nat}(hn:n<ns.length):∃ d T u fs,Zip ns n d T u [] fs:=by
 obtain ⟨d,t,hd,hl,hG,_,_,_,hdl⟩:=qb1 hg;have h80:=YV hg;have hlen:=layF_length d t (-1) 0 hd;rw[hl]at hlen
 obtain ⟨fs,u,e1,e2⟩:=qfJ (D:=1000) d t 0 n hd (by omega) (nZ9 _) (by omega)
 exact ⟨d,t,u,fs,hd,by omega,hl,e1,e2,hG⟩
section
variable {ns : List Nd} {n d : Nat} {T u : Tr} {tl : List Tr} {fs : List Fr}
theorem Zip.segL (h:Zip ns n d T u tl fs):V1 ns d 0 (Go.Proofs.YtfplhcicbbhljaaGreatDoor.plug fs (u::tl))∧∀ k∈Go.Proofs.YtfplhcicbbhljaaGreatDoor.plug fs (u::tl),Deep d k.kids:=by
 rw[h.plug];refine ⟨⟨⟨-1,by rw[←h.laid];exact qd8 _⟩,trivial⟩,fun k hk=>?_⟩
 simp at hk
 subst hk;exact h.deep
theorem Zip.node (h:Zip ns n d T u tl fs):∃ e par,Deep e u.kids∧Seg ns n (layF e u par n):=by
 obtain ⟨h1,h2⟩:=h.segL;obtain ⟨e,par,h3,h4,_⟩:=qct (D:=1000) fs d 0 h2 h1 (by have:=h.wide;omega)
 rw[h.num]at h4
 exact ⟨e,par,h3,h4⟩
theorem Zip.get (h:Zip ns n d T u tl fs):∃ x,ns[n]?=some x∧x.text=u.text∧x.s=u.s∧x.attrs=u.attrs:=by
 obtain ⟨e,par,h1,h2⟩:=h.node;exact ⟨_,h2 0 _ (by rw[j0 h1];rfl),rfl,rfl,rfl⟩
end
theorem QK {u:Tr}(h:qz u=true)(ht:u.text=false):qM u.s=true∧q7 u.attrs=true:=by
 unfold qz at h
 rw[ht]at h
 simpa using h
theorem qaO {u:Tr}{tl:List Tr}:∀ (fs:List Fr)(d:Nat),rgt (d+1) (plug fs (u::tl))=true→(∀ k∈plug fs (u::tl),Deep d k.kids)→qz u=true:=by
 intro fs
 induction fs with
 | nil=>intro d h _;exact (QT _ _ h u List.mem_cons_self).1
 | cons f fs ih =>
   intro d h hd;have hk:=hd _ (List.mem_singleton.2 rfl);cases d with
   | zero =>
     have e:f.ahead++(plug fs (u::tl)++f.behind)=[]:=hk;simp at e
     exact absurd e.2.1 (plug_ne fs u tl)
   | succ d =>
     have h1:=QT _ _ h _ (List.mem_singleton.2 rfl);have hk':∀ k∈f.ahead++(plug fs (u::tl)++f.behind),Deep d k.kids:=hk;cases ht:f.t.text with
     | true =>
       have:=ZK h1.1 ht;simp at this
       exact absurd this.2.1 (plug_ne fs u tl)
     | false =>
       have h2:=h1.2;simp only[ht,Bool.false_or]at h2
       have h3:rgL (rgt d) false (f.ahead++(plug fs (u::tl)++f.behind))=true:=h2;have h4:∀ k∈plug fs (u::tl),qz k=true∧(k.text||rgt d k.kids)=true:=fun k hk=>QT _ _ h3 k (List.mem_append_right _ (List.mem_append_left _ hk))
       cases fs with
       | nil=>exact (h4 u List.mem_cons_self).1
       | cons g fs =>
         refine ih d ?_ (fun k hk=>hk' k (List.mem_append_right _ (List.mem_append_left _ hk)))
         have h5:=h4 _ (List.mem_singleton.2 rfl)
         show rgL (rgt d) false [_]=true
         simp only[rgL,Bool.and_eq_true,Bool.false_and,Bool.not_false,and_true];exact ⟨h5.1,h5.2⟩
theorem Zip.right {ns:List Nd}{n d:Nat}{T u:Tr}{tl:List Tr}{fs:List Fr}(h:Zip ns n d T u tl fs):qz u=true:=by
 have hG:=h.good;rw[QC h.deep]at hG
 simp only[Bool.and_eq_true]at hG
 obtain ⟨_,h2⟩:=h.segL;exact qaO fs d (by rw[h.plug];exact hG.2) h2
theorem rgt_all:∀ {n:Nat}{ts:List Tr},Deep n ts→rgt n ts=true→∀ N,rgt N ts=true:=by
 intro n
 induction n with
 | zero=>intro ts h _ N;have e:ts=[]:=h;subst e;exact ZJ N
 | succ n ih =>
   intro ts hd h N;cases N with
   | zero=>rfl
   | succ N =>
     have key:∀ (l:List Tr) (p:Bool),(∀ t∈l,Deep n t.kids)→rgL (rgt n) p l=true→rgL (rgt N) p l=true:=by
      intro l
      induction l with
      | nil=>intro p _ _;rfl
      | cons t l ihl =>
        intro p hd h;simp only[rgL,Bool.and_eq_true]at h ⊢
        refine ⟨⟨h.1.1,?_⟩,ihl _ (fun u hu=>hd u (List.mem_cons_of_mem _ hu)) h.2⟩
        have h3:=h.1.2;cases htx:t.text with
        | true=>rfl
        | false =>
          rw[htx,Bool.false_or]at h3
          rw[Bool.false_or];exact ih (hd t List.mem_cons_self) h3 N
     exact key ts false hd h
end
end Go.Proofs.YtfplhcicbbhljaaGreatDoor
namespace Go.Proofs.YtfplhcicbbhljaaGreatDoor
open Go.ChangeShapes Go.WideShapes Go.ChangeAt Go.RowKit
set_option maxRecDepth 100000
theorem Yp (l m:List Rw):rawCells (l++m)=rawCells l++rawCells m:=by
 induction l with
 | nil=>rfl
 | cons x r ih=>simp[rawCells,ih]
def Qo (B:Nat)(w:World)(v:Value)(l:List (ByteArray × ByteArray)):Prop:=w.ownsRow B 93 2 v l.length (attrCells l)
structure Jy (B:Nat) (T:Nat→Prop) (N i:Nat) (w:World) (r:Rw) (x:Nd):Prop where
 text:r.text=x.text
 s:r.s=x.s
 par:r.par=x.parent
 kids:qZ B w r.vk x.kids
 own:i<N→Qo B w r.va x.attrs
 far:N≤i→qm T w r.va x.attrs
structure zi (B:Nat) (T:Nat→Prop) (N:Nat) (w:World) (v:Value) (ns:List Nd) (ms:List Rw):Prop where
 len:ms.length=ns.length
 row:w.ownsRow B 90 5 v ns.length (rawCells ms)
 each:∀ (i:Nat) (r:Rw) (x:Nd),ms[i]?=some r→ns[i]?=some x→Jy B T N i w r x
 kids:∀ (i j:Nat) (r q:Rw) (b:Nat),i≠j→ms[i]?=some r→ms[j]?=some q→r.vk.ownBlock=some b→q.vk.ownBlock≠some b
 attrs:∀ (i j:Nat) (r q:Rw) (b:Nat),i≠j→i<N→j<N→ms[i]?=some r→ms[j]?=some q→r.va.ownBlock=some b→q.va.ownBlock≠some b
 low:∀ b,T b→b<B
 le:B≤w.heap.size
theorem Jy.keep {B:Nat}{T:Nat→Prop}{N i:Nat}{w w':World}{r:Rw}{x:Nd}(h:Jy B T N i w r x)(hlow:∀ b,T b→w'.heap[b]?=w.heap[b]?)(hA:i<N→∀ b,r.va.ownBlock=some b→w'.heap[b]?=w.heap[b]?)(hI:∀ b,r.vk.ownBlock=some b→w'.heap[b]?=w.heap[b]?):Jy B T N i w' r x :=
 ⟨h.text,h.s,h.par,qn h.kids hI,fun hi=>qn (h.own hi) (hA hi),fun hi=>(h.far hi).carry fun b hb=>⟨hb,hlow b hb⟩⟩
theorem zi.get {B:Nat}{T:Nat→Prop}{N:Nat}{w:World}{v:Value}{ns:List Nd}{ms:List Rw}(h:zi B T N w v ns ms){i:Nat}{x:Nd}(hx:ns[i]?=some x):∃ r,ms[i]?=some r∧Jy B T N i w r x:=by
 have hi:i<ns.length:=(List.getElem?_eq_some_iff.1 hx).1;have hr:ms[i]?=some (ms[i]'(by rw[h.len];exact hi)):=by simp[h.len,hi]
 exact ⟨_,hr,h.each i _ x hr hx⟩
theorem zi.get' {B:Nat}{T:Nat→Prop}{N:Nat}{w:World}{v:Value}{ns:List Nd}{ms:List Rw}(h:zi B T N w v ns ms){i:Nat}{r:Rw}(hr:ms[i]?=some r):∃ x,ns[i]?=some x∧Jy B T N i w r x:=by
 have hi:i<ms.length:=(List.getElem?_eq_some_iff.1 hr).1;have hx:ns[i]?=some (ns[i]'(by rw[←h.len];exact hi)):=by simp[←h.len,hi]
 exact ⟨_,hx,h.each i r _ hr hx⟩
theorem zi.keep {B:Nat}{T:Nat→Prop}{N:Nat}{w w':World}{v:Value}{ns:List Nd}{ms:List Rw}(h:zi B T N w v ns ms)(hsz:w.heap.size≤w'.heap.size)(hlow:∀ b,b<B→w'.heap[b]?=w.heap[b]?)(hA:∀ b,zw B 93 w b→w'.heap[b]?=w.heap[b]?)
 (hI:∀ b,zw B 3 w b→w'.heap[b]?=w.heap[b]?) (hN:∀ b,zw B 90 w b→w'.heap[b]?=w.heap[b]?):zi B T N w' v ns ms :=
 ⟨h.len,qn h.row fun b hb=>hN b (qi h.row hb),fun i r x hr hx=>(h.each i r x hr hx).keep (fun b hb=>hlow b (h.low b hb)) (fun hi b hb=>hA b (qi ((h.each i r x hr hx).own hi) hb)) (fun b hb=>hI b (qi (h.each i r x hr hx).kids hb)),
  h.kids,h.attrs,h.low,Nat.le_trans h.le hsz⟩
theorem zi.later {B:Nat}{T:Nat→Prop}{N:Nat}{w w':World}{v:Value}{ns:List Nd}{ms:List Rw}(h:zi B T N w v ns ms)(hb:Below w.heap.size w w'):zi B T N w' v ns ms :=
 h.keep hb.size (fun b hb'=>hb.block b (Nat.lt_of_lt_of_le hb' h.le)) (fun b hs=>hb.block b hs.lt) (fun b hs=>hb.block b hs.lt) (fun b hs=>hb.block b hs.lt)
theorem zL {w:World}{B B':Nat}{e e':TypeId}{b b':Nat}(h:zw B e w b)(h':zw B' e' w b')(hne:e≠e'):b≠b':=by
 intro hb;subst hb;obtain ⟨_,c,fz,hc⟩:=h;obtain ⟨_,c',fz',hc'⟩:=h';rw[hc]at hc'
 injection hc' with hc'
 injection hc' with _ h4 _
 exact hne h4
theorem zi.snoc {B:Nat}{T:Nat→Prop}{N:Nat}{w w':World}{v v':Value}{ns:List Nd}{ms:List Rw}{r:Rw}{x:Nd}(h:zi B T N w v ns ms)
 (hown:w'.ownsRow B 90 5 v' (ns.length+1) (rawCells ms++[.bool r.text,.string r.s,r.va,.int .i64 r.par,r.vk])) (hg:w.grownBy w' v.ownBlock) (hR:Jy B T N ns.length w r x) (hN:N≤ns.length) (hk:r.vk.ownBlock=none):zi B T N w' v' (ns++[x]) (ms++[r]):=by
 have hvB:∀ b,v.ownBlock=some b→B≤b:=fun b hb=>(h.row.lt b hb).1
 have keep:∀ {i:Nat} {r:Rw} {x:Nd},Jy B T N i w r x→Jy B T N i w' r x:=by
  intro i r x hR;refine hR.keep (fun b hb=>hg.block b (Nat.lt_of_lt_of_le (h.low b hb) h.le) (fun e=>by have:=hvB b e.symm;have:=h.low b hb;omega)) (fun hi b hb=>?_) (fun b hb=>?_)
  · have hs := qi (hR.own hi) hb;exact hg.block b hs.lt (qv h.row hs (by decide))
  · have hs := qi hR.kids hb;exact hg.block b hs.lt (qv h.row hs (by decide))
 have last:∀ {i:Nat} {q:Rw},(ms++[r])[i]?=some q→(i<ms.length∧ms[i]?=some q)∨(i=ms.length∧q=r):=by
  intro i q hq
  rcases Nat.lt_or_ge i ms.length with hi|hi
  · rw[List.getElem?_append_left hi]at hq;exact Or.inl ⟨hi,hq⟩
  · rw[List.getElem?_append_right hi]at hq
    have hz:i-ms.length=0:=by
     rcases Nat.eq_zero_or_pos (i-ms.length) with h'|h'
     · exact h'
     · rw[List.getElem?_eq_none (by simp;omega)]at hq;cases hq
    rw[hz]at hq
    simp at hq
    exact Or.inr ⟨by omega,hq.symm⟩
 refine ⟨by simp[h.len],?_,?_,?_,?_,h.low,Nat.le_trans h.le hg.size⟩
 · rw[Yp,List.length_append];exact hown
 · intro i q y hq hy
   rcases last hq with ⟨hi,hq'⟩|⟨hi,hqr⟩
   · rw[List.getElem?_append_left (by rw[←h.len];exact hi)]at hy
     exact keep (h.each i q y hq' hy)
   · subst hi hqr;rw[h.len,List.getElem?_append_right (nR9 _)]at hy
     simp at hy
     subst hy;rw[h.len];exact keep hR
 · intro i j p q b hne hp hq hb
   rcases last hp with ⟨hi,hp'⟩|⟨hi,hpr⟩
   · rcases last hq with ⟨hj, hq'⟩ | ⟨hj, hqr⟩
     · exact h.kids i j p q b hne hp' hq' hb
     · rw[hqr,hk];exact fun e=>by cases e
   · rw[hpr,hk]at hb;cases hb
 · intro i j p q b hne hiN hjN hp hq hb
   rcases last hp with ⟨hi,hp'⟩|⟨hi,hpr⟩
   · rcases last hq with ⟨hj, hq'⟩ | ⟨hj, hqr⟩
     · exact h.attrs i j p q b hne hiN hjN hp' hq' hb
     · rw[h.len]at hj;omega
   · rw[h.len]at hi;omega
theorem zi.put {B:Nat}{T:Nat→Prop}{N:Nat}{w w1 w2:World}{v:Value}{ns:List Nd}{ms:List Rw}{i:Nat}{r r':Rw}{x x':Nd}(h:zi B T N w v ns ms)(hr:ms[i]?=some r)(hx:ns[i]?=some x)(hsz:w.heap.size≤w1.heap.size)(hsz2:w2.heap.size=w1.heap.size)
 (hkeep:∀ b,b<w.heap.size→r.vk.ownBlock≠some b→(i<N→r.va.ownBlock≠some b)→w1.heap[b]?=w.heap[b]?)
 (hrow:w2.ownsRow B 90 5 v ns.length (rawCells (ms.set i r'))) (hk2:∀ b,v.ownBlock≠some b→w2.heap[b]?=w1.heap[b]?) (hR:Jy B T N i w1 r' x')
 (hk:∀ b,r'.vk.ownBlock=some b→r.vk.ownBlock=some b∨w.heap.size≤b) (ha:i<N→∀ b,r'.va.ownBlock=some b→r.va.ownBlock=some b∨w.heap.size≤b):zi B T N w2 v (ns.set i x') (ms.set i r'):=by
 have hRi:=h.each i r x hr hx;have hil:i<ns.length:=(List.getElem?_eq_some_iff.1 hx).1;have him:i<ms.length:=by rw[h.len];exact hil
 have vnode:∀ b,v.ownBlock=some b→zw B 90 w b:=fun b hb=>qi h.row hb
 have keepLow:∀ b,b<B→w2.heap[b]?=w.heap[b]?:=fun b hb=>by
  rw[hk2 b (fun e=>by have:=(h.row.lt b e).1;omega)]
  refine hkeep b (Nat.lt_of_lt_of_le hb h.le) (fun e=>?_) (fun hi e=>?_)
  · have:=(qZ.lt hRi.kids b e).1;omega
  · have:=((hRi.own hi).lt b e).1;omega
 have new_ne:∀ b,v.ownBlock=some b→b<w.heap.size:=fun b hb=>(vnode b hb).lt
 refine ⟨by simp[h.len],by rw[List.length_set];exact hrow,?_,?_,?_,h.low,?_⟩
 · intro j q y hq hy
   by_cases hj:j=i
   · subst hj;rw[List.getElem?_set_self him]at hq
     rw[List.getElem?_set_self hil]at hy
     injection hq with hq
     injection hy with hy
     subst hq hy;refine hR.keep (fun b hb=>hk2 b (fun e=>by have:=(h.row.lt b e).1;have:=h.low b hb;omega)) (fun hi b hb=>hk2 b (fun e=>?_)) (fun b hb=>hk2 b (fun e=>?_))
     · rcases ha hi b hb with e1 | e1
       · exact zL (qi (hRi.own hi) e1) (vnode b e) (by decide) rfl
       · have:=new_ne b e;omega
     · rcases hk b hb with e1 | e1
       · exact zL (qi hRi.kids e1) (vnode b e) (by decide) rfl
       · have:=new_ne b e;omega
   · rw[List.getElem?_set_ne (fun e => hj e.symm)]at hq hy
     have hq':=h.each j q y hq hy;refine hq'.keep (fun b hb=>keepLow b (h.low b hb)) (fun hjN b hb=>?_) (fun b hb=>?_)
     · have hs := qi (hq'.own hjN) hb;rw[hk2 b (fun e=>zL hs (vnode b e) (by decide) rfl)]
       exact hkeep b hs.lt (fun e=>zL hs (qi hRi.kids e) (by decide) rfl) (fun hi e=>h.attrs i j r q b (fun e=>hj e.symm) hi hjN hr hq e hb)
     · have hs := qi hq'.kids hb;rw[hk2 b (fun e=>zL hs (vnode b e) (by decide) rfl)]
       exact hkeep b hs.lt (fun e=>h.kids i j r q b (fun e=>hj e.symm) hr hq e hb) (fun hi e=>zL hs (qi (hRi.own hi) e) (by decide) rfl)
 · intro j k p q b hne hp hq hb e
   have lt:∀ {m:Nat} {q:Rw},ms[m]?=some q→∀ b,q.vk.ownBlock=some b→b<w.heap.size:=fun hm b hb=>by
    obtain ⟨y,_,hy⟩:=h.get' hm;exact (qZ.lt hy.kids b hb).2
   by_cases hj:j=i
   · subst hj;rw[List.getElem?_set_self him]at hp
     injection hp with hp
     subst hp;rw[List.getElem?_set_ne hne]at hq
     rcases hk b hb with e1|e1
     · exact h.kids j k r q b hne hr hq e1 e
     · have:=lt hq b e;omega
   · rw[List.getElem?_set_ne (fun e => hj e.symm)]at hp
     by_cases hki:k=i
     · subst hki;rw[List.getElem?_set_self him]at hq
       injection hq with hq
       subst hq
       rcases hk b e with e1|e1
       · exact h.kids j k p r b hne hp hr hb e1
       · have:=lt hp b hb;omega
     · rw[List.getElem?_set_ne (fun e => hki e.symm)]at hq
       exact h.kids j k p q b hne hp hq hb e
 · intro j k p q b hne hjN hkN hp hq hb e
   have lt:∀ {m:Nat} {q:Rw},m<N→ms[m]?=some q→∀ b,q.va.ownBlock=some b→b<w.heap.size:=fun hmN hm b hb=>by
    obtain ⟨y,_,hy⟩:=h.get' hm;exact ((hy.own hmN).lt b hb).2
   by_cases hj:j=i
   · subst hj;rw[List.getElem?_set_self him]at hp
     injection hp with hp
     subst hp;rw[List.getElem?_set_ne hne]at hq
     rcases ha hjN b hb with e1|e1
     · exact h.attrs j k r q b hne hjN hkN hr hq e1 e
     · have:=lt hkN hq b e;omega
   · rw[List.getElem?_set_ne (fun e => hj e.symm)]at hp
     by_cases hki:k=i
     · subst hki;rw[List.getElem?_set_self him]at hq
       injection hq with hq
       subst hq
       rcases ha hkN b e with e1|e1
       · exact h.attrs j k p r b hne hjN hkN hp hr hb e1
       · have:=lt hjN hp b hb;omega
     · rw[List.getElem?_set_ne (fun e => hki e.symm)]at hq
       exact h.attrs j k p q b hne hjN hkN hp hq hb e
 · rw[hsz2];exact Nat.le_trans h.le hsz
section
attribute [local go_sem] qd
theorem Vq (k:Int)(w:World):Calls Tryz.prog 187 #[.int .i64 k] w fun e w'=>e=.returned (.bool (zX k))∧w'=w:=by
 have HP:Hid (zX k=(decide (k=3)||decide (k=4)||decide (k=5)||decide (k=6))):=rfl
 by_cases h3:k=3
 · have HE : Hid (zX k = true) := by show _ = _;rw[HP.out];simp[h3]
   subst h3
   go_enter Tryz.func187,Tryz.ntmps187
   go_wp2;go_ret;exact ⟨by rw[HE.out];rfl,rfl⟩
 by_cases h4:k=4
 · have HE : Hid (zX k = true) := by show _ = _;rw[HP.out];simp[h4]
   subst h4
   go_enter Tryz.func187,Tryz.ntmps187
   go_wp2;go_ret;exact ⟨by rw[HE.out];rfl,rfl⟩
 by_cases h5:k=5
 · have HE : Hid (zX k = true) := by show _ = _;rw[HP.out];simp[h5]
   subst h5
   go_enter Tryz.func187,Tryz.ntmps187
   go_wp2;go_ret;exact ⟨by rw[HE.out];rfl,rfl⟩
 by_cases h6:k=6
 · have HE : Hid (zX k = true) := by show _ = _;rw[HP.out];simp[h6]
   subst h6
   go_enter Tryz.func187,Tryz.ntmps187
   go_wp2;go_ret;exact ⟨by rw[HE.out];rfl,rfl⟩
 have HE:Hid (zX k=false):=by show _=_;rw[HP.out];simp[h3,h4,h5,h6]
 have b3:(k==3)=false:=by simpa using h3
 have b4:(k==4)=false:=by simpa using h4
 have b5:(k==5)=false:=by simpa using h5
 have b6:(k==6)=false:=by simpa using h6
 clear h3 h4 h5 h6 HP
 go_enter Tryz.func187,Tryz.ntmps187
 go_wp2;go_ret;exact ⟨by rw[HE.out];rfl,rfl⟩
theorem qeT (n:Nat):((n:Int)==0)=decide (n=0):=by
 by_cases h:n=0<;>simp[h]
theorem qbC (a:ByteArray):a.toList.isEmpty=decide (a=⟨#[]⟩):=by
 rw[ByteArray.toList_eq];obtain ⟨d⟩:=a
 by_cases h:d=#[]
 · subst h;simp
 · have h2 : ¬ (⟨d⟩ : ByteArray) = ⟨#[]⟩ := by intro e;injection e with e;exact h e
   simp[h,h2]
theorem Z5 (S:Nat→Prop)(n:Nat)(ca:Option Addr)(cc:Nat)(o:Opn)(w:World)(hC:qb S w n (.slice ca o.content.length cc) o.content)(hx:TextsN n o.content) :
 Calls Tryz.prog 184 #[.agg #[.int .i64 o.kind,.int .i64 o.target,.slice ca o.content.length cc,.string o.name,.string o.s]] w fun e w'=>e=.returned (.bool (jN o))∧Below w.heap.size w w':=by
 have HP:Hid (qfz o.kind=(decide (o.kind=1)||decide (o.kind=2)||decide (o.kind=3)||decide (o.kind=4)||decide (o.kind=6))):=rfl
 have HC:Hid (∀ W,qb S W n (.slice ca o.content.length cc) o.content→Calls Tryz.prog 54 #[.slice ca o.content.length cc] W fun e w'=>e=.returned (.bool (qF o.content))∧Below W.heap.size W w'):=fun W hW=>Qw S n _ _ W hW hx
 have HO:Hid (jN o=if qfz o.kind then qF o.content else decide (o.content.length=0)):=rfl
 obtain ⟨k,tg,ct,nm,s⟩:=o;dsimp only at *
 by_cases h1:k=1
 · have HE : Hid (jN ⟨k, tg, ct, nm, s⟩ = qF ct) := by show _ = _;rw[HO.out, HP.out];simp[h1]
   clear HP HO;subst h1;have hb:=Below.alloc1 w (.cells #[.int .i64 1,.int .i64 tg,.slice ca ct.length cc,.string nm,.string s] 24)
   go_enter Tryz.func184,Tryz.ntmps184
   go_wp2_with fail;refine (HC.out _ (hC.later hb)).mono ?_;rintro e w1 ⟨rfl,hb1⟩;go_wp2_with fail;go_ret;exact ⟨by rw[HE.out];rfl,hb.trans (hb1.mono hb.size)⟩
 by_cases h2:k=2
 · have HE : Hid (jN ⟨k, tg, ct, nm, s⟩ = qF ct) := by show _ = _;rw[HO.out, HP.out];simp[h2]
   clear HP HO;subst h2;have hb:=Below.alloc1 w (.cells #[.int .i64 2,.int .i64 tg,.slice ca ct.length cc,.string nm,.string s] 24)
   go_enter Tryz.func184,Tryz.ntmps184
   go_wp2_with fail;refine (HC.out _ (hC.later hb)).mono ?_;rintro e w1 ⟨rfl,hb1⟩;go_wp2_with fail;go_ret;exact ⟨by rw[HE.out];rfl,hb.trans (hb1.mono hb.size)⟩
 by_cases h3:k=3
 · have HE : Hid (jN ⟨k, tg, ct, nm, s⟩ = qF ct) := by show _ = _;rw[HO.out, HP.out];simp[h3]
   clear HP HO;subst h3;have hb:=Below.alloc1 w (.cells #[.int .i64 3,.int .i64 tg,.slice ca ct.length cc,.string nm,.string s] 24)
   go_enter Tryz.func184,Tryz.ntmps184
   go_wp2_with fail;refine (HC.out _ (hC.later hb)).mono ?_;rintro e w1 ⟨rfl,hb1⟩;go_wp2_with fail;go_ret;exact ⟨by rw[HE.out];rfl,hb.trans (hb1.mono hb.size)⟩
 by_cases h4:k=4
 · have HE : Hid (jN ⟨k, tg, ct, nm, s⟩ = qF ct) := by show _ = _;rw[HO.out, HP.out];simp[h4]
   clear HP HO;subst h4;have hb:=Below.alloc1 w (.cells #[.int .i64 4,.int .i64 tg,.slice ca ct.length cc,.string nm,.string s] 24)
   go_enter Tryz.func184,Tryz.ntmps184
   go_wp2_with fail;refine (HC.out _ (hC.later hb)).mono ?_;rintro e w1 ⟨rfl,hb1⟩;go_wp2_with fail;go_ret;exact ⟨by rw[HE.out];rfl,hb.trans (hb1.mono hb.size)⟩
 by_cases h6:k=6
 · have HE : Hid (jN ⟨k, tg, ct, nm, s⟩ = qF ct) := by show _ = _;rw[HO.out, HP.out];simp[h6]
   clear HP HO;subst h6;have hb:=Below.alloc1 w (.cells #[.int .i64 6,.int .i64 tg,.slice ca ct.length cc,.string nm,.string s] 24)
   go_enter Tryz.func184,Tryz.ntmps184
   go_wp2_with fail;refine (HC.out _ (hC.later hb)).mono ?_;rintro e w1 ⟨rfl,hb1⟩;go_wp2_with fail;go_ret;exact ⟨by rw[HE.out];rfl,hb.trans (hb1.mono hb.size)⟩
 have HE:Hid (jN ⟨k,tg,ct,nm,s⟩=decide (ct.length=0)):=by show _=_;rw[HO.out,HP.out];simp[h1,h2,h3,h4,h6]
 have b1:(k==1)=false:=by simpa using h1
 have b2:(k==2)=false:=by simpa using h2
 have b3:(k==3)=false:=by simpa using h3
 have b4:(k==4)=false:=by simpa using h4
 have b6:(k==6)=false:=by simpa using h6
 clear HP HO h1 h2 h3 h4 h6;have hb:=Below.alloc1 w (.cells #[.int .i64 k,.int .i64 tg,.slice ca ct.length cc,.string nm,.string s] 24)
 go_enter Tryz.func184,Tryz.ntmps184
 go_wp2_with fail;go_ret;exact ⟨by rw[HE.out,←qeT];rfl,hb⟩
theorem JV (vc:Value)(o:Opn)(w:World)(hx:o.name.size≤maxLen) :
 Calls Tryz.prog 185 #[.agg #[.int .i64 o.kind,.int .i64 o.target,vc,.string o.name,.string o.s]] w fun e w'=>e=.returned (.bool (xF o))∧Below w.heap.size w w':=by
 have HP:Hid (qfA o.kind=(decide (o.kind=8)||decide (o.kind=9)||decide (o.kind=10))):=rfl
 have HC:Hid (∀ W,Calls Tryz.prog 88 #[.string o.name] W fun e w'=>e=.returned (.bool (qM o.name))∧w'=W):=fun W=>yD _ W hx
 have HO:Hid (xF o=if qfA o.kind then qM o.name else decide (o.name=⟨#[]⟩)):=rfl
 obtain ⟨k,tg,ct,nm,s⟩:=o;dsimp only at *
 by_cases h8:k=8
 · have HE : Hid (xF ⟨k, tg, ct, nm, s⟩ = qM nm) := by show _ = _;rw[HO.out, HP.out];simp[h8]
   clear HP HO;subst h8;have hb:=Below.alloc1 w (.cells #[.int .i64 8,.int .i64 tg,vc,.string nm,.string s] 24)
   go_enter Tryz.func185,Tryz.ntmps185
   go_wp2_with fail;refine (HC.out _).mono ?_;rintro e w1 ⟨rfl,rfl⟩;go_wp2_with fail;go_ret;exact ⟨by rw[HE.out];rfl,hb⟩
 by_cases h9:k=9
 · have HE : Hid (xF ⟨k, tg, ct, nm, s⟩ = qM nm) := by show _ = _;rw[HO.out, HP.out];simp[h9]
   clear HP HO;subst h9;have hb:=Below.alloc1 w (.cells #[.int .i64 9,.int .i64 tg,vc,.string nm,.string s] 24)
   go_enter Tryz.func185,Tryz.ntmps185
   go_wp2_with fail;refine (HC.out _).mono ?_;rintro e w1 ⟨rfl,rfl⟩;go_wp2_with fail;go_ret;exact ⟨by rw[HE.out];rfl,hb⟩
 by_cases h10:k=10
 · have HE : Hid (xF ⟨k, tg, ct, nm, s⟩ = qM nm) := by show _ = _;rw[HO.out, HP.out];simp[h10]
   clear HP HO;subst h10;have hb:=Below.alloc1 w (.cells #[.int .i64 10,.int .i64 tg,vc,.string nm,.string s] 24)
   go_enter Tryz.func185,Tryz.ntmps185
   go_wp2_with fail;refine (HC.out _).mono ?_;rintro e w1 ⟨rfl,rfl⟩;go_wp2_with fail;go_ret;exact ⟨by rw[HE.out];rfl,hb⟩
 have HE:Hid (xF ⟨k,tg,ct,nm,s⟩=decide (nm=⟨#[]⟩)):=by show _=_;rw[HO.out,HP.out];simp[h8,h9,h10]
 have b8:(k==8)=false:=by simpa using h8
 have b9:(k==9)=false:=by simpa using h9
 have b10:(k==10)=false:=by simpa using h10
 clear HP HO h8 h9 h10;have hb:=Below.alloc1 w (.cells #[.int .i64 k,.int .i64 tg,vc,.string nm,.string s] 24)
 go_enter Tryz.func185,Tryz.ntmps185
 go_wp2_with fail;go_ret;exact ⟨by rw[HE.out,←qbC];rfl,hb⟩
theorem qaT (vc:Value)(o:Opn)(w:World)(hx:o.s.size≤maxLen) :
 Calls Tryz.prog 186 #[.agg #[.int .i64 o.kind,.int .i64 o.target,vc,.string o.name,.string o.s]] w fun e w'=>e=.returned (.bool (Qh o))∧Below w.heap.size w w':=by
 have HP:Hid (qfB o.kind=(decide (o.kind=7)||decide (o.kind=9))):=rfl
 have HC:Hid (∀ W,Calls Tryz.prog 57 #[.string o.s] W fun e w'=>e=.returned (.bool (qN o.s))∧w'=W):=fun W=>yp _ W hx
 have HO:Hid (Qh o=if qfB o.kind then qN o.s else decide (o.s=⟨#[]⟩)):=rfl
 obtain ⟨k,tg,ct,nm,s⟩:=o;dsimp only at *
 by_cases h7:k=7
 · have HE : Hid (Qh ⟨k, tg, ct, nm, s⟩ = qN s) := by show _ = _;rw[HO.out, HP.out];simp[h7]
   clear HP HO;subst h7;have hb:=Below.alloc1 w (.cells #[.int .i64 7,.int .i64 tg,vc,.string nm,.string s] 24)
   go_enter Tryz.func186,Tryz.ntmps186
   go_wp2_with fail;refine (HC.out _).mono ?_;rintro e w1 ⟨rfl,rfl⟩;go_wp2_with fail;go_ret;exact ⟨by rw[HE.out];rfl,hb⟩
 by_cases h9:k=9
 · have HE : Hid (Qh ⟨k, tg, ct, nm, s⟩ = qN s) := by show _ = _;rw[HO.out, HP.out];simp[h9]
   clear HP HO;subst h9;have hb:=Below.alloc1 w (.cells #[.int .i64 9,.int .i64 tg,vc,.string nm,.string s] 24)
   go_enter Tryz.func186,Tryz.ntmps186
   go_wp2_with fail;refine (HC.out _).mono ?_;rintro e w1 ⟨rfl,rfl⟩;go_wp2_with fail;go_ret;exact ⟨by rw[HE.out];rfl,hb⟩
 have HE:Hid (Qh ⟨k,tg,ct,nm,s⟩=decide (s=⟨#[]⟩)):=by show _=_;rw[HO.out,HP.out];simp[h7,h9]
 have b7:(k==7)=false:=by simpa using h7
 have b9:(k==9)=false:=by simpa using h9
 clear HP HO h7 h9;have hb:=Below.alloc1 w (.cells #[.int .i64 k,.int .i64 tg,vc,.string nm,.string s] 24)
 go_enter Tryz.func186,Tryz.ntmps186
 go_wp2_with fail;go_ret;exact ⟨by rw[HE.out,←qbC];rfl,hb⟩
theorem yn {w w1:World}{cs:Array Value}{T:TypeId}(h:Below (w.alloc (.cells cs T)).heap.size (w.alloc (.cells cs T)) w1):w1.heap[w.heap.size]?=some (.cells cs T (0,0)):=by
 rw[h.block _ (by simp)];show (w.heap.push _)[w.heap.size]?=_;simp
theorem yX {W:World}{b:Nat}{T:TypeId}{c0 c1 c2 c3 c4:Value}(h:W.heap[b]?=some (.cells #[c0,c1,c2,c3,c4] T (0,0))) :
 W.cell? ⟨b,0,none⟩=some c0∧W.cell? ⟨b,1,none⟩=some c1∧W.cell? ⟨b,2,none⟩=some c2∧W.cell? ⟨b,3,none⟩=some c3∧W.cell? ⟨b,4,none⟩=some c4:=by
 simp[World.cell?,h]
set_option maxHeartbeats 4000000 in
theorem J4 (S:Nat→Prop)(n:Nat)(v:Value)(ca:Option Addr)(cc:Nat)(ns:List Nd)(o:Opn)(w:World)(hN:qB S w v ns)(hC:qb S w n (.slice ca o.content.length cc) o.content)(hx:TextsN n o.content)(hn:o.name.size≤maxLen)(hs:o.s.size≤maxLen) :
 Calls Tryz.prog 142 #[v,.agg #[.int .i64 o.kind,.int .i64 o.target,.slice ca o.content.length cc,.string o.name,.string o.s]] w fun e w'=>e=.returned (.int .i64 (yU ns o))∧Below w.heap.size w w':=by
 have HC:Hid (∀ W,Below w.heap.size w W→Calls Tryz.prog 184 #[.agg #[.int .i64 o.kind,.int .i64 o.target,.slice ca o.content.length cc,.string o.name,.string o.s]] W fun e w'=>e=.returned (.bool (jN o))∧Below W.heap.size W w'):=fun W hW=>Z5 S n ca cc o W (hC.later hW) hx
 have HM:Hid (∀ W,Calls Tryz.prog 185 #[.agg #[.int .i64 o.kind,.int .i64 o.target,.slice ca o.content.length cc,.string o.name,.string o.s]] W fun e w'=>e=.returned (.bool (xF o))∧Below W.heap.size W w'):=fun W=>JV _ o W hn
 have HT:Hid (∀ W,Calls Tryz.prog 186 #[.agg #[.int .i64 o.kind,.int .i64 o.target,.slice ca o.content.length cc,.string o.name,.string o.s]] W fun e w'=>e=.returned (.bool (Qh o))∧Below W.heap.size W w'):=fun W=>qaT _ o W hs
 have HW:Hid (yU ns o=if decide (o.kind<1)||decide (10<o.kind) then 4
  else if decide (o.target<0)||decide ((ns.length:Int)≤o.target) then 3
  else if !(jN o)||!(xF o)||!(Qh o) then 1
  else if decide (o.target=0)&&zX o.kind then 6
  else if Yc ns o.target&&!(zX o.kind)&&!(decide (o.kind=7)) then 4
  else 0):=rfl
 have HX:Hid (∀ i:Nat,Yc ns (i:Int)=match ns[i]? with
  | some x=>x.text
  | none=>false):=fun i=>rfl
 have hb:=Below.alloc1 w (.cells #[.int .i64 o.kind,.int .i64 o.target,.slice ca o.content.length cc,.string o.name,.string o.s] 24);have HN:Hid (qB S w v ns):=hN;obtain ⟨na,nc,rfl,hnl,hnc,hnodes⟩:=hN;clear hC hx hn hs hnodes
 generalize jN o=bc at *
 generalize xF o=bn at *
 generalize Qh o=bt at *
 generalize yU ns o=R at *
 obtain ⟨k,tg,ct,nm,s⟩:=o;dsimp only at *
 by_cases hk1:k<1
 · have HR : Hid (R = 4) := by show _ = _;rw[HW.out];simp[hk1]
   clear HW
   go_enter Tryz.func142,Tryz.ntmps142
   go_wp2_with fail;go_ret;exact ⟨by rw[HR.out];rfl,hb⟩
 by_cases hk2:10<k
 · have HR : Hid (R = 4) := by show _ = _;rw[HW.out];simp[hk2]
   clear HW
   go_enter Tryz.func142,Tryz.ntmps142
   go_wp2_with fail;go_ret;exact ⟨by rw[HR.out];rfl,hb⟩
 by_cases ht1:tg<0
 · have HR : Hid (R = 3) := by show _ = _;rw[HW.out];simp[hk1, hk2, ht1]
   clear HW
   go_enter Tryz.func142,Tryz.ntmps142
   go_wp2_with fail;go_ret;exact ⟨by rw[HR.out];rfl,hb⟩
 by_cases ht2:(ns.length:Int)≤tg
 · have HR : Hid (R = 3) := by show _ = _;rw[HW.out];simp[hk1, hk2, ht2]
   clear HW
   go_enter Tryz.func142,Tryz.ntmps142
   go_wp2_with fail;go_ret;exact ⟨by rw[HR.out];rfl,hb⟩
 have HR:Hid (R=if !bc||!bn||!bt then 1 else if decide (tg=0)&&zX k then 6 else if Yc ns tg&&!(zX k)&&!(decide (k=7)) then 4 else 0):=by show _=_;rw[HW.out];simp[hk1,hk2,ht1,ht2]
 clear HW;cases bc with
 | false =>
   go_enter Tryz.func142,Tryz.ntmps142
   go_wp2_with fail;refine (HC.out _ hb).mono ?_;rintro e w1 ⟨rfl,hb1⟩;have hB1:=hb.trans (hb1.mono hb.size);have hz1:w.heap.size<w1.heap.size:=by have:=hb1.size;simp at this;omega
   have HB1:Hid (w1.heap[w.heap.size]?=some (.cells #[.int .i64 k,.int .i64 tg,.slice ca ct.length cc,.string nm,.string s] 24 (0,0))):=yn hb1;obtain ⟨x10,x11,x12,x13,x14⟩:=yX HB1.out;go_wp2_with fail;go_ret;exact ⟨by rw[HR.out];rfl,hB1⟩
 | true =>
 cases bn with
 | false =>
   go_enter Tryz.func142,Tryz.ntmps142
   go_wp2_with fail;refine (HC.out _ hb).mono ?_;rintro e w1 ⟨rfl,hb1⟩;have hB1:=hb.trans (hb1.mono hb.size);have hz1:w.heap.size<w1.heap.size:=by have:=hb1.size;simp at this;omega
   have HB1:Hid (w1.heap[w.heap.size]?=some (.cells #[.int .i64 k,.int .i64 tg,.slice ca ct.length cc,.string nm,.string s] 24 (0,0))):=yn hb1;obtain ⟨x10,x11,x12,x13,x14⟩:=yX HB1.out;go_wp2_with fail;refine (HM.out _).mono ?_;rintro e w2 ⟨rfl,hb2⟩;have hB2:=hB1.trans (hb2.mono (by omega))
   have hz2:w.heap.size<w2.heap.size:=by have:=hb2.size;omega
   have HB2:Hid (w2.heap[w.heap.size]?=some (.cells #[.int .i64 k,.int .i64 tg,.slice ca ct.length cc,.string nm,.string s] 24 (0,0))):=(hb2.block _ (by omega)).trans HB1.out
   clear x10 x11 x12 x13 x14;obtain ⟨x20,x21,x22,x23,x24⟩:=yX HB2.out;go_wp2_with fail;go_ret;exact ⟨by rw[HR.out];rfl,hB2⟩
 | true =>
 cases bt with
 | false =>
   go_enter Tryz.func142,Tryz.ntmps142
   go_wp2_with fail;refine (HC.out _ hb).mono ?_;rintro e w1 ⟨rfl,hb1⟩;have hB1:=hb.trans (hb1.mono hb.size);have hz1:w.heap.size<w1.heap.size:=by have:=hb1.size;simp at this;omega
   have HB1:Hid (w1.heap[w.heap.size]?=some (.cells #[.int .i64 k,.int .i64 tg,.slice ca ct.length cc,.string nm,.string s] 24 (0,0))):=yn hb1;obtain ⟨x10,x11,x12,x13,x14⟩:=yX HB1.out;go_wp2_with fail;refine (HM.out _).mono ?_;rintro e w2 ⟨rfl,hb2⟩;have hB2:=hB1.trans (hb2.mono (by omega))
   have hz2:w.heap.size<w2.heap.size:=by have:=hb2.size;omega
   have HB2:Hid (w2.heap[w.heap.size]?=some (.cells #[.int .i64 k,.int .i64 tg,.slice ca ct.length cc,.string nm,.string s] 24 (0,0))):=(hb2.block _ (by omega)).trans HB1.out
   clear x10 x11 x12 x13 x14;obtain ⟨x20,x21,x22,x23,x24⟩:=yX HB2.out;go_wp2_with fail;refine (HT.out _).mono ?_;rintro e w3 ⟨rfl,hb3⟩;have hB3:=hB2.trans (hb3.mono (by omega))
   have hz3:w.heap.size<w3.heap.size:=by have:=hb3.size;omega
   have HB3:Hid (w3.heap[w.heap.size]?=some (.cells #[.int .i64 k,.int .i64 tg,.slice ca ct.length cc,.string nm,.string s] 24 (0,0))):=(hb3.block _ (by omega)).trans HB2.out
   clear x20 x21 x22 x23 x24;obtain ⟨x30,x31,x32,x33,x34⟩:=yX HB3.out;go_wp2_with fail;go_ret;exact ⟨by rw[HR.out];rfl,hB3⟩
 | true =>
 have HR2:Hid (R=if decide (tg=0)&&zX k then 6 else if Yc ns tg&&!(zX k)&&!(decide (k=7)) then 4 else 0):=by show _=_;rw[HR.out];simp
 clear HR;have HP:Hid (∀ W,Calls Tryz.prog 187 #[.int .i64 k] W fun e w'=>e=.returned (.bool (zX k))∧w'=W):=fun W=>Vq k W
 by_cases h0:tg=0
 · subst h0;obtain ⟨x,hxi⟩:∃ x,ns[0]?=some x:=⟨ns[0]'(by omega),by simp⟩
   have HR3:Hid (R=if zX k then 6 else if x.text&&!(zX k)&&!(decide (k=7)) then 4 else 0):=by
    show _=_
    have e:Yc ns 0=x.text:=by rw[show (0:Int)=((0:Nat):Int) from rfl,HX.out 0,hxi]
    rw[HR2.out,e];simp
   obtain ⟨b,of,cap,va,vk,hv,_,_,hSb,hbw,c0,c1,c2,c3,c4,hAt,hKi⟩:=HN.out.at hxi
   clear HR2 HX HN c1 c2 c3 c4 hAt hKi hSb hxi
   injection hv with hv1 _ hv2
   subst hv1 hv2;have hL0:¬ ns.length=0:=by omega
   generalize ns.length=L at *
   generalize zX k=pb at *
   cases pb with
   | true =>
     go_enter Tryz.func142,Tryz.ntmps142
     go_wp2_with fail;refine (HC.out _ hb).mono ?_;rintro e w1 ⟨rfl,hb1⟩;have hB1:=hb.trans (hb1.mono hb.size);have hz1:w.heap.size<w1.heap.size:=by have:=hb1.size;simp at this;omega
     have HB1:Hid (w1.heap[w.heap.size]?=some (.cells #[.int .i64 k,.int .i64 0,.slice ca ct.length cc,.string nm,.string s] 24 (0,0))):=yn hb1;obtain ⟨x10,x11,x12,x13,x14⟩:=yX HB1.out;go_wp2_with fail;refine (HM.out _).mono ?_;rintro e w2 ⟨rfl,hb2⟩;have hB2:=hB1.trans (hb2.mono (by omega))
     have hz2:w.heap.size<w2.heap.size:=by have:=hb2.size;omega
     have HB2:Hid (w2.heap[w.heap.size]?=some (.cells #[.int .i64 k,.int .i64 0,.slice ca ct.length cc,.string nm,.string s] 24 (0,0))):=(hb2.block _ (by omega)).trans HB1.out
     clear x10 x11 x12 x13 x14;obtain ⟨x20,x21,x22,x23,x24⟩:=yX HB2.out;go_wp2_with fail;refine (HT.out _).mono ?_;rintro e w3 ⟨rfl,hb3⟩;have hB3:=hB2.trans (hb3.mono (by omega))
     have hz3:w.heap.size<w3.heap.size:=by have:=hb3.size;omega
     have HB3:Hid (w3.heap[w.heap.size]?=some (.cells #[.int .i64 k,.int .i64 0,.slice ca ct.length cc,.string nm,.string s] 24 (0,0))):=(hb3.block _ (by omega)).trans HB2.out
     clear x20 x21 x22 x23 x24;obtain ⟨x30,x31,x32,x33,x34⟩:=yX HB3.out;go_wp2_with fail;refine (HP.out _).mono ?_;rintro e w4 ⟨rfl,rfl⟩;go_wp2_with fail;go_ret;exact ⟨by rw[HR3.out];rfl,hB3⟩
   | false =>
     simp only[Nat.zero_mul,Nat.add_zero]at c0
     have d0:Hid (∀ W,Below w.heap.size w W→W.cell? ⟨b,of,none⟩=some (.bool x.text)):=fun W hW=>(World.cell?_of_block (a:=⟨b,of,none⟩) (hW.block b hbw)).trans c0
     clear c0
     generalize x.text=tx at *
     cases tx with
     | false =>
       go_enter Tryz.func142,Tryz.ntmps142
       go_wp2_with fail;refine (HC.out _ hb).mono ?_;rintro e w1 ⟨rfl,hb1⟩;have hB1:=hb.trans (hb1.mono hb.size);have hz1:w.heap.size<w1.heap.size:=by have:=hb1.size;simp at this;omega
       have HB1:Hid (w1.heap[w.heap.size]?=some (.cells #[.int .i64 k,.int .i64 0,.slice ca ct.length cc,.string nm,.string s] 24 (0,0))):=yn hb1;obtain ⟨x10,x11,x12,x13,x14⟩:=yX HB1.out;go_wp2_with fail;refine (HM.out _).mono ?_;rintro e w2 ⟨rfl,hb2⟩;have hB2:=hB1.trans (hb2.mono (by omega))
       have hz2:w.heap.size<w2.heap.size:=by have:=hb2.size;omega
       have HB2:Hid (w2.heap[w.heap.size]?=some (.cells #[.int .i64 k,.int .i64 0,.slice ca ct.length cc,.string nm,.string s] 24 (0,0))):=(hb2.block _ (by omega)).trans HB1.out
       clear x10 x11 x12 x13 x14;obtain ⟨x20,x21,x22,x23,x24⟩:=yX HB2.out;go_wp2_with fail;refine (HT.out _).mono ?_;rintro e w3 ⟨rfl,hb3⟩;have hB3:=hB2.trans (hb3.mono (by omega))
       have hz3:w.heap.size<w3.heap.size:=by have:=hb3.size;omega
       have HB3:Hid (w3.heap[w.heap.size]?=some (.cells #[.int .i64 k,.int .i64 0,.slice ca ct.length cc,.string nm,.string s] 24 (0,0))):=(hb3.block _ (by omega)).trans HB2.out
       clear x20 x21 x22 x23 x24;obtain ⟨x30,x31,x32,x33,x34⟩:=yX HB3.out;go_wp2_with fail;refine (HP.out _).mono ?_;rintro e w4 ⟨rfl,rfl⟩;have e0:=d0.out _ hB3;go_wp2_with fail;go_ret;exact ⟨by rw[HR3.out];rfl,hB3⟩
     | true =>
       by_cases h7:k=7
       · subst h7
         go_enter Tryz.func142,Tryz.ntmps142
         go_wp2_with fail;refine (HC.out _ hb).mono ?_;rintro e w1 ⟨rfl,hb1⟩;have hB1:=hb.trans (hb1.mono hb.size);have hz1:w.heap.size<w1.heap.size:=by have:=hb1.size;simp at this;omega
         have HB1:Hid (w1.heap[w.heap.size]?=some (.cells #[.int .i64 7,.int .i64 0,.slice ca ct.length cc,.string nm,.string s] 24 (0,0))):=yn hb1;obtain ⟨x10,x11,x12,x13,x14⟩:=yX HB1.out;go_wp2_with fail;refine (HM.out _).mono ?_;rintro e w2 ⟨rfl,hb2⟩;have hB2:=hB1.trans (hb2.mono (by omega))
         have hz2:w.heap.size<w2.heap.size:=by have:=hb2.size;omega
         have HB2:Hid (w2.heap[w.heap.size]?=some (.cells #[.int .i64 7,.int .i64 0,.slice ca ct.length cc,.string nm,.string s] 24 (0,0))):=(hb2.block _ (by omega)).trans HB1.out
         clear x10 x11 x12 x13 x14;obtain ⟨x20,x21,x22,x23,x24⟩:=yX HB2.out;go_wp2_with fail;refine (HT.out _).mono ?_;rintro e w3 ⟨rfl,hb3⟩;have hB3:=hB2.trans (hb3.mono (by omega))
         have hz3:w.heap.size<w3.heap.size:=by have:=hb3.size;omega
         have HB3:Hid (w3.heap[w.heap.size]?=some (.cells #[.int .i64 7,.int .i64 0,.slice ca ct.length cc,.string nm,.string s] 24 (0,0))):=(hb3.block _ (by omega)).trans HB2.out
         clear x20 x21 x22 x23 x24;obtain ⟨x30,x31,x32,x33,x34⟩:=yX HB3.out;go_wp2_with fail;refine (HP.out _).mono ?_;rintro e w4 ⟨rfl,rfl⟩;have e0:=d0.out _ hB3;go_wp2_with fail;refine (HP.out _).mono ?_;rintro e w5 ⟨rfl,rfl⟩;go_wp2_with fail;go_ret;exact ⟨by rw[HR3.out];rfl,hB3⟩
       · have HR4 : Hid (R = 4) := by show _ = _;rw[HR3.out];simp[h7]
         have b7:(k==7)=false:=by simpa using h7
         clear HR3 h7
         go_enter Tryz.func142,Tryz.ntmps142
         go_wp2_with fail;refine (HC.out _ hb).mono ?_;rintro e w1 ⟨rfl,hb1⟩;have hB1:=hb.trans (hb1.mono hb.size);have hz1:w.heap.size<w1.heap.size:=by have:=hb1.size;simp at this;omega
         have HB1:Hid (w1.heap[w.heap.size]?=some (.cells #[.int .i64 k,.int .i64 0,.slice ca ct.length cc,.string nm,.string s] 24 (0,0))):=yn hb1;obtain ⟨x10,x11,x12,x13,x14⟩:=yX HB1.out;go_wp2_with fail;refine (HM.out _).mono ?_;rintro e w2 ⟨rfl,hb2⟩;have hB2:=hB1.trans (hb2.mono (by omega))
         have hz2:w.heap.size<w2.heap.size:=by have:=hb2.size;omega
         have HB2:Hid (w2.heap[w.heap.size]?=some (.cells #[.int .i64 k,.int .i64 0,.slice ca ct.length cc,.string nm,.string s] 24 (0,0))):=(hb2.block _ (by omega)).trans HB1.out
         clear x10 x11 x12 x13 x14;obtain ⟨x20,x21,x22,x23,x24⟩:=yX HB2.out;go_wp2_with fail;refine (HT.out _).mono ?_;rintro e w3 ⟨rfl,hb3⟩;have hB3:=hB2.trans (hb3.mono (by omega))
         have hz3:w.heap.size<w3.heap.size:=by have:=hb3.size;omega
         have HB3:Hid (w3.heap[w.heap.size]?=some (.cells #[.int .i64 k,.int .i64 0,.slice ca ct.length cc,.string nm,.string s] 24 (0,0))):=(hb3.block _ (by omega)).trans HB2.out
         clear x20 x21 x22 x23 x24;obtain ⟨x30,x31,x32,x33,x34⟩:=yX HB3.out;go_wp2_with fail;refine (HP.out _).mono ?_;rintro e w4 ⟨rfl,rfl⟩;have e0:=d0.out _ hB3;go_wp2_with fail;refine (HP.out _).mono ?_;rintro e w5 ⟨rfl,rfl⟩;go_wp2_with fail;go_ret;exact ⟨by rw[HR4.out];rfl,hB3⟩
 · obtain ⟨i, rfl⟩ : ∃ i : Nat, tg = (i : Int) := ⟨tg.toNat, by omega⟩
   have hil:i<ns.length:=by omega
   obtain ⟨x,hxi⟩:∃ x,ns[i]?=some x:=⟨ns[i],by simp[hil]⟩
   have HR3:Hid (R=if x.text&&!(zX k)&&!(decide (k=7)) then 4 else 0):=by
    show _=_
    rw[HR2.out,HX.out i,hxi,decide_eq_false h0];simp
   obtain ⟨b,of,cap,va,vk,hv,_,_,hSb,hbw,c0,c1,c2,c3,c4,hAt,hKi⟩:=HN.out.at hxi
   clear HR2 HX HN c1 c2 c3 c4 hAt hKi hSb hxi
   injection hv with hv1 _ hv2
   subst hv1 hv2;have d0:Hid (∀ W,Below w.heap.size w W→W.cell? ⟨b,of+i*5,none⟩=some (.bool x.text)):=fun W hW=>(World.cell?_of_block (a:=⟨b,of+i*5,none⟩) (hW.block b hbw)).trans c0
   have hi0:((i:Int)==0)=false:=by simpa using h0
   clear c0 h0
   generalize ns.length=L at *
   generalize zX k=pb at *
   generalize x.text=tx at *
   cases tx with
   | false =>
     go_enter Tryz.func142,Tryz.ntmps142
     go_wp2_with fail;refine (HC.out _ hb).mono ?_;rintro e w1 ⟨rfl,hb1⟩;have hB1:=hb.trans (hb1.mono hb.size);have hz1:w.heap.size<w1.heap.size:=by have:=hb1.size;simp at this;omega
     have HB1:Hid (w1.heap[w.heap.size]?=some (.cells #[.int .i64 k,.int .i64 (i:Int),.slice ca ct.length cc,.string nm,.string s] 24 (0,0))):=yn hb1;obtain ⟨x10,x11,x12,x13,x14⟩:=yX HB1.out;go_wp2_with fail;refine (HM.out _).mono ?_;rintro e w2 ⟨rfl,hb2⟩;have hB2:=hB1.trans (hb2.mono (by omega))
     have hz2:w.heap.size<w2.heap.size:=by have:=hb2.size;omega
     have HB2:Hid (w2.heap[w.heap.size]?=some (.cells #[.int .i64 k,.int .i64 (i:Int),.slice ca ct.length cc,.string nm,.string s] 24 (0,0))):=(hb2.block _ (by omega)).trans HB1.out
     clear x10 x11 x12 x13 x14;obtain ⟨x20,x21,x22,x23,x24⟩:=yX HB2.out;go_wp2_with fail;refine (HT.out _).mono ?_;rintro e w3 ⟨rfl,hb3⟩;have hB3:=hB2.trans (hb3.mono (by omega))
     have hz3:w.heap.size<w3.heap.size:=by have:=hb3.size;omega
     have e0:=d0.out _ hB3;have HB3:Hid (w3.heap[w.heap.size]?=some (.cells #[.int .i64 k,.int .i64 (i:Int),.slice ca ct.length cc,.string nm,.string s] 24 (0,0))):=(hb3.block _ (by omega)).trans HB2.out
     clear x20 x21 x22 x23 x24;obtain ⟨x30,x31,x32,x33,x34⟩:=yX HB3.out;go_wp2_with fail;go_ret;exact ⟨by rw[HR3.out];rfl,hB3⟩
   | true =>
     cases pb with
     | true =>
       go_enter Tryz.func142,Tryz.ntmps142
       go_wp2_with fail;refine (HC.out _ hb).mono ?_;rintro e w1 ⟨rfl,hb1⟩;have hB1:=hb.trans (hb1.mono hb.size);have hz1:w.heap.size<w1.heap.size:=by have:=hb1.size;simp at this;omega
       have HB1:Hid (w1.heap[w.heap.size]?=some (.cells #[.int .i64 k,.int .i64 (i:Int),.slice ca ct.length cc,.string nm,.string s] 24 (0,0))):=yn hb1;obtain ⟨x10,x11,x12,x13,x14⟩:=yX HB1.out;go_wp2_with fail;refine (HM.out _).mono ?_;rintro e w2 ⟨rfl,hb2⟩;have hB2:=hB1.trans (hb2.mono (by omega))
       have hz2:w.heap.size<w2.heap.size:=by have:=hb2.size;omega
       have HB2:Hid (w2.heap[w.heap.size]?=some (.cells #[.int .i64 k,.int .i64 (i:Int),.slice ca ct.length cc,.string nm,.string s] 24 (0,0))):=(hb2.block _ (by omega)).trans HB1.out
       clear x10 x11 x12 x13 x14;obtain ⟨x20,x21,x22,x23,x24⟩:=yX HB2.out;go_wp2_with fail;refine (HT.out _).mono ?_;rintro e w3 ⟨rfl,hb3⟩;have hB3:=hB2.trans (hb3.mono (by omega))
       have hz3:w.heap.size<w3.heap.size:=by have:=hb3.size;omega
       have e0:=d0.out _ hB3;have HB3:Hid (w3.heap[w.heap.size]?=some (.cells #[.int .i64 k,.int .i64 (i:Int),.slice ca ct.length cc,.string nm,.string s] 24 (0,0))):=(hb3.block _ (by omega)).trans HB2.out
       clear x20 x21 x22 x23 x24;obtain ⟨x30,x31,x32,x33,x34⟩:=yX HB3.out;go_wp2_with fail;refine (HP.out _).mono ?_;rintro e w5 ⟨rfl,rfl⟩;go_wp2_with fail;go_ret;exact ⟨by rw[HR3.out];rfl,hB3⟩
     | false =>
       by_cases h7:k=7
       · subst h7
         go_enter Tryz.func142,Tryz.ntmps142
         go_wp2_with fail;refine (HC.out _ hb).mono ?_;rintro e w1 ⟨rfl,hb1⟩;have hB1:=hb.trans (hb1.mono hb.size);have hz1:w.heap.size<w1.heap.size:=by have:=hb1.size;simp at this;omega
         have HB1:Hid (w1.heap[w.heap.size]?=some (.cells #[.int .i64 7,.int .i64 (i:Int),.slice ca ct.length cc,.string nm,.string s] 24 (0,0))):=yn hb1;obtain ⟨x10,x11,x12,x13,x14⟩:=yX HB1.out;go_wp2_with fail;refine (HM.out _).mono ?_;rintro e w2 ⟨rfl,hb2⟩;have hB2:=hB1.trans (hb2.mono (by omega))
         have hz2:w.heap.size<w2.heap.size:=by have:=hb2.size;omega
         have HB2:Hid (w2.heap[w.heap.size]?=some (.cells #[.int .i64 7,.int .i64 (i:Int),.slice ca ct.length cc,.string nm,.string s] 24 (0,0))):=(hb2.block _ (by omega)).trans HB1.out
         clear x10 x11 x12 x13 x14;obtain ⟨x20,x21,x22,x23,x24⟩:=yX HB2.out;go_wp2_with fail;refine (HT.out _).mono ?_;rintro e w3 ⟨rfl,hb3⟩;have hB3:=hB2.trans (hb3.mono (by omega))
         have hz3:w.heap.size<w3.heap.size:=by have:=hb3.size;omega
         have e0:=d0.out _ hB3;have HB3:Hid (w3.heap[w.heap.size]?=some (.cells #[.int .i64 7,.int .i64 (i:Int),.slice ca ct.length cc,.string nm,.string s] 24 (0,0))):=(hb3.block _ (by omega)).trans HB2.out
         clear x20 x21 x22 x23 x24;obtain ⟨x30,x31,x32,x33,x34⟩:=yX HB3.out;go_wp2_with fail;refine (HP.out _).mono ?_;rintro e w5 ⟨rfl,rfl⟩;go_wp2_with fail;go_ret;exact ⟨by rw[HR3.out];rfl,hB3⟩
       · have HR4 : Hid (R = 4) := by show _ = _;rw[HR3.out];simp[h7]
         have b7:(k==7)=false:=by simpa using h7
         clear HR3 h7
         go_enter Tryz.func142,Tryz.ntmps142
         go_wp2_with fail;refine (HC.out _ hb).mono ?_;rintro e w1 ⟨rfl,hb1⟩;have hB1:=hb.trans (hb1.mono hb.size);have hz1:w.heap.size<w1.heap.size:=by have:=hb1.size;simp at this;omega
         have HB1:Hid (w1.heap[w.heap.size]?=some (.cells #[.int .i64 k,.int .i64 (i:Int),.slice ca ct.length cc,.string nm,.string s] 24 (0,0))):=yn hb1;obtain ⟨x10,x11,x12,x13,x14⟩:=yX HB1.out;go_wp2_with fail;refine (HM.out _).mono ?_;rintro e w2 ⟨rfl,hb2⟩;have hB2:=hB1.trans (hb2.mono (by omega))
         have hz2:w.heap.size<w2.heap.size:=by have:=hb2.size;omega
         have HB2:Hid (w2.heap[w.heap.size]?=some (.cells #[.int .i64 k,.int .i64 (i:Int),.slice ca ct.length cc,.string nm,.string s] 24 (0,0))):=(hb2.block _ (by omega)).trans HB1.out
         clear x10 x11 x12 x13 x14;obtain ⟨x20,x21,x22,x23,x24⟩:=yX HB2.out;go_wp2_with fail;refine (HT.out _).mono ?_;rintro e w3 ⟨rfl,hb3⟩;have hB3:=hB2.trans (hb3.mono (by omega))
         have hz3:w.heap.size<w3.heap.size:=by have:=hb3.size;omega
         have e0:=d0.out _ hB3;have HB3:Hid (w3.heap[w.heap.size]?=some (.cells #[.int .i64 k,.int .i64 (i:Int),.slice ca ct.length cc,.string nm,.string s] 24 (0,0))):=(hb3.block _ (by omega)).trans HB2.out
         clear x20 x21 x22 x23 x24;obtain ⟨x30,x31,x32,x33,x34⟩:=yX HB3.out;go_wp2_with fail;refine (HP.out _).mono ?_;rintro e w5 ⟨rfl,rfl⟩;go_wp2_with fail;go_ret;exact ⟨by rw[HR4.out];rfl,hB3⟩
end
section
attribute [local go_sem] qd
set_option maxHeartbeats 4000000 in
theorem Ks (a b:Opn)(va vb:Value)(w:World) :
 Calls Tryz.prog 145 #[.agg #[.int .i64 a.kind,.int .i64 a.target,va,.string a.name,.string a.s],.agg #[.int .i64 b.kind,.int .i64 b.target,vb,.string b.name,.string b.s]] w fun e w'=>e=.returned (.bool (agB a b))∧Below w.heap.size w w':=by
 have HA:Hid (agB a b=(decide (a.target=b.target)&&((decide (a.kind=6)&&decide (b.kind=6))||(decide (a.kind=7)&&decide (b.kind=7))||(decide (a.kind=8)&&decide (b.kind=8)) ||
  ((decide (a.kind=9)||decide (a.kind=10))&&(decide (b.kind=9)||decide (b.kind=10))&&decide (a.name=b.name))))):=rfl
 have hb:=(Below.alloc1 w (.cells #[.int .i64 a.kind,.int .i64 a.target,va,.string a.name,.string a.s] 24)).alloc (by simp) (.cells #[.int .i64 b.kind,.int .i64 b.target,vb,.string b.name,.string b.s] 24)
 generalize agB a b=R at *
 obtain ⟨k,tg,ct,nm,s⟩:=a;obtain ⟨k',tg',ct',nm',s'⟩:=b;dsimp only at *
 by_cases ht:tg=tg'
 · subst ht
   by_cases h6:k=6
   · subst h6
     by_cases g:k'=6
     · subst g;have HR:Hid (R=true):=by show _=_;rw[HA.out];simp
       clear HA
       go_enter Tryz.func145,Tryz.ntmps145
       go_wp2_with fail;go_ret;exact ⟨by rw[HR.out];rfl,hb⟩
     · have HR : Hid (R = false) := by show _ = _;rw[HA.out];simp[g]
       have b1:(k'==6)=false:=by simpa using g
       have b2:((6:Int)==k')=false:=by simpa using fun e=>g e.symm
       clear HA g
       go_enter Tryz.func145,Tryz.ntmps145
       go_wp2_with fail;go_ret;exact ⟨by rw[HR.out];rfl,hb⟩
   by_cases h7:k=7
   · subst h7
     by_cases g:k'=7
     · subst g;have HR:Hid (R=true):=by show _=_;rw[HA.out];simp
       clear HA
       go_enter Tryz.func145,Tryz.ntmps145
       go_wp2_with fail;go_ret;exact ⟨by rw[HR.out];rfl,hb⟩
     · have HR : Hid (R = false) := by show _ = _;rw[HA.out];simp[g]
       have b1:(k'==7)=false:=by simpa using g
       have b2:((7:Int)==k')=false:=by simpa using fun e=>g e.symm
       clear HA g
       go_enter Tryz.func145,Tryz.ntmps145
       go_wp2_with fail;go_ret;exact ⟨by rw[HR.out];rfl,hb⟩
   by_cases h8:k=8
   · subst h8
     by_cases g:k'=8
     · subst g;have HR:Hid (R=true):=by show _=_;rw[HA.out];simp
       clear HA
       go_enter Tryz.func145,Tryz.ntmps145
       go_wp2_with fail;go_ret;exact ⟨by rw[HR.out];rfl,hb⟩
     · have HR : Hid (R = false) := by show _ = _;rw[HA.out];simp[g]
       have b1:(k'==8)=false:=by simpa using g
       have b2:((8:Int)==k')=false:=by simpa using fun e=>g e.symm
       clear HA g
       go_enter Tryz.func145,Tryz.ntmps145
       go_wp2_with fail;go_ret;exact ⟨by rw[HR.out];rfl,hb⟩
   by_cases h9:k=9
   · subst h9
     by_cases g9:k'=9
     · subst g9;have HR:Hid (R=decide (nm=nm')):=by show _=_;rw[HA.out];simp
       clear HA
       go_enter Tryz.func145,Tryz.ntmps145
       go_wp2_with fail;go_ret;exact ⟨by rw[HR.out,xK];rfl,hb⟩
     by_cases g10:k'=10
     · subst g10;have HR:Hid (R=decide (nm=nm')):=by show _=_;rw[HA.out];simp
       clear HA
       go_enter Tryz.func145,Tryz.ntmps145
       go_wp2_with fail;go_ret;exact ⟨by rw[HR.out,xK];rfl,hb⟩
     have HR:Hid (R=false):=by show _=_;rw[HA.out];simp[g9,g10]
     have b1:(k'==9)=false:=by simpa using g9
     have b2:(k'==10)=false:=by simpa using g10
     clear HA g9 g10
     go_enter Tryz.func145,Tryz.ntmps145
     go_wp2_with fail;go_ret;exact ⟨by rw[HR.out];rfl,hb⟩
   by_cases h10:k=10
   · subst h10
     by_cases g9:k'=9
     · subst g9;have HR:Hid (R=decide (nm=nm')):=by show _=_;rw[HA.out];simp
       clear HA
       go_enter Tryz.func145,Tryz.ntmps145
       go_wp2_with fail;go_ret;exact ⟨by rw[HR.out,xK];rfl,hb⟩
     by_cases g10:k'=10
     · subst g10;have HR:Hid (R=decide (nm=nm')):=by show _=_;rw[HA.out];simp
       clear HA
       go_enter Tryz.func145,Tryz.ntmps145
       go_wp2_with fail;go_ret;exact ⟨by rw[HR.out,xK];rfl,hb⟩
     have HR:Hid (R=false):=by show _=_;rw[HA.out];simp[g9,g10]
     have b1:(k'==9)=false:=by simpa using g9
     have b2:(k'==10)=false:=by simpa using g10
     clear HA g9 g10
     go_enter Tryz.func145,Tryz.ntmps145
     go_wp2_with fail;go_ret;exact ⟨by rw[HR.out];rfl,hb⟩
   have HR:Hid (R=false):=by show _=_;rw[HA.out];simp[h6,h7,h8,h9,h10]
   have b6:(k==6)=false:=by simpa using h6
   have b7:(k==7)=false:=by simpa using h7
   have b8:(k==8)=false:=by simpa using h8
   have b9:(k==9)=false:=by simpa using h9
   have b10:(k==10)=false:=by simpa using h10
   clear HA h6 h7 h8 h9 h10
   go_enter Tryz.func145,Tryz.ntmps145
   go_wp2_with fail;go_ret;exact ⟨by rw[HR.out];rfl,hb⟩
 · have HR : Hid (R = false) := by show _ = _;rw[HA.out, decide_eq_false ht];rfl
   have b1:(tg==tg')=false:=by simpa using ht
   clear HA ht
   go_enter Tryz.func145,Tryz.ntmps145
   go_wp2_with fail;go_ret;exact ⟨by rw[HR.out];rfl,hb⟩
end
end Go.Proofs.YtfplhcicbbhljaaGreatDoor
