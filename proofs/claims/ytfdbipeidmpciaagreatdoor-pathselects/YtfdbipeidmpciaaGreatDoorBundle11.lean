/- Bundled: LayM DocK DocT DocU LayB DocN SizeM ContM Fam PathM PathR Steps CalledR NGrow Lay DocMk DocB MakeM TreeM TreeO CopyD RefSize TreeC SameN WithR. What each says stands ahead of it. -/
import Derived.Test.YtfdbipeidmpciaaGreatDoorBundle07
import Derived.Test.YtfdbipeidmpciaaGreatDoorBundle10
namespace Go.Proofs.YtfdbipeidmpciaaGreatDoor
open Go.ChangeShapes Go.WideShapes Go.ChangeAt Go.RowKit
set_option maxRecDepth 100000
def qi (d:Nat):Nat→List Tr→List Int
 | _,[]=>[]
 | at',k::ks=>(at':Int)::qi d (at'+cnt (d+1) [k]) ks
def qn (d:Nat)(g:Tr→Int→Nat→List Nd)(par:Nat):Nat→List Tr→List Nd
 | _,[]=>[]
 | at',k::ks=>g k par at'++qn d g par (at'+cnt (d+1) [k]) ks
def layF:Nat→Tr→Int→Nat→List Nd
 | 0,t,par,_=>[⟨t.text,t.s,t.attrs,par,[]⟩]
 | d+1,t,par,at'=>⟨t.text,t.s,t.attrs,par,qi d (at'+1) t.kids⟩::qn d (layF d) at' (at'+1) t.kids
theorem qt (d:Nat)(t:Tr):cnt (d+1) [t]=1+cnt d t.kids:=by simp[cnt]
theorem qS (d:Nat)(t:Tr)(r:List Tr):cnt (d+1) (t::r)=cnt (d+1) [t]+cnt (d+1) r:=by simp[cnt]
theorem jp (d:Nat)(g:Tr→Int→Nat→List Nd)(par:Nat):∀ (a b:List Tr)(at':Nat),qn d g par at' (a++b)=qn d g par at' a++qn d g par (at'+cnt (d+1) a) b:=by
 intro a
 induction a with
 | nil=>intro b at';simp[qn,cnt]
 | cons k a ih =>
   intro b at'
   rw[List.cons_append,qn,qn,ih,qS d k a,List.append_assoc,Nat.add_assoc]
theorem yQ (d:Nat):∀ (a b:List Tr)(at':Nat),qi d at' (a++b)=qi d at' a++qi d (at'+cnt (d+1) a) b:=by
 intro a
 induction a with
 | nil=>intro b at';simp[qi,cnt]
 | cons k a ih =>
   intro b at'
   rw[List.cons_append,qi,qi,ih,qS d k a,List.cons_append,Nat.add_assoc]
theorem layF_length:∀ (d:Nat)(t:Tr)(par:Int)(at':Nat),Deep d t.kids→(layF d t par at').length=cnt (d+1) [t]:=by
 intro d
 induction d with
 | zero =>
   intro t par at' h
   have:t.kids=[]:=h;rw[qt,this];rfl
 | succ d ih =>
   intro t par at' h
   rw[layF,List.length_cons,qt]
   have:∀ (ts:List Tr) (a:Nat),Deep (d+1) ts→(qn d (layF d) at' a ts).length=cnt (d+1) ts:=by
    intro ts
    induction ts with
    | nil=>intro _ _;rfl
    | cons k ts ih2 =>
      intro a hd;rw[qn,List.length_append,ih k _ _ (hd k List.mem_cons_self),ih2 _ (fun u hu=>hd u (List.mem_cons_of_mem _ hu)),qS d k ts]
   rw[this t.kids (at'+1) h]
   omega
structure Rw where
 text:Bool
 s:ByteArray
 va:Value
 par:Int
 vk:Value
def rawCells:List Rw→List Value
 | []=>[]
 | r::l=>.bool r.text::.string r.s::r.va::.int .i64 r.par::r.vk::rawCells l
theorem ys (l:List Rw):∀ i r,l[i]?=some r→(rawCells l)[i*5]?=some (.bool r.text)∧(rawCells l)[i*5+1]?=some (.string r.s)∧(rawCells l)[i*5+2]?=some r.va∧(rawCells l)[i*5+3]?=some (.int .i64 r.par)∧(rawCells l)[i*5+4]?=some r.vk:=by
 induction l with
 | nil=>intro i x h;simp at h
 | cons y r ih =>
   intro i x h;cases i with
   | zero=>simp at h;subst h;simp[rawCells]
   | succ i =>
     have:=ih i x (by simpa using h)
     rw[show (i+1)*5=i*5+5 from by omega]
     simpa[rawCells] using this
theorem js (l:List Rw):∀ (i:Nat)(r:Rw)(v:Value),l[i]?=some r→rawCells (l.set i { r with vk:=v })=(rawCells l).set (i*5+4) v:=by
 induction l with
 | nil=>intro i r v h;simp at h
 | cons y l ih =>
   intro i r v h;cases i with
   | zero=>simp at h;subst h;simp[rawCells]
   | succ i =>
     rw[List.set_cons_succ,rawCells,ih i r v (by simpa using h),show (i+1)*5=i*5+5 from by omega,rawCells]
     rfl
end Go.Proofs.YtfdbipeidmpciaaGreatDoor
namespace Go.Proofs.YtfdbipeidmpciaaGreatDoor
open Go.RowKit
set_option maxRecDepth 100000
def ZF (ns:List Nd)(i:Nat):Prop:=∀ x,ns[i]?=some x→x.kids.length≤ns.length∧∀ k∈x.kids,(i:Int)<k∧k<ns.length
def QV (ns:List Nd)(a b:Nat):Prop:=a≤b∧b≤ns.length∧∀ i,a≤i→i<b→ZF ns i
theorem xw {ns:List Nd}{G:Nat→Bool × Nat}(hG:∀ m,(G m).1=true→m<(G m).2∧QV ns m (G m).2) :
 ∀ (ks:List Int) (m:Nat),m≤ns.length→(ql G ks m).1=true→QV ns m (ql G ks m).2∧ks.length+m≤(ql G ks m).2∧∀ k∈ks,(m:Int)≤k∧k<(ql G ks m).2:=by
 intro ks
 induction ks with
 | nil=>intro m hm _;exact ⟨⟨nR9 _,hm,fun i h1 h2=>absurd h1 (by have:i<m:=h2;omega)⟩,by simp[ql],by intro k hk;simp at hk⟩
 | cons k ks ih =>
   intro m _ h;unfold ql at h ⊢
   by_cases hc:k=(m:Int)∧(G m).1=true
   · rw[if_pos hc]at h ⊢
     obtain ⟨h1,h2,h3,h4⟩:=hG m hc.2;obtain ⟨⟨k1,k2,k3⟩,k4,k5⟩:=ih (G m).2 h3 h;refine ⟨⟨by omega,k2,fun i hi1 hi2=>?_⟩,by simp;omega,fun k' hk'=>?_⟩
     · rcases Nat.lt_or_ge i (G m).2 with h' | h'
       · exact h4 i hi1 h'
       · exact k3 i h' hi2
     · rw[List.mem_cons]at hk'
       rcases hk' with rfl|hk'
       · rw[hc.1];omega
       · have:=k5 k' hk';omega
   · rw[if_neg hc]at h;simp at h
theorem ordF_seg:∀ (f:Nat)(ns:List Nd)(par:Int)(nx:Nat),(ordF f ns par nx).1=true→nx<(ordF f ns par nx).2∧QV ns nx (ordF f ns par nx).2:=by
 intro f
 induction f with
 | zero=>intro ns par nx h;simp[ordF]at h
 | succ f ih =>
   intro ns par nx h;unfold ordF at h ⊢
   cases hx:ns[nx]? with
   | none=>simp[hx]at h
   | some x =>
     simp only[hx]at h ⊢
     have hlt:nx<ns.length:=by
      rcases Nat.lt_or_ge nx ns.length with h'|h'
      · exact h'
      · rw[List.getElem?_eq_none h']at hx;cases hx
     by_cases hp:x.parent=par
     · rw[if_pos hp]at h ⊢
       obtain ⟨⟨k1,k2,k3⟩,k4,k5⟩:=xw (fun m hm=>ih ns nx m hm) x.kids (nx+1) (by omega) h
       refine ⟨by omega,by omega,k2,fun i hi1 hi2=>?_⟩
       rcases Nat.lt_or_ge nx i with h'|h'
       · exact k3 i h' hi2
       · have : i = nx := by omega
         subst this;intro y hy;rw[hx]at hy
         cases hy;refine ⟨by omega,fun k hk=>?_⟩
         have:=k5 k hk;omega
     · rw[if_neg hp]at h;simp at h
theorem yf {f:Nat}{ns:List Nd}(h:ordF f ns (-1) 0=(true,ns.length))(hl:ns.length≤80)(ha:∀ x∈ns,x.attrs.length≤4398046511104):xN ns:=by
 have h1:=ordF_seg f ns (-1) 0 (by rw[h])
 rw[h]at h1
 intro n x hx
 have hlt:n<ns.length:=by
  rcases Nat.lt_or_ge n ns.length with h'|h'
  · exact h'
  · rw[List.getElem?_eq_none h']at hx;cases hx
 obtain ⟨k1,k2⟩:=h1.2.2.2 n (nZ9 _) hlt x hx;exact ⟨ha x (List.mem_of_getElem? hx),by omega,k2⟩
def yz (ns:List Nd):Prop:=∀ x∈ns,x.s.size≤maxLen∧∀ y∈x.attrs,y.1.size≤maxLen∧y.2.size≤maxLen
theorem xQ {ns:List Nd}(h:yz ns):∀ (f n:Nat),Ql (growF f ns n)∧TextsN f (growF f ns n).kids:=by
 intro f
 induction f with
 | zero=>intro n;exact ⟨⟨nZ9 _,by intro y hy;simp[growF]at hy⟩,trivial⟩
 | succ f ih =>
   intro n;rw[growF];cases hx:ns[n]? with
   | none=>exact ⟨⟨nZ9 _,by intro y hy;simp at hy⟩,by intro t ht;simp at ht⟩
   | some x =>
     refine ⟨h x (List.mem_of_getElem? hx),fun t ht=>?_⟩
     simp only[List.mem_map]at ht
     obtain ⟨k,_,rfl⟩:=ht;exact ih _
end Go.Proofs.YtfdbipeidmpciaaGreatDoor
namespace Go.Proofs.YtfdbipeidmpciaaGreatDoor
open Go.ChangeShapes Go.WideShapes Go.ChangeAt Go.RowKit
set_option maxRecDepth 100000
section
attribute [local go_sem] qf
def zo (ns:List Nd):Bool:=(ordF (ns.length+1) ns (-1) 0).1&&decide ((ordF (ns.length+1) ns (-1) 0).2=ns.length)
def qg (ns:List Nd):Bool:=decide (ns.length≤80)&&zo ns&&qL (growF ns.length ns 0)
theorem ze {ns:List Nd}(h:zo ns=true):ordF (ns.length+1) ns (-1) 0=(true,ns.length):=by
 simp only[zo,Bool.and_eq_true,decide_eq_true_eq]at h
 exact Prod.ext h.1 h.2
theorem x7 {ns:List Nd}(h:zo ns=true):0<ns.length:=by
 have h1:=ordF_seg (ns.length+1) ns (-1) 0 (by rw[ze h])
 rw[ze h]at h1
 exact h1.1
set_option maxHeartbeats 1000000 in
theorem Qu (S:Nat→Prop)(v:Value)(ns:List Nd)(w:World)(hN:qr S w v ns)(hS:∀ b,S b→b<w.heap.size)(ha:∀ x∈ns,x.attrs.length≤4398046511104)(hx:yz ns) :
 Calls Tryz.prog 12 #[.agg #[v]] w fun e w'=>e=.returned (.bool (qg ns))∧Below w.heap.size w w':=by
 obtain ⟨a,cap,rfl,hlc,hcm⟩:=hN.shape;unfold maxLen at hcm
 have HG:Hid (qg ns=(decide (ns.length≤80)&&zo ns&&qL (growF ns.length ns 0))):=rfl
 by_cases h80:ns.length≤80
 · have hi80 : ¬ (80 : Int) < (ns.length : Int) := by omega
   have HG2:Hid (qg ns=(zo ns&&qL (growF ns.length ns 0))):=by show _=_;rw[HG.out];simp[h80]
   clear HG;have hb2:Below w.heap.size w ((w.alloc (.cells #[.slice a ns.length cap] 24)).alloc (.cells #[.int .i64 0] 3)):=(Below.alloc1 w _).alloc (by simp) _
   have hC2:Cnt (w.heap.size+1) 0 ((w.alloc (.cells #[.slice a ns.length cap] 24)).alloc (.cells #[.int .i64 0] 3)):=by
    have e:=heap_alloc_new (w.alloc (.cells #[.slice a ns.length cap] 24)) (.cells #[.int .i64 0] 3);rw[World.size_alloc]at e
    exact e
   have hx2:((w.alloc (.cells #[.slice a ns.length cap] 24)).alloc (.cells #[.int .i64 0] 3)).heap[w.heap.size]?=some (.cells #[.slice a ns.length cap] 24 (0,0)):=by
    rw[Lib.alloc_old _ _ _ (by simp)];exact heap_alloc_new _ _
   have HO:Hid _:=Zu (ns.length+1) S _ ns (-1) (w.heap.size+1) 0 _ (hN.later hb2) (fun b hb=>by have:=hS b hb;omega) hC2 h80 (by omega)
   have HN:Hid (qr S w (.slice a ns.length cap) ns):=hN;have HA:Hid (∀ x∈ns,x.attrs.length≤4398046511104):=ha;have HX:Hid (yz ns):=hx;have HS:Hid (∀ b,S b→b<w.heap.size):=hS;have HOR:Hid (zo ns=((ordF (ns.length+1) ns (-1) 0).1&&decide ((ordF (ns.length+1) ns (-1) 0).2=ns.length))):=rfl;clear hN hC2 ha hx hS
   go_enter Tryz.func12,Tryz.ntmps12
   go_wp2_with fail;refine (Calls.mono HO.out ?_);rintro e w3 ⟨rfl,hC3,hF3⟩
   have hx3:w3.heap[w.heap.size]?=some (.cells #[.slice a ns.length cap] 24 (0,0)):=by
    rw[hF3.frame w.heap.size (by simp;omega) (by omega)];exact hx2
   have hB3:Below w.heap.size w w3:=⟨hF3.below.os.trans hb2.os,hF3.below.tape.trans hb2.tape,hF3.below.output.trans hb2.output,Nat.le_trans hb2.size hF3.below.size,fun k hk=>by rw[hF3.frame k (by simp;omega) (by omega)];exact hb2.block k hk⟩
   have d0:w3.cell? ⟨w.heap.size,0,none⟩=some (.slice a ns.length cap):=by rw[cH9 hx3];rfl
   have e0:=hC3.c0;have hlt3:=qe hx3;clear HO hb2 hx2 hF3;obtain ⟨q,hq⟩:∃ q,ordF (ns.length+1) ns (-1) 0=q:=⟨_,rfl⟩;rw[hq]at HOR e0 hC3 ⊢
   have HQ:Hid (ordF (ns.length+1) ns (-1) 0=q):=hq;clear hq;obtain ⟨q1,q2⟩:=q;simp only at HOR e0 hC3 ⊢
   cases q1 with
   | false =>
     have HE:Hid (qg ns=false):=by show _=_;rw[HG2.out,HOR.out];rfl
     clear HG2 HOR;go_wp2_with fail;go_ret;exact ⟨by rw[HE.out];rfl,hB3⟩
   | true =>
     by_cases hql:q2=ns.length
     · have hne : ((q2 : Int) != (ns.length : Int)) = false := by simp[hql]
       have hor:zo ns=true:=by rw[HOR.out,hql];simp
       have HE:Hid (qg ns=qL (growF ns.length ns 0)):=by show _=_;rw[HG2.out,hor];rfl
       have hpos:=x7 hor;have HGR:Hid _:=Qv ns.length S _ ns 0 w3 (HN.out.later hB3) (yf (ze hor) h80 HA.out) hpos (by omega)
       have HTX:Hid (TextsN (ns.length+1) [growF ns.length ns 0]):=by
        intro t ht;simp only[List.mem_singleton]at ht
        subst ht;exact xQ HX.out _ _
       clear HG2 HOR hor hql;go_wp2_with fail;refine (Calls.mono HGR.out ?_);rintro e w4 ⟨va4,vk4,rfl,hA4,hK4,hb4⟩;have hB4:Below w.heap.size w w4:=hB3.trans (hb4.mono hB3.size);have HGD:Hid _:=Q2 _ ns.length _ _ (growF ns.length ns 0) w4 hA4 hK4 HTX.out;obtain ⟨aa,ac,rfl⟩:=hA4.shape;obtain ⟨ka,kc,rfl,_,_⟩:=qd.shape ns.length hK4;clear hA4 hK4 HGR;go_wp2_with fail;refine (Calls.mono HGD.out ?_);rintro e w5 ⟨rfl,hb5⟩;have hB5:Below w.heap.size w w5:=hB4.trans (hb5.mono hB4.size);go_wp2_with fail;go_ret;exact ⟨by rw[HE.out];rfl,hB5⟩
     · have hne : ((q2 : Int) != (ns.length : Int)) = true := by simp;omega
       have HE:Hid (qg ns=false):=by show _=_;rw[HG2.out,HOR.out];simp[hql]
       clear HG2 HOR hql;go_wp2_with fail;go_ret;exact ⟨by rw[HE.out];rfl,hB3⟩
 · have hi80 : (80 : Int) < (ns.length : Int) := by omega
   have HE:Hid (qg ns=false):=by show _=_;rw[HG.out];simp[h80]
   clear HG hN
   go_enter Tryz.func12,Tryz.ntmps12
   go_wp2_with fail;go_ret;exact ⟨by rw[HE.out];rfl,Below.alloc1 _ _⟩
end
section
attribute [local go_sem] qf
structure zM (S:Nat→Prop) (w:World) (v:Value) (ns:List Nd):Prop where
 nodes:qr S w v ns
 here:∀ b,S b→b<w.heap.size
 few:∀ x∈ns,x.attrs.length≤4398046511104
 short:yz ns
theorem zM.later {S:Nat→Prop}{w w':World}{v:Value}{ns:List Nd}(h:zM S w v ns)(hb:Below w.heap.size w w'):zM S w' v ns :=
 ⟨h.nodes.later hb,fun b hb'=>Nat.lt_of_lt_of_le (h.here b hb') hb.size,h.few,h.short⟩
theorem zM.good {S:Nat→Prop}{w:World}{v:Value}{ns:List Nd}(h:zM S w v ns):Calls Tryz.prog 12 #[.agg #[v]] w fun e w'=>e=.returned (.bool (qg ns))∧Below w.heap.size w w' :=
 Qu S v ns w h.nodes h.here h.few h.short
theorem xP {S:Nat→Prop}{w:World}{v:Value}{ns:List Nd}(h:zM S w v ns)(hg:qg ns=true):xN ns:=by
 simp only[qg,Bool.and_eq_true,decide_eq_true_eq]at hg
 exact yf (ze hg.1.2) hg.1.1 h.few
def jS (ns:List Nd)(n:Int):Bool:=decide (0≤n)&&decide (n<ns.length)
def zR (ns:List Nd)(n:Int):Int:=if qg ns&&jS ns n then (lastF ns.length ns n.toNat:Int)+1 else 0
end
end Go.Proofs.YtfdbipeidmpciaaGreatDoor
namespace Go.Proofs.YtfdbipeidmpciaaGreatDoor
open Go.RowKit
set_option maxRecDepth 100000
def Seg (ns:List Nd)(at':Nat)(L:List Nd):Prop:=∀ (i:Nat)(x:Nd),L[i]?=some x→ns[at'+i]?=some x
theorem Seg.left {ns L M:List Nd}{at':Nat}(h:Seg ns at' (L++M)):Seg ns at' L:=by
 intro i x hx;refine h i x ?_
 have hi:i<L.length:=by
  rcases Nat.lt_or_ge i L.length with h'|h'
  · exact h'
  · rw[List.getElem?_eq_none h']at hx;cases hx
 rw[List.getElem?_append_left hi];exact hx
theorem Seg.right {ns L M:List Nd}{at':Nat}(h:Seg ns at' (L++M)):Seg ns (at'+L.length) M:=by
 intro i x hx;have:=h (L.length+i) x (by rw[List.getElem?_append_right (by omega)];rw[show L.length+i-L.length=i by omega];exact hx)
 rw[show at'+L.length+i=at'+(L.length+i) by omega];exact this
theorem Seg.tail {ns L:List Nd}{x:Nd}{at':Nat}(h:Seg ns at' (x::L)):Seg ns (at'+1) L:=by
 intro i y hy;have:=h (i+1) y (by simpa using hy)
 rw[show at'+1+i=at'+(i+1) by omega];exact this
theorem zd {d:Nat}{t:Tr}(h:Deep d t.kids)(par:Int)(nx:Nat):layF d t par nx=⟨t.text,t.s,t.attrs,par,qi (d-1) (nx+1) t.kids⟩::qn (d-1) (layF (d-1)) nx (nx+1) t.kids:=by
 cases d with
 | zero =>
   have e:t.kids=[]:=h;rw[e];rfl
 | succ d=>rfl
theorem ord_lay:∀ (d:Nat)(t:Tr)(f:Nat)(ns:List Nd)(par:Int)(at':Nat),Deep d t.kids→Seg ns at' (layF d t par at')→cnt (d+1) [t]≤f→ordF f ns par at'=(true,at'+cnt (d+1) [t]):=by
 intro d
 induction d with
 | zero =>
   intro t f ns par at' hd hs hf
   have e:t.kids=[]:=hd;rw[qt,e]at hf ⊢
   obtain ⟨f',rfl⟩:∃ f',f=f'+1:=⟨f-1,by omega⟩
   have h0:ns[at']?=some ⟨t.text,t.s,t.attrs,par,[]⟩:=hs 0 _ rfl
   rw[ordF,h0];simp[ql,cnt]
 | succ d ih =>
   intro t f ns par at' hd hs hf
   rw[qt]at hf ⊢
   obtain ⟨f',rfl⟩:∃ f',f=f'+1:=⟨f-1,by omega⟩
   have h0:ns[at']?=some ⟨t.text,t.s,t.attrs,par,qi d (at'+1) t.kids⟩:=hs 0 _ rfl
   have hsk:Seg ns (at'+1) (qn d (layF d) at' (at'+1) t.kids):=Seg.tail hs
   rw[ordF,h0];simp only[if_true]
   have key:∀ (ks:List Tr) (a:Nat),Deep (d+1) ks→Seg ns a (qn d (layF d) at' a ks)→cnt (d+1) ks≤f'→ql (ordF f' ns at') (qi d a ks) a=(true,a+cnt (d+1) ks):=by
    intro ks
    induction ks with
    | nil=>intro a _ _ _;simp[qi,ql,cnt]
    | cons k ks ihk =>
      intro a hdk hsg hc;rw[qS d k ks]at hc ⊢
      rw[qn]at hsg
      have hl:=layF_length d k (at':Int) a (hdk k List.mem_cons_self)
      have h1:=ih k f' ns at' a (hdk k List.mem_cons_self) hsg.left (by omega)
      have h2:=hsg.right;rw[hl]at h2
      rw[qi,ql,h1,if_pos ⟨rfl,rfl⟩,ihk (a+cnt (d+1) [k]) (fun u hu=>hdk u (List.mem_cons_of_mem _ hu)) h2 (by omega),Nat.add_assoc]
   rw[key t.kids (at'+1) hd hsk (by omega),Nat.add_assoc]
theorem grow_lay:∀ (d:Nat)(t:Tr)(f:Nat)(ns:List Nd)(par:Int)(at':Nat),Deep d t.kids→Seg ns at' (layF d t par at')→cnt (d+1) [t]≤f→growF f ns at'=t:=by
 intro d
 induction d with
 | zero =>
   intro t f ns par at' hd hs hf
   have e:t.kids=[]:=hd;rw[qt,e]at hf
   obtain ⟨f',rfl⟩:∃ f',f=f'+1:=⟨f-1,by omega⟩
   have h0:ns[at']?=some ⟨t.text,t.s,t.attrs,par,[]⟩:=hs 0 _ rfl
   rw[growF,h0];cases t;simp at e
   subst e;rfl
 | succ d ih =>
   intro t f ns par at' hd hs hf
   rw[qt]at hf
   obtain ⟨f',rfl⟩:∃ f',f=f'+1:=⟨f-1,by omega⟩
   have h0:ns[at']?=some ⟨t.text,t.s,t.attrs,par,qi d (at'+1) t.kids⟩:=hs 0 _ rfl
   have hsk:Seg ns (at'+1) (qn d (layF d) at' (at'+1) t.kids):=Seg.tail hs
   rw[growF,h0]
   have key:∀ (ks:List Tr) (a:Nat),Deep (d+1) ks→Seg ns a (qn d (layF d) at' a ks)→cnt (d+1) ks≤f'→(qi d a ks).map (fun k=>growF f' ns k.toNat)=ks:=by
    intro ks
    induction ks with
    | nil=>intro a _ _ _;rfl
    | cons k ks ihk =>
      intro a hdk hsg hc;rw[qS d k ks]at hc
      rw[qn]at hsg
      have hl:=layF_length d k (at':Int) a (hdk k List.mem_cons_self)
      have h1:=ih k f' ns at' a (hdk k List.mem_cons_self) hsg.left (by omega)
      have h2:=hsg.right;rw[hl]at h2
      rw[qi,List.map_cons,ihk (a+cnt (d+1) [k]) (fun u hu=>hdk u (List.mem_cons_of_mem _ hu)) h2 (by omega)]
      rw[Int.toNat_natCast,h1]
   simp only[key t.kids (at'+1) hd hsk (by omega)]
   cases t;rfl
theorem xF {d:Nat}:∀ (ks:List Tr)(a:Nat)(k:Tr),(qi d a (ks++[k])).getLast?=some ((a+cnt (d+1) ks:Nat):Int):=by
 intro ks a k;rw[yQ];simp[qi]
theorem last_lay:∀ (d:Nat)(t:Tr)(f:Nat)(ns:List Nd)(par:Int)(at':Nat),Deep d t.kids→Seg ns at' (layF d t par at')→cnt (d+1) [t]≤f→lastF f ns at'+1=at'+cnt (d+1) [t]:=by
 intro d
 induction d with
 | zero =>
   intro t f ns par at' hd hs hf
   have e:t.kids=[]:=hd;rw[qt,e]at hf ⊢
   obtain ⟨f',rfl⟩:∃ f',f=f'+1:=⟨f-1,by omega⟩
   have h0:ns[at']?=some ⟨t.text,t.s,t.attrs,par,[]⟩:=hs 0 _ rfl
   rw[lastF,h0];simp[cnt]
 | succ d ih =>
   intro t f ns par at' hd hs hf
   rw[qt]at hf ⊢
   obtain ⟨f',rfl⟩:∃ f',f=f'+1:=⟨f-1,by omega⟩
   have h0:ns[at']?=some ⟨t.text,t.s,t.attrs,par,qi d (at'+1) t.kids⟩:=hs 0 _ rfl
   have hsk:Seg ns (at'+1) (qn d (layF d) at' (at'+1) t.kids):=Seg.tail hs
   rw[lastF,h0];simp only
   rcases List.eq_nil_or_concat t.kids with he|⟨ks,k,he⟩
   · rw[he];simp[qi,cnt]
   · rw[List.concat_eq_append]at he
     rw[he]at hf hsk ⊢
     have hdk:Deep (d+1) (ks++[k]):=by rw[←he];exact hd
     have happ:cnt (d+1) (ks++[k])=cnt (d+1) ks+cnt (d+1) [k]:=by simp[cnt]
     rw[xF];simp only[Int.toNat_natCast];rw[jp]at hsk
     have hl:(qn d (layF d) at' (at'+1) ks).length=cnt (d+1) ks:=by
      have:∀ (ts:List Tr) (a:Nat),Deep (d+1) ts→(qn d (layF d) at' a ts).length=cnt (d+1) ts:=by
       intro ts
       induction ts with
       | nil=>intro _ _;rfl
       | cons u ts ih2 =>
         intro a hd2;rw[qn,List.length_append,layF_length d u _ _ (hd2 u List.mem_cons_self),ih2 _ (fun x hx=>hd2 x (List.mem_cons_of_mem _ hx)),qS d u ts]
      exact this _ _ (fun u hu=>hdk u (List.mem_append_left _ hu))
     have h2:=hsk.right;rw[hl]at h2
     have h3:qn d (layF d) at' (at'+1+cnt (d+1) ks) [k]=layF d k at' (at'+1+cnt (d+1) ks):=by simp[qn]
     rw[h3]at h2
     have:=ih k f' ns at' (at'+1+cnt (d+1) ks) (hdk k (by simp)) h2 (by omega)
     omega
theorem xC (L:List Nd):Seg L 0 L:=by intro i x hx;rw[Nat.zero_add];exact hx
theorem Seg.nil (ns:List Nd)(a:Nat):Seg ns a []:=by intro i x hx;simp at hx
theorem Seg.append {ns L M:List Nd}{a:Nat}(h:Seg ns a L)(k:Seg ns (a+L.length) M):Seg ns a (L++M):=by
 intro i x hx
 rcases Nat.lt_or_ge i L.length with h'|h'
 · rw[List.getElem?_append_left h']at hx;exact h i x hx
 · rw[List.getElem?_append_right h']at hx
   have:=k (i-L.length) x hx;rw[show a+L.length+(i-L.length)=a+i by omega]at this
   exact this
theorem Seg.cons {ns L:List Nd}{x:Nd}{a:Nat}(h:ns[a]?=some x)(k:Seg ns (a+1) L):Seg ns a (x::L):=by
 intro i y hy;cases i with
 | zero=>simp at hy;subst hy;exact h
 | succ i =>
   have:=k i y (by simpa using hy)
   rw[show a+(i+1)=a+1+i by omega];exact this
theorem ord_conv:∀ (f:Nat)(ns:List Nd)(par:Int)(nx:Nat),(ordF f ns par nx).1=true→∃ t:Tr,Deep f t.kids∧Seg ns nx (layF f t par nx)∧(ordF f ns par nx).2=nx+cnt (f+1) [t]:=by
 intro f
 induction f with
 | zero=>intro ns par nx h;simp[ordF]at h
 | succ f ih =>
   intro ns par nx h;rw[ordF]at h ⊢
   cases hx:ns[nx]? with
   | none=>simp[hx]at h
   | some x =>
     simp only[hx]at h ⊢
     by_cases hp:x.parent=par
     · rw[if_pos hp]at h ⊢
       have key:∀ (ks:List Int) (a:Nat),(ql (ordF f ns nx) ks a).1=true→∃ ts:List Tr,(∀ k∈ts,Deep f k.kids)∧ks=qi f a ts∧Seg ns a (qn f (layF f) nx a ts)∧(ql (ordF f ns nx) ks a).2=a+cnt (f+1) ts:=by
        intro ks
        induction ks with
        | nil=>intro a _;exact ⟨[],by simp,rfl,Seg.nil _ _,by simp[ql,qH]⟩
        | cons k ks ihk =>
          intro a hk;rw[ql]at hk ⊢
          by_cases hc:k=(a:Int)∧(ordF f ns nx a).1=true
          · rw[if_pos hc]at hk ⊢
            obtain ⟨t,ht1,ht2,ht3⟩:=ih ns nx a hc.2;rw[ht3]at hk ⊢
            obtain ⟨ts,hd,he,hs,hn⟩:=ihk _ hk;refine ⟨t::ts,?_,?_,?_,?_⟩
            · intro u hu;rw[List.mem_cons]at hu
              rcases hu with rfl|hu
              · exact ht1
              · exact hd u hu
            · rw[qi,←he,hc.1]
            · rw[qn];refine Seg.append ht2 ?_;rw[layF_length f t nx a ht1];exact hs
            · rw[hn,qS f t ts];omega
          · rw[if_neg hc]at hk;cases hk
       obtain ⟨ts,hd,he,hs,hn⟩:=key x.kids (nx+1) h;refine ⟨⟨x.text,x.s,x.attrs,ts⟩,hd,?_,?_⟩
       · rw[layF];refine Seg.cons ?_ hs;rw[hx];obtain ⟨xt,xs,xa,xp,xk⟩:=x;simp only at hp he
         rw[hp,he]
       · rw[hn,qt];show nx+1+cnt (f+1) ts=nx+(1+cnt (f+1) ts);omega
     · rw[if_neg hp]at h;cases h
def Sub (ns:List Nd)(j c:Nat)(par:Int):Prop:=∃ (d:Nat)(t:Tr),Deep d t.kids∧Seg ns j (layF d t par j)∧c=cnt (d+1) [t]
theorem Q0 {ns:List Nd}(hg:qg ns=true){j:Nat}(hj:j<ns.length):zR ns (j:Int)=(lastF ns.length ns j:Int)+1:=by
 unfold zR jS;have h1:(0:Int)≤j:=by omega
 have h2:(j:Int)<ns.length:=by omega
 simp[hg,h1,h2]
theorem Seg.in {ns L:List Nd}{a:Nat}(h:Seg ns a L)(hne:0<L.length):a+L.length≤ns.length:=by
 have h1:L[L.length-1]?=some (L[L.length-1]'(by omega)):=List.getElem?_eq_getElem (by omega)
 have h2:=h _ _ h1
 rcases Nat.lt_or_ge (a+(L.length-1)) ns.length with h'|h'
 · omega
 · rw[List.getElem?_eq_none h']at h2;cases h2
theorem Qq {ns:List Nd}(hg:qg ns=true){j c:Nat}{par:Int}(h:Sub ns j c par)(hj:j<ns.length) :
 (∃ d,Deep d (growF ns.length ns j).kids∧c=cnt (d+1) [growF ns.length ns j])∧zR ns (j:Int)=(j:Int)+(c:Nat)∧j+c≤ns.length∧∃ x,ns[j]?=some x∧x.parent=par:=by
 obtain ⟨d,t,hd,hs,hc⟩:=h;have hlen:=layF_length d t par j hd;have hin:=hs.in (by rw[hlen,qt];omega)
 rw[hlen]at hin
 have hgr:=grow_lay d t ns.length ns par j hd hs (by omega)
 have hla:=last_lay d t ns.length ns par j hd hs (by omega)
 refine ⟨⟨d,by rw[hgr];exact hd,by rw[hgr];exact hc⟩,?_,by omega,?_⟩
 · rw[Q0 hg hj];omega
 · rw[zd hd]at hs
   exact ⟨_,hs 0 _ rfl,rfl⟩
end Go.Proofs.YtfdbipeidmpciaaGreatDoor
namespace Go.Proofs.YtfdbipeidmpciaaGreatDoor
open Go.ChangeShapes Go.WideShapes Go.ChangeAt Go.RowKit
set_option maxRecDepth 100000
def dep:Nat→List Tr→Nat
 | 0,_=>0
 | n+1,ts=>(ts.map fun t=>1+dep n t.kids).foldr max 0
theorem zx (n:Nat):dep n []=0:=by cases n<;>rfl
theorem zQ (n:Nat)(t:Tr)(r:List Tr):dep (n+1) (t::r)=max (1+dep n t.kids) (dep (n+1) r):=rfl
theorem yY (n:Nat)(a b:List Tr):dep n (a++b)=max (dep n a) (dep n b):=by
 cases n with
 | zero=>rfl
 | succ n =>
   induction a with
   | nil=>simp[zx]
   | cons t r ih=>rw[List.cons_append,zQ,zQ,ih];omega
theorem yW (n:Nat)(a b:List Tr):cnt n (a++b)=cnt n a+cnt n b:=by
 cases n with
 | zero=>rfl
 | succ n =>
   induction a with
   | nil=>simp[qH]
   | cons t r ih=>rw[List.cons_append,zC,zC,ih];omega
theorem dep_cnt:∀ (n:Nat)(ts:List Tr),dep n ts≤cnt n ts:=by
 intro n
 induction n with
 | zero=>intro ts;exact nR9 _
 | succ n ih =>
   intro ts
   induction ts with
   | nil=>rw[zx];omega
   | cons t r ihr=>rw[zQ,zC];have:=ih t.kids;omega
def nx (ts:List Tr):List Tr:=ts.flatMap fun t=>t.kids
theorem nx_nil:nx []=[]:=rfl
theorem yq (t:Tr)(r:List Tr):nx (t::r)=t.kids++nx r:=by simp[nx]
theorem jJ (a b:List Tr):nx (a++b)=nx a++nx b:=by simp[nx]
theorem xO (n:Nat)(ts:List Tr):cnt (n+1) ts=ts.length+cnt n (nx ts):=by
 induction ts with
 | nil=>simp[qH,nx_nil]
 | cons t r ih=>rw[zC,yq,yW,ih,List.length_cons];omega
theorem QY (n:Nat)(ts:List Tr)(h:ts≠[]):dep (n+1) ts=1+dep n (nx ts):=by
 induction ts with
 | nil=>exact absurd rfl h
 | cons t r ih =>
   rw[zQ,yq,yY]
   by_cases hr:r=[]
   · subst hr;rw[zx,nx_nil,zx];omega
   · rw[ih hr];omega
theorem Deep.nx {n:Nat}{ts:List Tr}(h:Deep (n+1) ts):Deep n (nx ts):=by
 cases n with
 | zero =>
   show Go.Proofs.YtfdbipeidmpciaaGreatDoor.nx ts=[]
   induction ts with
   | nil=>rfl
   | cons t r ih =>
     rw[yq,ih (fun x hx=>h x (List.mem_cons_of_mem _ hx))]
     have:t.kids=[]:=h t (List.mem_cons_self ..);rw[this];rfl
 | succ n =>
   intro x hx;obtain ⟨t,ht,hxt⟩:=List.mem_flatMap.1 hx;exact h t ht x hxt
theorem Deep.len {n:Nat}{ts:List Tr}(h:Deep n ts):ts.length≤cnt n ts:=by
 cases n with
 | zero =>
   have:ts=[]:=h;rw[this];exact nZ9 _
 | succ n=>rw[xO];omega
theorem QH {α:Type}{p:Nat→α→Prop}:∀ (n:Nat),(∀ i,i<n→∃ y,p i y)→∃ l:List α,l.length=n∧∀ i y,l[i]?=some y→p i y:=by
 intro n
 induction n with
 | zero=>intro _;exact ⟨[],rfl,fun i y h=>by simp at h⟩
 | succ n ih =>
   intro h;obtain ⟨l,hl,hp⟩:=ih (fun i hi=>h i (by omega))
   obtain ⟨y,hy⟩:=h n (by omega)
   refine ⟨l++[y],by simp[hl],fun i z hz=>?_⟩
   rcases Nat.lt_or_ge i n with hi|hi
   · rw[List.getElem?_append_left (by omega)]at hz;exact hp i z hz
   · rw[List.getElem?_append_right (by omega), hl]at hz
     rcases Nat.eq_zero_or_pos (i-n) with h0|h0
     · rw[h0]at hz;simp at hz;subst hz
       have:i=n:=by omega
       rw[this];exact hy
     · rw[List.getElem?_eq_none (by simp;omega)]at hz;cases hz
theorem yr {ps:List (Bool × ByteArray × Value × Value)}{j:Nat}{u:Value}(h:(quadCells ps)[j]?=some u) :
 ∃ i q,ps[i]?=some q∧((j=i*4∧u=.bool q.1)∨(j=i*4+1∧u=.string q.2.1)∨(j=i*4+2∧u=q.2.2.1)∨(j=i*4+3∧u=q.2.2.2)):=by
 have hj:j<(quadCells ps).length:=(List.getElem?_eq_some_iff.1 h).1;rw[zG]at hj
 have hi:j / 4<ps.length:=by omega
 have hq:ps[j / 4]?=some ps[j / 4]:=by simp
 obtain ⟨g0,g1,g2,g3⟩:=zB ps (j / 4) _ hq;refine ⟨j / 4,ps[j / 4],hq,?_⟩;have hm:j % 4=0∨j % 4=1∨j % 4=2∨j % 4=3:=by omega
 rcases hm with e|e|e|e
 · have hj' : j = j / 4 * 4 := by omega
   rw[←hj',h]at g0;exact Or.inl ⟨hj',by simpa using g0⟩
 · have hj' : j = j / 4 * 4 + 1 := by omega
   rw[←hj',h]at g1;exact Or.inr (Or.inl ⟨hj',by simpa using g1⟩)
 · have hj' : j = j / 4 * 4 + 2 := by omega
   rw[←hj',h]at g2;exact Or.inr (Or.inr (Or.inl ⟨hj',by simpa using g2⟩))
 · have hj' : j = j / 4 * 4 + 3 := by omega
   rw[←hj',h]at g3;exact Or.inr (Or.inr (Or.inr ⟨hj',by simpa using g3⟩))
theorem qd.quads {S:Nat→Prop}{w:World}{n:Nat}{ad:Addr}{len cap:Nat}{ts:List Tr}(h:qd S w (n+1) (.slice (some ad) len cap) ts) :
    ∃ ps : List (Bool × ByteArray × Value × Value), ps.length = ts.length ∧ (∀ j u, (quadCells ps)[j]? = some u → w.cell? (ad.add j) = some u) ∧ (∀ u ∈ quadCells ps, u.oneCell' = true) ∧
      ∀ (i:Nat) (q:Bool × ByteArray × Value × Value) (t:Tr),ps[i]?=some q→ts[i]?=some t→q.1=t.text∧q.2.1=t.s∧qh S w q.2.2.1 t.attrs∧qd S w n q.2.2.2 t.kids:=by
  obtain ⟨a,c,hv,h2,h3,h4⟩:=h
  by_cases hne:ts=[]
  · subst hne;exact ⟨[],rfl,fun j u hj=>by simp[quadCells]at hj,fun u hu=>by simp[quadCells]at hu,fun i q t hq=>by simp at hq⟩
  obtain ⟨b,o,ha,hs,hc⟩:=h4 hne
  have had:ad=⟨b,o,none⟩:=by
    rw[ha]at hv
    injection hv with h5
    injection h5
  obtain ⟨ps,hl,hp⟩:=QH (α:=Bool × ByteArray × Value × Value) (p:=fun i q=>∀ t,ts[i]?=some t →
      w.cell? ⟨b,o+i*4,none⟩=some (.bool q.1)∧w.cell? ⟨b,o+i*4+1,none⟩=some (.string q.2.1)∧w.cell? ⟨b,o+i*4+2,none⟩=some q.2.2.1∧w.cell? ⟨b,o+i*4+3,none⟩=some q.2.2.2 ∧
      q.1=t.text∧q.2.1=t.s∧qh S w q.2.2.1 t.attrs∧qd S w n q.2.2.2 t.kids) ts.length (by
    intro i hi;have ht:ts[i]?=some ts[i]:=by simp
    obtain ⟨va,vk,c0,c1,c2,c3,hat,hkt⟩:=hc i _ ht;refine ⟨(ts[i].text,ts[i].s,va,vk),fun t ht'=>?_⟩
    rw[ht]at ht';cases ht'
    exact ⟨c0,c1,c2,c3,rfl,rfl,hat,hkt⟩)
  have find:∀ (i:Nat) (q:Bool × ByteArray × Value × Value),ps[i]?=some q→∃ t,ts[i]?=some t:=by
    intro i q hq;have:i<ps.length:=(List.getElem?_eq_some_iff.1 hq).1;exact ⟨ts[i]'(by omega),by simp⟩
  refine ⟨ps,hl,?_,?_,?_⟩
  · intro j u hj;obtain ⟨i,q,hq,hu⟩:=yr hj;obtain ⟨t,ht⟩:=find i q hq;obtain ⟨c0,c1,c2,c3,_⟩:=hp i q hq t ht;subst had;rw[Addr.add_lit]
    rcases hu with ⟨rfl,rfl⟩|⟨rfl,rfl⟩|⟨rfl,rfl⟩|⟨rfl,rfl⟩
    · exact c0
    · exact c1
    · exact c2
    · exact c3
  · intro u hu;obtain ⟨j,hj⟩:=List.mem_iff_getElem?.1 hu;obtain ⟨i,q,hq,hu⟩:=yr hj;obtain ⟨t,ht⟩:=find i q hq;obtain ⟨_,_,_,_,_,_,hA,hT⟩:=hp i q hq t ht
    rcases hu with ⟨_,rfl⟩|⟨_,rfl⟩|⟨_,rfl⟩|⟨_,rfl⟩
    · rfl
    · rfl
    · obtain ⟨x,y,e⟩:=hA.shape;rw[e];rfl
    · obtain ⟨x,y,e,_⟩:=qd.shape n hT;rw[e];rfl
  · intro i q t hq ht;obtain ⟨_,_,_,_,r⟩:=hp i q hq t ht;exact r
theorem qW.many {S:Nat→Prop}{n B:Nat}{w w':World}{v v':Value}{us ts:List Tr}{qs ps:List (Bool × ByteArray × Value × Value)}
 (h:qW S n B w v us qs) (hl:ps.length=ts.length) (hown:w'.ownsRow B 54 4 v' (us.length+ts.length) (quadCells qs++quadCells ps))
 (hg:w.grownBy w' v.ownBlock) (hat:v'.ownBlock=v.ownBlock∨v'.ownBlock=some w.heap.size)
 (he:∀ (i:Nat) (q:Bool × ByteArray × Value × Value) (t:Tr),ps[i]?=some q→ts[i]?=some t→q.1=t.text∧q.2.1=t.s∧qh (Oth S B w v) w q.2.2.1 t.attrs∧qd (Oth S B w v) w n q.2.2.2 t.kids):qW S n B w' v' (us++ts) (qs++ps):=by
 have carry:∀ b,Oth S B w v b→Oth S B w' v' b∧w'.heap[b]?=w.heap[b]?:=by
  intro b hb;refine ⟨⟨hb.1,Nat.lt_of_lt_of_le hb.2.1 hg.size,?_⟩,hg.block b hb.2.1 (fun e=>hb.2.2 e.symm)⟩
  rcases hat with e|e
  · rw[e];exact hb.2.2
  · rw[e];intro e';cases e';exact Nat.lt_irrefl _ hb.2.1
 refine ⟨by simp[h.len,hl],?_,?_⟩
 · rw[zF,List.length_append];exact hown
 · intro i q' t' hq ht
   rcases Nat.lt_or_ge i us.length with hi|hi
   · rw[List.getElem?_append_left (by rw[h.len];exact hi)]at hq
     rw[List.getElem?_append_left hi]at ht
     obtain ⟨a,b,c,d⟩:=h.each i q' t' hq ht;exact ⟨a,b,c.carry carry,qd.carry carry n d⟩
   · rw[List.getElem?_append_right (by rw[h.len];exact hi)]at hq
     rw[List.getElem?_append_right hi]at ht
     rw[h.len]at hq
     obtain ⟨a,b,c,d⟩:=he _ q' t' hq ht;exact ⟨a,b,c.carry carry,qd.carry carry n d⟩
theorem zY {ops:Array Oper}{rest:List Oper}{o:Oper}{a:Act}{w:World}{Q:Exit→Act→World→Prop}(hgd:o.guard=none)(s x:Operand)
 (ho:o.op=.call { callee:=.builtin .append,args:=#[s,x],argTypes:=#[52,52] })
 (S S1:Nat→Prop) (n B:Nat) (v vk:Value) (us ts:List Tr) (qs:List (Bool × ByteArray × Value × Value)) (hs:a.eval s=v) (hG:qW S n B w v us qs) (hx:a.eval x=vk) (hk:qd S1 w (n+1) vk ts)
 (hS:∀ b,S1 b→Oth S B w v b) (hl:us.length+ts.length≤1048576) (hB:B≤w.heap.size)
 (h:∀ v' w' qs',qW S n B w' v' (us++ts) qs'→Below B w w'→wpList Tryz.prog ops Q rest (a.put o.dst v') w') :
 wpList Tryz.prog ops Q (o::rest) a w:=by
 obtain ⟨i0,hi,hz0,hz1,hz2⟩:=info_parts treeInfo;obtain ⟨ka,kc,rfl,hkc,hkm⟩:=qd.shape (n+1) hk;cases ka with
 | none =>
   have hn:ts=[]:=by
    apply Classical.byContradiction;intro hne
    obtain ⟨a,c,hv,_,_,h4⟩:=hk;obtain ⟨b,o,ha,_⟩:=h4 hne;rw[ha]at hv;cases hv
   subst hn;refine wpList_plain hgd fun K hK=>?_
   have hrun:(Builtin.append_ #[52,52] o.type #[v,.slice none 0 kc]).run Tryz.prog w=.ok v w:=by
    rcases hG.own.2 with ⟨rfl,e⟩|⟨g,cap,cur,rfl,_,_,hnc,_⟩
    · simp[Builtin.append_,run_underlying Tryz.underlying52,sizeOf,typeInfo,hi,Builtin.lenOf,Builtin.firstCells]
    · simp[Builtin.append_,run_underlying Tryz.underlying52,sizeOf,typeInfo,hi,Builtin.lenOf,Builtin.firstCells,hnc,storeCells]
   simp only[List.length_nil]at hx
   unfold Oper.wp;simp[execOp,ho,resolve,invoke,builtin,hs,hx,hrun,Result.andThen];exact hK _ _ (h v w qs (by rw[List.append_nil];exact hG) (Below.refl _ _))
 | some ad =>
   obtain ⟨ps,hpl,hpc,hp1,hpe⟩:=qd.quads hk;refine wpList_append_own_at w hgd s x 52 ho B 54 i0 _ 4 72 Tryz.underlying52 hi hz0 hz1 hz2 rfl (by decide) v us.length (quadCells qs) hs hG.own ad ts.length kc (quadCells ps) hx ?_ hpc hp1 ?_ ?_ hB ?_
   · rw[zG,hpl]
   · unfold maxLen;omega
   · omega
   · intro v' w' hown hgr _ hat
     exact h v' w' _ (hG.many hpl hown hgr hat (fun i q t hq ht=>by
      obtain ⟨a,b,c,d⟩:=hpe i q t hq ht;exact ⟨a,b,c.carry (fun b hb=>⟨hS b hb,rfl⟩),qd.carry (fun b hb=>⟨hS b hb,rfl⟩) n d⟩)) ((Below.refl _ w).grown hgr hB (fun k hk'=>(hG.own.lt k hk').1))
theorem j0 (n:Nat):rgt n []=true:=by cases n<;>rfl
theorem Qa {n:Nat}{t:Tr}(h:qu t=true):(t.text||rgt n t.kids)=rgt n t.kids:=by
 cases htt:t.text with
 | false=>rfl
 | true =>
   have:t.kids=[]:=by
    simp[qu,htt]at h
    exact h.2
   rw[this,j0];rfl
theorem ZM (d n:Nat)(f:Int→List Tr→Int)
    (hf:∀ room k,0≤room→Deep n k→f room k=if dep n k≤d∧(cnt n k:Int)≤room∧rgt n k=true then room-cnt n k else -1) :
    ∀ (l : List Tr) (p : Bool) (room : Int), 0 ≤ room → Deep (n + 1) l →
      rl f p room l=if dep n (nx l)≤d∧(cnt n (nx l):Int)≤room∧rgL (rgt n) p l=true then room-cnt n (nx l) else -1:=by
  intro l
  induction l with
  | nil =>
    intro p room h0 _;rw[nx_nil,zx,qH,if_pos ⟨nZ9 _,by simpa using h0,rfl⟩]
    simp[rl]
  | cons t r ih =>
    intro p room h0 hd;have hk:Deep n t.kids:=hd t (List.mem_cons_self ..);have hr:Deep (n+1) r:=fun x hx=>hd x (List.mem_cons_of_mem _ hx)
    rw[yq,yY,yW];unfold rl;have hfk:=hf room t.kids h0 hk
    by_cases hA:(!qu t||(p&&t.text))=true
    · rw[if_pos hA, if_neg];rintro ⟨_,_,h3⟩;unfold rgL at h3
      cases h1:qu t<;>cases h2:(p&&t.text)<;>simp[h1,h2]at hA h3
    · rw[if_neg hA];have h1:qu t=true:=by cases h:qu t<;>simp[h]at hA ⊢
      have h2:(p&&t.text)=false:=by cases h:(p&&t.text)<;>simp[h]at hA ⊢
      have hg:rgL (rgt n) p (t::r)=(rgt n t.kids&&rgL (rgt n) t.text r):=by
        show (qu t&&!(p&&t.text)&&(t.text||rgt n t.kids)&&rgL (rgt n) t.text r)=_
        rw[h1,h2,Qa h1];rfl
      rw[hg]
      by_cases hK:dep n t.kids≤d∧(cnt n t.kids:Int)≤room∧rgt n t.kids=true
      · rw[if_pos hK]at hfk
        rw[hfk,if_neg (by omega),ih t.text (room-cnt n t.kids) (by omega) hr]
        by_cases hR:dep n (nx r)≤d∧(cnt n (nx r):Int)≤room-cnt n t.kids∧rgL (rgt n) t.text r=true
        · rw[if_pos hR, if_pos ⟨by omega, by push_cast;omega, by rw[hK.2.2, hR.2.2];rfl⟩]
          push_cast;omega
        · rw[if_neg hR, if_neg];rintro ⟨a,b,c⟩;rw[hK.2.2]at c
          exact hR ⟨by omega,by push_cast at b;omega,by simpa using c⟩
      · rw[if_neg hK]at hfk
        rw[hfk,if_pos (by decide),if_neg]
        rintro ⟨a,b,c⟩;simp only[Bool.and_eq_true]at c
        exact hK ⟨by omega,by push_cast at b;omega,c.1⟩
theorem rb_eq:∀ (d n:Nat)(l:List Tr)(room:Int),0≤room→Deep n l →
 rb d room l=if dep n l≤d∧(cnt n l:Int)≤room∧rgt n l=true then room-cnt n l else -1:=by
 intro d
 induction d with
 | zero =>
   intro n l room h0 hd;unfold rb;cases l with
   | nil=>simp[zx,qH,j0];omega
   | cons t r =>
     cases n with
     | zero=>cases (show t::r=[] from hd)
     | succ n =>
       rw[if_neg (by simp),if_neg]
       rintro ⟨a,_⟩;rw[zQ]at a;omega
 | succ d ih =>
   intro n l room h0 hd;unfold rb;cases l with
   | nil=>simp[zx,qH,j0];omega
   | cons t r =>
     cases n with
     | zero=>cases (show t::r=[] from hd)
     | succ n =>
       rw[if_neg (by simp)]
       generalize hl:t::r=l at *
       have hne:l≠[]:=by rw[←hl];simp
       rw[QY n l hne,xO n l]
       by_cases hrm:room<(l.length:Int)
       · rw[if_pos hrm, if_neg];rintro ⟨_,b,_⟩
         push_cast at b;omega
       · rw[if_neg hrm, ZM d n (rb d) (fun room k h hk => ih n k room h hk) l false (room - l.length) (by omega) hd]
         by_cases hR:dep n (nx l)≤d∧(cnt n (nx l):Int)≤room-l.length∧rgL (rgt n) false l=true
         · rw[if_pos hR,if_pos ⟨by omega,by push_cast;omega,hR.2.2⟩];push_cast;omega
         · rw[if_neg hR, if_neg];rintro ⟨a,b,c⟩;exact hR ⟨by omega,by push_cast at b;omega,c⟩
theorem j7 {n:Nat}{l:List Tr}(hd:Deep n l):ym l=(decide (dep n l≤8)&&decide (cnt n l≤80)&&rgt n l):=by
 unfold ym;rw[rb_eq 8 n l 80 (by decide) hd]
 by_cases h:dep n l≤8∧(cnt n l:Int)≤80∧rgt n l=true
 · rw[if_pos h];have h2:cnt n l≤80:=by omega
   simp[h.1,h2,h.2.2];omega
 · rw[if_neg h];cases hr:rgt n l with
   | false=>simp
   | true =>
     have:¬ (dep n l≤8∧cnt n l≤80):=fun ⟨a,b⟩=>h ⟨a,by omega,hr⟩
     by_cases h1:dep n l≤8
     · have h2 : ¬ cnt n l ≤ 80 := fun b => this ⟨h1, b⟩
       simp[h2]
     · simp[h1]
theorem y5 {n:Nat}{t:Tr}(hd:Deep n t.kids):qL t=(!t.text&&decide (dep (n+1) [t]<9)&&decide (cnt (n+1) [t]<81)&&rgt (n+1) [t]):=by
 have h:Deep (n+1) [t]:=by intro x hx;simp at hx;subst hx;exact hd
 unfold qL;rw[j7 h];have e1:decide (dep (n+1) [t]≤8)=decide (dep (n+1) [t]<9):=by congr 1;apply propext;omega
 have e2:decide (cnt (n+1) [t]≤80)=decide (cnt (n+1) [t]<81):=by congr 1;apply propext;omega
 rw[e1,e2,Bool.and_assoc,Bool.and_assoc,Bool.and_assoc]
end Go.Proofs.YtfdbipeidmpciaaGreatDoor
namespace Go.Proofs.YtfdbipeidmpciaaGreatDoor
open Go.RowKit
set_option maxRecDepth 100000
theorem j1 (d:Nat)(t:Tr):rgt (d+1) [t]=(qu t&&(t.text||rgt d t.kids)):=by
 simp[rgt,rgL]
theorem Zx {f:List Tr→Bool}:∀ (l:List Tr)(p:Bool),rgL f p l=true→∀ k∈l,qu k=true∧(k.text||f k.kids)=true:=by
 intro l
 induction l with
 | nil=>intro _ _ k hk;simp at hk
 | cons t r ih =>
   intro p h k hk;simp only[rgL,Bool.and_eq_true]at h
   rw[List.mem_cons]at hk
   rcases hk with rfl|hk
   · exact ⟨h.1.1.1,h.1.2⟩
   · exact ih _ h.2 k hk
theorem xA {t:Tr}(h:qu t=true)(ht:t.text=true):t.kids=[]:=by
 simp only[qu,ht,if_true,Bool.and_eq_true,decide_eq_true_eq]at h
 exact List.length_eq_zero_iff.1 h.2
theorem Zy {d:Nat}{t k:Tr}(h:rgt (d+2) [t]=true)(hk:k∈t.kids):rgt (d+1) [k]=true:=by
 rw[j1]at h ⊢
 simp only[Bool.and_eq_true]at h
 cases ht:t.text with
 | true=>rw[xA h.1 ht]at hk;simp at hk
 | false =>
   have h2:=h.2;rw[ht,Bool.false_or]at h2
   have:=Zx t.kids false h2 k hk;simp only[Bool.and_eq_true];exact this
theorem xv (ns:List Nd):∀ (d:Nat)(t:Tr)(par:Int)(a:Nat),Deep d t.kids→Seg ns a (layF d t par a)→rgt (d+1) [t]=true→∀ j,a≤j→j<a+cnt (d+1) [t] →
 ∃ d' t' par',Deep d' t'.kids∧Seg ns j (layF d' t' par' j)∧rgt (d'+1) [t']=true∧(j=a∧par'=par∨∃ q y,ns[q]?=some y∧par'=((q:Nat):Int)∧q<j∧(j:Int)∈y.kids∧a≤q):=by
 intro d
 induction d with
 | zero =>
   intro t par a hd hs hr j h1 h2;have e:t.kids=[]:=hd;have hc:cnt 1 [t]=1:=by rw[qt,e];rfl
   rw[hc]at h2
   obtain rfl:j=a:=by omega
   exact ⟨0,t,par,hd,hs,hr,Or.inl ⟨rfl,rfl⟩⟩
 | succ d ih =>
   intro t par a hd hs hr j h1 h2
   by_cases hj:j=a
   · subst hj;exact ⟨d+1,t,par,hd,hs,hr,Or.inl ⟨rfl,rfl⟩⟩
   · have h0 : ns[a]? = some ⟨t.text, t.s, t.attrs, par, qi d (a + 1) t.kids⟩ := hs 0 _ rfl;have hsk:Seg ns (a+1) (qn d (layF d) a (a+1) t.kids):=Seg.tail hs
     have key:∀ (ks:List Tr) (b:Nat),(∀ k∈ks,Deep d k.kids)→(∀ k∈ks,rgt (d+1) [k]=true)→Seg ns b (qn d (layF d) a b ks)→a≤b→b≤j→j<b+cnt (d+1) ks →
      ∃ d' t' par',Deep d' t'.kids∧Seg ns j (layF d' t' par' j)∧rgt (d'+1) [t']=true∧((par'=(a:Int)∧(j:Int)∈qi d b ks)∨∃ q y,ns[q]?=some y∧par'=((q:Nat):Int)∧q<j∧(j:Int)∈y.kids∧a≤q):=by
      intro ks
      induction ks with
      | nil=>intro b _ _ _ _ hb1 hb2;rw[qH]at hb2;omega
      | cons k ks ihk =>
        intro b hdk hrk hsb hab hb1 hb2;rw[qn]at hsb
        have hl:=hsb.left;have hr2:=hsb.right;have hdk0:=hdk k List.mem_cons_self;rw[layF_length d k a b hdk0]at hr2
        rw[qS]at hb2
        by_cases hjk:j<b+cnt (d+1) [k]
        · obtain ⟨d', t', par', g1, g2, g3, hor⟩ := ih k a b hdk0 hl (hrk k List.mem_cons_self) j hb1 hjk;refine ⟨d',t',par',g1,g2,g3,?_⟩
          rcases hor with ⟨hp1,hp2⟩|hor
          · exact Or.inl ⟨hp2,by rw[qi,hp1];exact List.mem_cons_self⟩
          · obtain ⟨q, y, k1, k2, k3, k4, k5⟩ := hor;exact Or.inr ⟨q,y,k1,k2,k3,k4,by omega⟩
        · obtain ⟨d', t', par', g1, g2, g3, hor⟩ := ihk (b + cnt (d + 1) [k]) (fun u hu => hdk u (List.mem_cons_of_mem _ hu)) (fun u hu => hrk u (List.mem_cons_of_mem _ hu)) hr2 (by omega) (by omega) (by omega)
          refine ⟨d',t',par',g1,g2,g3,?_⟩
          rcases hor with ⟨hp1,hp2⟩|hor
          · exact Or.inl ⟨hp1,by rw[qi];exact List.mem_cons_of_mem _ hp2⟩
          · exact Or.inr hor
     have hc1:cnt (d+1+1) [t]=1+cnt (d+1) t.kids:=qt (d+1) t;obtain ⟨d',t',par',g1,g2,g3,hor⟩:=key t.kids (a+1) hd (fun k hk=>Zy hr hk) hsk (by omega) (by omega) (by omega)
     refine ⟨d',t',par',g1,g2,g3,Or.inr ?_⟩
     rcases hor with ⟨hp1,hp2⟩|hor
     · exact ⟨a,_,h0,hp1,by omega,hp2,nR9 _⟩
     · exact hor
theorem zX {ns:List Nd}(hg:qg ns=true):∃ (d:Nat)(t:Tr),Deep d t.kids∧Seg ns 0 (layF d t (-1) 0)∧cnt (d+1) [t]=ns.length∧rgt (d+1) [t]=true∧t.text=false∧qL t=true∧growF ns.length ns 0=t:=by
 have hg2:=hg;simp only[qg,Bool.and_eq_true,decide_eq_true_eq]at hg2
 have ho:=ze hg2.1.2;obtain ⟨t,hd,hs,hn⟩:=ord_conv (ns.length+1) ns (-1) 0 (by rw[ho])
 rw[ho]at hn
 simp only[Nat.zero_add]at hn
 have hgr:=grow_lay _ t ns.length ns (-1) 0 hd hs (by omega)
 have hG:=hg2.2;rw[hgr]at hG
 have hG2:=hG;rw[y5 hd]at hG
 simp only[Bool.and_eq_true,Bool.not_eq_true']at hG
 exact ⟨_,t,hd,hs,hn.symm,hG.2,hG.1.1.1,hG2,hgr⟩
structure Fam (ns:List Nd) (j:Nat) (x:Nd):Prop where
 kids:∀ u∈x.kids,∃ (k:Nat) (y:Nd),u=(k:Int)∧j<k∧k<ns.length∧zR ns (k:Int)≤zR ns (j:Int)∧ns[k]?=some y∧y.parent=(j:Int)
 row:x.kids.Pairwise (fun u v=>zR ns u≤v)
 par:(j=0∧x.parent=-1)∨∃ (q:Nat) (y:Nd),ns[q]?=some y∧x.parent=(q:Int)∧q<j∧(j:Int)∈y.kids
 text:x.text=true→x.kids=[]
 name:x.text=false→qB x.s=true
 gt:(j:Int)<zR ns (j:Int)
theorem qk {α:Type}{l:List α}{j:Nat}{x:α}(hx:l[j]?=some x):j<l.length:=by
 rcases Nat.lt_or_ge j l.length with h'|h'
 · exact h'
 · rw[List.getElem?_eq_none h']at hx;cases hx
theorem Zp {ns:List Nd}(hg:qg ns=true){d j:Nat}{t:Tr}{par:Int}(hd:Deep d t.kids)(hs:Seg ns j (layF d t par j)){x:Nd}(hx:ns[j]?=some x) :
 (∀ u∈x.kids,∃ (k:Nat) (y:Nd),u=(k:Int)∧j<k∧k<ns.length∧zR ns (k:Int)≤zR ns (j:Int)∧ns[k]?=some y∧y.parent=(j:Int))∧x.kids.Pairwise (fun u v=>zR ns u≤v)∧(j:Int)<zR ns (j:Int):=by
 have hj:=qk hx;obtain ⟨_,he,hl,_⟩:=Qq hg ⟨d,t,hd,hs,rfl⟩ hj;have hh:=zd hd par j
 have hx2:x=⟨t.text,t.s,t.attrs,par,qi (d-1) (j+1) t.kids⟩:=by
  have:=hs 0 _ (by rw[hh];rfl)
  rw[Nat.add_zero,hx]at this
  exact Option.some.inj this
 have hgt:(j:Int)<zR ns (j:Int):=by rw[he,qt];omega
 cases d with
 | zero =>
   have e:t.kids=[]:=hd;have ek:x.kids=[]:=by rw[hx2,e];rfl
   rw[ek];exact ⟨by simp,List.Pairwise.nil,hgt⟩
 | succ e =>
   have hsk:Seg ns (j+1) (qn e (layF e) j (j+1) t.kids):=Seg.tail hs
   have key:∀ (ks:List Tr) (b:Nat),(∀ k∈ks,Deep e k.kids)→Seg ns b (qn e (layF e) j b ks)→b+cnt (e+1) ks≤ns.length →
    (qi e b ks).Pairwise (fun u v=>zR ns u≤v)∧∀ u∈qi e b ks,∃ (k:Nat) (y:Nd),u=(k:Int)∧b≤k∧k<ns.length∧zR ns (k:Int)≤((b+cnt (e+1) ks:Nat):Int)∧ns[k]?=some y∧y.parent=(j:Int):=by
    intro ks
    induction ks with
    | nil=>intro b _ _ _;exact ⟨List.Pairwise.nil,by simp[qi]⟩
    | cons k ks ihk =>
      intro b hdk hsb hle;rw[qn]at hsb
      have hl1:=hsb.left;have hr2:=hsb.right;have hdk0:=hdk k List.mem_cons_self;rw[layF_length e k j b hdk0]at hr2
      rw[qS]at hle ⊢
      have hc1:=qt e k;obtain ⟨_,heb,_,y,hy,hyp⟩:=Qq hg ⟨e,k,hdk0,hl1,rfl⟩ (by omega)
      obtain ⟨hP,hM⟩:=ihk (b+cnt (e+1) [k]) (fun u hu=>hdk u (List.mem_cons_of_mem _ hu)) hr2 (by omega)
      rw[qi];refine ⟨List.Pairwise.cons (fun v hv=>?_) hP,fun u hu=>?_⟩
      · obtain ⟨k2, _, rfl, hk2, _⟩ := hM v hv;rw[heb];omega
      · rw[List.mem_cons]at hu
        rcases hu with rfl|hu
        · exact ⟨b,y,rfl,nR9 _,by omega,by rw[heb];omega,hy,hyp⟩
        · obtain ⟨k2, y2, g1, g2, g3, g4, g5⟩ := hM u hu;exact ⟨k2,y2,g1,by omega,g3,by omega,g5⟩
   have hc:=qt (e+1) t;obtain ⟨hP,hM⟩:=key t.kids (j+1) hd hsk (by omega)
   have ek:x.kids=qi e (j+1) t.kids:=by rw[hx2];rfl
   rw[ek];refine ⟨fun u hu=>?_,hP,hgt⟩
   obtain ⟨k2,y2,g1,g2,g3,g4,g5⟩:=hM u hu;exact ⟨k2,y2,g1,by omega,g3,by rw[he];omega,g5⟩
theorem qj {ns:List Nd}(hg:qg ns=true){j:Nat}{x:Nd}(hx:ns[j]?=some x):Fam ns j x:=by
 have hj:=qk hx;obtain ⟨d,t,hd,hs,hn,hr,_,_,_⟩:=zX hg;obtain ⟨d',t',par',g1,g2,g3,hor⟩:=xv ns d t (-1) 0 hd hs hr j (nZ9 _) (by omega)
 obtain ⟨k1,k2,k3⟩:=Zp hg g1 g2 hx
 have hx2:x=⟨t'.text,t'.s,t'.attrs,par',qi (d'-1) (j+1) t'.kids⟩:=by
  have:=g2 0 _ (by rw[zd g1 par' j];rfl)
  rw[Nat.add_zero,hx]at this
  exact Option.some.inj this
 rw[j1]at g3
 simp only[Bool.and_eq_true]at g3
 refine ⟨k1,k2,?_,?_,?_,k3⟩
 · rcases hor with ⟨h1, h2⟩ | ⟨q, y, h1, h2, h3, h4, _⟩
   · exact Or.inl ⟨h1,by rw[hx2];exact h2⟩
   · exact Or.inr ⟨q,y,h1,by rw[hx2];exact h2,h3,h4⟩
 · intro ht;have ht':t'.text=true:=by rw[hx2]at ht;exact ht
   rw[hx2,xA g3.1 ht'];rfl
 · intro ht;have ht':t'.text=false:=by rw[hx2]at ht;exact ht
   have h1:=g3.1;simp[qu,ht']at h1
   rw[hx2];exact h1.1
structure St where
 name:ByteArray
 n:Int
def q9 (x:Nd)(name:ByteArray):Bool:=if x.text then decide (name=⟨#[]⟩) else decide (name=⟨#[42]⟩)||decide (name=x.s)
def xg (ns:List Nd)(name:ByteArray)(u:Int):Bool:=match ns[u.toNat]? with|some x=>q9 x name|none=>false
def y8 (ns:List Nd)(u:Int):List Int:=match ns[u.toNat]? with|some x=>x.kids|none=>[]
def Za (ns:List Nd)(u:Int):Int:=match ns[u.toNat]? with|some x=>x.parent|none=>-1
def zJ (ns:List Nd)(l:List Int)(name:ByteArray):List Int:=l.filter (xg ns name)
def qD (ns:List Nd)(l:List Int)(s:St):List Int:=if s.n=0 then zJ ns l s.name else ((zJ ns l s.name).drop (s.n.toNat-1)).take 1
def z7 (ns:List Nd)(here:List Int)(s:St):List Int:=here.flatMap fun u=>qD ns (y8 ns u) s
def yP (ns:List Nd):List St→List Int→List Int
 | [],here=>here
 | s::l,here=>yP ns l (z7 ns here s)
def qv (s:St):Bool:=decide (0≤s.n)&&decide (s.n≤99)&&(decide (s.name=⟨#[]⟩)||decide (s.name=⟨#[42]⟩)||qB s.name)
def qE (l:List St):Bool:=decide (1≤l.length)&&decide (l.length≤5)&&l.all qv
def yw (ns:List Nd):List St→List Int
 | []=>[]
 | s::r=>yP ns r (qD ns [0] s)
def yu (ns:List Nd)(l:List St):List Int:=if qg ns&&qE l then yw ns l else []
def yv (ns:List Nd)(l:List St):Int:=if qg ns&&qE l then 0 else 1
theorem qT (ns:List Nd)(l:List Int)(s:St):(qD ns l s).Sublist l:=by
 unfold qD
 split
 · exact List.filter_sublist
 · exact ((List.take_sublist _ _).trans (List.drop_sublist _ _)).trans List.filter_sublist
def depF:Nat→List Nd→Int→Nat
 | 0,_,_=>0
 | f+1,ns,k=>if 0≤k∧k<ns.length then depF f ns (Za ns k)+1 else 0
theorem yB {ns:List Nd}{j:Nat}{x:Nd}(hx:ns[j]?=some x):Za ns (j:Int)=x.parent:=by
 unfold Za;rw[Int.toNat_natCast,hx]
theorem qY {ns:List Nd}{j:Nat}{x:Nd}(hx:ns[j]?=some x):y8 ns (j:Int)=x.kids:=by
 unfold y8;rw[Int.toNat_natCast,hx]
theorem zD {ns:List Nd}{j:Nat}{x:Nd}(hx:ns[j]?=some x)(s:ByteArray):xg ns s (j:Int)=q9 x s:=by
 unfold xg;rw[Int.toNat_natCast,hx]
theorem yX (f:Nat)(ns:List Nd){k:Int}(h:k<0):depF f ns k=0:=by
 cases f with
 | zero=>rfl
 | succ f=>rw[depF,if_neg (by omega)]
theorem xe {ns:List Nd}(hg:qg ns=true):∀ (f f' j:Nat),j<f→j<f'→depF f ns (j:Int)=depF f' ns (j:Int):=by
 intro f
 induction f with
 | zero=>intro f' j h;omega
 | succ f ih =>
   intro f' j h1 h2;obtain ⟨e,rfl⟩:∃ e,f'=e+1:=⟨f'-1,by omega⟩
   rw[depF,depF]
   by_cases hj:j<ns.length
   · rw[if_pos (by omega), if_pos (by omega)]
     obtain ⟨x,hx⟩:∃ x,ns[j]?=some x:=⟨ns[j],by simp[hj]⟩
     rw[yB hx]
     rcases (qj hg hx).par with ⟨_,hp⟩|⟨q,y,_,hp,hq,_⟩
     · rw[hp,yX _ _ (by omega),yX _ _ (by omega)]
     · rw[hp,ih e q (by omega) (by omega)]
   · rw[if_neg (by omega),if_neg (by omega)]
def dp (ns:List Nd)(j:Nat):Nat:=depF (j+1) ns (j:Int)
theorem Zm {ns:List Nd}(hg:qg ns=true){f j:Nat}(h:j<f):depF f ns (j:Int)=dp ns j:=xe hg f (j+1) j h (by omega)
theorem Zn {ns:List Nd}(_hg:qg ns=true){x:Nd}(hx:ns[0]?=some x)(hp:x.parent=-1):dp ns 0=1:=by
 unfold dp;have:=qk hx;rw[depF,if_pos (by omega),yB hx,hp,yX _ _ (by omega)]
theorem QZ {ns:List Nd}(hg:qg ns=true){j q:Nat}{x:Nd}(hx:ns[j]?=some x)(hp:x.parent=(q:Int))(hq:q<j):dp ns j=dp ns q+1:=by
 have:=qk hx
 conv=>lhs;unfold dp
 rw[depF,if_pos (by omega),yB hx,hp,Zm hg hq]
structure Lev (ns:List Nd) (d:Nat) (l:List Int):Prop where
 mem:∀ u∈l,∃ (k:Nat) (x:Nd),u=(k:Int)∧ns[k]?=some x∧dp ns k=d
 row:l.Pairwise (fun u v=>zR ns u≤v)
theorem Lev.sub {ns:List Nd}{d:Nat}{l m:List Int}(h:Lev ns d l)(hs:m.Sublist l):Lev ns d m :=
 ⟨fun u hu=>h.mem u (hs.subset hu),h.row.sublist hs⟩
theorem jq {α β:Type}{R:β→β→Prop}{f:α→List β}:∀ (l:List α),(∀ a∈l,(f a).Pairwise R)→l.Pairwise (fun a b=>∀ u∈f a,∀ v∈f b,R u v)→(l.flatMap f).Pairwise R:=by
 intro l
 induction l with
 | nil=>intro _ _;exact List.Pairwise.nil
 | cons a l ih =>
   intro h1 h2;rw[List.flatMap_cons,List.pairwise_append];rw[List.pairwise_cons]at h2
   refine ⟨h1 a List.mem_cons_self,ih (fun b hb=>h1 b (List.mem_cons_of_mem _ hb)) h2.2,fun u hu v hv=>?_⟩
   obtain ⟨b,hb,hvb⟩:=List.mem_flatMap.1 hv;exact h2.1 b hb u hu v hvb
theorem xq {ns:List Nd}(hg:qg ns=true){d:Nat}{here:List Int}(h:Lev ns d here)(s:St):Lev ns (d+1) (z7 ns here s):=by
 refine ⟨fun u hu=>?_,?_⟩
 · obtain ⟨v, hv, hu2⟩ := List.mem_flatMap.1 hu;obtain ⟨k,x,rfl,hx,hd⟩:=h.mem v hv;have hm:=(qT _ _ _).subset hu2;rw[qY hx]at hm
   obtain ⟨j,y,rfl,h1,_,_,hy,hp⟩:=(qj hg hx).kids u hm;exact ⟨j,y,rfl,hy,by rw[QZ hg hy hp h1,hd]⟩
 · refine jq here (fun v hv => ?_) ?_
   · obtain ⟨k, x, rfl, hx, _⟩ := h.mem v hv;have hs:=qT ns (y8 ns (k:Int)) s;rw[qY hx]at hs ⊢
     exact (qj hg hx).row.sublist hs
   · refine List.Pairwise.imp_of_mem ?_ h.row;intro a b ha hb hab u hu v hv;obtain ⟨ka,xa,rfl,hxa,_⟩:=h.mem a ha;obtain ⟨kb,xb,rfl,hxb,_⟩:=h.mem b hb;have hu2:=(qT _ _ _).subset hu;have hv2:=(qT _ _ _).subset hv;rw[qY hxa]at hu2
     rw[qY hxb]at hv2
     obtain ⟨ju,_,rfl,_,_,he,_⟩:=(qj hg hxa).kids u hu2;obtain ⟨jv,_,rfl,hj,_⟩:=(qj hg hxb).kids v hv2;omega
theorem Qp {ns:List Nd}(hg:qg ns=true):∀ (l:List St)(d:Nat)(here:List Int),Lev ns d here→Lev ns (d+l.length) (yP ns l here):=by
 intro l
 induction l with
 | nil=>intro d here h;exact h
 | cons s l ih =>
   intro d here h;have:=ih (d+1) _ (xq hg h s);rw[yP,List.length_cons,show d+(l.length+1)=d+1+l.length by omega]
   exact this
theorem yb {ns:List Nd}(hg:qg ns=true):∃ x,ns[0]?=some x∧x.parent=-1∧x.text=false:=by
 obtain ⟨d,t,hd,hs,hn,_,ht,_,_⟩:=zX hg;have:=hs 0 _ (by rw[zd hd (-1) 0];rfl)
 exact ⟨_,this,rfl,ht⟩
theorem xr {ns:List Nd}(hg:qg ns=true)(s:St):Lev ns 1 (qD ns [0] s):=by
 obtain ⟨x,hx,hp,_⟩:=yb hg;refine Lev.sub ⟨fun u hu=>?_,List.Pairwise.cons (by simp) List.Pairwise.nil⟩ (qT _ _ _)
 rw[List.mem_singleton]at hu
 exact ⟨0,x,hu,hx,Zn hg hx hp⟩
theorem Zc {ns:List Nd}(hg:qg ns=true){l:List St}(hl:l≠[]):Lev ns l.length (yw ns l):=by
 cases l with
 | nil=>exact absurd rfl hl
 | cons s r =>
   have:=Qp hg r 1 _ (xr hg s);rw[List.length_cons,Nat.add_comm];exact this
theorem Lev.rises {ns:List Nd}(hg:qg ns=true){d:Nat}{l:List Int}(h:Lev ns d l):l.Pairwise (fun u v=>u<v):=by
 refine List.Pairwise.imp_of_mem ?_ h.row;intro a b ha _ hab;obtain ⟨k,x,rfl,hx,_⟩:=h.mem a ha;have:=(qj hg hx).gt;omega
theorem Zz {s:ByteArray}(h:qB s=true):s≠⟨#[42]⟩∧s≠⟨#[]⟩:=by
 constructor
 · rintro rfl;exact absurd h (by decide)
 · rintro rfl;exact absurd h (by decide)
theorem jN (ns:List Nd):∀ (l:List St)(s:St)(here:List Int),yP ns (l++[s]) here=z7 ns (yP ns l here) s:=by
 intro l
 induction l with
 | nil=>intro s here;rfl
 | cons t l ih=>intro s here;exact ih s _
theorem sorted_ext:∀ {a b:List Int},a.Pairwise (fun u v=>u<v)→b.Pairwise (fun u v=>u<v)→(∀ u,u∈a↔u∈b)→a=b:=by
 intro a
 induction a with
 | nil =>
   intro b _ _ h;cases b with
   | nil=>rfl
   | cons y b=>exact absurd ((h y).2 List.mem_cons_self) (by simp)
 | cons x a ih =>
   intro b ha hb h;cases b with
   | nil=>exact absurd ((h x).1 List.mem_cons_self) (by simp)
   | cons y b =>
     rw[List.pairwise_cons]at ha hb
     have hxy:x=y:=by
      have h1:=(h x).1 List.mem_cons_self;have h2:=(h y).2 List.mem_cons_self;rw[List.mem_cons]at h1 h2
      rcases h1 with h1|h1
      · exact h1
      · rcases h2 with h2 | h2
        · exact h2.symm
        · have := hb.1 x h1;have:=ha.1 y h2;omega
     subst hxy;rw[ih ha.2 hb.2 (fun u=>?_)]
     constructor
     · intro hu;have h1:=(h u).1 (List.mem_cons_of_mem _ hu);rw[List.mem_cons]at h1
       rcases h1 with rfl|h1
       · exact absurd (ha.1 u hu) (by omega)
       · exact h1
     · intro hu;have h1:=(h u).2 (List.mem_cons_of_mem _ hu);rw[List.mem_cons]at h1
       rcases h1 with rfl|h1
       · exact absurd (hb.1 u hu) (by omega)
       · exact h1
def qM (x:Nd)(name:ByteArray):Bool:=if x.text then decide (name=⟨#[]⟩) else decide (name=⟨#[42]⟩)||(!decide (name=⟨#[]⟩)&&decide (name=x.s))
def yL (ns:List Nd)(par:Int)(name:ByteArray)(k:Nat):Bool:=match ns[k]? with|some y=>decide (y.parent=par)&&qM y name|none=>false
def qO (ns:List Nd)(par:Int)(name:ByteArray):Nat→Nat
 | 0=>0
 | k+1=>qO ns par name k+(if yL ns par name k then 1 else 0)
def zA (ns:List Nd):List St→Nat→Bool
 | [],_=>false
 | s :: r, n => match ns[n]? with
   | none=>false
   | some x=>qM x s.name&&(decide (x.parent<0)==r.isEmpty)&&(decide (x.parent<0)||zA ns r x.parent.toNat)&&(decide (s.n=0)||decide (s.n=(qO ns x.parent s.name (n+1):Int)))
def q5 (ns:List Nd)(r:List St):Nat→List Int
 | 0=>[]
 | k+1=>q5 ns r k++(if zA ns r k then [(k:Int)] else [])
theorem zg {x:Nd}(h:x.text=false→qB x.s=true)(name:ByteArray):qM x name=q9 x name:=by
 unfold qM q9;cases ht:x.text with
 | true=>rfl
 | false =>
   simp only[Bool.false_eq_true,if_false]
   by_cases hn:name=⟨#[]⟩
   · have h2 : ¬ name = x.s := fun e => (Zz (h ht)).2 (by rw[←e, hn])
     have h3:¬ (⟨#[]⟩:ByteArray)=x.s:=by rw[←hn];exact h2
     simp[hn,h3]
   · simp[hn]
theorem jL (ns:List Nd)(r:List St):∀ (m:Nat)(u:Int),u∈q5 ns r m↔∃ k:Nat,u=(k:Int)∧k<m∧zA ns r k=true:=by
 intro m
 induction m with
 | zero=>intro u;simp[q5]
 | succ m ih =>
   intro u;rw[q5,List.mem_append,ih]
   constructor
   · rintro (⟨k, h1, h2, h3⟩ | h)
     · exact ⟨k,h1,by omega,h3⟩
     · split at h
       · rename_i hc
         rw[List.mem_singleton]at h
         exact ⟨m,h,by omega,hc⟩
       · simp at h
   · rintro ⟨k, h1, h2, h3⟩
     by_cases hk:k=m
     · subst hk
       right
       rw[if_pos h3,h1];exact List.mem_singleton.2 rfl
     · exact Or.inl ⟨k,h1,by omega,h3⟩
theorem jY (ns:List Nd)(r:List St):∀ (m:Nat),(q5 ns r m).Pairwise (fun u v=>u<v):=by
 intro m
 induction m with
 | zero=>exact List.Pairwise.nil
 | succ m ih =>
   rw[q5,List.pairwise_append];refine ⟨ih,?_,?_⟩
   · split
     · exact List.Pairwise.cons (by simp) List.Pairwise.nil
     · exact List.Pairwise.nil
   · intro u hu v hv;obtain ⟨k,rfl,hk,_⟩:=(jL ns r m u).1 hu
     split at hv
     · rw[List.mem_singleton]at hv;omega
     · simp at hv
theorem sorted_at:∀ {L:List Int}{u:Int}{i:Nat},L.Pairwise (fun a b=>a<b)→u∈L→(L[i]?=some u↔(L.filter fun x=>decide (x≤u)).length=i+1):=by
 intro L
 induction L with
 | nil=>intro u i _ h;simp at h
 | cons x L ih =>
   intro u i hp hu;rw[List.pairwise_cons]at hp
   rw[List.mem_cons]at hu
   rcases hu with rfl|hu
   · have hno:(L.filter fun x=>decide (x≤u))=[]:=by
      rw[List.filter_eq_nil_iff];intro y hy;have:=hp.1 y hy;simp;omega
     rw[List.filter_cons_of_pos (by simp),hno]
     cases i with
     | zero=>simp
     | succ i =>
       constructor
       · intro h;have:=hp.1 u (List.mem_of_getElem? (by simpa using h))
         omega
       · intro h;simp at h
   · have hx := hp.1 u hu;rw[List.filter_cons_of_pos (by simp;omega),List.length_cons]
     cases i with
     | zero =>
       constructor
       · intro h;simp at h;omega
       · intro h;have:(L.filter fun x=>decide (x≤u))=[]:=List.eq_nil_of_length_eq_zero (by omega)
         rw[List.filter_eq_nil_iff]at this
         exact absurd (this u hu) (by simp)
     | succ i =>
       have:=ih (i:=i) hp.2 hu;rw[List.getElem?_cons_succ,this];omega
def yp (ns:List Nd)(par:Int)(name:ByteArray):Nat→List Int
 | 0=>[]
 | k+1=>yp ns par name k++(if yL ns par name k then [(k:Int)] else [])
theorem Qy (ns:List Nd)(par:Int)(name:ByteArray):∀ m,(yp ns par name m).length=qO ns par name m:=by
 intro m
 induction m with
 | zero=>rfl
 | succ m ih =>
   rw[yp,qO,List.length_append,ih]
   split<;>simp
theorem jI (ns:List Nd)(par:Int)(name:ByteArray):∀ (m:Nat)(u:Int),u∈yp ns par name m↔∃ k:Nat,u=(k:Int)∧k<m∧yL ns par name k=true:=by
 intro m
 induction m with
 | zero=>intro u;simp[yp]
 | succ m ih =>
   intro u;rw[yp,List.mem_append,ih]
   constructor
   · rintro (⟨k, h1, h2, h3⟩ | h)
     · exact ⟨k,h1,by omega,h3⟩
     · split at h
       · rename_i hc
         rw[List.mem_singleton]at h
         exact ⟨m,h,by omega,hc⟩
       · simp at h
   · rintro ⟨k, h1, h2, h3⟩
     by_cases hk:k=m
     · subst hk
       right
       rw[if_pos h3,h1];exact List.mem_singleton.2 rfl
     · exact Or.inl ⟨k,h1,by omega,h3⟩
theorem jX (ns:List Nd)(par:Int)(name:ByteArray):∀ (m:Nat),(yp ns par name m).Pairwise (fun u v=>u<v):=by
 intro m
 induction m with
 | zero=>exact List.Pairwise.nil
 | succ m ih =>
   rw[yp,List.pairwise_append];refine ⟨ih,?_,?_⟩
   · split
     · exact List.Pairwise.cons (by simp) List.Pairwise.nil
     · exact List.Pairwise.nil
   · intro u hu v hv;obtain ⟨k,rfl,hk,_⟩:=(jI ns par name m u).1 hu
     split at hv
     · rw[List.mem_singleton]at hv;omega
     · simp at hv
theorem jD {ns:List Nd}(hg:qg ns=true){q:Nat}{y:Nd}(hy:ns[q]?=some y):y.kids.Pairwise (fun u v=>u<v):=by
 refine List.Pairwise.imp_of_mem ?_ (qj hg hy).row;intro a b ha _ hab;obtain ⟨k,z,rfl,_,_,_,hz,_⟩:=(qj hg hy).kids a ha;have:=(qj hg hz).gt;omega
theorem Qz {ns:List Nd}(hg:qg ns=true){q:Nat}{y:Nd}(hy:ns[q]?=some y)(name:ByteArray)(n:Nat):yp ns (q:Int) name (n+1)=(zJ ns y.kids name).filter (fun x=>decide (x≤(n:Int))):=by
 refine sorted_ext (jX _ _ _ _) (((jD hg hy).sublist List.filter_sublist).sublist List.filter_sublist) (fun u=>?_)
 rw[jI,List.mem_filter];unfold zJ;rw[List.mem_filter]
 constructor
 · rintro ⟨k, rfl, hk, hm⟩;unfold yL at hm
   cases hx:ns[k]? with
   | none=>rw[hx]at hm;cases hm
   | some x =>
     rw[hx]at hm
     simp only[Bool.and_eq_true,decide_eq_true_eq]at hm
     rw[zg (qj hg hx).name]at hm
     rcases (qj hg hx).par with ⟨_,hp⟩|⟨p,z,hz,hp,_,hmem⟩
     · rw[hp]at hm;omega
     · have : p = q := by rw[hp]at hm;omega
       subst this;rw[hy]at hz
       obtain rfl:=Option.some.inj hz;refine ⟨⟨hmem,?_⟩,by simp;omega⟩
       rw[zD hx];exact hm.2
 · rintro ⟨⟨hmem, hf⟩, hle⟩;obtain ⟨k,x,rfl,_,_,_,hx,hp⟩:=(qj hg hy).kids u hmem;simp only[decide_eq_true_eq]at hle
   refine ⟨k,rfl,by omega,?_⟩
   unfold yL;rw[hx];simp only[Bool.and_eq_true,decide_eq_true_eq];refine ⟨hp,?_⟩;rw[zg (qj hg hx).name,←zD hx];exact hf
theorem jH {L:List Int}{m:Nat}{u:Int}:u∈(L.drop m).take 1↔L[m]?=some u:=by
 constructor
 · intro h;cases hd:L.drop m with
   | nil=>rw[hd]at h;simp at h
   | cons x r =>
     rw[hd]at h
     simp at h
     subst h;have:(L.drop m)[0]?=some u:=by rw[hd];rfl
     rw[List.getElem?_drop]at this
     exact this
 · intro h;have:(L.drop m)[0]?=some u:=by rw[List.getElem?_drop];exact h
   cases hd:L.drop m with
   | nil=>rw[hd]at this;simp at this
   | cons x r=>rw[hd]at this;simp at this;subst this;simp
theorem jG {ns:List Nd}(hg:qg ns=true){q n:Nat}{y x:Nd}(hy:ns[q]?=some y)(hx:ns[n]?=some x)(hp:x.parent=(q:Int))(hm:(n:Int)∈y.kids){s:St}(hs:0≤s.n) :
 (n:Int)∈qD ns y.kids s↔(qM x s.name&&(decide (s.n=0)||decide (s.n=(qO ns x.parent s.name (n+1):Int))))=true:=by
 rw[Bool.and_eq_true,zg (qj hg hx).name];have hrise:(zJ ns y.kids s.name).Pairwise (fun u v=>u<v):=(jD hg hy).sublist (List.filter_sublist (p:=xg ns s.name))
 have hmem:(n:Int)∈zJ ns y.kids s.name↔q9 x s.name=true:=by
  unfold zJ;rw[List.mem_filter,zD hx];exact ⟨fun h=>h.2,fun h=>⟨hm,h⟩⟩
 unfold qD
 by_cases hz:s.n=0
 · rw[if_pos hz,hmem];simp[hz]
 · rw[if_neg hz, jH]
   by_cases hf:q9 x s.name=true
   · rw[sorted_at hrise (hmem.2 hf), ←Qz hg hy, Qy, hp];simp only[hf,hz,decide_false,Bool.false_or,decide_eq_true_eq,true_and];omega
   · constructor
     · intro h;exact absurd (hmem.1 (List.mem_of_getElem? h)) hf
     · intro h;exact absurd h.1 hf
theorem yK {ns:List Nd}(hg:qg ns=true){x:Nd}(hx:ns[0]?=some x){s:St}(hs:0≤s.n) :
 (0:Int)∈qD ns [0] s↔(qM x s.name&&(decide (s.n=0)||decide (s.n=(qO ns x.parent s.name 1:Int))))=true:=by
 have hfl:zJ ns [0] s.name=if q9 x s.name then [0] else []:=by
  unfold zJ;have h0:xg ns s.name 0=q9 x s.name:=zD hx s.name;rw[List.filter_cons,h0];rfl
 have hw:qO ns x.parent s.name 1=if q9 x s.name then 1 else 0:=by
  rw[qO,qO,Nat.zero_add]
  have:yL ns x.parent s.name 0=q9 x s.name:=by
   unfold yL;rw[hx];simp[zg (qj hg hx).name]
  rw[this]
 rw[Bool.and_eq_true,zg (qj hg hx).name,hw];unfold qD;rw[hfl]
 by_cases hf:q9 x s.name=true
 · rw[if_pos hf, if_pos hf]
   by_cases hz:s.n=0
   · simp[hz,hf]
   · rw[if_neg hz, jH];simp only[hf,hz,decide_false,Bool.false_or,decide_eq_true_eq,true_and]
     by_cases h1:s.n=1
     · simp[h1]
     · obtain ⟨k, hk⟩ : ∃ k, s.n.toNat - 1 = k + 1 := ⟨s.n.toNat - 2, by omega⟩
       rw[hk];simp[h1]
 · rw[if_neg hf]
   constructor
   · intro h;split at h<;>simp at h
   · intro h;exact absurd h.1 hf
theorem QL (ns:List Nd){l:List St}(hl:l≠[])(s:St):yw ns (l++[s])=z7 ns (yw ns l) s:=by
 cases l with
 | nil=>exact absurd rfl hl
 | cons t l=>exact jN ns l s _
theorem Zq {ns:List Nd}(hg:qg ns=true):∀ (r:List St),r≠[]→(∀ s∈r,0≤s.n)→∀ u:Int,u∈yw ns r.reverse↔∃ (k:Nat),u=(k:Int)∧k<ns.length∧zA ns r k=true:=by
 intro r
 induction r with
 | nil=>intro h;exact absurd rfl h
 | cons s r ih =>
   intro _ hn u;have hs:=hn s List.mem_cons_self;rw[List.reverse_cons];cases r with
   | nil =>
     show u∈qD ns [0] s↔_
     obtain ⟨x0,hx0,hp0,_⟩:=yb hg
     constructor
     · intro h;have h1:=(qT _ _ _).subset h;rw[List.mem_singleton]at h1
       subst h1;have:=(yK hg hx0 hs).1 h;refine ⟨0,rfl,qk hx0,?_⟩;simp only[zA,hx0,List.isEmpty_nil];rw[Bool.and_eq_true]at this
       have hneg:decide (x0.parent<0)=true:=by rw[hp0];rfl
       rw[hneg,this.1]
       simpa using this.2
     · rintro ⟨k, rfl, hk, hM⟩;obtain ⟨x,hx⟩:∃ x,ns[k]?=some x:=⟨ns[k],by simp[hk]⟩
       simp only[zA,hx,List.isEmpty_nil,Bool.and_eq_true]at hM
       have hneg:decide (x.parent<0)=true:=by simpa using hM.1.1.2
       rw[decide_eq_true_eq]at hneg
       rcases (qj hg hx).par with ⟨rfl,hp⟩|⟨q,y,hy,hp,hq,hm⟩
       · exact (yK hg hx hs).2 (by rw[Bool.and_eq_true];exact ⟨hM.1.1.1,hM.2⟩)
       · omega
   | cons t r =>
     have ih':=ih (by simp) (fun z hz=>hn z (List.mem_cons_of_mem _ hz))
     rw[QL ns (by simp) s]
     constructor
     · intro h;obtain ⟨v,hv,hm⟩:=List.mem_flatMap.1 h;obtain ⟨q,rfl,hq,hM⟩:=(ih' v).1 hv;obtain ⟨y,hy⟩:∃ y,ns[q]?=some y:=⟨ns[q],by simp[hq]⟩
       rw[qY hy]at hm
       obtain ⟨k,x,rfl,hlt,hk,_,hx,hp⟩:=(qj hg hy).kids u ((qT _ _ _).subset hm);have:=(jG hg hy hx hp ((qT _ _ _).subset hm) hs).1 hm;rw[Bool.and_eq_true]at this
       refine ⟨k,rfl,hk,?_⟩;rw[zA,hx];simp only[List.isEmpty_cons,Bool.and_eq_true];have hneg:decide (x.parent<0)=false:=by rw[hp];simp
       rw[hneg,hp,Int.toNat_natCast,hM];refine ⟨⟨⟨this.1,rfl⟩,rfl⟩,?_⟩;rw[hp]at this
       exact this.2
     · rintro ⟨k, rfl, hk, hM⟩;obtain ⟨x,hx⟩:∃ x,ns[k]?=some x:=⟨ns[k],by simp[hk]⟩
       rw[zA,hx]at hM
       simp only[List.isEmpty_cons,Bool.and_eq_true]at hM
       have hneg:decide (x.parent<0)=false:=by simpa using hM.1.1.2
       rcases (qj hg hx).par with ⟨_,hp⟩|⟨q,y,hy,hp,hq,hm⟩
       · rw[hp]at hneg;exact absurd hneg (by decide)
       · have hM2 := hM.1.2;rw[hneg,Bool.false_or,hp,Int.toNat_natCast]at hM2
         refine List.mem_flatMap.2 ⟨(q:Int),(ih' _).2 ⟨q,rfl,qk hy,hM2⟩,?_⟩;rw[qY hy];exact (jG hg hy hx hp hm hs).2 (by rw[Bool.and_eq_true];exact ⟨hM.1.1.1,hM.2⟩)
theorem Zd {ns:List Nd}(hg:qg ns=true){l:List St}(hl:l≠[])(hn:∀ s∈l,0≤s.n):yw ns l=q5 ns l.reverse ns.length:=by
 refine sorted_ext ((Zc hg hl).rises hg) (jY _ _ _) (fun u=>?_)
 have:=Zq hg l.reverse (by simpa using hl) (fun s hs=>hn s (by simpa using hs)) u
 rw[List.reverse_reverse]at this
 rw[this,jL]
end Go.Proofs.YtfdbipeidmpciaaGreatDoor
namespace Go.Proofs.YtfdbipeidmpciaaGreatDoor
open Go.ChangeShapes Go.WideShapes Go.ChangeAt Go.RowKit
set_option maxRecDepth 100000
section
attribute [local go_sem] qf
def qy (S:Nat→Prop)(w:World)(v:Value)(l:List St):Prop :=
  ∃ a cap, v = .slice a l.length cap ∧ l.length ≤ cap ∧ cap ≤ maxLen ∧
    (l≠[]→∃ b o,a=some ⟨b,o,none⟩∧S b∧∀ (i:Nat) (x:St),l[i]?=some x→w.cell? ⟨b,o+i*2,none⟩=some (.string x.name)∧w.cell? ⟨b,o+i*2+1,none⟩=some (.int .i64 x.n))
theorem qy.carry {S S':Nat→Prop}{w w':World}{v:Value}{l:List St}(h:qy S w v l)(hw:∀ b,S b→S' b∧w'.heap[b]?=w.heap[b]?):qy S' w' v l:=by
 obtain ⟨a,cap,h1,h2,h3,h4⟩:=h;refine ⟨a,cap,h1,h2,h3,fun hne=>?_⟩
 obtain ⟨b,o,ha,hs,hc⟩:=h4 hne;refine ⟨b,o,ha,(hw b hs).1,fun i x hx=>?_⟩
 rw[World.cell?_of_block (a:=⟨b,o+i*2,none⟩) (hw b hs).2,World.cell?_of_block (a:=⟨b,o+i*2+1,none⟩) (hw b hs).2];exact hc i x hx
theorem qy.bounded {S:Nat→Prop}{w:World}{v:Value}{l:List St}(h:qy S w v l):qy (fun b=>S b∧b<w.heap.size) w v l:=by
 obtain ⟨a,cap,h1,h2,h3,h4⟩:=h;refine ⟨a,cap,h1,h2,h3,fun hne=>?_⟩
 obtain ⟨b,o,ha,hs,hc⟩:=h4 hne;refine ⟨b,o,ha,⟨hs,?_⟩,hc⟩;cases l with
 | nil=>exact absurd rfl hne
 | cons x r=>exact World.block_lt_of_cell? w _ (hc 0 x rfl).1
theorem qy.later {S:Nat→Prop}{w w':World}{v:Value}{l:List St}(h:qy S w v l)(hb:Below w.heap.size w w'):qy S w' v l :=
 h.bounded.carry fun b hb'=>⟨hb'.1,hb.block b hb'.2⟩
theorem qy.shape {S:Nat→Prop}{w:World}{v:Value}{l:List St}(h:qy S w v l):∃ a c,v=.slice a l.length c∧l.length≤c∧c≤maxLen:=by
 obtain ⟨a,cap,h1,h2,h3,_⟩:=h;exact ⟨a,cap,h1,h2,h3⟩
theorem qy.at {S:Nat→Prop}{w:World}{v:Value}{l:List St}(h:qy S w v l){i:Nat}{x:St}(hx:l[i]?=some x):∃ b o cap,v=.slice (some ⟨b,o,none⟩) l.length cap∧S b∧b<w.heap.size∧w.cell? ⟨b,o+i*2,none⟩=some (.string x.name)∧w.cell? ⟨b,o+i*2+1,none⟩=some (.int .i64 x.n):=by
 obtain ⟨a,cap,h1,h2,h3,h4⟩:=h;have hne:l≠[]:=by intro e;subst e;simp at hx
 obtain ⟨b,o,rfl,hs,hc⟩:=h4 hne;exact ⟨b,o,cap,h1,hs,World.block_lt_of_cell? w _ (hc i x hx).1,hc i x hx⟩
theorem qo (a:ByteArray)(l:List UInt8):a.toList=l↔a=⟨l.toArray⟩:=by
 rw[ByteArray.toList_eq]
 constructor
 · intro h;cases a;simp at h;simp[←h]
 · intro h;subst h;simp
theorem jB (a:ByteArray):a.toList.isEmpty=decide (a=⟨#[]⟩):=by
 by_cases h:a=⟨#[]⟩
 · have:=(qo a []).2 h;rw[this];simp[h]
 · have : ¬ a.toList = [] := fun e => h ((qo a []).1 e)
   simp[h,this]
theorem Zf (a:ByteArray):(a.toList==[42])=decide (a=⟨#[42]⟩):=by
 by_cases h:a=⟨#[42]⟩
 · have:=(qo a [42]).2 h;rw[this];simp[h]
 · have : ¬ a.toList = [42] := fun e => h ((qo a [42]).1 e)
   simp[h,this]
theorem Q1 (x:Nd)(aa:Option Addr)(al ac:Nat)(ka:Option Addr)(kl kc:Nat)(name:ByteArray)(w:World) :
 Calls Tryz.prog 23 #[.agg #[.bool x.text,.string x.s,.slice aa al ac,.int .i64 x.parent,.slice ka kl kc],.string name] w fun e w'=>e=.returned (.bool (q9 x name))∧Below w.heap.size w w':=by
 have hb:=Below.alloc1 w (.cells #[.bool x.text,.string x.s,.slice aa al ac,.int .i64 x.parent,.slice ka kl kc] 38);have HF:Hid (q9 x name=if x.text then decide (name=⟨#[]⟩) else decide (name=⟨#[42]⟩)||decide (name=x.s)):=rfl
 cases ht:x.text with
 | true =>
   rw[ht]at hb HF
   have HF2:Hid (q9 x name=decide (name=⟨#[]⟩)):=HF.out;clear HF ht
   go_enter Tryz.func23,Tryz.ntmps23
   go_wp2_with fail;go_ret;refine ⟨?_,hb⟩;rw[HF2.out,jB];rfl
 | false =>
   rw[ht]at hb HF
   have HF2:Hid (q9 x name=(decide (name=⟨#[42]⟩)||decide (name=x.s))):=HF.out
   clear HF ht
   go_enter Tryz.func23,Tryz.ntmps23
   go_wp2_with fail
   · rename_i h1
     go_ret;refine ⟨?_,hb⟩;rw[HF2.out];have:=(qo name [42]).1 h1;simp[this]
   · go_ret;refine ⟨?_,hb⟩;rw[HF2.out]
     show Ending.returned (Value.bool (name.toList==[42]||name.toList==x.s.toList))=_
     rw[Zf,←jz]
set_option maxHeartbeats 1000000 in
theorem jU (s:St)(w:World)(hs:s.name.size≤maxLen) :
 Calls Tryz.prog 16 #[.agg #[.string s.name,.int .i64 s.n]] w fun e w'=>e=.returned (.bool (qv s))∧Below w.heap.size w w':=by
 have hb:=Below.alloc1 w (.cells #[.string s.name,.int .i64 s.n] 42);have HF:Hid (qv s=(decide (0≤s.n)&&decide (s.n≤99)&&(decide (s.name=⟨#[]⟩)||decide (s.name=⟨#[42]⟩)||qB s.name))):=rfl
 have HN:Hid (∀ W,Calls Tryz.prog 27 #[.string s.name] W fun e w'=>e=.returned (.bool (qB s.name))∧w'=W):=fun W=>qZ s.name W hs
 clear hs
 by_cases h0:s.n<0
 · have HE : Hid (qv s = false) := by show _ = _;rw[HF.out];simp[show ¬ 0 ≤ s.n by omega]
   clear HF
   go_enter Tryz.func16,Tryz.ntmps16
   go_wp2_with fail;go_ret;exact ⟨by rw[HE.out];rfl,hb⟩
 · by_cases h99 : 99 < s.n
   · have HE : Hid (qv s = false) := by show _ = _;rw[HF.out];simp[show ¬ s.n ≤ 99 by omega]
     clear HF
     go_enter Tryz.func16,Tryz.ntmps16
     go_wp2_with fail;go_ret;exact ⟨by rw[HE.out];rfl,hb⟩
   · have HE : Hid (qv s = (decide (s.name = ⟨#[]⟩) || decide (s.name = ⟨#[42]⟩) || qB s.name)) := by show _ = _;rw[HF.out];simp[show 0 ≤ s.n by omega, show s.n ≤ 99 by omega]
     clear HF
     by_cases he:s.name=⟨#[]⟩
     · have hl : s.name.toList = [] := (qo _ _).2 he;have HE2:Hid (qv s=true):=by show _=_;rw[HE.out];simp[he]
       clear HE he
       go_enter Tryz.func16,Tryz.ntmps16
       go_wp2_with fail;go_ret;exact ⟨by rw[HE2.out];rfl,hb⟩
     · have hl : s.name.toList ≠ [] := fun e => he ((qo _ _).1 e)
       by_cases hst:s.name=⟨#[42]⟩
       · have hl2 : s.name.toList = [42] := (qo _ _).2 hst;have HE2:Hid (qv s=true):=by show _=_;rw[HE.out];simp[hst]
         clear HE he hst hl
         go_enter Tryz.func16,Tryz.ntmps16
         go_wp2_with fail;go_ret;exact ⟨by rw[HE2.out];rfl,hb⟩
       · have hl2 : s.name.toList ≠ [42] := fun e => hst ((qo _ _).1 e)
         have HE2:Hid (qv s=qB s.name):=by show _=_;rw[HE.out];simp[hst,he]
         clear HE he hst
         go_enter Tryz.func16,Tryz.ntmps16
         go_wp2_with (go_at_call 27;refine (Calls.mono (HN.out _) ?_);rintro e w2 ⟨rfl,rfl⟩);go_ret;refine ⟨?_,hb⟩;rw[HE2.out]
         show Ending.returned (Value.bool (s.name.toList.isEmpty||s.name.toList==[42]||qB s.name))=_
         simp[hl,hl2]
def zf (l:List St):Prop:=∀ s∈l,s.name.size≤maxLen
set_option maxHeartbeats 1000000 in
theorem yA (S:Nat→Prop)(v:Value)(l:List St)(w:World)(h:qy S w v l)(hn:zf l) :
 Calls Tryz.prog 8 #[v] w fun e w'=>e=.returned (.bool (qE l))∧Below w.heap.size w w':=by
 have HP:Hid (qE l=(decide (1≤l.length)&&decide (l.length≤5)&&l.all qv)):=rfl;have HL:Hid (qy S w v l):=h;have HN:Hid (zf l):=hn;obtain ⟨a,cap,rfl,hlc,hcm⟩:=h.shape;unfold maxLen at hcm
 clear h hn
 by_cases h1:l.length<1
 · have HE : Hid (qE l = false) := by show _ = _;rw[HP.out];simp[show ¬ 1 ≤ l.length by omega]
   have h1i:(l.length:Int)<1:=by omega
   clear HP
   go_enter Tryz.func8,Tryz.ntmps8
   go_wp2_with fail;go_ret;exact ⟨by rw[HE.out];rfl,Below.refl _ _⟩
 · have h1i : ¬ (l.length : Int) < 1 := by omega
   by_cases h5:5<l.length
   · have HE : Hid (qE l = false) := by show _ = _;rw[HP.out];simp[show ¬ l.length ≤ 5 by omega]
     have h5i:5<(l.length:Int):=by omega
     clear HP
     go_enter Tryz.func8,Tryz.ntmps8
     go_wp2_with fail;go_ret;exact ⟨by rw[HE.out];rfl,Below.refl _ _⟩
   · have h5i : ¬ 5 < (l.length : Int) := by omega
     have HE:Hid (qE l=l.all qv):=by show _=_;rw[HP.out];simp[show 1≤l.length by omega,show l.length≤5 by omega]
     clear HP
     go_enter Tryz.func8,Tryz.ntmps8
     go_wp2_with fail
     go_loopg [15] l.length (fun g j wr=>∃ (i:Nat),i+g=l.length∧j=.int .i64 (i:Int)∧Below w.heap.size w wr∧l.all qv=(l.drop i).all qv)
     case atStart => exact ⟨0,by omega,rfl,Below.refl _ _,rfl⟩
     case round =>
      obtain ⟨i,hi,rfl,hB,hA⟩:=hrel;have HA:Hid (l.all qv=(l.drop i).all qv):=hA;clear hA;have hsz:=hB.size
      by_cases hil:i<l.length
      · obtain ⟨s, hs⟩ : ∃ s, l[i]? = some s := ⟨l[i], by simp[hil]⟩
        obtain ⟨b,o,c2,hv,_,_,e0,e1⟩:=(HL.out.later hB).at hs
        injection hv with hv1 _ hv2
        subst hv1 hv2
        have hdr:l.drop i=s::l.drop (i+1):=by
         rw[List.drop_eq_getElem_cons hil];congr 1;simpa[hil] using hs
        have HD:Hid ((l.drop i).all qv=(qv s&&(l.drop (i+1)).all qv)):=by show _=_;rw[hdr];rfl
        have HG:Hid (∀ W,Calls Tryz.prog 16 #[.agg #[.string s.name,.int .i64 s.n]] W fun e w'=>e=.returned (.bool (qv s))∧Below W.heap.size W w'):=fun W=>jU s W (HN.out s (List.mem_of_getElem? hs))
        have hili:(i:Int)<(l.length:Int):=by omega
        have hb1:=hB.alloc hsz (.cells #[.string s.name,.int .i64 s.n] 42);clear hs hdr;cases hq:qv s with
        | true =>
          rw[hq]at HG HD
          clear hq;go_wp2_with fail;refine (Calls.mono (HG.out _) ?_);rintro e w3 ⟨rfl,hb3⟩;go_wp2_with fail
          go_roundg (l.length-(i+1))
          case measure => omega
          case rel => exact ⟨i+1,by omega,by go_num,hb1.trans (hb3.mono hb1.size),by rw[HA.out,HD.out];rfl⟩
        | false =>
          rw[hq]at HG HD
          clear hq;go_wp2_with fail;refine (Calls.mono (HG.out _) ?_);rintro e w3 ⟨rfl,hb3⟩;go_wp2_with fail;go_ret;exact ⟨by rw[HE.out,HA.out,HD.out];rfl,hb1.trans (hb3.mono hb1.size)⟩
      · have hili : ¬ (i : Int) < (l.length : Int) := by omega
        have HD:Hid ((l.drop i).all qv=true):=by show _=_;rw[List.drop_of_length_le (by omega)];rfl
        go_wp2_with fail;go_ret;exact ⟨by rw[HE.out,HA.out,HD.out];rfl,hB⟩
end
section
attribute [local go_sem] qf
set_option maxHeartbeats 1000000 in
theorem yV (x:Nd)(aa:Option Addr)(al ac:Nat)(ka:Option Addr)(kl kc:Nat)(name:ByteArray)(w:World) :
 Calls Tryz.prog 26 #[.agg #[.bool x.text,.string x.s,.slice aa al ac,.int .i64 x.parent,.slice ka kl kc],.string name] w fun e w'=>e=.returned (.bool (qM x name))∧Below w.heap.size w w':=by
 have hb:=Below.alloc1 w (.cells #[.bool x.text,.string x.s,.slice aa al ac,.int .i64 x.parent,.slice ka kl kc] 38);have HF:Hid (qM x name=if x.text then decide (name=⟨#[]⟩) else decide (name=⟨#[42]⟩)||(!decide (name=⟨#[]⟩)&&decide (name=x.s))):=rfl
 cases ht:x.text with
 | true =>
   rw[ht]at hb HF
   have HF2:Hid (qM x name=decide (name=⟨#[]⟩)):=HF.out;clear HF ht
   go_enter Tryz.func26,Tryz.ntmps26
   go_wp2_with fail;go_ret;refine ⟨?_,hb⟩;rw[HF2.out,jB];rfl
 | false =>
   rw[ht]at hb HF
   have HF2:Hid (qM x name=(decide (name=⟨#[42]⟩)||(!decide (name=⟨#[]⟩)&&decide (name=x.s)))):=HF.out
   clear HF ht
   go_enter Tryz.func26,Tryz.ntmps26
   go_wp2_with fail
   · rename_i h1
     go_ret;refine ⟨?_,hb⟩;rw[HF2.out];have:=(qo name [42]).1 h1;simp[this]
   · rename_i h1 h2
     go_ret;refine ⟨?_,hb⟩;rw[HF2.out];have:=(qo name []).1 h2;rw[this];rfl
   · rename_i h1 h2
     go_ret;refine ⟨?_,hb⟩;rw[HF2.out];have e1:decide (name=⟨#[42]⟩)=false:=by rw[decide_eq_false_iff_not];intro e;exact h1 ((qo name [42]).2 e)
     have e2:decide (name=⟨#[]⟩)=false:=by rw[decide_eq_false_iff_not];intro e;exact h2 ((qo name []).2 e)
     rw[e1,e2]
     show Ending.returned (Value.bool (name.toList==[42]||!name.toList.isEmpty&&name.toList==x.s.toList))=_
     have e3:name.toList.isEmpty=false:=by cases h:name.toList with|nil=>exact absurd h h2|cons _ _=>rfl
     have e4:(name.toList==[42])=false:=by rw[beq_eq_false_iff_ne];exact h1
     rw[e3,e4,jz]
end
theorem zp {w:World}{B B':Nat}{e:TypeId}{size:Nat}{v:Value}{n:Nat}{xs:List Value}(h:w.ownsRow B e size v n xs)(hb:B'≤B):w.ownsRow B' e size v n xs:=by
 refine ⟨h.1,?_⟩
 rcases h.2 with h2|⟨g,cap,cur,hv,hg,r⟩
 · exact Or.inl h2
 · exact Or.inr ⟨g,cap,cur,hv,Nat.le_trans hb hg,r⟩
def yI (B:Nat)(w:World)(r:Rw)(x:Nd):Prop:=r.text=x.text∧r.s=x.s∧r.par=x.parent∧qh (qP B 62 w) w r.va x.attrs∧qC B w r.vk x.kids
structure qK (B:Nat) (w:World) (v:Value) (ns:List Nd) (ms:List Rw):Prop where
 len:ms.length=ns.length
 own:w.ownsRow B 38 5 v ns.length (rawCells ms)
 each:∀ (i:Nat) (r:Rw) (x:Nd),ms[i]?=some r→ns[i]?=some x→yI B w r x
 apart:∀ (i j:Nat) (r q:Rw) (b:Nat),i≠j→ms[i]?=some r→ms[j]?=some q→r.vk.ownBlock=some b→q.vk.ownBlock≠some b
theorem qK.nil (B:Nat)(w:World):qK B w (.slice none 0 0) [] [] :=
 ⟨rfl,World.ownsRow_nil _ _ _ _,fun i r x h=>by simp at h,fun i j r q b _ h=>by simp at h⟩
theorem qK.shape {B:Nat}{w:World}{v:Value}{ns:List Nd}{ms:List Rw}(h:qK B w v ns ms):∃ a c,v=.slice a ns.length c∧ns.length≤c∧c≤maxLen:=by
 rcases h.own.2 with ⟨hv,h0⟩|⟨g,cap,cur,hv,_,_,hc,hm,_⟩
 · exact ⟨none,0,by rw[hv,h0],by omega,nZ9 _⟩
 · exact ⟨_,_,hv,hc,hm⟩
theorem yI.keep {B:Nat}{w w':World}{r:Rw}{x:Nd}(h:yI B w r x)(hA:∀ b,qP B 62 w b→w'.heap[b]?=w.heap[b]?)(hI:∀ b,r.vk.ownBlock=some b→w'.heap[b]?=w.heap[b]?):yI B w' r x :=
 ⟨h.1,h.2.1,h.2.2.1,h.2.2.2.1.carry fun b hb=>⟨hb.to (nR9 _) (hA b hb),hA b hb⟩,qN h.2.2.2.2 hI⟩
theorem qK.keep {B:Nat}{w w':World}{v:Value}{ns:List Nd}{ms:List Rw}(h:qK B w v ns ms)(hA:∀ b,qP B 62 w b→w'.heap[b]?=w.heap[b]?)(hI:∀ b,qP B 3 w b→w'.heap[b]?=w.heap[b]?)
 (hN:∀ b,v.ownBlock=some b→w'.heap[b]?=w.heap[b]?):qK B w' v ns ms :=
 ⟨h.len,qN h.own hN,fun i r x hr hx=>(h.each i r x hr hx).keep hA (fun b hb=>hI b (qI (h.each i r x hr hx).2.2.2.2 hb)),h.apart⟩
theorem qK.later {B:Nat}{w w':World}{v:Value}{ns:List Nd}{ms:List Rw}(h:qK B w v ns ms)(hb:Below w.heap.size w w'):qK B w' v ns ms :=
 h.keep (fun b hs=>hb.block b hs.lt) (fun b hs=>hb.block b hs.lt) (fun b hs=>hb.block b (h.own.lt b hs).2)
theorem qK.grown {B:Nat}{w w':World}{v:Value}{ns:List Nd}{ms:List Rw}{row:Option Nat}(h:qK B w v ns ms)(hg:w.grownBy w' row)(hr:∀ b,row=some b→∃ e,e≠38∧e≠62∧e≠3∧qP 0 e w b):qK B w' v ns ms:=by
 have ne:∀ {e':TypeId} {b:Nat},qP B e' w b→(e'=38∨e'=62∨e'=3)→row≠some b:=by
  intro e' b hs he hrow;obtain ⟨e,h1,h2,h3,_,c,fz,hc⟩:=hr b hrow;obtain ⟨_,c',fz',hc'⟩:=hs;rw[hc]at hc'
  injection hc' with hc'
  injection hc' with _ h4 _
  subst h4
  rcases he with he|he|he
  · exact h1 he
  · exact h2 he
  · exact h3 he
 exact h.keep (fun b hs=>hg.block b hs.lt (fun e=>ne hs (Or.inr (Or.inl rfl)) e.symm)) (fun b hs=>hg.block b hs.lt (fun e=>ne hs (Or.inr (Or.inr rfl)) e.symm)) (fun b hs=>hg.block b (h.own.lt b hs).2 (fun e=>ne (qI h.own hs) (Or.inl rfl) e.symm))
theorem yO (l m:List Rw):rawCells (l++m)=rawCells l++rawCells m:=by
 induction l with
 | nil=>rfl
 | cons x r ih=>simp[rawCells,ih]
theorem qK.snoc {B:Nat}{w w':World}{v v':Value}{ns:List Nd}{ms:List Rw}{r:Rw}{x:Nd}(h:qK B w v ns ms)
 (hown:w'.ownsRow B 38 5 v' (ns.length+1) (rawCells ms++[.bool r.text,.string r.s,r.va,.int .i64 r.par,r.vk])) (hg:w.grownBy w' v.ownBlock) (hR:yI B w r x)
 (hap:∀ (i:Nat) (q:Rw) (b:Nat),ms[i]?=some q→q.vk.ownBlock=some b→r.vk.ownBlock≠some b):qK B w' v' (ns++[x]) (ms++[r]):=by
 have keep:∀ {r:Rw} {x:Nd},yI B w r x→yI B w' r x:=by
  intro r x hR;refine hR.keep (fun b hs=>hg.block b hs.lt (qm h.own hs (by decide))) (fun b hs=>hg.block b (qC.lt hR.2.2.2.2 b hs).2 (qm h.own (qI hR.2.2.2.2 hs) (by decide)))
 refine ⟨by simp[h.len],?_,?_,?_⟩
 · rw[yO,List.length_append];exact hown
 · intro i q y hq hy
   rcases Nat.lt_or_ge i ns.length with hi|hi
   · rw[List.getElem?_append_left (by rw[h.len];exact hi)]at hq
     rw[List.getElem?_append_left hi]at hy
     exact keep (h.each i q y hq hy)
   · rw[List.getElem?_append_right (by rw[h.len];exact hi)]at hq
     rw[List.getElem?_append_right hi]at hy
     rw[h.len]at hq
     have hz:i-ns.length=0:=by
      rcases Nat.eq_zero_or_pos (i-ns.length) with h'|h'
      · exact h'
      · rw[List.getElem?_eq_none (by simp;omega)]at hy;cases hy
     rw[hz]at hq hy
     simp at hq hy
     subst hq hy;exact keep hR
 · have last:∀ {i:Nat} {q:Rw},(ms++[r])[i]?=some q→(i<ms.length∧ms[i]?=some q)∨(i=ms.length∧q=r):=by
    intro i q hq
    rcases Nat.lt_or_ge i ms.length with hi|hi
    · rw[List.getElem?_append_left hi]at hq;exact Or.inl ⟨hi,hq⟩
    · rw[List.getElem?_append_right hi]at hq
      have hz:i-ms.length=0:=by
       rcases Nat.eq_zero_or_pos (i-ms.length) with h'|h'
       · exact h'
       · rw[List.getElem?_eq_none (by simp;omega)]at hq;cases hq
      rw[hz]at hq
      simp at hq
      exact Or.inr ⟨by omega,hq.symm⟩
   intro i j p q b hne hp hq hb
   rcases last hp with ⟨hi,hp'⟩|⟨hi,hpr⟩
   · rcases last hq with ⟨hj, hq'⟩ | ⟨hj, hqr⟩
     · exact h.apart i j p q b hne hp' hq' hb
     · rw[hqr];exact hap i p b hp' hb
   · rw[hpr]at hb
     rcases last hq with ⟨hj,hq'⟩|⟨hj,_⟩
     · exact fun e=>hap j q b hq' e hb
     · omega
theorem qK.done {B:Nat}{w:World}{v:Value}{ns:List Nd}{ms:List Rw}(h:qK B w v ns ms):qr (fun b=>B≤b) w v ns:=by
 rcases h.own.2 with ⟨hv,h0⟩|⟨g,cap,cur,hv,hB,hh,hc,hm,_⟩
 · have : ns = [] := List.eq_nil_of_length_eq_zero h0;subst this hv;exact qr.nil
 · subst hv;refine ⟨_,_,rfl,hc,hm,fun _=>⟨g,0,rfl,hB,fun i x hx=>?_⟩⟩
   have hi:i<ns.length:=by
    rcases Nat.lt_or_ge i ns.length with h'|h'
    · exact h'
    · rw[List.getElem?_eq_none h']at hx;cases hx
   obtain ⟨r,hr⟩:∃ r,ms[i]?=some r:=⟨ms[i]'(by rw[h.len];exact hi),by simp[h.len,hi]⟩
   obtain ⟨h1,h2,h3,h4,h5⟩:=h.each i r x hr hx;obtain ⟨g0,g1,g2,g3,g4⟩:=ys ms i r hr;refine ⟨r.va,r.vk,?_,?_,?_,?_,?_,h4.carry (fun b hb=>⟨hb.1,rfl⟩),h5.ints⟩
   · rw[Nat.zero_add,World.ownsRow.cellAt h.own (i*5) (by omega),g0,h1]
   · rw[Nat.zero_add,World.ownsRow.cellAt h.own (i*5+1) (by omega),g1,h2]
   · rw[Nat.zero_add,World.ownsRow.cellAt h.own (i*5+2) (by omega),g2]
   · rw[Nat.zero_add,World.ownsRow.cellAt h.own (i*5+3) (by omega),g3,h3]
   · rw[Nat.zero_add,World.ownsRow.cellAt h.own (i*5+4) (by omega),g4]
theorem qK.at {B:Nat}{w:World}{v:Value}{ns:List Nd}{ms:List Rw}(h:qK B w v ns ms){i:Nat}{r:Rw}(hr:ms[i]?=some r):∃ g cap,v=.slice (some ⟨g,0,none⟩) ns.length cap∧ns.length≤cap∧cap≤maxLen∧B≤g∧g<w.heap.size ∧
 w.cell? ⟨g,i*5+3,none⟩=some (.int .i64 r.par)∧w.cell? ⟨g,i*5+4,none⟩=some r.vk∧w.frozen? ⟨g,i*5+4,none⟩=false:=by
 have hi:i<ns.length:=by
  rw[←h.len]
  rcases Nat.lt_or_ge i ms.length with h'|h'
  · exact h'
  · rw[List.getElem?_eq_none h']at hr;cases hr
 have hown:=h.own
 rcases h.own.2 with ⟨hv,h0⟩|⟨g,cap,cur,hv,hB,hh,hc,hm,_⟩
 · omega
 · subst hv;obtain ⟨g0,g1,g2,g3,g4⟩:=ys ms i r hr;exact ⟨g,cap,rfl,hc,hm,hB,qe hh,by rw[World.ownsRow.cellAt h.own (i*5+3) (by omega),g3],by rw[World.ownsRow.cellAt h.own (i*5+4) (by omega),g4],World.ownsRow.frozenAt h.own _⟩
theorem qK.kid {B:Nat}{w w':World}{g cap:Nat}{ns:List Nd}{ms:List Rw}{i:Nat}{r:Rw}{x:Nd}{v':Value}{l:List Int}(h:qK B w (.slice (some ⟨g,0,none⟩) ns.length cap) ns ms)(hr:ms[i]?=some r)(hx:ns[i]?=some x)
 (hown:qC B w' v' l) (hg:w.grownBy w' r.vk.ownBlock) (hat:v'.ownBlock=r.vk.ownBlock∨v'.ownBlock=some w.heap.size) :
 qK B (w'.setCell ⟨g,i*5+4,none⟩ v') (.slice (some ⟨g,0,none⟩) ns.length cap) (ns.set i { x with kids:=l }) (ms.set i { r with vk:=v' }):=by
 have hR:=h.each i r x hr hx;have hgo:qP B 38 w g:=qI h.own rfl;have hgl:=hgo.lt;have hgr:some g≠r.vk.ownBlock:=qm hR.2.2.2.2 hgo (by decide)
 have hil:i<ns.length:=by
  rcases Nat.lt_or_ge i ns.length with h'|h'
  · exact h'
  · rw[List.getElem?_eq_none h']at hx;cases hx
 have own':w'.ownsRow B 38 5 (.slice (some ⟨g,0,none⟩) ns.length cap) ns.length (rawCells ms):=h.own.kept hg (Or.inr hgr)
 have hvg:v'.ownBlock≠some g:=by
  rcases hat with e|e
  · rw[e];exact fun e=>hgr e.symm
  · rw[e];intro e;injection e with e;omega
 have keepB:∀ b,b<w.heap.size→b≠g→r.vk.ownBlock≠some b→(w'.setCell ⟨g,i*5+4,none⟩ v').heap[b]?=w.heap[b]?:=fun b h1 h2 h3=>by
  rw[qb h2,hg.block b h1 (fun e=>h3 e.symm)]
 have attrs:∀ {r:Rw} {x:Nd},yI B w r x→qh (qP B 62 (w'.setCell ⟨g,i*5+4,none⟩ v')) (w'.setCell ⟨g,i*5+4,none⟩ v') r.va x.attrs:=by
  intro q y hq;refine hq.2.2.2.1.carry fun b hb=>?_
  have e:(w'.setCell ⟨g,i*5+4,none⟩ v').heap[b]?=w.heap[b]?:=keepB b hb.lt (fun e=>by
   subst e;obtain ⟨_,c,fz,hc⟩:=hb;obtain ⟨_,c',fz',hc'⟩:=hgo;rw[hc]at hc'
   injection hc' with hc'
   injection hc' with _ h4 _
   exact absurd h4 (by decide)) (fun e=>qm hR.2.2.2.2 hb (by decide) e.symm)
  exact ⟨hb.to (nR9 _) e,e⟩
 refine ⟨by simp[h.len],?_,?_,?_⟩
 · rw[js ms i r v' hr, List.length_set];exact (own'.stored (i*5+4) v').1
 · intro j q y hq hy
   by_cases hj:j=i
   · subst hj;rw[List.getElem?_set_self (by rw[h.len];exact hil)]at hq
     rw[List.getElem?_set_self hil]at hy
     injection hq with hq
     injection hy with hy
     subst hq hy;exact ⟨hR.1,hR.2.1,hR.2.2.1,attrs (r:=r) (x:=x) hR,qN hown fun b hb=>qb (fun e=>hvg (by rw[hb,e]))⟩
   · rw[List.getElem?_set_ne (fun e => hj e.symm)]at hq hy
     have hq':=h.each j q y hq hy;exact ⟨hq'.1,hq'.2.1,hq'.2.2.1,attrs hq',qN hq'.2.2.2.2 fun b hb=>keepB b (qC.lt hq'.2.2.2.2 b hb).2 (fun e=>qm hq'.2.2.2.2 hgo (by decide) (by rw[hb,e])) (fun e=>h.apart i j r q b (fun e=>hj e.symm) hr hq e hb)⟩
 · intro j k p q b hne hp hq hb e
   by_cases hj:j=i
   · subst hj;rw[List.getElem?_set_self (by rw[h.len];exact hil)]at hp
     injection hp with hp
     subst hp;rw[List.getElem?_set_ne hne]at hq
     obtain ⟨y,hy⟩:∃ y,ns[k]?=some y:=⟨ns[k]'(by rw[←h.len];exact (List.getElem?_eq_some_iff.1 hq).1),by simp⟩
     have hlt:=(qC.lt (h.each k q y hq hy).2.2.2.2 b e).2;simp only at hb
     rcases hat with e1|e1
     · rw[e1]at hb;exact h.apart j k r q b hne hr hq hb e
     · rw[e1]at hb;injection hb with hb;omega
   · rw[List.getElem?_set_ne (fun e => hj e.symm)]at hp
     by_cases hk:k=i
     · subst hk;rw[List.getElem?_set_self (by rw[h.len];exact hil)]at hq
       injection hq with hq
       subst hq;obtain ⟨y,hy⟩:∃ y,ns[j]?=some y:=⟨ns[j]'(by rw[←h.len];exact (List.getElem?_eq_some_iff.1 hp).1),by simp⟩
       have hlt:=(qC.lt (h.each j p y hp hy).2.2.2.2 b hb).2;simp only at e
       rcases hat with e1|e1
       · rw[e1]at e;exact h.apart j k p r b hne hp hr hb e
       · rw[e1]at e;injection e with e;omega
     · rw[List.getElem?_set_ne (fun e => hk e.symm)]at hq
       exact h.apart j k p q b hne hp hq hb e
section
attribute [local go_sem] qf
theorem intInfo:(Tryz.prog.info? 3).map (fun i=>(i.zero,i.size,i.bytes))=some (some (.int .i64 0),1,8):=by kernel_rfl
theorem xG {ops:Array Oper}{o:Oper}{a:Act}{w:World}{K:Act→World→Prop}{Q:Exit→Act→World→Prop}{E:Prop}
 (hg:o.guard=none) (s x:Operand) (hop:o.op=Op.call { callee:=Callee.builtin Builtin.append,args:=#[s,x],argTypes:=#[27,27] })
 (B:Nat) (v:Value) (n:Nat) (xs:List Value) (hs:a.eval s=v) (hown:w.ownsRow B 3 1 v n xs) (ad:Addr) (k:Int) (hx:a.eval x=.slice (some ad) 1 1)
 (hnews:∀ j u,[Value.int .i64 k][j]?=some u→w.cell? (ad.add j)=some u) (hn:n≤1048576) (hB:B≤w.heap.size)
 (hK:∀ v' w',w'.ownsRow B 3 1 v' (n+1) (xs++[.int .i64 k])→w.grownBy w' v.ownBlock→(v'.ownBlock=v.ownBlock∨v'.ownBlock=some w.heap.size)→K (a.put o.dst v') w') :
 if Region.wanted o (yielded ops a.tmps)=true then Oper.wp Tryz.prog o a w K Q else E:=by
 have hw:Region.wanted o (yielded ops a.tmps)=true:=by simp[Region.wanted,hg]
 rw[if_pos hw];obtain ⟨i0,hi,hz0,hz1,hz2⟩:=info_parts intInfo;obtain ⟨v',w',hr,h2,h3,_,h5⟩:=run_append_own_at (P:=Tryz.prog) w B 27 o.type 3 i0 _ 1 8 Tryz.underlying27 hi hz0 hz1 hz2 rfl (by decide) v n xs hown ad 1 1 [.int .i64 k] rfl hnews (by intro u hu;simp at hu;subst hu;rfl) (by unfold maxLen;omega) (by omega) hB
 unfold Oper.wp;simp[execOp,hop,resolve,invoke,builtin,hs,hx,hr,Result.andThen];exact hK v' w' h2 h3 h5
theorem QS {ts:List Tr}{i:Nat}{k:Tr}(hk:ts[i]?=some k):ts.take (i+1)=ts.take i++[k]:=by
 have hi:i<ts.length:=by
  rcases Nat.lt_or_ge i ts.length with h'|h'
  · exact h'
  · rw[List.getElem?_eq_none h']at hk;cases hk
 rw[List.take_succ_eq_append_getElem hi];congr 2;simpa[hi] using hk
end
section
attribute [local go_sem] qf
def jF (n:Nat)(t:Tr):List Nd:=if qL t then layF n t (-1) 0 else []
def xu (t:Tr):Int:=if qL t then 0 else 1
end
end Go.Proofs.YtfdbipeidmpciaaGreatDoor
namespace Go.Proofs.YtfdbipeidmpciaaGreatDoor
open Go.RowKit
set_option maxRecDepth 100000
theorem jE {n:Nat}{t:Tr}(hd:Deep n t.kids)(hg:qL t=true):qg (layF n t (-1) 0)=true∧growF (layF n t (-1) 0).length (layF n t (-1) 0) 0=t∧zR (layF n t (-1) 0) 0=((cnt (n+1) [t]:Nat):Int)∧(layF n t (-1) 0).length=cnt (n+1) [t]:=by
 have hlen:=layF_length n t (-1) 0 hd;have hseg:=xC (layF n t (-1) 0);have hg2:=hg;rw[y5 hd]at hg2
 simp only[Bool.and_eq_true,Bool.not_eq_true',decide_eq_true_eq]at hg2
 obtain ⟨⟨_,hc⟩,_⟩:=hg2;have hgr:=grow_lay n t (layF n t (-1) 0).length (layF n t (-1) 0) (-1) 0 hd hseg (by omega)
 have hor:=ord_lay n t ((layF n t (-1) 0).length+1) (layF n t (-1) 0) (-1) 0 hd hseg (by omega)
 have hla:=last_lay n t (layF n t (-1) 0).length (layF n t (-1) 0) (-1) 0 hd hseg (by omega)
 have hgd:qg (layF n t (-1) 0)=true:=by
  unfold qg zo;rw[hor,hgr,hg,hlen];simp;omega
 refine ⟨hgd,hgr,?_,hlen⟩;unfold zR;have hpos:0<cnt (n+1) [t]:=by rw[qt];omega
 have ham:jS (layF n t (-1) 0) 0=true:=by unfold jS;rw[hlen];simp;omega
 rw[hgd,ham];simp only[Bool.and_self,if_true,Int.toNat_zero];omega
def zh (n:Nat)(x:Nd):Nd:={ x with kids:=x.kids.filter fun u=>decide (u<(n:Int)) }
def qJ (L:List Nd)(n:Nat):List Nd:=(L.take n).map (zh n)
def WL (L:List Nd):Nat→List (Tr × Int)→Prop
 | n,[]=>n=L.length
 | n,i::r=>∃ d,Deep d i.1.kids∧Seg L n (layF d i.1 i.2 n)∧WL L (n+cnt (d+1) [i.1]) r
theorem WL.kids {L:List Nd}{d n:Nat}:∀ (ks:List Tr)(b:Nat)(r:List (Tr × Int)),(∀ k∈ks,Deep d k.kids)→Seg L b (qn d (layF d) n b ks)→WL L (b+cnt (d+1) ks) r→WL L b (ks.map (fun k=>(k,(n:Int)))++r):=by
 intro ks
 induction ks with
 | nil=>intro b r _ _ h;rw[qH]at h;exact h
 | cons k ks ih =>
   intro b r hd hs h;rw[qn]at hs
   have hl:=hs.left;have hr:=hs.right;have hdk:=hd k List.mem_cons_self;rw[layF_length d k n b hdk]at hr
   rw[qS]at h
   refine ⟨d,hdk,hl,ih _ r (fun u hu=>hd u (List.mem_cons_of_mem _ hu)) hr ?_⟩
   rw[Nat.add_assoc];exact h
theorem WL.step {L:List Nd}{n:Nat}{t:Tr}{p:Int}{r:List (Tr × Int)}(h:WL L n ((t,p)::r)):∃ x,L[n]?=some x∧x.text=t.text∧x.s=t.s∧x.attrs=t.attrs∧x.parent=p∧WL L (n+1) (t.kids.map (fun k=>(k,(n:Int)))++r):=by
 obtain ⟨d,hd,hs,hr⟩:=h;have h0:=hs 0 _ (by rw[zd hd p n];rfl)
 refine ⟨_,h0,rfl,rfl,rfl,rfl,?_⟩;simp only at hd hs hr
 rw[qt]at hr
 cases d with
 | zero =>
   have e:t.kids=[]:=hd;rw[e]at hr ⊢
   rw[qH]at hr
   exact hr
 | succ d=>exact WL.kids t.kids (n+1) r hd (Seg.tail hs) (by rw[Nat.add_assoc];exact hr)
theorem WL.start {n:Nat}{t:Tr}(hd:Deep n t.kids):WL (layF n t (-1) 0) 0 [(t,-1)] :=
 ⟨n,hd,xC _,by show 0+cnt (n+1) [t]=_;rw[layF_length n t _ _ hd,Nat.zero_add]⟩
theorem zE {L:List Nd}{n:Nat}(h:n≤L.length):(qJ L n).length=n:=by
 unfold qJ;rw[List.length_map,List.length_take];omega
theorem yC {L:List Nd}{n i:Nat}(h:i<n):(qJ L n)[i]?=(L[i]?).map (zh n):=by
 unfold qJ;rw[List.getElem?_map,List.getElem?_take,if_pos h]
theorem zS {n:Nat}{l:List Int}(h:∀ u∈l,(n:Int)≤u):(l.filter fun u=>decide (u<(n:Int)))=[]:=by
 rw[List.filter_eq_nil_iff];intro u hu;have:=h u hu;simp;omega
theorem xx {L:List Nd}(hg:qg L=true){n:Nat}{x:Nd}(hx:L[n]?=some x):(qJ L (n+1))[n]?=some { x with kids:=[] }:=by
 rw[yC (Nat.lt_succ_self n),hx]
 show some (zh (n+1) x)=_
 unfold zh;rw[zS (fun u hu=>by obtain ⟨k,_,rfl,h,_⟩:=(qj hg hx).kids u hu;omega)]
theorem xf {n:Nat}:∀ {l:List Int},l.Pairwise (fun a b=>a<b)→(l.filter fun u=>decide (u<((n+1:Nat):Int)))=(l.filter fun u=>decide (u<(n:Int)))++(if (n:Int)∈l then [(n:Int)] else []):=by
 intro l
 induction l with
 | nil=>intro _;simp
 | cons x l ih =>
   intro h;rw[List.pairwise_cons]at h
   by_cases h1:x<(n:Int)
   · rw[List.filter_cons_of_pos (by simp;omega), List.filter_cons_of_pos (by simpa using h1), ih h.2, List.cons_append]
     have:((n:Int)∈x::l)↔(n:Int)∈l:=by
      rw[List.mem_cons];exact ⟨fun h=>h.resolve_left (by omega),Or.inr⟩
     simp only[this]
   · by_cases h2 : x = (n : Int)
     · subst h2;rw[List.filter_cons_of_pos (by simp;omega),List.filter_cons_of_neg (by simp),if_pos List.mem_cons_self]
       rw[zS (n:=n+1) (fun u hu=>by have:=h.1 u hu;omega),zS (fun u hu=>by have:=h.1 u hu;omega)]
       rfl
     · rw[List.filter_cons_of_neg (by simp;omega), List.filter_cons_of_neg (by simp;omega), ih h.2]
       have:((n:Int)∈x::l)↔(n:Int)∈l:=by
        rw[List.mem_cons];exact ⟨fun h=>h.resolve_left (fun e=>h2 e.symm),Or.inr⟩
       simp only[this]
theorem jM {ns:List Nd}(hg:qg ns=true){q:Nat}{y:Nd}(hy:ns[q]?=some y):y.kids.Pairwise (fun u v=>u<v):=by
 refine List.Pairwise.imp_of_mem ?_ (qj hg hy).row;intro a b ha _ hab;obtain ⟨k,z,rfl,_,_,_,hz,_⟩:=(qj hg hy).kids a ha;have:=(qj hg hz).gt;omega
theorem Qn {ns:List Nd}(hg:qg ns=true){q n:Nat}{y x:Nd}(hy:ns[q]?=some y)(hx:ns[n]?=some x):(n:Int)∈y.kids↔x.parent=(q:Int):=by
 constructor
 · intro h;obtain ⟨k,z,e,_,_,_,hz,hp⟩:=(qj hg hy).kids _ h;have:k=n:=by omega
   subst this;rw[hx]at hz
   obtain rfl:=Option.some.inj hz;exact hp
 · intro h
   rcases (qj hg hx).par with ⟨_,hp⟩|⟨q',y',hy',hp,_,hm⟩
   · omega
   · have : q' = q := by omega
     subst this;rw[hy]at hy'
     obtain rfl:=Option.some.inj hy';exact hm
theorem xy {L:List Nd}(hg:qg L=true){n i:Nat}{x y:Nd}(hx:L[n]?=some x)(hi:i<n)(hy:L[i]?=some y) :
 (qJ L n)[i]?=some (zh n y)∧(qJ L (n+1))[i]?=some { zh n y with kids:=(zh n y).kids++(if x.parent=(i:Int) then [(n:Int)] else []) }:=by
 rw[yC hi,yC (by omega),hy]
 refine ⟨rfl,?_⟩
 show some (zh (n+1) y)=_
 unfold zh;simp only;rw[xf (jM hg hy)];simp only[Qn hg hy hx]
theorem Zb {L:List Nd}(hg:qg L=true):qJ L L.length=L:=by
 unfold qJ;rw[List.take_length]
 conv=>rhs;rw[←List.map_id L]
 apply List.map_congr_left
 intro y hy;obtain ⟨i,hi⟩:=List.mem_iff_getElem?.1 hy;unfold zh
 have:(y.kids.filter fun u=>decide (u<(L.length:Int)))=y.kids:=by
  rw[List.filter_eq_self];intro u hu;obtain ⟨k,_,rfl,_,h,_⟩:=(qj hg hi).kids u hu;simp;omega
 rw[this];rfl
def je (ns:List Nd)(n k:Nat):Bool:=match ns[k]? with|some y=>decide (y.parent=(n:Int))|none=>false
def qF (ns:List Nd)(n:Nat):Nat→List Int
 | 0=>[]
 | k+1=>qF ns n k++(if n<k∧je ns n k=true then [(k:Int)] else [])
def treeF:Nat→List Nd→Nat→Tr
 | 0,_,_=>⟨false,⟨#[]⟩,[],[]⟩
 | f + 1, ns, n => match ns[n]? with
   | none=>⟨false,⟨#[]⟩,[],[]⟩
   | some x=>⟨x.text,x.s,x.attrs,(qF ns n ns.length).map fun k=>treeF f ns k.toNat⟩
theorem jO (ns:List Nd)(n:Nat):∀ (m:Nat)(u:Int),u∈qF ns n m↔∃ k:Nat,u=(k:Int)∧k<m∧n<k∧je ns n k=true:=by
 intro m
 induction m with
 | zero=>intro u;simp[qF]
 | succ m ih =>
   intro u;rw[qF,List.mem_append,ih]
   constructor
   · rintro (⟨k, h1, h2, h3⟩ | h)
     · exact ⟨k,h1,by omega,h3⟩
     · split at h
       · rename_i hc
         rw[List.mem_singleton]at h
         exact ⟨m,h,by omega,hc⟩
       · simp at h
   · rintro ⟨k, h1, h2, h3⟩
     by_cases hk:k=m
     · subst hk
       right
       rw[if_pos h3,h1];exact List.mem_singleton.2 rfl
     · exact Or.inl ⟨k,h1,by omega,h3⟩
theorem j3 (ns:List Nd)(n:Nat):∀ (m:Nat),(qF ns n m).Pairwise (fun u v=>u<v):=by
 intro m
 induction m with
 | zero=>exact List.Pairwise.nil
 | succ m ih =>
   rw[qF,List.pairwise_append];refine ⟨ih,?_,?_⟩
   · split
     · exact List.Pairwise.cons (by simp) List.Pairwise.nil
     · exact List.Pairwise.nil
   · intro u hu v hv;obtain ⟨k,rfl,hk,_⟩:=(jO ns n m u).1 hu
     split at hv
     · rw[List.mem_singleton]at hv;omega
     · simp at hv
theorem rise_ext:∀ {a b:List Int},a.Pairwise (fun u v=>u<v)→b.Pairwise (fun u v=>u<v)→(∀ u,u∈a↔u∈b)→a=b:=by
 intro a
 induction a with
 | nil =>
   intro b _ _ h;cases b with
   | nil=>rfl
   | cons y b=>exact absurd ((h y).2 List.mem_cons_self) (by simp)
 | cons x a ih =>
   intro b ha hb h;cases b with
   | nil=>exact absurd ((h x).1 List.mem_cons_self) (by simp)
   | cons y b =>
     rw[List.pairwise_cons]at ha hb
     have hxy:x=y:=by
      have h1:=(h x).1 List.mem_cons_self;have h2:=(h y).2 List.mem_cons_self;rw[List.mem_cons]at h1 h2
      rcases h1 with h1|h1
      · exact h1
      · rcases h2 with h2 | h2
        · exact h2.symm
        · have := hb.1 x h1;have:=ha.1 y h2;omega
     subst hxy;rw[ih ha.2 hb.2 (fun u=>?_)]
     constructor
     · intro hu;have h1:=(h u).1 (List.mem_cons_of_mem _ hu);rw[List.mem_cons]at h1
       rcases h1 with rfl|h1
       · exact absurd (ha.1 u hu) (by omega)
       · exact h1
     · intro hu;have h1:=(h u).2 (List.mem_cons_of_mem _ hu);rw[List.mem_cons]at h1
       rcases h1 with rfl|h1
       · exact absurd (hb.1 u hu) (by omega)
       · exact h1
theorem QO {ns:List Nd}(hg:qg ns=true){n:Nat}{x:Nd}(hx:ns[n]?=some x):qF ns n ns.length=x.kids:=by
 refine rise_ext (j3 _ _ _) (jM hg hx) (fun u=>?_)
 rw[jO]
 constructor
 · rintro ⟨k, rfl, hk, hnk, hp⟩;unfold je at hp
   cases hy:ns[k]? with
   | none=>rw[hy]at hp;cases hp
   | some y =>
     rw[hy]at hp
     simp only[decide_eq_true_eq]at hp
     exact (Qn hg hx hy).2 hp
 · intro hu;obtain ⟨k,y,rfl,h1,h2,_,hy,hp⟩:=(qj hg hx).kids u hu;exact ⟨k,rfl,h2,h1,by unfold je;rw[hy];simp[hp]⟩
theorem QU {ns:List Nd}(hg:qg ns=true):∀ (f n:Nat),treeF f ns n=growF f ns n:=by
 intro f
 induction f with
 | zero=>intro n;rfl
 | succ f ih =>
   intro n;rw[treeF,growF];cases hx:ns[n]? with
   | none=>rfl
   | some x =>
     simp only;rw[QO hg hx]
     congr 1
     apply List.map_congr_left
     intro k _;exact ih _
def zb (ns:List Nd):Nat→Bool
 | 0=>true
 | k+1=>zb ns k&&(match ns[k]? with|some x=>decide (k=0)||(decide (0≤x.parent)&&decide (x.parent<(k:Int)))|none=>true)
def ZI (ns:List Nd)(t:Tr):Prop:=qL t=true∧∃ d,Deep d t.kids∧layF d t (-1) 0=ns
theorem jC {ns:List Nd}:qg ns=true↔(0<ns.length∧ns.length≤80∧(∃ x,ns[0]?=some x∧x.parent=-1)∧zb ns ns.length=true∧ZI ns (treeF ns.length ns 0)):=by
 constructor
 · intro hg;obtain ⟨d,t,hd,hs,hc,_,_,hgb,hgr⟩:=zX hg
   have h80:ns.length≤80:=by
    have:=hg;simp only[qg,Bool.and_eq_true,decide_eq_true_eq]at this
    exact this.1.1
   have hpos:0<ns.length:=by rw[←hc,qt];omega
   refine ⟨hpos,h80,⟨_,hs 0 _ (by rw[zd hd (-1) 0];rfl),rfl⟩,?_,?_⟩
   · have:∀ k,zb ns k=true:=by
      intro k
      induction k with
      | zero=>rfl
      | succ k ih =>
        rw[zb,ih,Bool.true_and];cases hx:ns[k]? with
        | none=>rfl
        | some x =>
          simp only[Bool.or_eq_true,Bool.and_eq_true,decide_eq_true_eq]
          rcases (qj hg hx).par with ⟨h,_⟩|⟨q,_,_,hp,hq,_⟩
          · exact Or.inl h
          · exact Or.inr (by omega)
     exact this _
   · rw[QU hg, hgr];refine ⟨hgb,d,hd,?_⟩;have hlen:=layF_length d t (-1) 0 hd
     apply List.ext_getElem?
     intro i
     rcases Nat.lt_or_ge i ns.length with hi|hi
     · have : (layF d t (-1) 0)[i]? = some (layF d t (-1) 0)[i] := List.getElem?_eq_getElem (by omega)
       rw[this];have:=hs i _ this;rw[Nat.zero_add]at this
       exact this.symm
     · rw[List.getElem?_eq_none (by omega),List.getElem?_eq_none (by omega)]
 · rintro ⟨_, _, _, _, hgb, d, hd, hL⟩;have:=(jE hd hgb).1;rw[hL]at this
   exact this
end Go.Proofs.YtfdbipeidmpciaaGreatDoor
namespace Go.Proofs.YtfdbipeidmpciaaGreatDoor
open Go.ChangeShapes Go.WideShapes Go.ChangeAt Go.RowKit
set_option maxRecDepth 100000
section
attribute [local go_sem] qf
theorem zk {ops:Array Oper}{o:Oper}{a:Act}{w:World}{K:Act→World→Prop}{Q:Exit→Act→World→Prop}{E:Prop}
 (hg:o.guard=none) (x:Operand) (hop:o.op=Op.call { callee:=Callee.builtin Builtin.append,args:=#[.const (.slice none 0 0),x],argTypes:=#[36,36] })
 (S:Nat→Prop) (v:Value) (l:List (ByteArray × ByteArray)) (hx:a.eval x=v) (h:qh S w v l) (hl:l.length≤4398046511104)
 (hK:∀ v' w',qh (qP w.heap.size 62 w') w' v' l→Below w.heap.size w w'→K (a.put o.dst v') w') :
 if Region.wanted o (yielded ops a.tmps)=true then Oper.wp Tryz.prog o a w K Q else E:=by
 have hw:Region.wanted o (yielded ops a.tmps)=true:=by simp[Region.wanted,hg]
 rw[if_pos hw];obtain ⟨i0,hi,hz0,hz1,hz2⟩:=info_parts attrInfo;obtain ⟨ad,cap,rfl,h2,h3,h4⟩:=h;have hs:a.eval (.const (.slice none 0 0))=.slice none 0 0:=rfl;cases ad with
 | none =>
   have hn:l=[]:=by
    apply Classical.byContradiction;intro hne
    obtain ⟨b,o,ha,_⟩:=h4 hne;cases ha
   subst hn
   have hrun:(Builtin.append_ #[36,36] o.type #[.slice none 0 0,.slice none 0 cap]).run Tryz.prog w=.ok (.slice none 0 0) w:=by
    simp[Builtin.append_,run_underlying Tryz.underlying36,sizeOf,typeInfo,hi,Builtin.lenOf,Builtin.firstCells]
   simp only[List.length_nil]at hx
   unfold Oper.wp;simp[execOp,hop,resolve,invoke,builtin,hs,hx,hrun,Result.andThen];exact hK _ _ ⟨none,0,rfl,nR9 _,nZ9 _,fun hne=>absurd rfl hne⟩ (Below.refl _ _)
 | some ad =>
   have hcells:∀ j u,(attrCells l)[j]?=some u→w.cell? (ad.add j)=some u:=by
    by_cases hne:l=[]
    · subst hne;intro j u hj;simp[attrCells]at hj
    · obtain ⟨b, o, ha, _, hc⟩ := h4 hne;cases ha;intro j u hj;rw[Addr.add_lit];exact qh.cells hc j u hj
   obtain ⟨v',w',hrun,r1,r2,_⟩:=run_append_own (P:=Tryz.prog) w w.heap.size 36 o.type 62 i0 _ 2 32 Tryz.underlying36 hi hz0 hz1 hz2 rfl (by decide) (.slice none 0 0) 0 [] (World.ownsRow_nil w _ _ _) ad l.length cap (attrCells l) (qX l) hcells (zz l) (by unfold maxLen;omega) (by omega) (nR9 _)
   unfold Oper.wp;simp[execOp,hop,resolve,invoke,builtin,hs,hx,hrun,Result.andThen];refine hK _ _ (qh.of_owns (by simpa using r1)) ((Below.refl _ w).grown r2 (nR9 _) (fun k hk=>by simp[Value.ownBlock]at hk))
def yj (f:Nat):Prop:=∀ (S:Nat→Prop)(v:Value)(ns:List Nd)(n:Nat)(w:World),qr S w v ns→(∀ x∈ns,x.attrs.length≤4398046511104)→ns.length≤80→n<ns.length→ns.length≤n+f →
 Calls Tryz.prog 25 #[.agg #[v],.int .i64 (n:Int)] w fun e w'=>∃ va vk,e=.returned (.agg #[.bool (treeF f ns n).text,.string (treeF f ns n).s,va,vk]) ∧
  qh (fun b=>w.heap.size≤b) w' va (treeF f ns n).attrs∧qd (fun b=>w.heap.size≤b) w' f vk (treeF f ns n).kids∧Below w.heap.size w w'
theorem Qe (ns:List Nd)(n:Nat):∀ m,m≤n+1→qF ns n m=[]:=by
 intro m
 induction m with
 | zero=>intro _;rfl
 | succ m ih =>
   intro h;rw[qF,ih (by omega),if_neg (by omega)]
   rfl
theorem QN (ns:List Nd)(n:Nat):∀ m,(qF ns n m).length≤m:=by
 intro m
 induction m with
 | zero=>exact nR9 _
 | succ m ih =>
   rw[qF,List.length_append]
   split
   · simp;exact ih
   · simp;omega
structure GT (w:World) (dv:Value) (b2 M:Nat) (tr:Array Value) (va:Value) (l:List (ByteArray × ByteArray)) (W:World):Prop where
 below:Below w.heap.size w W
 box:W.heap[w.heap.size]?=some (.cells #[dv] 24 (0,0))
 res:W.heap[w.heap.size+1]?=some (.cells #[.bool false,.string ⟨#[]⟩,.slice none 0 0,.slice none 0 0] 54 (0,0))
 tre:W.heap[b2]?=some (.cells tr 54 (0,0))
 lo:w.heap.size+2≤b2
 hi:b2<M
 le:M≤W.heap.size
 att:qh (fun b=>w.heap.size+2≤b∧b≠b2∧b<M) W va l
theorem ZG {w W2 w3:World}{dv:Value}{x:Nd}{a3:Option Addr}{c3':Nat}(hb3:Below w.heap.size w W2)(hbB:Below W2.drew.heap.size W2.drew w3)(HZ2:W2.heap.size=w.heap.size+3)(HD3:W2.heap[w.heap.size]?=some (.cells #[dv] 24 (0,0)))(HX3:W2.heap[w.heap.size+1]?=some (.cells #[.bool false,.string ⟨#[]⟩,.slice none 0 0,.slice none 0 0] 54 (0,0)))(hA3:qh (qP W2.drew.heap.size 62 w3) w3 (.slice a3 x.attrs.length c3') x.attrs) :
 GT w dv w3.heap.size (w3.alloc (.cells #[.bool x.text,.string x.s,.slice a3 x.attrs.length c3',.slice none 0 0] 54)).heap.size #[.bool x.text,.string x.s,.slice a3 x.attrs.length c3',.slice none 0 0] (.slice a3 x.attrs.length c3') x.attrs (w3.alloc (.cells #[.bool x.text,.string x.s,.slice a3 x.attrs.length c3',.slice none 0 0] 54)):=by
 have hB3:Below w.heap.size w w3:=hb3.drew.trans (hbB.mono (by have:=HZ2;show w.heap.size≤W2.heap.size;omega))
 have hs3:W2.heap.size≤w3.heap.size:=hbB.size;have hz:=HZ2;refine ⟨hB3.alloc hB3.size _,?_,?_,heap_alloc_new _ _,by omega,by simp,nR9 _,?_⟩
 · rw[Lib.alloc_old _ _ _ (by omega)];exact (hbB.block _ (by show w.heap.size<W2.heap.size;omega)).trans HD3
 · rw[Lib.alloc_old _ _ _ (by omega)];exact (hbB.block _ (by show w.heap.size+1<W2.heap.size;omega)).trans HX3
 · exact (hA3.later (Below.alloc1 w3 _)).bounded.carry fun b hb=>⟨⟨by have h1:W2.heap.size≤b:=hb.1.1;omega,by have:=hb.1.lt;omega,hb.2⟩,rfl⟩
theorem ZH {w W2 w3:World}{dv:Value}{x:Nd}{a3:Option Addr}{c3':Nat}(HB4:Below w.heap.size w (W2.alloc (.cells #[.bool false,.string ⟨#[]⟩,.slice none 0 0,.slice none 0 0] 54)).drew)(hbA:Below (W2.alloc (.cells #[.bool false,.string ⟨#[]⟩,.slice none 0 0,.slice none 0 0] 54)).drew.heap.size (W2.alloc (.cells #[.bool false,.string ⟨#[]⟩,.slice none 0 0,.slice none 0 0] 54)).drew w3)(HZ2:W2.heap.size=w.heap.size+3)(HD3:W2.heap[w.heap.size]?=some (.cells #[dv] 24 (0,0)))(HX3:W2.heap[w.heap.size+1]?=some (.cells #[.bool false,.string ⟨#[]⟩,.slice none 0 0,.slice none 0 0] 54 (0,0)))(HZ4:w.heap.size+2<(W2.alloc (.cells #[.bool false,.string ⟨#[]⟩,.slice none 0 0,.slice none 0 0] 54)).drew.heap.size)(HZ5:W2.heap.size<(W2.alloc (.cells #[.bool false,.string ⟨#[]⟩,.slice none 0 0,.slice none 0 0] 54)).drew.heap.size)(hV3:w3.heap[W2.heap.size]?=some (.cells #[.bool false,.string ⟨#[]⟩,.slice none 0 0,.slice none 0 0] 54 (0,0)))(hA3:qh (qP (W2.alloc (.cells #[.bool false,.string ⟨#[]⟩,.slice none 0 0,.slice none 0 0] 54)).drew.heap.size 62 w3) w3 (.slice a3 x.attrs.length c3') x.attrs) :
 GT w dv W2.heap.size ((((w3.setCell ⟨W2.heap.size,0,none⟩ (.bool x.text)).setCell ⟨W2.heap.size,1,none⟩ (.string x.s)).setCell ⟨W2.heap.size,2,none⟩ (.slice a3 x.attrs.length c3')).setCell ⟨W2.heap.size,3,none⟩ (.slice none 0 0)).heap.size #[.bool x.text,.string x.s,.slice a3 x.attrs.length c3',.slice none 0 0] (.slice a3 x.attrs.length c3') x.attrs ((((w3.setCell ⟨W2.heap.size,0,none⟩ (.bool x.text)).setCell ⟨W2.heap.size,1,none⟩ (.string x.s)).setCell ⟨W2.heap.size,2,none⟩ (.slice a3 x.attrs.length c3')).setCell ⟨W2.heap.size,3,none⟩ (.slice none 0 0)):=by
 have hB3:Below w.heap.size w w3:=HB4.trans (hbA.mono HB4.size);have hz:=HZ2;have hle:w.heap.size≤W2.heap.size:=by omega
 refine ⟨(((hB3.setCell (p:=⟨W2.heap.size,0,none⟩) hle _).setCell (p:=⟨W2.heap.size,1,none⟩) hle _).setCell (p:=⟨W2.heap.size,2,none⟩) hle _).setCell (p:=⟨W2.heap.size,3,none⟩) hle _,?_,?_,?_,by omega,by have:=qe hV3;simpa using this,nR9 _,?_⟩
 · rw[qb (by omega), qb (by omega), qb (by omega), qb (by omega)]
   exact (hbA.block _ (by have:=HZ4;omega)).trans ((Lib.alloc_old _ _ _ (by omega)).trans HD3)
 · rw[qb (by omega), qb (by omega), qb (by omega), qb (by omega)]
   exact (hbA.block _ (by have:=HZ4;omega)).trans ((Lib.alloc_old _ _ _ (by omega)).trans HX3)
 · simp[World.setCell,Array.getElem?_modify,hV3]
 · refine hA3.bounded.carry fun b hb => ⟨⟨by have h1 : (W2.alloc (.cells #[.bool false, .string ⟨#[]⟩, .slice none 0 0, .slice none 0 0] 54)).drew.heap.size ≤ b := hb.1.1;have := HZ5;omega, by have h1 : (W2.alloc (.cells #[.bool false, .string ⟨#[]⟩, .slice none 0 0, .slice none 0 0] 54)).drew.heap.size ≤ b := hb.1.1;have := HZ5;omega, by have := hb.2;simpa using this⟩, ?_⟩
   have h1:(W2.alloc (.cells #[.bool false,.string ⟨#[]⟩,.slice none 0 0,.slice none 0 0] 54)).drew.heap.size≤b:=hb.1.1;have h2:=HZ5;rw[qb (by omega),qb (by omega),qb (by omega),qb (by omega)]
theorem xL {w:World}{dv:Value}{b2 M f i:Nat}{c0 c1 c2:Value}{va:Value}{l:List (ByteArray × ByteArray)}{wr w5 w6:World}{ja:Option Addr}{jc:Nat}{us:List Tr}{qs:List (Bool × ByteArray × Value × Value)}{t:Tr}{a5 k5:Option Addr}{d5 e5:Nat}{a6:Option Addr}{n6 c6:Nat}
 (hG:GT w dv b2 M #[c0,c1,c2,.slice ja i jc] va l wr) (hR:qW (fun _=>False) f M wr.drew (.slice ja i jc) us qs) (hi:us.length=i) (hb5:Below wr.drew.heap.size wr.drew w5)
 (hA:qh (fun b=>wr.drew.heap.size≤b) w5 (.slice a5 t.attrs.length d5) t.attrs) (hK:qd (fun b=>wr.drew.heap.size≤b) w5 f (.slice k5 t.kids.length e5) t.kids)
 (hown:w6.ownsRow M 54 4 (.slice a6 n6 c6) (i+1) (quadCells qs++[.bool t.text,.string t.s,.slice a5 t.attrs.length d5,.slice k5 t.kids.length e5]))
 (hgr:(w5.alloc (.cells #[.bool t.text,.string t.s,.slice a5 t.attrs.length d5,.slice k5 t.kids.length e5] 54)).grownBy w6 (Value.slice ja i jc).ownBlock)
 (hat:(Value.slice a6 n6 c6).ownBlock=(Value.slice ja i jc).ownBlock∨(Value.slice a6 n6 c6).ownBlock=some (w5.alloc (.cells #[.bool t.text,.string t.s,.slice a5 t.attrs.length d5,.slice k5 t.kids.length e5] 54)).heap.size) :
 GT w dv b2 M #[c0,c1,c2,.slice a6 n6 c6] va l (w6.setCell ⟨b2,3,none⟩ (.slice a6 n6 c6))∧M≤(w6.setCell ⟨b2,3,none⟩ (.slice a6 n6 c6)).heap.size ∧
  qW (fun _=>False) f M (w6.setCell ⟨b2,3,none⟩ (.slice a6 n6 c6)) (.slice a6 n6 c6) (us++[t]) (qs++[(t.text,t.s,.slice a5 t.attrs.length d5,.slice k5 t.kids.length e5)]):=by
 have hs5:wr.heap.size≤w5.heap.size:=hb5.size;have hMr:=hG.le;have hhi:=hG.hi;have hs6:=hgr.size;simp only[World.size_alloc]at hs6
 have hkeep:∀ b,b<wr.heap.size→b<M→w6.heap[b]?=wr.heap[b]?:=by
  intro b h1 h2;rw[hgr.block b (by simp;omega) (fun e=>by have:=(hR.own.lt b e.symm).1;omega),Lib.alloc_old _ _ _ (by omega)]
  exact hb5.block b h1
 have hB6:Below w.heap.size w w6:=((hG.below.drew.trans (hb5.mono hG.below.size)).alloc (by have:=hG.below.size;omega) _).grown hgr (by simp;have:=hG.below.size;omega) (fun k hk=>by have:=(hR.own.lt k hk).1;have:=hG.lo;omega)
 have hsz:(w6.setCell ⟨b2,3,none⟩ (.slice a6 n6 c6)).heap.size=w6.heap.size:=by simp
 have hlo:=hG.lo;have hres:=qe hG.res;have hbox:=qe hG.box;have htre:=qe hG.tre;refine ⟨⟨hB6.setCell (p:=⟨b2,3,none⟩) (by show w.heap.size≤b2;omega) _,?_,?_,?_,hlo,hhi,by rw[hsz];omega,?_⟩,by rw[hsz];omega,?_⟩
 · rw[qb (by omega),hkeep _ hbox (by omega)];exact hG.box
 · rw[qb (by omega),hkeep _ hres (by omega)];exact hG.res
 · have := (hkeep b2 htre hhi).trans hG.tre;simp[World.setCell,Array.getElem?_modify,this]
 · refine hG.att.bounded.carry fun b hb => ⟨hb.1, ?_⟩
   rw[qb hb.1.2.1,hkeep b hb.2 hb.1.2.2]
 · have hfr := hR.fresh (w' := w5.alloc (.cells #[.bool t.text, .string t.s, .slice a5 t.attrs.length d5, .slice k5 t.kids.length e5] 54)) (nR9 _) hMr;have hG3:=(hR.later hb5).later (Below.alloc1 w5 (.cells #[.bool t.text,.string t.s,.slice a5 t.attrs.length d5,.slice k5 t.kids.length e5] 54))
   have hG4:=hG3.snoc (t:=t) (q:=(t.text,t.s,.slice a5 t.attrs.length d5,.slice k5 t.kids.length e5)) (by rw[hi];exact hown) hgr hat rfl rfl
    ((hA.later (Below.alloc1 w5 _)).bounded.carry (fun b hb=>⟨hfr b ⟨hb.1,hb.2⟩,rfl⟩))
    (qd.carry (fun b hb=>⟨hfr b ⟨hb.1,hb.2⟩,rfl⟩) f (qd.bounded f (qd.later (Below.alloc1 w5 _) f hK)))
   have hne:∀ b,M≤b→b≠b2:=fun b h=>by omega
   refine ⟨hG4.len,qN hG4.own (fun b hb=>qb (hne b (hG4.own.lt b hb).1)),fun j q u hq hu=>?_⟩
   obtain ⟨x1,x2,x3,x4⟩:=hG4.each j q u hq hu
   have carry:∀ b,Oth (fun _=>False) M w6 (.slice a6 n6 c6) b→Oth (fun _=>False) M (w6.setCell ⟨b2,3,none⟩ (.slice a6 n6 c6)) (.slice a6 n6 c6) b∧(w6.setCell ⟨b2,3,none⟩ (.slice a6 n6 c6)).heap[b]?=w6.heap[b]?:=by
    intro b hb;refine ⟨⟨hb.1,by rw[hsz];exact hb.2.1,hb.2.2⟩,qb (hne b ?_)⟩
    rcases hb.1 with h1|h1
    · exact h1.elim
    · exact h1
   exact ⟨x1,x2,x3.carry carry,qd.carry carry f x4⟩
set_option maxHeartbeats 2000000 in
theorem xM (f:Nat)(ih:yj f):yj (f+1):=by
 intro S v ns n w hN hfew h80 hn hf;obtain ⟨x,hx⟩:∃ x,ns[n]?=some x:=⟨ns[n],by simp[hn]⟩
 have HG:Hid (treeF (f+1) ns n=⟨x.text,x.s,x.attrs,(qF ns n ns.length).map fun k=>treeF f ns k.toNat⟩):=by show _=_;rw[treeF,hx]
 have hal:=hfew x (List.mem_of_getElem? hx);obtain ⟨b,o,cap,va,vk,rfl,hlc,hcm,hSb,hbw,c0,c1,c2,c3,c4,hAt,hKi⟩:=hN.at hx
 obtain ⟨aa,ac,rfl⟩:=hAt.shape;obtain ⟨ka,kc,rfl,hkl2,hkm⟩:=hKi.shape;unfold maxLen at hcm hkm
 have hb3:Below w.heap.size w (((w.alloc (.cells #[.slice (some ⟨b,o,none⟩) ns.length cap] 24)).alloc (.cells #[.bool false,.string ⟨#[]⟩,.slice none 0 0,.slice none 0 0] 54)).alloc (.cells #[.bool x.text,.string x.s,.slice aa x.attrs.length ac,.int .i64 x.parent,.slice ka x.kids.length kc] 38)):=((Below.alloc1 w _).alloc (by simp) _).alloc (by simp;omega) _
 have IH:Hid (yj f):=ih;have hni:(n:Int)<(ns.length:Int):=by omega
 clear ih
 go_enter Tryz.func25,Tryz.ntmps25
 go_wp2_with fail
 have hD3:(((w.alloc (.cells #[.slice (some ⟨b,o,none⟩) ns.length cap] 24)).alloc (.cells #[.bool false,.string ⟨#[]⟩,.slice none 0 0,.slice none 0 0] 54)).alloc (.cells #[.bool x.text,.string x.s,.slice aa x.attrs.length ac,.int .i64 x.parent,.slice ka x.kids.length kc] 38)).heap[w.heap.size]?=some (.cells #[(.slice (some ⟨b,o,none⟩) ns.length cap)] 24 (0,0)):=by
  rw[Lib.alloc_old _ _ _ (by simp;omega),Lib.alloc_old _ _ _ (by simp)];exact heap_alloc_new _ _
 have hX3:(((w.alloc (.cells #[.slice (some ⟨b,o,none⟩) ns.length cap] 24)).alloc (.cells #[.bool false,.string ⟨#[]⟩,.slice none 0 0,.slice none 0 0] 54)).alloc (.cells #[.bool x.text,.string x.s,.slice aa x.attrs.length ac,.int .i64 x.parent,.slice ka x.kids.length kc] 38)).heap[w.heap.size+1]?=some (.cells #[.bool false,.string ⟨#[]⟩,.slice none 0 0,.slice none 0 0] 54 (0,0)):=by
  rw[Lib.alloc_old _ _ _ (by simp)]
  have e:=heap_alloc_new (w.alloc (.cells #[(.slice (some ⟨b,o,none⟩) ns.length cap)] 24)) (.cells #[.bool false,.string ⟨#[]⟩,.slice none 0 0,.slice none 0 0] 54);rw[World.size_alloc]at e
  exact e
 have hY3:(((w.alloc (.cells #[.slice (some ⟨b,o,none⟩) ns.length cap] 24)).alloc (.cells #[.bool false,.string ⟨#[]⟩,.slice none 0 0,.slice none 0 0] 54)).alloc (.cells #[.bool x.text,.string x.s,.slice aa x.attrs.length ac,.int .i64 x.parent,.slice ka x.kids.length kc] 38)).heap[w.heap.size+2]?=some (.cells #[.bool x.text,.string x.s,.slice aa x.attrs.length ac,.int .i64 x.parent,.slice ka x.kids.length kc] 38 (0,0)):=by
  have e:=heap_alloc_new ((w.alloc (.cells #[(.slice (some ⟨b,o,none⟩) ns.length cap)] 24)).alloc (.cells #[.bool false,.string ⟨#[]⟩,.slice none 0 0,.slice none 0 0] 54)) (.cells #[.bool x.text,.string x.s,.slice aa x.attrs.length ac,.int .i64 x.parent,.slice ka x.kids.length kc] 38);rw[World.size_alloc,World.size_alloc]at e
  exact e
 have hZ:(((w.alloc (.cells #[.slice (some ⟨b,o,none⟩) ns.length cap] 24)).alloc (.cells #[.bool false,.string ⟨#[]⟩,.slice none 0 0,.slice none 0 0] 54)).alloc (.cells #[.bool x.text,.string x.s,.slice aa x.attrs.length ac,.int .i64 x.parent,.slice ka x.kids.length kc] 38)).heap.size=w.heap.size+3:=by simp
 generalize ((w.alloc (.cells #[.slice (some ⟨b,o,none⟩) ns.length cap] 24)).alloc (.cells #[.bool false,.string ⟨#[]⟩,.slice none 0 0,.slice none 0 0] 54)).alloc (.cells #[.bool x.text,.string x.s,.slice aa x.attrs.length ac,.int .i64 x.parent,.slice ka x.kids.length kc] 38)=W2 at hb3 hD3 hX3 hY3 hZ ⊢
 have HZ2:Hid (W2.heap.size=w.heap.size+3):=hZ;have hZ3:w.heap.size+2<W2.heap.size:=by omega
 clear hZ;have HAT:Hid (∀ W,Below w.heap.size w W→qh S W (.slice aa x.attrs.length ac) x.attrs):=fun W hW=>hAt.later hW
 have HNN:Hid (qr S w (.slice (some ⟨b,o,none⟩) ns.length cap) ns):=hN
 have HWW:Hid (∀ W':World,W'.heap[w.heap.size+2]?=W2.heap[w.heap.size+2]?→W'.cell? ⟨w.heap.size+2,0,none⟩=some (.bool x.text)∧W'.cell? ⟨w.heap.size+2,1,none⟩=some (.string x.s)∧W'.cell? ⟨w.heap.size+2,2,none⟩=some (.slice aa x.attrs.length ac)):=by
  intro W' h2;rw[hY3]at h2
  exact ⟨by rw[cH9 h2];rfl,by rw[cH9 h2];rfl,by rw[cH9 h2];rfl⟩
 obtain ⟨y0,y1,y2⟩:=HWW.out W2 rfl;have HB4:Hid (Below w.heap.size w (W2.alloc (.cells #[.bool false,.string ⟨#[]⟩,.slice none 0 0,.slice none 0 0] 54)).drew):=(hb3.alloc (by omega) _).drew
 have HZ4:Hid (w.heap.size+2<(W2.alloc (.cells #[.bool false,.string ⟨#[]⟩,.slice none 0 0,.slice none 0 0] 54)).drew.heap.size):=by show w.heap.size+2<(W2.alloc (.cells #[.bool false,.string ⟨#[]⟩,.slice none 0 0,.slice none 0 0] 54)).heap.size;rw[World.size_alloc];omega
 have HZ5:Hid (W2.heap.size<(W2.alloc (.cells #[.bool false,.string ⟨#[]⟩,.slice none 0 0,.slice none 0 0] 54)).drew.heap.size):=by show W2.heap.size<(W2.alloc (.cells #[.bool false,.string ⟨#[]⟩,.slice none 0 0,.slice none 0 0] 54)).heap.size;rw[World.size_alloc];omega
 have HD3:Hid (W2.heap[w.heap.size]?=some (.cells #[(.slice (some ⟨b,o,none⟩) ns.length cap)] 24 (0,0))):=hD3;have HX3:Hid (W2.heap[w.heap.size+1]?=some (.cells #[.bool false,.string ⟨#[]⟩,.slice none 0 0,.slice none 0 0] 54 (0,0))):=hX3;clear c0 c1 c2 c3 c4 hAt hKi hN hx hX3 hD3 hY3
 go_region_held3 (fun W:World=>W.cell? ⟨w.heap.size+2,0,none⟩=some (.bool x.text)∧W.cell? ⟨w.heap.size+2,1,none⟩=some (.string x.s)∧W.cell? ⟨w.heap.size+2,2,none⟩=some (.slice aa x.attrs.length ac))
  (first
   | exact HWW.out w3 (hbB.block _ hZ3)
   | exact HWW.out (w3.alloc (.cells #[.bool false,.string ⟨#[]⟩,.slice none 0 0,.slice none 0 0] 54)) ((Lib.alloc_old _ _ _ (Nat.lt_of_lt_of_le hZ3 hbB.size)).trans (hbB.block _ hZ3))
   | exact HWW.out (w3.alloc (.cells #[.bool x.text,.string x.s,.slice a3 x.attrs.length c3',.slice none 0 0] 54)) ((Lib.alloc_old _ _ _ (Nat.lt_of_lt_of_le hZ3 hbB.size)).trans (hbB.block _ hZ3))
   | exact HWW.out w3 ((hbA.block _ HZ4.out).trans (Lib.alloc_old _ _ _ hZ3))
   | exact HWW.out _ (by rw[qb (Nat.ne_of_lt hZ3),qb (Nat.ne_of_lt hZ3),qb (Nat.ne_of_lt hZ3),qb (Nat.ne_of_lt hZ3)];exact (hbA.block _ HZ4.out).trans (Lib.alloc_old _ _ _ hZ3))
   | exact HWW.out W2.drew rfl
   | exact HWW.out (W2.alloc (.cells #[.bool false,.string ⟨#[]⟩,.slice none 0 0,.slice none 0 0] 54)).drew (Lib.alloc_old _ _ _ hZ3))
  (first
   | (refine zk (by rfl) (.tmp 18) (by rfl) S (.slice aa x.attrs.length ac) x.attrs (by simp[Act.eval]) (HAT.out (W2.alloc (.cells #[.bool false,.string ⟨#[]⟩,.slice none 0 0,.slice none 0 0] 54)).drew HB4.out) hal ?_;intro va3 w3 hA3 hbA;obtain ⟨a3,c3',rfl⟩:=hA3.shape;have hV3:w3.heap[W2.heap.size]?=some (.cells #[.bool false,.string ⟨#[]⟩,.slice none 0 0,.slice none 0 0] 54 (0,0)):=(hbA.block _ HZ5.out).trans (heap_alloc_new _ _);have g0:=cH9 hV3 0;have g1:=cH9 hV3 1;have g2:=cH9 hV3 2;have g3:=cH9 hV3 3;have k0:=fH9 hV3 0;have k1:=fH9 hV3 1;have k2:=fH9 hV3 2;have k3:=fH9 hV3 3;simp at g0 g1 g2 g3)
   | (refine zk (by rfl) (.tmp 18) (by rfl) S (.slice aa x.attrs.length ac) x.attrs (by simp[Act.eval]) (HAT.out W2.drew hb3.drew) hal ?_;intro va3 w3 hA3 hbB;obtain ⟨a3,c3',rfl⟩:=hA3.shape))
 all_goals
  first
   | (have hGS:=ZG (dv:=.slice (some ⟨b,o,none⟩) ns.length cap) (x:=x) hb3 hbB HZ2.out HD3.out HX3.out hA3;generalize w3.alloc (.cells #[.bool x.text,.string x.s,.slice a3 x.attrs.length c3',.slice none 0 0] 54)=W4 at hGS ⊢;generalize w3.heap.size=b2 at hGS ⊢;clear hb3 hbB hA3 HAT HWW HB4 HZ4 HZ5 HX3 HD3 HZ2 hZ3 y0 y1 y2)
   | (have hGS:=ZH (dv:=.slice (some ⟨b,o,none⟩) ns.length cap) (x:=x) HB4.out hbA HZ2.out HD3.out HX3.out HZ4.out HZ5.out hV3 hA3;generalize ((((w3.setCell ⟨W2.heap.size,0,none⟩ (.bool x.text)).setCell ⟨W2.heap.size,1,none⟩ (.string x.s)).setCell ⟨W2.heap.size,2,none⟩ (.slice a3 x.attrs.length c3')).setCell ⟨W2.heap.size,3,none⟩ (.slice none 0 0))=W4 at hGS ⊢;generalize W2.heap.size=b2 at hGS ⊢;clear hb3 hbA hA3 HAT HWW HB4 HZ4 HZ5 HX3 HD3 HZ2 hZ3 y0 y1 y2 hV3 g0 g1 g2 g3 k0 k1 k2 k3)
  have d4:W4.cell? ⟨w.heap.size,0,none⟩=some (.slice (some ⟨b,o,none⟩) ns.length cap):=by rw[cH9 hGS.box];rfl
  have HGS:Hid _:=hGS;have hlo:=hGS.lo;clear hGS;go_wp2_with fail
  go_loopg [7] (ns.length-(n+1)) (fun g j wr=>∃ (i:Nat) (v:Value) (qs:List (Bool × ByteArray × Value × Value)),i+g=ns.length∧n<i∧j=.int .i64 (i:Int)∧GT w (.slice (some ⟨b,o,none⟩) ns.length cap) b2 W4.heap.size #[.bool x.text,.string x.s,.slice a3 x.attrs.length c3',v] (.slice a3 x.attrs.length c3') x.attrs wr∧W4.heap.size≤wr.heap.size∧qW (fun _=>False) f W4.heap.size wr v ((qF ns n i).map fun k=>treeF f ns k.toNat) qs)
  case atStart => exact ⟨n+1,.slice none 0 0,[],by omega,by omega,by go_num,HGS.out,nR9 _,by rw[Qe _ _ _ (nR9 _)];exact qW.nil _ _ _ _⟩
  case round =>
   obtain ⟨i,v,qs,hi,hni2,rfl,hG,hWs,hGr⟩:=hrel;have HG4:Hid _:=hG;have hB4:=hG.below;obtain ⟨ja,jc,rfl⟩:=hGr.shape;have HGR:Hid _:=hGr;have d5:wr.cell? ⟨w.heap.size,0,none⟩=some (.slice (some ⟨b,o,none⟩) ns.length cap):=by rw[cH9 HG4.out.box];rfl
   by_cases hil:i<ns.length
   · obtain ⟨y, hy⟩ : ∃ y, ns[i]? = some y := ⟨ns[i], by simp[hil]⟩
     obtain ⟨b',o',cap2,xva,xvk,hv,_,_,_,hbw2,_,_,_,c3,_,_,_⟩:=(HNN.out.later hB4).at hy
     cases hv;have hili:(i:Int)<(ns.length:Int):=by omega
     by_cases hp:y.parent=(n:Int)
     · have hsn:(qF ns n (i+1)).map (fun k=>treeF f ns k.toNat)=(qF ns n i).map (fun k=>treeF f ns k.toNat)++[treeF f ns i]:=by
        rw[qF,if_pos ⟨by omega,by unfold je;rw[hy];simp[hp]⟩,List.map_append];rfl
       have HSN:Hid _:=hsn;rw[hp]at c3
       have HCALL:Hid (∀ W,Below w.heap.size w W→Calls Tryz.prog 25 #[.agg #[(.slice (some ⟨b,o,none⟩) ns.length cap)],.int .i64 (i:Int)] W fun e w'=>∃ r,e=.returned r∧∃ va vk,r=.agg #[.bool (treeF f ns i).text,.string (treeF f ns i).s,va,vk] ∧
        qh (fun b=>W.heap.size≤b) w' va (treeF f ns i).attrs∧qd (fun b=>W.heap.size≤b) w' f vk (treeF f ns i).kids∧Below W.heap.size W w'):=by
        intro W hW;refine (IH.out S _ ns i W (HNN.out.later hW) hfew h80 (by omega) (by omega)).mono ?_
        rintro e w' ⟨va,vk,rfl,h1,h2,h3⟩;exact ⟨_,rfl,va,vk,rfl,h1,h2,h3⟩
       have hln:((qF ns n i).map fun k=>treeF f ns k.toNat).length≤80:=by rw[List.length_map];have:=QN ns n i;omega
       obtain ⟨us,hus⟩:∃ us,(qF ns n i).map (fun k=>treeF f ns k.toNat)=us:=⟨_,rfl⟩
       obtain ⟨t,ht⟩:∃ t,treeF f ns i=t:=⟨_,rfl⟩;rw[hus]at HGR HG4 HSN hln
       rw[ht]at HCALL HSN
       obtain ⟨L,hL⟩:∃ L,us.length=L:=⟨_,rfl⟩;rw[hL]at HGR HG4 hln
       have HLN:Hid (us.length=L):=hL;have hz3:wr.cell? ⟨b2,3,none⟩=some (.slice ja L jc):=by rw[cH9 HG4.out.tre];rfl
       have hf3:wr.frozen? ⟨b2,3,none⟩=false:=fH9 HG4.out.tre 3;have hi20:L≤1048576:=by omega
       have hwrs:=hB4.size;have hb2r:=qe HG4.out.tre;have HGD:Hid (qW (fun _=>False) f W4.heap.size wr.drew (.slice ja L jc) us qs):=HGR.out.later (Below.refl _ wr).drew
       have HCH:Hid (∀ (w5 w6:World) (X:Obj),Below wr.drew.heap.size wr.drew w5→(w5.alloc X).grownBy w6 (Value.slice ja L jc).ownBlock→w6.heap[b2]?=some (.cells #[.bool x.text,.string x.s,.slice a3 x.attrs.length c3',.slice ja L jc] 54 (0,0))):=by
        intro w5 w6 X h5 h6;have h7:b2<w5.heap.size:=Nat.lt_of_lt_of_le hb2r h5.size;rw[h6.block b2 (by simp;omega) (fun e=>by have:=(HGR.out.own.lt b2 e.symm).1;have:=HG4.out.hi;omega),Lib.alloc_old _ _ _ h7]
        exact (h5.block b2 hb2r).trans HG4.out.tre
       clear hG hGr hy hsn hus ht d4 hL hp;go_wp2_with fail
       go_region_law (first
        | (refine yg (by rfl) 25 #[.agg #[(.slice (some ⟨b,o,none⟩) ns.length cap)],.int .i64 (i:Int)] (by go_simp) _ (HCALL.out _ hB4.drew) ?_;intro r5 w5 hR5;obtain ⟨va5,vk5,rfl,hA5,hK5,hb5⟩:=hR5;obtain ⟨a5,c5,rfl⟩:=hA5.shape;obtain ⟨k5,d5,rfl,_,_⟩:=qd.shape f hK5;have z5:w5.cell? ⟨b2,3,none⟩=some (.slice ja L jc):=(hb5.cell (p:=⟨b2,3,none⟩) hb2r).trans hz3;have z5a:(w5.alloc (.cells #[.bool t.text,.string t.s,.slice a5 t.attrs.length c5,.slice k5 t.kids.length d5] 54)).cell? ⟨b2,3,none⟩=some (.slice ja L jc):=Lib.cell?_alloc_some _ z5)
        | (refine yH (by rfl) (.tmp 39) (.tmp 43) (by rfl) W4.heap.size (.slice ja L jc) L (quadCells qs) (by simp[Act.eval]) (by have:=(qA HGD.out.own hb5).alloc (.cells #[.bool t.text,.string t.s,.slice a5 t.attrs.length c5,.slice k5 t.kids.length d5] 54);rw[HLN.out]at this;exact this) ⟨w5.heap.size,0,none⟩ t.text t.s a5 t.attrs.length c5 k5 t.kids.length d5 (by simp[Act.eval]) (jd _ _ _ _ _ _) hi20 (by have:=hb5.size;simp at this ⊢;omega) ?_;intro v6 w6 hown6 hgr6 hat6;obtain ⟨a6,n6,c6,rfl⟩:=qq hown6;have hk6:=HCH.out w5 w6 _ hb5 hgr6;have z6:=cH9 hk6 3;have f6:=fH9 hk6 3;simp at z6))
       all_goals
        have HG7:Hid _:=xL HG4.out HGD.out HLN.out hb5 hA5 hK5 hown6 hgr6 hat6;clear hown6 hgr6 hat6 hA5 hK5;go_wp2_with fail
        go_roundg (ns.length-(i+1))
        case measure => omega
        case rel => exact ⟨i+1,_,_,by omega,by omega,by go_num,HG7.out.1,HG7.out.2.1,by rw[HSN.out];exact HG7.out.2.2⟩
     · have hpb : (y.parent == (n : Int)) = false := by simpa using hp
       have hsn:qF ns n (i+1)=qF ns n i:=by
        rw[qF,if_neg (fun h=>by have h2:=h.2;unfold je at h2;rw[hy]at h2;simp at h2;exact hp h2),List.append_nil]
       have HSN:Hid _:=hsn;clear hG hGr hy hsn hp d4;go_wp2_with fail
       go_roundg (ns.length-(i+1))
       case measure => omega
       case rel => exact ⟨i+1,_,_,by omega,by omega,by go_num,HG4.out,hWs,by rw[HSN.out];exact HGR.out⟩
   · have hii : i = ns.length := by omega
     have HII:Hid (i=ns.length):=hii;have hili:¬ ((i:Int)<(ns.length:Int)):=by omega
     clear hii;have p0:wr.cell? ⟨w.heap.size+1,0,none⟩=some (.bool false):=by rw[cH9 HG4.out.res];rfl
     have p1:wr.cell? ⟨w.heap.size+1,1,none⟩=some (.string ⟨#[]⟩):=by rw[cH9 HG4.out.res];rfl
     have p2:wr.cell? ⟨w.heap.size+1,2,none⟩=some (.slice none 0 0):=by rw[cH9 HG4.out.res];rfl
     have p3:wr.cell? ⟨w.heap.size+1,3,none⟩=some (.slice none 0 0):=by rw[cH9 HG4.out.res];rfl
     have f0:wr.frozen? ⟨w.heap.size+1,0,none⟩=false:=fH9 HG4.out.res 0;have f1:wr.frozen? ⟨w.heap.size+1,1,none⟩=false:=fH9 HG4.out.res 1;have f2:wr.frozen? ⟨w.heap.size+1,2,none⟩=false:=fH9 HG4.out.res 2;have f3:wr.frozen? ⟨w.heap.size+1,3,none⟩=false:=fH9 HG4.out.res 3;have q0:wr.cell? ⟨b2,0,none⟩=some (.bool x.text):=by rw[cH9 HG4.out.tre];rfl
     have q1:wr.cell? ⟨b2,1,none⟩=some (.string x.s):=by rw[cH9 HG4.out.tre];rfl
     have q2:wr.cell? ⟨b2,2,none⟩=some (.slice a3 x.attrs.length c3'):=by rw[cH9 HG4.out.tre];rfl
     have q3:wr.cell? ⟨b2,3,none⟩=some (.slice ja ((qF ns n i).map fun k=>treeF f ns k.toNat).length jc):=by rw[cH9 HG4.out.tre];rfl
     clear hG hGr d4
     generalize hvv:Value.slice ja ((qF ns n i).map fun k=>treeF f ns k.toNat).length jc=vv at HGR HG4 q3
     obtain ⟨va7,vn7,vc7,rfl⟩:∃ a n c,vv=.slice a n c:=⟨_,_,_,hvv.symm⟩;clear hvv;rw[HII.out]at HGR
     go_wp2_with fail;refine bodyPost_ret (v:=.agg #[.bool x.text,.string x.s,.slice a3 x.attrs.length c3',.slice va7 vn7 vc7]) (by simp[results,Tryz.results25,go_sem,qf,p0,p1,p2,p3,World.cell?_setCell_other]) rfl ⟨.slice a3 x.attrs.length c3',.slice va7 vn7 vc7,?_,?_,?_,?_⟩
     · rw[HG.out]
     · rw[HG.out];refine HG4.out.att.carry fun b hb=>⟨by have:=hb.1;omega,?_⟩
       rw[qb (by have:=hb.1;omega),qb (by have:=hb.1;omega),qb (by have:=hb.1;omega),qb (by have:=hb.1;omega)]
     · rw[HG.out];have hW:=HG4.out.hi;refine qd.carry (fun b hb=>⟨?_,?_⟩) (f+1) HGR.out.done
       · rcases hb with hb | hb
         · exact hb.elim
         · omega
       · rcases hb with hb | hb
         · exact hb.elim
         · rw[qb (by omega),qb (by omega),qb (by omega),qb (by omega)]
     · exact (((hB4.setCell (p:=⟨w.heap.size+1,0,none⟩) (Nat.le_succ _) _).setCell (p:=⟨w.heap.size+1,1,none⟩) (Nat.le_succ _) _).setCell (p:=⟨w.heap.size+1,2,none⟩) (Nat.le_succ _) _).setCell (p:=⟨w.heap.size+1,3,none⟩) (Nat.le_succ _) _
theorem Qi (f:Nat):yj f:=by
 induction f with
 | zero=>intro S v ns n w _ _ _ hn hf;omega
 | succ f ih=>exact xM f ih
end
section
attribute [local go_sem] qf
theorem Qh {ops:Array Oper}{o:Oper}{a:Act}{w:World}{K:Act→World→Prop}{Q:Exit→Act→World→Prop}{E:Prop}
 (hg:o.guard=none) (x:Operand) (hop:o.op=Op.call { callee:=Callee.builtin Builtin.append,args:=#[.const (.slice none 0 0),x],argTypes:=#[27,27] })
 (S:Nat→Prop) (v:Value) (l:List Int) (hx:a.eval x=v) (h:qx S w v l) (hl:l.length≤17592186044416)
 (hK:∀ v' w',qC w.heap.size w' v' l→Below w.heap.size w w'→K (a.put o.dst v') w') :
 if Region.wanted o (yielded ops a.tmps)=true then Oper.wp Tryz.prog o a w K Q else E:=by
 have hw:Region.wanted o (yielded ops a.tmps)=true:=by simp[Region.wanted,hg]
 rw[if_pos hw];obtain ⟨i0,hi,hz0,hz1,hz2⟩:=info_parts intInfoR;have h':=h;obtain ⟨ad,cap,rfl,h2,h3,h4⟩:=h;have hs:a.eval (.const (.slice none 0 0))=.slice none 0 0:=rfl;cases ad with
 | none =>
   have hn:l=[]:=by
    apply Classical.byContradiction;intro hne
    obtain ⟨b,o,ha,_⟩:=h4 hne;cases ha
   subst hn
   have hrun:(Builtin.append_ #[27,27] o.type #[.slice none 0 0,.slice none 0 cap]).run Tryz.prog w=.ok (.slice none 0 0) w:=by
    simp[Builtin.append_,run_underlying Tryz.underlying27,sizeOf,typeInfo,hi,Builtin.lenOf,Builtin.firstCells]
   simp only[List.length_nil]at hx
   unfold Oper.wp;simp[execOp,hop,resolve,invoke,builtin,hs,hx,hrun,Result.andThen];exact hK _ _ (qC.nil _ _) (Below.refl _ _)
 | some ad =>
   obtain ⟨v',w',hrun,r1,r2,_⟩:=run_append_own (P:=Tryz.prog) w w.heap.size 27 o.type 3 i0 _ 1 8 Tryz.underlying27 hi hz0 hz1 hz2 rfl (by decide) (.slice none 0 0) 0 [] (World.ownsRow_nil w _ _ _) ad l.length cap (qp l) (by rw[zL];omega) h'.cells (yn l) (by unfold maxLen;omega) (by omega) (nR9 _)
   unfold Oper.wp;simp[execOp,hop,resolve,invoke,builtin,hs,hx,hrun,Result.andThen];refine hK _ _ (by unfold qC;simpa using r1) ((Below.refl _ w).grown r2 (nR9 _) (fun k hk=>by simp[Value.ownBlock]at hk))
theorem nodeInfoC:(Tryz.prog.info? 38).map (fun i=>(i.zero,i.size,i.bytes))=some (some (.agg #[.bool false,.string ⟨#[]⟩,.slice none 0 0,.int .i64 0,.slice none 0 0]),5,80):=by kernel_rfl
theorem zV (w:World)(a b c d e:Value)(t:TypeId):∀ (j:Nat)(u:Value),([a,b,c,d,e]:List Value)[j]?=some u→(w.alloc (.cells #[a,b,c,d,e] t)).cell? ((⟨w.heap.size,0,none⟩:Addr).add j)=some u:=by
 intro j u hj
 match j,hj with
 | 0,hj|1,hj|2,hj|3,hj|4,hj=>simp at hj;subst hj;simp[Addr.add]
structure CD (w:World) (dv:Value) (v:Value) (l:List Nd) (ms:List Rw) (W:World):Prop where
 below:Below w.heap.size w W
 box:W.heap[w.heap.size]?=some (.cells #[dv] 24 (0,0))
 res:W.heap[w.heap.size+1]?=some (.cells #[.slice none 0 0] 24 (0,0))
 out:W.heap[w.heap.size+2]?=some (.cells #[v] 24 (0,0))
 row:qK (w.heap.size+3) W v l ms
theorem jT {w wr w3 w4:World}{dv:Value}{ja:Option Addr}{jc k:Nat}{l:List Nd}{ms:List Rw}{x:Nd}{va vk v':Value}
 (hC:CD w dv (.slice ja k jc) l ms wr) (hk:l.length=k) (hb:Below wr.heap.size wr w3)
 (hA:qh (qP (wr.heap.size) 62 w3) w3 va x.attrs) (hK:qC wr.heap.size w3 vk x.kids)
 (hown:w4.ownsRow (w.heap.size+3) 38 5 v' (k+1) (rawCells ms++[.bool x.text,.string x.s,va,.int .i64 x.parent,vk]))
 (hgr:(w3.alloc (.cells #[.bool x.text,.string x.s,va,.int .i64 x.parent,vk] 38)).grownBy w4 (Value.slice ja k jc).ownBlock) :
 CD w dv v' (l++[x]) (ms++[⟨x.text,x.s,va,x.parent,vk⟩]) (w4.setCell ⟨w.heap.size+2,0,none⟩ v'):=by
 have hs3:=hb.size;have hlo:=qe hC.out;have hsr:=hC.below.size;have hs4:=hgr.size;simp only[World.size_alloc]at hs4
 have hB3:w.heap.size+3≤wr.heap.size:=by omega
 have hB4:Below w.heap.size w w4:=(hC.below.trans (hb.mono hsr)).alloc (by omega) _ |>.grown hgr (by simp;omega) (fun g hg=>by have:=(hC.row.own.lt g hg).1;omega)
 have hkeep:∀ b,b<w.heap.size+3→b<wr.heap.size→w4.heap[b]?=wr.heap[b]?:=by
  intro b h1 h2;rw[hgr.block b (by simp;omega) (fun e=>by have:=(hC.row.own.lt b e.symm).1;omega),Lib.alloc_old _ _ _ (by omega)]
  exact hb.block b h2
 have hR3:=(hC.row.later hb).later (Below.alloc1 w3 (.cells #[.bool x.text,.string x.s,va,.int .i64 x.parent,vk] 38))
 have hG:=hR3.snoc (r:=⟨x.text,x.s,va,x.parent,vk⟩) (x:=x) (by rw[hk];exact hown) hgr
  ⟨rfl,rfl,rfl,(hA.own_later (Below.alloc1 w3 _)).carry (fun b hb'=>⟨hb'.to hB3 rfl,rfl⟩),zp (World.ownsRow.alloc hK _) hB3⟩
  (fun i q b hq hb' e=>by
   obtain ⟨y,hy⟩:∃ y,l[i]?=some y:=⟨l[i]'(by rw[←hC.row.len];exact (List.getElem?_eq_some_iff.1 hq).1),by simp⟩
   have h1:=(qC.lt (hC.row.each i q y hq hy).2.2.2.2 b hb').2;have h2:=(qC.lt hK b e).1;omega)
 refine ⟨hB4.setCell (p:=⟨w.heap.size+2,0,none⟩) (by show w.heap.size≤w.heap.size+2;omega) _,?_,?_,?_,?_⟩
 · rw[qb (by omega),hkeep _ (by omega) (qe hC.box)];exact hC.box
 · rw[qb (by omega),hkeep _ (by omega) (qe hC.res)];exact hC.res
 · have := (hkeep _ (by omega) hlo).trans hC.out
   simp[World.setCell,Array.getElem?_modify,this]
 · exact hG.keep (fun b hs=>qb (by have:=hs.1;omega)) (fun b hs=>qb (by have:=hs.1;omega)) (fun b hs=>qb (by have:=(hG.own.lt b hs).1;omega))
set_option maxHeartbeats 2000000 in
theorem j9 (S:Nat→Prop)(v:Value)(ns:List Nd)(w:World)(hN:qr S w v ns)(hfew:∀ x∈ns,x.attrs.length≤4398046511104∧x.kids.length≤17592186044416)(hlen:ns.length≤1759218604441) :
 Calls Tryz.prog 4 #[.agg #[v]] w fun e w'=>∃ v',e=.returned (.agg #[v'])∧qr (fun b=>w.heap.size≤b) w' v' ns∧Below w.heap.size w w':=by
 obtain ⟨i0,hi,hz0,hz1,hz2⟩:=info_parts nodeInfoC;obtain ⟨a,cap,rfl,hlc,hcm⟩:=hN.shape;unfold maxLen at hcm
 have HN:Hid (qr S w (.slice a ns.length cap) ns):=hN
 have hC0:CD w (.slice a ns.length cap) (.slice none 0 0) [] [] (((w.alloc (.cells #[.slice a ns.length cap] 24)).alloc (.cells #[.slice none 0 0] 24)).alloc (.cells #[.slice none 0 0] 24)):=by
  refine ⟨((Below.alloc1 w _).alloc (by simp) _).alloc (by simp;omega) _,?_,?_,?_,qK.nil _ _⟩
  · rw[Lib.alloc_old _ _ _ (by simp;omega),Lib.alloc_old _ _ _ (by simp)];exact heap_alloc_new _ _
  · rw[Lib.alloc_old _ _ _ (by simp)]
    have e:=heap_alloc_new (w.alloc (.cells #[.slice a ns.length cap] 24)) (.cells #[.slice none 0 0] 24);rw[World.size_alloc]at e
    exact e
  · have e := heap_alloc_new ((w.alloc (.cells #[.slice a ns.length cap] 24)).alloc (.cells #[.slice none 0 0] 24)) (.cells #[.slice none 0 0] 24);rw[World.size_alloc,World.size_alloc]at e
    exact e
 have HC0:Hid _:=hC0;clear hN
 go_enter Tryz.func4,Tryz.ntmps4
 go_wp2_with fail
 generalize (((w.alloc (.cells #[.slice a ns.length cap] 24)).alloc (.cells #[.slice none 0 0] 24)).alloc (.cells #[.slice none 0 0] 24))=W0 at *
 clear hC0
 go_loopg [9] ns.length (fun g j wr=>∃ (k:Nat) (v:Value) (ms:List Rw),k+g=ns.length∧j=.int .i64 (k:Int)∧CD w (.slice a ns.length cap) v (ns.take k) ms wr)
 case atStart => exact ⟨0,_,[],by omega,rfl,HC0.out⟩
 case round =>
  obtain ⟨k,v,ms,hk,rfl,hC⟩:=hrel;have HC:Hid _:=hC;have hB:=hC.below;have hwr:=qe hC.out;obtain ⟨ja,jc,rfl,hjl,hjm⟩:=hC.row.shape
  by_cases hlt:k<ns.length
  · obtain ⟨x, hx⟩ : ∃ x, ns[k]? = some x := ⟨ns[k], by simp[hlt]⟩
    obtain ⟨b,o,cap',va,vk,hv,_,_,hSb,hbw,c0,c1,c2,c3,c4,hAt,hKi⟩:=(HN.out.later hB).at hx
    cases hv;obtain ⟨hal,hkl⟩:=hfew x (List.mem_of_getElem? hx);obtain ⟨aa,ac,rfl⟩:=hAt.shape;obtain ⟨ka,kc,rfl,_,_⟩:=hKi.shape
    have hsn:ns.take (k+1)=ns.take k++[x]:=by
     rw[List.take_succ_eq_append_getElem hlt];congr 2;simpa[hlt] using hx
    have HS:Hid (ns.take (k+1)=ns.take k++[x]):=hsn;have hlk:(ns.take k).length=k:=by rw[List.length_take];omega
    obtain ⟨us,hus⟩:∃ us,ns.take k=us:=⟨_,rfl⟩;rw[hus]at HC hlk HS hjl
    rw[hlk]at HC hjl
    have HL:Hid (us.length=k):=hlk;have hki:(k:Int)<(ns.length:Int):=by omega
    have o0:wr.cell? ⟨w.heap.size+1+1,0,none⟩=some (.slice ja k jc):=by rw[cH9 HC.out.out];rfl
    have of0:wr.frozen? ⟨w.heap.size+1+1,0,none⟩=false:=fH9 HC.out.out 0;have hbx:=heap_alloc_new wr (.cells #[.bool x.text,.string x.s,.slice aa x.attrs.length ac,.int .i64 x.parent,.slice ka x.kids.length kc] 38);have hb1:=Below.alloc1 wr (.cells #[.bool x.text,.string x.s,.slice aa x.attrs.length ac,.int .i64 x.parent,.slice ka x.kids.length kc] 38);have hwl:wr.heap.size<(wr.alloc (.cells #[.bool x.text,.string x.s,.slice aa x.attrs.length ac,.int .i64 x.parent,.slice ka x.kids.length kc] 38)).heap.size:=by simp
    clear hC hx hsn hus hlk;go_wp2_with fail
    generalize wr.alloc (.cells #[.bool x.text,.string x.s,.slice aa x.attrs.length ac,.int .i64 x.parent,.slice ka x.kids.length kc] 38)=W1 at *
    have n2:W1.cell? ⟨wr.heap.size,2,none⟩=some (.slice aa x.attrs.length ac):=by rw[cH9 hbx];rfl
    have n4:W1.cell? ⟨wr.heap.size,4,none⟩=some (.slice ka x.kids.length kc):=by rw[cH9 hbx];rfl
    have HAT:Hid (qh S wr (.slice aa x.attrs.length ac) x.attrs):=hAt;have HKI:Hid (qx S wr (.slice ka x.kids.length kc) x.kids):=hKi;clear hAt hKi c0 c1 c2 c3 c4
    go_region_law (first
     | (refine zk (by rfl) (.tmp 14) (by rfl) S (.slice aa x.attrs.length ac) x.attrs (by first|rfl|simp[Act.eval]) (HAT.out.later hb1.drew) hal ?_;intro v1 w1 hA1 hB1;obtain ⟨a1,c1',rfl⟩:=hA1.shape;have hx1:=(hB1.block wr.heap.size hwl).trans hbx;have n4a:w1.cell? ⟨wr.heap.size,4,none⟩=some (.slice ka x.kids.length kc):=by (rw[cH9 hx1];rfl))
     | (refine Qh (by rfl) (.tmp 17) (by rfl) S (.slice ka x.kids.length kc) x.kids (by first|rfl|simp[Act.eval]) (HKI.out.later (hb1.drew.trans (hB1.mono (by exact hb1.size)))) hkl ?_;intro v2 w2 hI2 hB2;obtain ⟨a2,c2',rfl,_,_⟩:=hI2.shape;have hx2:=(hB2.block _ (qe hx1)).trans hx1;have n2b:=cH9 hx2 2;have n4b:=cH9 hx2 4;have f2b:=fH9 hx2 2;have f4b:=fH9 hx2 4;simp at n2b n4b))
    all_goals
     have hW4:(((w2.setCell ⟨wr.heap.size,2,none⟩ (.slice a1 x.attrs.length c1')).setCell ⟨wr.heap.size,4,none⟩ (.slice a2 x.kids.length c2'))).heap[wr.heap.size]?=some (.cells #[.bool x.text,.string x.s,.slice a1 x.attrs.length c1',.int .i64 x.parent,.slice a2 x.kids.length c2'] 38 (0,0)):=by
      simp[World.setCell,Array.getElem?_modify,hx2]
     have hk4:∀ b,wr.heap.size<b→(((w2.setCell ⟨wr.heap.size,2,none⟩ (.slice a1 x.attrs.length c1')).setCell ⟨wr.heap.size,4,none⟩ (.slice a2 x.kids.length c2'))).heap[b]?=w2.heap[b]?:=fun b hb=>by rw[qb (by omega),qb (by omega)]
     have hs12:W1.heap.size≤w1.heap.size:=hB1.size;have hs22:=hB2.size;have hB4:Below wr.heap.size wr (((w2.setCell ⟨wr.heap.size,2,none⟩ (.slice a1 x.attrs.length c1')).setCell ⟨wr.heap.size,4,none⟩ (.slice a2 x.kids.length c2'))):=(((hb1.drew.trans (hB1.mono hb1.size)).trans (hB2.mono (by omega))).setCell (p:=⟨wr.heap.size,2,none⟩) (nR9 _) _).setCell (p:=⟨wr.heap.size,4,none⟩) (nR9 _) _
     have hA4:qh (qP wr.heap.size 62 (((w2.setCell ⟨wr.heap.size,2,none⟩ (.slice a1 x.attrs.length c1')).setCell ⟨wr.heap.size,4,none⟩ (.slice a2 x.kids.length c2')))) (((w2.setCell ⟨wr.heap.size,2,none⟩ (.slice a1 x.attrs.length c1')).setCell ⟨wr.heap.size,4,none⟩ (.slice a2 x.kids.length c2'))) (.slice a1 x.attrs.length c1') x.attrs :=
      (hA1.own_later hB2).carry fun b hb=>by
       have h1:W1.heap.size≤b:=hb.1;exact ⟨hb.to (by show wr.heap.size≤W1.heap.size;omega) (hk4 b (by omega)),hk4 b (by omega)⟩
     have hI4:qC wr.heap.size (((w2.setCell ⟨wr.heap.size,2,none⟩ (.slice a1 x.attrs.length c1')).setCell ⟨wr.heap.size,4,none⟩ (.slice a2 x.kids.length c2'))) (.slice a2 x.kids.length c2') x.kids :=
      zp (qN hI2 fun b hb=>hk4 b (by have:=(qC.lt hI2 b hb).1;omega)) (by omega)
     generalize ((w2.setCell ⟨wr.heap.size,2,none⟩ (.slice a1 x.attrs.length c1')).setCell ⟨wr.heap.size,4,none⟩ (.slice a2 x.kids.length c2'))=W4 at hW4 hB4 hA4 hI4 ⊢
     have m0:W4.cell? ⟨wr.heap.size,0,none⟩=some (.bool x.text):=by rw[cH9 hW4];rfl
     have m1:W4.cell? ⟨wr.heap.size,1,none⟩=some (.string x.s):=by rw[cH9 hW4];rfl
     have m2:W4.cell? ⟨wr.heap.size,2,none⟩=some (.slice a1 x.attrs.length c1'):=by rw[cH9 hW4];rfl
     have m3:W4.cell? ⟨wr.heap.size,3,none⟩=some (.int .i64 x.parent):=by rw[cH9 hW4];rfl
     have m4:W4.cell? ⟨wr.heap.size,4,none⟩=some (.slice a2 x.kids.length c2'):=by rw[cH9 hW4];rfl
     have hd4:=(hB4.block _ hwr).trans HC.out.out;have o4:W4.cell? ⟨w.heap.size+1+1,0,none⟩=some (.slice ja k jc):=by rw[cH9 hd4];rfl
     have hown4:=(HC.out.row.later hB4).own;rw[HL.out]at hown4
     have hs4:=hB4.size;clear hk4 n2 n4 n4a n2b n4b f2b f4b hx1 hx2 hbx hA1 hB1 hI2 hB2 hb1 hwl hs12 hs22;go_wp2_with (at_builtin;refine wpList_append_own_at _ rfl _ _ 22 rfl (w.heap.size+3) 38 i0 _ 5 80 Tryz.underlying22 hi hz0 hz1 hz2 rfl (by decide) _ _ _ rfl (World.ownsRow.alloc hown4 _) ⟨W4.heap.size,0,none⟩ 1 1 [.bool x.text,.string x.s,.slice a1 x.attrs.length c1',.int .i64 x.parent,.slice a2 x.kids.length c2'] rfl ?qc1 ?qc2 ?qc3 ?qc4 ?qc5 ?qc6 ?_)
     case qc1 => rfl
     case qc2 => exact zV _ _ _ _ _ _ _
     case qc3 => intro u hu;simp at hu;rcases hu with rfl|rfl|rfl|rfl|rfl<;>rfl
     case qc4 => unfold maxLen;omega
     case qc5 => omega
     case qc6 => simp;omega
     intro v' w5 hown' hgrow _ _;obtain ⟨a5,n5,c5,rfl⟩:=qq hown';have HST:Hid _:=jT HC.out HL.out hB4 hA4 hI4 hown' hgrow
     have hd5:w5.heap[w.heap.size+1+1]?=some (.cells #[.slice ja k jc] 24 (0,0)):=by
      have h1:w.heap.size+1+1<wr.heap.size:=hwr;rw[hgrow.block _ (by simp;omega) (fun e=>by have:=(HC.out.row.own.lt _ e.symm).1;omega),Lib.alloc_old _ _ _ (by omega)]
      exact hd4
     have o5:w5.cell? ⟨w.heap.size+1+1,0,none⟩=some (.slice ja k jc):=by rw[cH9 hd5];rfl
     have f5:w5.frozen? ⟨w.heap.size+1+1,0,none⟩=false:=fH9 hd5 0;clear hown' hgrow hA4 hI4;go_wp2_with fail
     go_roundg (ns.length-(k+1))
     case measure => omega
     case rel => exact ⟨k+1,_,_,by omega,by go_num,by rw[HS.out];exact HST.out⟩
  · have hki : ¬ ((k : Int) < (ns.length : Int)) := by omega
    have hkk:k=ns.length:=by omega
    have HKK:Hid (ns.take k=ns):=by show _=_;rw[hkk,List.take_length]
    have hlk:(ns.take k).length=ns.length:=by rw[HKK.out]
    rw[hlk]at HC hjl
    have o0:wr.cell? ⟨w.heap.size+1+1,0,none⟩=some (.slice ja ns.length jc):=by rw[cH9 HC.out.out];rfl
    have r0:wr.cell? ⟨w.heap.size+1,0,none⟩=some (.slice none 0 0):=by rw[cH9 HC.out.res];rfl
    have rf0:wr.frozen? ⟨w.heap.size+1,0,none⟩=false:=fH9 HC.out.res 0;clear hC hkk hlk;go_wp2_with fail;refine bodyPost_ret (v:=.agg #[.slice ja ns.length jc]) (by simp[results,Tryz.results4,go_sem,qf,r0]) rfl ⟨_,rfl,?_,?_⟩
    · have := HC.out.row.done;rw[HKK.out]at this
      exact this.carry fun b hb=>⟨by omega,qb (by omega)⟩
    · exact hB.setCell (p:=⟨w.heap.size+1,0,none⟩) (Nat.le_succ _) _
end
theorem qd.pred {S:Nat→Prop}{w:World}{m:Nat}{v:Value}{ts:List Tr}(h:qd S w m v ts):qd S w (m.pred+1) v ts:=by
 cases m with
 | zero=>exact qd.deeper 0 h
 | succ m=>exact h
theorem qd.back {S:Nat→Prop}{w:World}{m:Nat}{v:Value}{ts:List Tr}(h:qd S w (m.pred+1) v ts)(hd:Deep m ts):qd S w m v ts:=by
 cases m with
 | zero =>
   have:ts=[]:=hd;subst this;obtain ⟨a,c,e,_,hc⟩:=qd.shape 1 h;exact ⟨rfl,a,c,e,hc⟩
 | succ m=>exact h
theorem Qd (S:Nat→Prop)(n:Nat)(va vk:Value)(t:Tr)(w:World)(h:qh S w va t.attrs)(hk:qd S w n vk t.kids)(hc:cnt (n+1) [t]≤1048576) :
 Calls Tryz.prog 48 #[.agg #[.bool t.text,.string t.s,va,vk]] w fun e w'=>e=.returned (.tuple #[.int .i64 (dep (n+1) [t]:Int),.int .i64 (cnt (n+1) [t]:Int)])∧Below w.heap.size w w':=by
 obtain ⟨aa,ac,rfl⟩:=h.shape;obtain ⟨ka,kc,rfl,_,_⟩:=qd.shape n hk;have hb:∀ X Y,Below w.heap.size w ((w.alloc X).alloc Y):=fun X Y=>(Below.alloc1 w X).alloc (by simp) Y
 have hT:qd (fun _=>True) ((w.alloc (.cells #[.bool t.text,.string t.s,.slice aa t.attrs.length ac,.slice ka t.kids.length kc] 54)).alloc (.cells #[.bool t.text,.string t.s,.slice aa t.attrs.length ac,.slice ka t.kids.length kc] 54)) (n+1) (.slice (some ⟨w.heap.size+1,0,none⟩) 1 1) [t]:=by
  refine qd.carry (fun b _=>⟨trivial,rfl⟩) (n+1) (qd.of_block (S:=S) (e:=54) (fz:=(0,0)) (qs:=[(t.text,t.s,.slice aa t.attrs.length ac,.slice ka t.kids.length kc)]) ?_ rfl rfl rfl (nR9 _) (by unfold maxLen;simp) ?_)
  · have := heap_alloc_new (w.alloc (.cells #[.bool t.text, .string t.s, .slice aa t.attrs.length ac, .slice ka t.kids.length kc] 54)) (.cells #[.bool t.text, .string t.s, .slice aa t.attrs.length ac, .slice ka t.kids.length kc] 54);rw[World.size_alloc]at this
    exact this
  · intro i q t' hq ht';cases i with
    | zero =>
      simp at hq ht'
      subst hq ht';exact ⟨rfl,rfl,h.later (hb _ _),qd.later (hb _ _) n hk⟩
    | succ i=>simp at ht'
 have HT:Hid _:=hT;have HB:Hid (∀ X Y,Below w.heap.size w ((w.alloc X).alloc Y)):=hb;clear hT hb h hk;obtain ⟨D,hD⟩:∃ D,dep (n+1) [t]=D:=⟨_,rfl⟩;obtain ⟨C,hC⟩:∃ C,cnt (n+1) [t]=C:=⟨_,rfl⟩;rw[hD,hC];rw[hC]at hc
 have HD:Hid (dep (n+1) [t]=D):=hD;have HC:Hid (cnt (n+1) [t]=C):=hC;clear hD hC;have hDC:D≤1048576:=by have:=dep_cnt (n+1) [t];rw[HD.out,HC.out]at this;omega
 go_enter Tryz.func48,Tryz.ntmps48
 go_wp2_with fail
 go_loopg [4,5,6] (n+1) (fun g d c v wr=>∃ (dd cc:Nat) (lv:List Tr),d=.int .i64 (dd:Int)∧c=.int .i64 (cc:Int)∧qd (fun _=>True) wr g v lv∧dd+dep g lv=D∧cc+cnt g lv=C∧Below w.heap.size w wr)
 case atStart => exact ⟨0,0,[t],rfl,rfl,HT,by rw[HD.out];omega,by rw[HC.out];omega,HB _ _⟩
 case round =>
  obtain ⟨dd,cc,lv,rfl,rfl,hlv,hd,hcn,hB⟩:=hrel;have hsz:=hB.size
  by_cases hne:lv=[]
  · subst hne;rw[zx]at hd
    rw[qH]at hcn
    obtain ⟨la,lc,rfl,_,_⟩:=qd.shape _ hlv;have hd':dd=D:=by omega
    have hc':cc=C:=by omega
    subst hd' hc';clear hlv HT HD HC;simp only[List.length_nil];go_wp2_with fail
    go_ret2
    exact ⟨rfl,hB⟩
  · cases gk with
    | zero=>exact absurd hlv.1 hne
    | succ m =>
      obtain ⟨wo,hwo⟩:∃ x,x=wr:=⟨_,rfl⟩;subst hwo;rw[QY m lv hne]at hd
      rw[xO m lv]at hcn
      have hdeep:Deep m (nx lv):=(qd.deep (m+1) hlv).nx;have hlen:=hdeep.len;have HDp:Hid (Deep m (nx lv)):=hdeep;have hlv':=qd.bounded (m+1) hlv;obtain ⟨la,lc,rfl,hlc,hlm⟩:=qd.shape _ hlv;obtain ⟨_,_,hve,_,_,h4⟩:=hlv';have hl0:0<lv.length:=List.length_pos_iff.2 hne;obtain ⟨b,o,hao,hs,hcc⟩:=h4 hne
      injection hve with e1 e2 e3
      subst e1;subst hao;have Hd:Hid (dd+(1+dep m (nx lv))=D):=hd;have Hc:Hid (cc+(lv.length+cnt m (nx lv))=C):=hcn;have HCC:Hid _:=hcc;have hcb:cc+lv.length≤1048576:=by omega
      have hdb:dd≤1048576:=by omega
      have hnb:(nx lv).length≤1048576:=by omega
      clear hdeep h4 e2 hd hcn hcc hlen hs e3 HT HD HC hlv;unfold maxLen at hlm
      go_wp2_with fail
      go_loopg [7,23] lv.length (fun g v i wr=>∃ (k:Nat) (qs:List (Bool × ByteArray × Value × Value)),k+g=lv.length∧i=.int .i64 k∧qW (fun b=>b<wo.heap.size) m.pred wo.heap.size wr v (nx (lv.take k)) qs∧Below wo.heap.size wo wr)
      case atStart => exact ⟨0,[],by omega,rfl,qW.nil _ _ _ _,Below.refl _ _⟩
      case round =>
       obtain ⟨k,qs,hk,rfl,hG,hBq⟩:=hrel;have hszq:=hBq.size
       by_cases hlt:k<lv.length
       · obtain ⟨x, hx⟩ : ∃ x, lv[k]? = some x := ⟨lv[k], by simp[hlt]⟩
         obtain ⟨va,vk,c0,c1,c2,c3,hat,hkt⟩:=HCC.out k x hx;obtain ⟨xa,xc,rfl⟩:=hat.shape;obtain ⟨ya,yc,rfl,_,_⟩:=qd.shape m hkt;have hbl:b<wo.heap.size:=World.block_lt_of_cell? wo _ c0;rw[←hBq.cell (p:=⟨b,o+k*4,none⟩) hbl]at c0
         rw[←hBq.cell (p:=⟨b,o+k*4+1,none⟩) hbl]at c1
         rw[←hBq.cell (p:=⟨b,o+k*4+2,none⟩) hbl]at c2
         rw[←hBq.cell (p:=⟨b,o+k*4+3,none⟩) hbl]at c3
         have hsn:nx (lv.take (k+1))=nx (lv.take k)++x.kids:=by
          have e:lv.take (k+1)=lv.take k++[x]:=by
           rw[List.take_succ_eq_append_getElem hlt];congr 2;simpa[hlt] using hx
          rw[e,jJ,yq,nx_nil,List.append_nil]
         have HS:Hid (nx (lv.take (k+1))=nx (lv.take k)++x.kids):=hsn
         have hle:(nx (lv.take k)++x.kids).length≤1048576:=by
          rw[←hsn];have e:nx lv=nx (lv.take (k+1))++nx (lv.drop (k+1)):=by rw[←jJ,List.take_append_drop]
          rw[e,List.length_append]at hnb
          omega
         rw[List.length_append]at hle
         have hblq:b<wr.heap.size:=by omega
         have hG1:=hG.later (Below.alloc1 wr (.cells #[.bool x.text,.string x.s,.slice xa x.attrs.length xc,.slice ya x.kids.length yc] 54));have hB1:Below wo.heap.size wo (wr.alloc (.cells #[.bool x.text,.string x.s,.slice xa x.attrs.length xc,.slice ya x.kids.length yc] 54)):=hBq.alloc hszq _;have hK1:=(qd.later hB1 m hkt).pred;obtain ⟨us,hus⟩:∃ us,nx (lv.take k)=us:=⟨_,rfl⟩;rw[hus]at hG1 hle HS hG
         obtain ⟨ja,jc,rfl⟩:=hG1.shape;clear hx hsn hus hG hat hkt;go_wp2_with (at_builtin;refine zY rfl _ _ rfl (fun b=>b<wo.heap.size) _ m.pred wo.heap.size _ _ us x.kids qs rfl hG1 rfl hK1 ?qc1 hle ?qc2 ?_)
         case qc1 =>
          intro b hb;refine ⟨Or.inl hb.2,Nat.lt_of_lt_of_le hb.2 (by simp;omega),fun e=>?_⟩
          have:=(hG1.own.lt b e).1;have:=hb.2;omega
         case qc2 => simp;omega
         intro v' w2 qs' hG2 hb2;have hB2:Below wo.heap.size wo w2:=hB1.trans hb2;go_wp2_with fail
         go_roundg (lv.length-(k+1))
         case measure => omega
         case rel => exact ⟨k+1,qs',by omega,by go_num,by rw[HS.out];exact hG2,hB2⟩
       · have hkk : k = lv.length := by omega
         subst hkk;rw[List.take_length]at hG
         have hT2:qd (fun _=>True) wr m _ (nx lv):=qd.carry (fun b _=>⟨trivial,rfl⟩) m (hG.done.back HDp.out)
         have hBw:Below w.heap.size w wr:=hB.trans (hBq.mono hsz);go_wp2_with fail
         go_roundg m
         case measure => omega
         case rel => exact ⟨dd+1,cc+lv.length,nx lv,by go_num,by go_num,hT2,by have:=Hd.out;omega,by have:=Hc.out;omega,hBw⟩
end Go.Proofs.YtfdbipeidmpciaaGreatDoor
namespace Go.Proofs.YtfdbipeidmpciaaGreatDoor
open Go.RowKit
set_option maxRecDepth 100000
def zw (g:Nat→Nat):Nat→Nat
 | 0=>0
 | n+1=>zw g n+g n
theorem xK (g h:Nat→Nat):∀ n,zw (fun k=>g k+h k) n=zw g n+zw h n:=by
 intro n
 induction n with
 | zero=>rfl
 | succ n ih=>simp only[zw];rw[ih];omega
theorem ZE {g h:Nat→Nat}(hl:∀ k,g k≤h k):∀ n,zw g n≤zw h n:=by
 intro n
 induction n with
 | zero=>exact nR9 _
 | succ n ih=>simp only[zw];have:=hl n;omega
theorem ZD (g:Nat→Nat):∀ (n k:Nat),k<n→g k≤zw g n:=by
 intro n
 induction n with
 | zero=>intro k h;omega
 | succ n ih =>
   intro k h;simp only[zw]
   by_cases hk:k=n
   · subst hk;omega
   · have:=ih k (by omega);omega
theorem yh (c:Nat):∀ n,zw (fun _=>c) n=n*c:=by
 intro n
 induction n with
 | zero=>simp[zw]
 | succ n ih=>simp only[zw];rw[ih,Nat.add_mul];omega
theorem xX (ns:List Nd)(m a:Nat):∀ N,zw (fun n=>if n<m∧je ns n m=true then a else 0) N≤a:=by
 intro N
 induction N with
 | zero=>exact nZ9 _
 | succ N ih =>
   simp only[zw]
   by_cases hc:N<m∧je ns N m=true
   · have hz:∀ M,M≤N→zw (fun n=>if n<m∧je ns n m=true then a else 0) M=0:=by
      intro M
      induction M with
      | zero=>intro _;rfl
      | succ M ihM =>
        intro hM;simp only[zw];rw[ihM (by omega),if_neg]
        rintro ⟨_,h2⟩;have h1:=hc.2;unfold je at h1 h2
        cases hy:ns[m]? with
        | none=>simp[hy]at h1
        | some y=>simp[hy]at h1 h2;omega
     rw[hz N (nR9 _),if_pos hc];omega
   · rw[if_neg hc];omega
theorem Ze (ns:List Nd)(h:Nat→Nat)(N:Nat):∀ m,zw (fun n=>((qF ns n m).map fun u=>h u.toNat).sum) N≤zw h m:=by
 intro m
 induction m with
 | zero =>
   have:zw (fun n=>((qF ns n 0).map fun u=>h u.toNat).sum) N=0:=by
    have:=yh 0 N
    simpa[qF] using this
   rw[this];exact nZ9 _
 | succ m ih =>
   have e:(fun n=>((qF ns n (m+1)).map fun u=>h u.toNat).sum)=fun n=>((qF ns n m).map fun u=>h u.toNat).sum+(if n<m∧je ns n m=true then h m else 0):=by
    funext n
    rw[qF,List.map_append,List.sum_append]
    split
    · simp
    · simp
   rw[e,xK];simp only[zw];have:=xX ns m (h m) N;omega
theorem QW (f:Nat)(g:Int→Tr)(l:List Int):cnt (f+1) (l.map g)=(l.map fun k=>cnt (f+1) [g k]).sum:=by
 induction l with
 | nil=>rfl
 | cons x l ih=>rw[List.map_cons,qS,ih,List.map_cons,List.sum_cons]
theorem Zj (ns:List Nd):∀ f,zw (fun n=>cnt (f+1) [treeF f ns n]) ns.length≤ns.length*(f+1):=by
 intro f
 induction f with
 | zero =>
   have e:(fun n=>cnt (0+1) [treeF 0 ns n])=fun _=>1:=by
    funext n
    simp[cnt]
   rw[e,yh];omega
 | succ f ih =>
   have hle:∀ n,cnt (f+1+1) [treeF (f+1) ns n]≤1+((qF ns n ns.length).map fun u=>cnt (f+1) [treeF f ns u.toNat]).sum:=by
    intro n;rw[qt,treeF];cases hx:ns[n]? with
    | none=>simp[qH]
    | some x =>
      show 1+cnt (f+1) ((qF ns n ns.length).map fun k=>treeF f ns k.toNat)≤_
      rw[QW];exact nR9 _
   have h1:=ZE hle ns.length;rw[xK,yh]at h1
   have h2:=Ze ns (fun k=>cnt (f+1) [treeF f ns k]) ns.length ns.length
   have e:ns.length*(f+1+1)=ns.length*(f+1)+ns.length:=by rw[Nat.mul_add];omega
   rw[e];omega
theorem Zi {ns:List Nd}{f n:Nat}(hn:n<ns.length)(h80:ns.length≤80)(hf:f≤80):cnt (f+1) [treeF f ns n]≤1048576:=by
 have h1:=ZD (fun n=>cnt (f+1) [treeF f ns n]) ns.length n hn
 have h2:=Zj ns f;have h3:ns.length*(f+1)≤80*81:=Nat.mul_le_mul h80 (by omega)
 omega
end Go.Proofs.YtfdbipeidmpciaaGreatDoor
namespace Go.Proofs.YtfdbipeidmpciaaGreatDoor
open Go.ChangeShapes Go.WideShapes Go.ChangeAt Go.RowKit
set_option maxRecDepth 100000
section
attribute [local go_sem] qf
set_option maxHeartbeats 2000000 in
theorem zu (S T:Nat→Prop)(va vb:Value)(l m:List Int)(w:World)(h1:qx S w va l)(h2:qx T w vb m) :
 Calls Tryz.prog 7 #[va,vb] w fun e w'=>e=.returned (.bool (decide (l=m)))∧Below w.heap.size w w':=by
 have H1:Hid (qx S w va l):=h1;have H2:Hid (qx T w vb m):=h2;obtain ⟨a,ca,rfl,_,hcm⟩:=h1.shape;obtain ⟨b,cb,rfl,_,hcm2⟩:=h2.shape;unfold maxLen at hcm hcm2
 clear h1 h2
 by_cases hlm:l.length=m.length
 · have hne : ((l.length : Int) != (m.length : Int)) = false := by simp[hlm]
   have HLM:Hid (l.length=m.length):=hlm;clear hlm
   go_enter Tryz.func7,Tryz.ntmps7
   go_wp2_with fail
   go_loopg [13] l.length (fun g j wr=>∃ (i:Nat),i+g=l.length∧j=.int .i64 (i:Int)∧Below w.heap.size w wr∧l.take i=m.take i)
   case atStart => exact ⟨0,by omega,rfl,Below.refl _ _,rfl⟩
   case round =>
    obtain ⟨i,hi,rfl,hB,hT⟩:=hrel;have HT:Hid (l.take i=m.take i):=hT;clear hT
    by_cases hil:i<l.length
    · have him : i < m.length := by have := HLM.out;omega
      obtain ⟨u,hu⟩:∃ u,l[i]?=some u:=⟨l[i],by simp[hil]⟩
      obtain ⟨v,hv⟩:∃ v,m[i]?=some v:=⟨m[i],by simp[him]⟩
      obtain ⟨b1,o1,c1,hv1,_,hbw1,e0⟩:=(H1.out.later hB).at hu
      injection hv1 with hv1 hvl hv2
      subst hv1 hv2;clear hvl;obtain ⟨b2,o2,c2,hv3,_,hbw2,g0⟩:=(H2.out.later hB).at hv
      injection hv3 with hv3 hvl hv4
      subst hv3 hv4;clear hvl;have hili:(i:Int)<(l.length:Int):=by omega
      have himi:(i:Int)<(m.length:Int):=by omega
      have hbn:Below wr.heap.size wr wr.drew:=(Below.refl _ _).drew
      have HC:Hid (∀ W,Below wr.heap.size wr W→Below wr.heap.size wr W∧W.cell? ⟨b1,o1+i,none⟩=some (.int .i64 u)∧W.cell? ⟨b2,o2+i,none⟩=some (.int .i64 v)):=by
       intro W h;refine ⟨h,?_,?_⟩
       · rw[h.cell (p:=⟨b1,o1+i,none⟩) hbw1];exact e0
       · rw[h.cell (p:=⟨b2,o2+i,none⟩) hbw2];exact g0
      have el:l[i]=u:=by simpa[hil] using hu
      have em:m[i]=v:=by simpa[him] using hv
      by_cases huv:u=v
      · have huvb : (u != v) = false := by simp[huv]
        have HT2:Hid (l.take (i+1)=m.take (i+1)):=by
         show _=_
         rw[List.take_succ_eq_append_getElem hil,List.take_succ_eq_append_getElem him,el,em,HT.out,huv]
        clear hu hv el em huv;go_wp2_with fail
        go_region_held3 (fun W:World=>Below wr.heap.size wr W∧W.cell? ⟨b1,o1+i,none⟩=some (.int .i64 u)∧W.cell? ⟨b2,o2+i,none⟩=some (.int .i64 v))
         (with_reducible exact HC.out _ hbn)
         (fail)
        go_wp2_with fail
        go_roundg (l.length-(i+1))
        case measure => omega
        case rel => exact ⟨i+1,by omega,by go_num,hB.trans (hbn.mono hB.size),HT2.out⟩
      · have huvb : (u != v) = true := by simpa using huv
        have HE:Hid (decide (l=m)=false):=by
         refine decide_eq_false ?_;intro e;subst e;exact huv (by rw[←el,←em])
        clear hu hv el em huv;go_wp2_with fail
        go_region_held3 (fun W:World=>Below wr.heap.size wr W∧W.cell? ⟨b1,o1+i,none⟩=some (.int .i64 u)∧W.cell? ⟨b2,o2+i,none⟩=some (.int .i64 v))
         (with_reducible exact HC.out _ hbn)
         (fail)
        go_wp2_with fail;go_ret;exact ⟨by rw[HE.out];rfl,hB.trans (hbn.mono hB.size)⟩
    · have hili : ¬ (i : Int) < (l.length : Int) := by omega
      have HE:Hid (decide (l=m)=true):=by
       refine decide_eq_true ?_;have:=HT.out;rw[List.take_of_length_le (by omega),List.take_of_length_le (by have:=HLM.out;omega)]at this
       exact this
      go_wp2_with fail;go_ret;exact ⟨by rw[HE.out];rfl,hB⟩
 · have hne : ((l.length : Int) != (m.length : Int)) = true := by simp;omega
   have HE:Hid (decide (l=m)=false):=decide_eq_false (fun e=>hlm (by rw[e]))
   clear hlm
   go_enter Tryz.func7,Tryz.ntmps7
   go_wp2_with fail;go_ret;exact ⟨by rw[HE.out];rfl,Below.refl _ _⟩
def ndB (x y:Nd):Bool:=(x.text==y.text)&&decide (x.s=y.s)&&decide (x.parent=y.parent)&&decide (x.attrs=y.attrs)&&decide (x.kids=y.kids)
def ndsB:List Nd→List Nd→Bool
 | [],[]=>true
 | x::a,y::b=>ndB x y&&ndsB a b
 | _,_=>false
theorem Zs {x y:Nd}:ndB x y=true↔x=y:=by
 obtain ⟨a,b,c,d,e⟩:=x;obtain ⟨a',b',c',d',e'⟩:=y;unfold ndB;simp
 constructor
 · rintro ⟨⟨⟨⟨h1,h2⟩,h3⟩,h4⟩,h5⟩;exact ⟨h1,h2,h4,h3,h5⟩
 · rintro ⟨h1,h2,h3,h4,h5⟩;exact ⟨⟨⟨⟨h1,h2⟩,h4⟩,h3⟩,h5⟩
theorem ndsB_iff:∀ {a b:List Nd},ndsB a b=true↔a=b:=by
 intro a
 induction a with
 | nil=>intro b;cases b<;>simp[ndsB]
 | cons x a ih => intro b;cases b with
   | nil=>simp[ndsB]
   | cons y b=>simp[ndsB,Zs,ih]
end
section
attribute [local go_sem] qf
def IsDocOk:Prop:=∀ (S:Nat→Prop)(v:Value)(ns:List Nd)(w:World),zM S w v ns →
 Calls Tryz.prog 14 #[.agg #[v]] w fun e w'=>e=.returned (.bool (qg ns))∧Below w.heap.size w w'
end
end Go.Proofs.YtfdbipeidmpciaaGreatDoor
