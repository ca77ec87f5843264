/- Bundled: LayM DocK DocT DocU LayB DocN SizeM ContM Fam PathM Steps MeantP SelectP. What each says stands ahead of it. -/
import Derived.Test.YtfdbipeidmpciabDoorBundle07
import Derived.Test.YtfdbipeidmpciabDoorBundle10
namespace Go.Proofs.YtfdbipeidmpciabDoor
open Go.ChangeShapes Go.WideShapes Go.ChangeAt Go.RowKit
set_option maxRecDepth 100000
def qb (d:Nat):Nat→List Tr→List Int
 | _,[]=>[]
 | at',k::ks=>(at':Int)::qb d (at'+cnt (d+1) [k]) ks
def qi (d:Nat)(g:Tr→Int→Nat→List Nd)(par:Nat):Nat→List Tr→List Nd
 | _,[]=>[]
 | at',k::ks=>g k par at'++qi d g par (at'+cnt (d+1) [k]) ks
def layF:Nat→Tr→Int→Nat→List Nd
 | 0,t,par,_=>[⟨t.text,t.s,t.attrs,par,[]⟩]
 | d+1,t,par,at'=>⟨t.text,t.s,t.attrs,par,qb d (at'+1) t.kids⟩::qi d (layF d) at' (at'+1) t.kids
theorem qv (d:Nat)(t:Tr):cnt (d+1) [t]=1+cnt d t.kids:=by simp[cnt]
theorem qF (d:Nat)(t:Tr)(r:List Tr):cnt (d+1) (t::r)=cnt (d+1) [t]+cnt (d+1) r:=by simp[cnt]
theorem yu (d:Nat)(g:Tr→Int→Nat→List Nd)(par:Nat):∀ (a b:List Tr)(at':Nat),qi d g par at' (a++b)=qi d g par at' a++qi d g par (at'+cnt (d+1) a) b:=by
 intro a
 induction a with
 | nil=>intro b at';simp[qi,cnt]
 | cons k a ih =>
   intro b at'
   rw[List.cons_append,qi,qi,ih,qF d k a,List.append_assoc,Nat.add_assoc]
theorem zM (d:Nat):∀ (a b:List Tr)(at':Nat),qb d at' (a++b)=qb d at' a++qb d (at'+cnt (d+1) a) b:=by
 intro a
 induction a with
 | nil=>intro b at';simp[qb,cnt]
 | cons k a ih =>
   intro b at'
   rw[List.cons_append,qb,qb,ih,qF d k a,List.cons_append,Nat.add_assoc]
theorem layF_length:∀ (d:Nat)(t:Tr)(par:Int)(at':Nat),Deep d t.kids→(layF d t par at').length=cnt (d+1) [t]:=by
 intro d
 induction d with
 | zero =>
   intro t par at' h
   have:t.kids=[]:=h;rw[qv,this];rfl
 | succ d ih =>
   intro t par at' h
   rw[layF,List.length_cons,qv]
   have:∀ (ts:List Tr) (a:Nat),Deep (d+1) ts→(qi d (layF d) at' a ts).length=cnt (d+1) ts:=by
    intro ts
    induction ts with
    | nil=>intro _ _;rfl
    | cons k ts ih2 =>
      intro a hd;rw[qi,List.length_append,ih k _ _ (hd k List.mem_cons_self),ih2 _ (fun u hu=>hd u (List.mem_cons_of_mem _ hu)),qF d k ts]
   rw[this t.kids (at'+1) h]
   omega
end Go.Proofs.YtfdbipeidmpciabDoor
namespace Go.Proofs.YtfdbipeidmpciabDoor
open Go.RowKit
set_option maxRecDepth 100000
def x6 (ns:List Nd)(i:Nat):Prop:=∀ x,ns[i]?=some x→x.kids.length≤ns.length∧∀ k∈x.kids,(i:Int)<k∧k<ns.length
def xv (ns:List Nd)(a b:Nat):Prop:=a≤b∧b≤ns.length∧∀ i,a≤i→i<b→x6 ns i
theorem jg {ns:List Nd}{G:Nat→Bool × Nat}(hG:∀ m,(G m).1=true→m<(G m).2∧xv ns m (G m).2) :
 ∀ (ks:List Int) (m:Nat),m≤ns.length→(qf G ks m).1=true→xv ns m (qf G ks m).2∧ks.length+m≤(qf G ks m).2∧∀ k∈ks,(m:Int)≤k∧k<(qf G ks m).2:=by
 intro ks
 induction ks with
 | nil=>intro m hm _;exact ⟨⟨nR9 _,hm,fun i h1 h2=>absurd h1 (by have:i<m:=h2;omega)⟩,by simp[qf],by intro k hk;simp at hk⟩
 | cons k ks ih =>
   intro m _ h;unfold qf at h ⊢
   by_cases hc:k=(m:Int)∧(G m).1=true
   · rw[if_pos hc]at h ⊢
     obtain ⟨h1,h2,h3,h4⟩:=hG m hc.2;obtain ⟨⟨k1,k2,k3⟩,k4,k5⟩:=ih (G m).2 h3 h;refine ⟨⟨by omega,k2,fun i hi1 hi2=>?_⟩,by simp;omega,fun k' hk'=>?_⟩
     · rcases Nat.lt_or_ge i (G m).2 with h' | h'
       · exact h4 i hi1 h'
       · exact k3 i h' hi2
     · rw[List.mem_cons]at hk'
       rcases hk' with rfl|hk'
       · rw[hc.1];omega
       · have:=k5 k' hk';omega
   · rw[if_neg hc]at h;simp at h
theorem ordF_seg:∀ (f:Nat)(ns:List Nd)(par:Int)(nx:Nat),(ordF f ns par nx).1=true→nx<(ordF f ns par nx).2∧xv ns nx (ordF f ns par nx).2:=by
 intro f
 induction f with
 | zero=>intro ns par nx h;simp[ordF]at h
 | succ f ih =>
   intro ns par nx h;unfold ordF at h ⊢
   cases hx:ns[nx]? with
   | none=>simp[hx]at h
   | some x =>
     simp only[hx]at h ⊢
     have hlt:nx<ns.length:=by
      rcases Nat.lt_or_ge nx ns.length with h'|h'
      · exact h'
      · rw[List.getElem?_eq_none h']at hx;cases hx
     by_cases hp:x.parent=par
     · rw[if_pos hp]at h ⊢
       obtain ⟨⟨k1,k2,k3⟩,k4,k5⟩:=jg (fun m hm=>ih ns nx m hm) x.kids (nx+1) (by omega) h
       refine ⟨by omega,by omega,k2,fun i hi1 hi2=>?_⟩
       rcases Nat.lt_or_ge nx i with h'|h'
       · exact k3 i h' hi2
       · have : i = nx := by omega
         subst this;intro y hy;rw[hx]at hy
         cases hy;refine ⟨by omega,fun k hk=>?_⟩
         have:=k5 k hk;omega
     · rw[if_neg hp]at h;simp at h
theorem yf {f:Nat}{ns:List Nd}(h:ordF f ns (-1) 0=(true,ns.length))(hl:ns.length≤80)(ha:∀ x∈ns,x.attrs.length≤4398046511104):jw ns:=by
 have h1:=ordF_seg f ns (-1) 0 (by rw[h])
 rw[h]at h1
 intro n x hx
 have hlt:n<ns.length:=by
  rcases Nat.lt_or_ge n ns.length with h'|h'
  · exact h'
  · rw[List.getElem?_eq_none h']at hx;cases hx
 obtain ⟨k1,k2⟩:=h1.2.2.2 n (nZ9 _) hlt x hx;exact ⟨ha x (List.mem_of_getElem? hx),by omega,k2⟩
def zR (ns:List Nd):Prop:=∀ x∈ns,x.s.size≤maxLen∧∀ y∈x.attrs,y.1.size≤maxLen∧y.2.size≤maxLen
theorem jz {ns:List Nd}(h:zR ns):∀ (f n:Nat),xx (growF f ns n)∧TextsN f (growF f ns n).kids:=by
 intro f
 induction f with
 | zero=>intro n;exact ⟨⟨nZ9 _,by intro y hy;simp[growF]at hy⟩,trivial⟩
 | succ f ih =>
   intro n;rw[growF];cases hx:ns[n]? with
   | none=>exact ⟨⟨nZ9 _,by intro y hy;simp at hy⟩,by intro t ht;simp at ht⟩
   | some x =>
     refine ⟨h x (List.mem_of_getElem? hx),fun t ht=>?_⟩
     simp only[List.mem_map]at ht
     obtain ⟨k,_,rfl⟩:=ht;exact ih _
end Go.Proofs.YtfdbipeidmpciabDoor
namespace Go.Proofs.YtfdbipeidmpciabDoor
open Go.ChangeShapes Go.WideShapes Go.ChangeAt Go.RowKit
set_option maxRecDepth 100000
section
attribute [local go_sem] qc
def qX (ns:List Nd):Bool:=(ordF (ns.length+1) ns (-1) 0).1&&decide ((ordF (ns.length+1) ns (-1) 0).2=ns.length)
def qg (ns:List Nd):Bool:=decide (ns.length≤80)&&qX ns&&zm (growF ns.length ns 0)
theorem qO {ns:List Nd}(h:qX ns=true):ordF (ns.length+1) ns (-1) 0=(true,ns.length):=by
 simp only[qX,Bool.and_eq_true,decide_eq_true_eq]at h
 exact Prod.ext h.1 h.2
theorem jG {ns:List Nd}(h:qX ns=true):0<ns.length:=by
 have h1:=ordF_seg (ns.length+1) ns (-1) 0 (by rw[qO h])
 rw[qO h]at h1
 exact h1.1
set_option maxHeartbeats 1000000 in
theorem j1 (S:Nat→Prop)(v:Value)(ns:List Nd)(w:World)(hN:qr S w v ns)(hS:∀ b,S b→b<w.heap.size)(ha:∀ x∈ns,x.attrs.length≤4398046511104)(hx:zR ns) :
 Calls Tryd.prog 9 #[.agg #[v]] w fun e w'=>e=.returned (.bool (qg ns))∧Below w.heap.size w w':=by
 obtain ⟨a,cap,rfl,hlc,hcm⟩:=hN.shape;unfold maxLen at hcm
 have HG:Hid (qg ns=(decide (ns.length≤80)&&qX ns&&zm (growF ns.length ns 0))):=rfl
 by_cases h80:ns.length≤80
 · have hi80 : ¬ (80 : Int) < (ns.length : Int) := by omega
   have HG2:Hid (qg ns=(qX ns&&zm (growF ns.length ns 0))):=by show _=_;rw[HG.out];simp[h80]
   clear HG;have hb2:Below w.heap.size w ((w.alloc (.cells #[.slice a ns.length cap] 24)).alloc (.cells #[.int .i64 0] 3)):=(Below.alloc1 w _).alloc (by simp) _
   have hC2:Cnt (w.heap.size+1) 0 ((w.alloc (.cells #[.slice a ns.length cap] 24)).alloc (.cells #[.int .i64 0] 3)):=by
    have e:=heap_alloc_new (w.alloc (.cells #[.slice a ns.length cap] 24)) (.cells #[.int .i64 0] 3);rw[World.size_alloc]at e
    exact e
   have hx2:((w.alloc (.cells #[.slice a ns.length cap] 24)).alloc (.cells #[.int .i64 0] 3)).heap[w.heap.size]?=some (.cells #[.slice a ns.length cap] 24 (0,0)):=by
    rw[Lib.alloc_old _ _ _ (by simp)];exact heap_alloc_new _ _
   have HO:Hid _:=xU (ns.length+1) S _ ns (-1) (w.heap.size+1) 0 _ (hN.later hb2) (fun b hb=>by have:=hS b hb;omega) hC2 h80 (by omega)
   have HN:Hid (qr S w (.slice a ns.length cap) ns):=hN;have HA:Hid (∀ x∈ns,x.attrs.length≤4398046511104):=ha;have HX:Hid (zR ns):=hx;have HS:Hid (∀ b,S b→b<w.heap.size):=hS;have HOR:Hid (qX ns=((ordF (ns.length+1) ns (-1) 0).1&&decide ((ordF (ns.length+1) ns (-1) 0).2=ns.length))):=rfl;clear hN hC2 ha hx hS
   go_enter Tryd.func9,Tryd.ntmps9
   go_wp2_with fail;refine (Calls.mono HO.out ?_);rintro e w3 ⟨rfl,hC3,hF3⟩
   have hx3:w3.heap[w.heap.size]?=some (.cells #[.slice a ns.length cap] 24 (0,0)):=by
    rw[hF3.frame w.heap.size (by simp;omega) (by omega)];exact hx2
   have hB3:Below w.heap.size w w3:=⟨hF3.below.os.trans hb2.os,hF3.below.tape.trans hb2.tape,hF3.below.output.trans hb2.output,Nat.le_trans hb2.size hF3.below.size,fun k hk=>by rw[hF3.frame k (by simp;omega) (by omega)];exact hb2.block k hk⟩
   have d0:w3.cell? ⟨w.heap.size,0,none⟩=some (.slice a ns.length cap):=by rw[cH9 hx3];rfl
   have e0:=hC3.c0;have hlt3:=qh hx3;clear HO hb2 hx2 hF3;obtain ⟨q,hq⟩:∃ q,ordF (ns.length+1) ns (-1) 0=q:=⟨_,rfl⟩;rw[hq]at HOR e0 hC3 ⊢
   have HQ:Hid (ordF (ns.length+1) ns (-1) 0=q):=hq;clear hq;obtain ⟨q1,q2⟩:=q;simp only at HOR e0 hC3 ⊢
   cases q1 with
   | false =>
     have HE:Hid (qg ns=false):=by show _=_;rw[HG2.out,HOR.out];rfl
     clear HG2 HOR;go_wp2_with fail;go_ret;exact ⟨by rw[HE.out];rfl,hB3⟩
   | true =>
     by_cases hql:q2=ns.length
     · have hne : ((q2 : Int) != (ns.length : Int)) = false := by simp[hql]
       have hor:qX ns=true:=by rw[HOR.out,hql];simp
       have HE:Hid (qg ns=zm (growF ns.length ns 0)):=by show _=_;rw[HG2.out,hor];rfl
       have hpos:=jG hor;have HGR:Hid _:=j2 ns.length S _ ns 0 w3 (HN.out.later hB3) (yf (qO hor) h80 HA.out) hpos (by omega)
       have HTX:Hid (TextsN (ns.length+1) [growF ns.length ns 0]):=by
        intro t ht;simp only[List.mem_singleton]at ht
        subst ht;exact jz HX.out _ _
       clear HG2 HOR hor hql;go_wp2_with fail;refine (Calls.mono HGR.out ?_);rintro e w4 ⟨va4,vk4,rfl,hA4,hK4,hb4⟩;have hB4:Below w.heap.size w w4:=hB3.trans (hb4.mono hB3.size);have HGD:Hid _:=xE _ ns.length _ _ (growF ns.length ns 0) w4 hA4 hK4 HTX.out;obtain ⟨aa,ac,rfl⟩:=hA4.shape;obtain ⟨ka,kc,rfl,_,_⟩:=qd.shape ns.length hK4;clear hA4 hK4 HGR;go_wp2_with fail;refine (Calls.mono HGD.out ?_);rintro e w5 ⟨rfl,hb5⟩;have hB5:Below w.heap.size w w5:=hB4.trans (hb5.mono hB4.size);go_wp2_with fail;go_ret;exact ⟨by rw[HE.out];rfl,hB5⟩
     · have hne : ((q2 : Int) != (ns.length : Int)) = true := by simp;omega
       have HE:Hid (qg ns=false):=by show _=_;rw[HG2.out,HOR.out];simp[hql]
       clear HG2 HOR hql;go_wp2_with fail;go_ret;exact ⟨by rw[HE.out];rfl,hB3⟩
 · have hi80 : (80 : Int) < (ns.length : Int) := by omega
   have HE:Hid (qg ns=false):=by show _=_;rw[HG.out];simp[h80]
   clear HG hN
   go_enter Tryd.func9,Tryd.ntmps9
   go_wp2_with fail;go_ret;exact ⟨by rw[HE.out];rfl,Below.alloc1 _ _⟩
end
section
attribute [local go_sem] qc
structure zj (S:Nat→Prop) (w:World) (v:Value) (ns:List Nd):Prop where
 nodes:qr S w v ns
 here:∀ b,S b→b<w.heap.size
 few:∀ x∈ns,x.attrs.length≤4398046511104
 short:zR ns
theorem zj.later {S:Nat→Prop}{w w':World}{v:Value}{ns:List Nd}(h:zj S w v ns)(hb:Below w.heap.size w w'):zj S w' v ns :=
 ⟨h.nodes.later hb,fun b hb'=>Nat.lt_of_lt_of_le (h.here b hb') hb.size,h.few,h.short⟩
theorem zj.good {S:Nat→Prop}{w:World}{v:Value}{ns:List Nd}(h:zj S w v ns):Calls Tryd.prog 9 #[.agg #[v]] w fun e w'=>e=.returned (.bool (qg ns))∧Below w.heap.size w w' :=
 j1 S v ns w h.nodes h.here h.few h.short
theorem jy {S:Nat→Prop}{w:World}{v:Value}{ns:List Nd}(h:zj S w v ns)(hg:qg ns=true):jw ns:=by
 simp only[qg,Bool.and_eq_true,decide_eq_true_eq]at hg
 exact yf (qO hg.1.2) hg.1.1 h.few
def xy (ns:List Nd)(n:Int):Bool:=decide (0≤n)&&decide (n<ns.length)
def zq (ns:List Nd)(n:Int):Int:=if qg ns&&xy ns n then (lastF ns.length ns n.toNat:Int)+1 else 0
end
end Go.Proofs.YtfdbipeidmpciabDoor
namespace Go.Proofs.YtfdbipeidmpciabDoor
open Go.RowKit
set_option maxRecDepth 100000
def Seg (ns:List Nd)(at':Nat)(L:List Nd):Prop:=∀ (i:Nat)(x:Nd),L[i]?=some x→ns[at'+i]?=some x
theorem Seg.left {ns L M:List Nd}{at':Nat}(h:Seg ns at' (L++M)):Seg ns at' L:=by
 intro i x hx;refine h i x ?_
 have hi:i<L.length:=by
  rcases Nat.lt_or_ge i L.length with h'|h'
  · exact h'
  · rw[List.getElem?_eq_none h']at hx;cases hx
 rw[List.getElem?_append_left hi];exact hx
theorem Seg.right {ns L M:List Nd}{at':Nat}(h:Seg ns at' (L++M)):Seg ns (at'+L.length) M:=by
 intro i x hx;have:=h (L.length+i) x (by rw[List.getElem?_append_right (by omega)];rw[show L.length+i-L.length=i by omega];exact hx)
 rw[show at'+L.length+i=at'+(L.length+i) by omega];exact this
theorem Seg.tail {ns L:List Nd}{x:Nd}{at':Nat}(h:Seg ns at' (x::L)):Seg ns (at'+1) L:=by
 intro i y hy;have:=h (i+1) y (by simpa using hy)
 rw[show at'+1+i=at'+(i+1) by omega];exact this
theorem zi {d:Nat}{t:Tr}(h:Deep d t.kids)(par:Int)(nx:Nat):layF d t par nx=⟨t.text,t.s,t.attrs,par,qb (d-1) (nx+1) t.kids⟩::qi (d-1) (layF (d-1)) nx (nx+1) t.kids:=by
 cases d with
 | zero =>
   have e:t.kids=[]:=h;rw[e];rfl
 | succ d=>rfl
theorem ord_lay:∀ (d:Nat)(t:Tr)(f:Nat)(ns:List Nd)(par:Int)(at':Nat),Deep d t.kids→Seg ns at' (layF d t par at')→cnt (d+1) [t]≤f→ordF f ns par at'=(true,at'+cnt (d+1) [t]):=by
 intro d
 induction d with
 | zero =>
   intro t f ns par at' hd hs hf
   have e:t.kids=[]:=hd;rw[qv,e]at hf ⊢
   obtain ⟨f',rfl⟩:∃ f',f=f'+1:=⟨f-1,by omega⟩
   have h0:ns[at']?=some ⟨t.text,t.s,t.attrs,par,[]⟩:=hs 0 _ rfl
   rw[ordF,h0];simp[qf,cnt]
 | succ d ih =>
   intro t f ns par at' hd hs hf
   rw[qv]at hf ⊢
   obtain ⟨f',rfl⟩:∃ f',f=f'+1:=⟨f-1,by omega⟩
   have h0:ns[at']?=some ⟨t.text,t.s,t.attrs,par,qb d (at'+1) t.kids⟩:=hs 0 _ rfl
   have hsk:Seg ns (at'+1) (qi d (layF d) at' (at'+1) t.kids):=Seg.tail hs
   rw[ordF,h0];simp only[if_true]
   have key:∀ (ks:List Tr) (a:Nat),Deep (d+1) ks→Seg ns a (qi d (layF d) at' a ks)→cnt (d+1) ks≤f'→qf (ordF f' ns at') (qb d a ks) a=(true,a+cnt (d+1) ks):=by
    intro ks
    induction ks with
    | nil=>intro a _ _ _;simp[qb,qf,cnt]
    | cons k ks ihk =>
      intro a hdk hsg hc;rw[qF d k ks]at hc ⊢
      rw[qi]at hsg
      have hl:=layF_length d k (at':Int) a (hdk k List.mem_cons_self)
      have h1:=ih k f' ns at' a (hdk k List.mem_cons_self) hsg.left (by omega)
      have h2:=hsg.right;rw[hl]at h2
      rw[qb,qf,h1,if_pos ⟨rfl,rfl⟩,ihk (a+cnt (d+1) [k]) (fun u hu=>hdk u (List.mem_cons_of_mem _ hu)) h2 (by omega),Nat.add_assoc]
   rw[key t.kids (at'+1) hd hsk (by omega),Nat.add_assoc]
theorem grow_lay:∀ (d:Nat)(t:Tr)(f:Nat)(ns:List Nd)(par:Int)(at':Nat),Deep d t.kids→Seg ns at' (layF d t par at')→cnt (d+1) [t]≤f→growF f ns at'=t:=by
 intro d
 induction d with
 | zero =>
   intro t f ns par at' hd hs hf
   have e:t.kids=[]:=hd;rw[qv,e]at hf
   obtain ⟨f',rfl⟩:∃ f',f=f'+1:=⟨f-1,by omega⟩
   have h0:ns[at']?=some ⟨t.text,t.s,t.attrs,par,[]⟩:=hs 0 _ rfl
   rw[growF,h0];cases t;simp at e
   subst e;rfl
 | succ d ih =>
   intro t f ns par at' hd hs hf
   rw[qv]at hf
   obtain ⟨f',rfl⟩:∃ f',f=f'+1:=⟨f-1,by omega⟩
   have h0:ns[at']?=some ⟨t.text,t.s,t.attrs,par,qb d (at'+1) t.kids⟩:=hs 0 _ rfl
   have hsk:Seg ns (at'+1) (qi d (layF d) at' (at'+1) t.kids):=Seg.tail hs
   rw[growF,h0]
   have key:∀ (ks:List Tr) (a:Nat),Deep (d+1) ks→Seg ns a (qi d (layF d) at' a ks)→cnt (d+1) ks≤f'→(qb d a ks).map (fun k=>growF f' ns k.toNat)=ks:=by
    intro ks
    induction ks with
    | nil=>intro a _ _ _;rfl
    | cons k ks ihk =>
      intro a hdk hsg hc;rw[qF d k ks]at hc
      rw[qi]at hsg
      have hl:=layF_length d k (at':Int) a (hdk k List.mem_cons_self)
      have h1:=ih k f' ns at' a (hdk k List.mem_cons_self) hsg.left (by omega)
      have h2:=hsg.right;rw[hl]at h2
      rw[qb,List.map_cons,ihk (a+cnt (d+1) [k]) (fun u hu=>hdk u (List.mem_cons_of_mem _ hu)) h2 (by omega)]
      rw[Int.toNat_natCast,h1]
   simp only[key t.kids (at'+1) hd hsk (by omega)]
   cases t;rfl
theorem jq {d:Nat}:∀ (ks:List Tr)(a:Nat)(k:Tr),(qb d a (ks++[k])).getLast?=some ((a+cnt (d+1) ks:Nat):Int):=by
 intro ks a k;rw[zM];simp[qb]
theorem last_lay:∀ (d:Nat)(t:Tr)(f:Nat)(ns:List Nd)(par:Int)(at':Nat),Deep d t.kids→Seg ns at' (layF d t par at')→cnt (d+1) [t]≤f→lastF f ns at'+1=at'+cnt (d+1) [t]:=by
 intro d
 induction d with
 | zero =>
   intro t f ns par at' hd hs hf
   have e:t.kids=[]:=hd;rw[qv,e]at hf ⊢
   obtain ⟨f',rfl⟩:∃ f',f=f'+1:=⟨f-1,by omega⟩
   have h0:ns[at']?=some ⟨t.text,t.s,t.attrs,par,[]⟩:=hs 0 _ rfl
   rw[lastF,h0];simp[cnt]
 | succ d ih =>
   intro t f ns par at' hd hs hf
   rw[qv]at hf ⊢
   obtain ⟨f',rfl⟩:∃ f',f=f'+1:=⟨f-1,by omega⟩
   have h0:ns[at']?=some ⟨t.text,t.s,t.attrs,par,qb d (at'+1) t.kids⟩:=hs 0 _ rfl
   have hsk:Seg ns (at'+1) (qi d (layF d) at' (at'+1) t.kids):=Seg.tail hs
   rw[lastF,h0];simp only
   rcases List.eq_nil_or_concat t.kids with he|⟨ks,k,he⟩
   · rw[he];simp[qb,cnt]
   · rw[List.concat_eq_append]at he
     rw[he]at hf hsk ⊢
     have hdk:Deep (d+1) (ks++[k]):=by rw[←he];exact hd
     have happ:cnt (d+1) (ks++[k])=cnt (d+1) ks+cnt (d+1) [k]:=by simp[cnt]
     rw[jq];simp only[Int.toNat_natCast];rw[yu]at hsk
     have hl:(qi d (layF d) at' (at'+1) ks).length=cnt (d+1) ks:=by
      have:∀ (ts:List Tr) (a:Nat),Deep (d+1) ts→(qi d (layF d) at' a ts).length=cnt (d+1) ts:=by
       intro ts
       induction ts with
       | nil=>intro _ _;rfl
       | cons u ts ih2 =>
         intro a hd2;rw[qi,List.length_append,layF_length d u _ _ (hd2 u List.mem_cons_self),ih2 _ (fun x hx=>hd2 x (List.mem_cons_of_mem _ hx)),qF d u ts]
      exact this _ _ (fun u hu=>hdk u (List.mem_append_left _ hu))
     have h2:=hsk.right;rw[hl]at h2
     have h3:qi d (layF d) at' (at'+1+cnt (d+1) ks) [k]=layF d k at' (at'+1+cnt (d+1) ks):=by simp[qi]
     rw[h3]at h2
     have:=ih k f' ns at' (at'+1+cnt (d+1) ks) (hdk k (by simp)) h2 (by omega)
     omega
theorem Seg.nil (ns:List Nd)(a:Nat):Seg ns a []:=by intro i x hx;simp at hx
theorem Seg.append {ns L M:List Nd}{a:Nat}(h:Seg ns a L)(k:Seg ns (a+L.length) M):Seg ns a (L++M):=by
 intro i x hx
 rcases Nat.lt_or_ge i L.length with h'|h'
 · rw[List.getElem?_append_left h']at hx;exact h i x hx
 · rw[List.getElem?_append_right h']at hx
   have:=k (i-L.length) x hx;rw[show a+L.length+(i-L.length)=a+i by omega]at this
   exact this
theorem Seg.cons {ns L:List Nd}{x:Nd}{a:Nat}(h:ns[a]?=some x)(k:Seg ns (a+1) L):Seg ns a (x::L):=by
 intro i y hy;cases i with
 | zero=>simp at hy;subst hy;exact h
 | succ i =>
   have:=k i y (by simpa using hy)
   rw[show a+(i+1)=a+1+i by omega];exact this
theorem ord_conv:∀ (f:Nat)(ns:List Nd)(par:Int)(nx:Nat),(ordF f ns par nx).1=true→∃ t:Tr,Deep f t.kids∧Seg ns nx (layF f t par nx)∧(ordF f ns par nx).2=nx+cnt (f+1) [t]:=by
 intro f
 induction f with
 | zero=>intro ns par nx h;simp[ordF]at h
 | succ f ih =>
   intro ns par nx h;rw[ordF]at h ⊢
   cases hx:ns[nx]? with
   | none=>simp[hx]at h
   | some x =>
     simp only[hx]at h ⊢
     by_cases hp:x.parent=par
     · rw[if_pos hp]at h ⊢
       have key:∀ (ks:List Int) (a:Nat),(qf (ordF f ns nx) ks a).1=true→∃ ts:List Tr,(∀ k∈ts,Deep f k.kids)∧ks=qb f a ts∧Seg ns a (qi f (layF f) nx a ts)∧(qf (ordF f ns nx) ks a).2=a+cnt (f+1) ts:=by
        intro ks
        induction ks with
        | nil=>intro a _;exact ⟨[],by simp,rfl,Seg.nil _ _,by simp[qf,q9]⟩
        | cons k ks ihk =>
          intro a hk;rw[qf]at hk ⊢
          by_cases hc:k=(a:Int)∧(ordF f ns nx a).1=true
          · rw[if_pos hc]at hk ⊢
            obtain ⟨t,ht1,ht2,ht3⟩:=ih ns nx a hc.2;rw[ht3]at hk ⊢
            obtain ⟨ts,hd,he,hs,hn⟩:=ihk _ hk;refine ⟨t::ts,?_,?_,?_,?_⟩
            · intro u hu;rw[List.mem_cons]at hu
              rcases hu with rfl|hu
              · exact ht1
              · exact hd u hu
            · rw[qb,←he,hc.1]
            · rw[qi];refine Seg.append ht2 ?_;rw[layF_length f t nx a ht1];exact hs
            · rw[hn,qF f t ts];omega
          · rw[if_neg hc]at hk;cases hk
       obtain ⟨ts,hd,he,hs,hn⟩:=key x.kids (nx+1) h;refine ⟨⟨x.text,x.s,x.attrs,ts⟩,hd,?_,?_⟩
       · rw[layF];refine Seg.cons ?_ hs;rw[hx];obtain ⟨xt,xs,xa,xp,xk⟩:=x;simp only at hp he
         rw[hp,he]
       · rw[hn,qv];show nx+1+cnt (f+1) ts=nx+(1+cnt (f+1) ts);omega
     · rw[if_neg hp]at h;cases h
def Sub (ns:List Nd)(j c:Nat)(par:Int):Prop:=∃ (d:Nat)(t:Tr),Deep d t.kids∧Seg ns j (layF d t par j)∧c=cnt (d+1) [t]
theorem xB {ns:List Nd}(hg:qg ns=true){j:Nat}(hj:j<ns.length):zq ns (j:Int)=(lastF ns.length ns j:Int)+1:=by
 unfold zq xy;have h1:(0:Int)≤j:=by omega
 have h2:(j:Int)<ns.length:=by omega
 simp[hg,h1,h2]
theorem Seg.in {ns L:List Nd}{a:Nat}(h:Seg ns a L)(hne:0<L.length):a+L.length≤ns.length:=by
 have h1:L[L.length-1]?=some (L[L.length-1]'(by omega)):=List.getElem?_eq_getElem (by omega)
 have h2:=h _ _ h1
 rcases Nat.lt_or_ge (a+(L.length-1)) ns.length with h'|h'
 · omega
 · rw[List.getElem?_eq_none h']at h2;cases h2
theorem jT {ns:List Nd}(hg:qg ns=true){j c:Nat}{par:Int}(h:Sub ns j c par)(hj:j<ns.length) :
 (∃ d,Deep d (growF ns.length ns j).kids∧c=cnt (d+1) [growF ns.length ns j])∧zq ns (j:Int)=(j:Int)+(c:Nat)∧j+c≤ns.length∧∃ x,ns[j]?=some x∧x.parent=par:=by
 obtain ⟨d,t,hd,hs,hc⟩:=h;have hlen:=layF_length d t par j hd;have hin:=hs.in (by rw[hlen,qv];omega)
 rw[hlen]at hin
 have hgr:=grow_lay d t ns.length ns par j hd hs (by omega)
 have hla:=last_lay d t ns.length ns par j hd hs (by omega)
 refine ⟨⟨d,by rw[hgr];exact hd,by rw[hgr];exact hc⟩,?_,by omega,?_⟩
 · rw[xB hg hj];omega
 · rw[zi hd]at hs
   exact ⟨_,hs 0 _ rfl,rfl⟩
end Go.Proofs.YtfdbipeidmpciabDoor
namespace Go.Proofs.YtfdbipeidmpciabDoor
open Go.ChangeShapes Go.WideShapes Go.ChangeAt Go.RowKit
set_option maxRecDepth 100000
def dep:Nat→List Tr→Nat
 | 0,_=>0
 | n+1,ts=>(ts.map fun t=>1+dep n t.kids).foldr max 0
theorem zh (n:Nat):dep n []=0:=by cases n<;>rfl
theorem zA (n:Nat)(t:Tr)(r:List Tr):dep (n+1) (t::r)=max (1+dep n t.kids) (dep (n+1) r):=rfl
theorem zX (n:Nat)(a b:List Tr):dep n (a++b)=max (dep n a) (dep n b):=by
 cases n with
 | zero=>rfl
 | succ n =>
   induction a with
   | nil=>simp[zh]
   | cons t r ih=>rw[List.cons_append,zA,zA,ih];omega
theorem zU (n:Nat)(a b:List Tr):cnt n (a++b)=cnt n a+cnt n b:=by
 cases n with
 | zero=>rfl
 | succ n =>
   induction a with
   | nil=>simp[q9]
   | cons t r ih=>rw[List.cons_append,zV,zV,ih];omega
def nx (ts:List Tr):List Tr:=ts.flatMap fun t=>t.kids
theorem nx_nil:nx []=[]:=rfl
theorem yP (t:Tr)(r:List Tr):nx (t::r)=t.kids++nx r:=by simp[nx]
theorem x7 (n:Nat)(ts:List Tr):cnt (n+1) ts=ts.length+cnt n (nx ts):=by
 induction ts with
 | nil=>simp[q9,nx_nil]
 | cons t r ih=>rw[zV,yP,zU,ih,List.length_cons];omega
theorem x8 (n:Nat)(ts:List Tr)(h:ts≠[]):dep (n+1) ts=1+dep n (nx ts):=by
 induction ts with
 | nil=>exact absurd rfl h
 | cons t r ih =>
   rw[zA,yP,zX]
   by_cases hr:r=[]
   · subst hr;rw[zh,nx_nil,zh];omega
   · rw[ih hr];omega
theorem yU (n:Nat):rgt n []=true:=by cases n<;>rfl
theorem jI {n:Nat}{t:Tr}(h:qp t=true):(t.text||rgt n t.kids)=rgt n t.kids:=by
 cases htt:t.text with
 | false=>rfl
 | true =>
   have:t.kids=[]:=by
    simp[qp,htt]at h
    exact h.2
   rw[this,yU];rfl
theorem Qb (d n:Nat)(f:Int→List Tr→Int)
    (hf:∀ room k,0≤room→Deep n k→f room k=if dep n k≤d∧(cnt n k:Int)≤room∧rgt n k=true then room-cnt n k else -1) :
    ∀ (l : List Tr) (p : Bool) (room : Int), 0 ≤ room → Deep (n + 1) l →
      rl f p room l=if dep n (nx l)≤d∧(cnt n (nx l):Int)≤room∧rgL (rgt n) p l=true then room-cnt n (nx l) else -1:=by
  intro l
  induction l with
  | nil =>
    intro p room h0 _;rw[nx_nil,zh,q9,if_pos ⟨nZ9 _,by simpa using h0,rfl⟩]
    simp[rl]
  | cons t r ih =>
    intro p room h0 hd;have hk:Deep n t.kids:=hd t (List.mem_cons_self ..);have hr:Deep (n+1) r:=fun x hx=>hd x (List.mem_cons_of_mem _ hx)
    rw[yP,zX,zU];unfold rl;have hfk:=hf room t.kids h0 hk
    by_cases hA:(!qp t||(p&&t.text))=true
    · rw[if_pos hA, if_neg];rintro ⟨_,_,h3⟩;unfold rgL at h3
      cases h1:qp t<;>cases h2:(p&&t.text)<;>simp[h1,h2]at hA h3
    · rw[if_neg hA];have h1:qp t=true:=by cases h:qp t<;>simp[h]at hA ⊢
      have h2:(p&&t.text)=false:=by cases h:(p&&t.text)<;>simp[h]at hA ⊢
      have hg:rgL (rgt n) p (t::r)=(rgt n t.kids&&rgL (rgt n) t.text r):=by
        show (qp t&&!(p&&t.text)&&(t.text||rgt n t.kids)&&rgL (rgt n) t.text r)=_
        rw[h1,h2,jI h1];rfl
      rw[hg]
      by_cases hK:dep n t.kids≤d∧(cnt n t.kids:Int)≤room∧rgt n t.kids=true
      · rw[if_pos hK]at hfk
        rw[hfk,if_neg (by omega),ih t.text (room-cnt n t.kids) (by omega) hr]
        by_cases hR:dep n (nx r)≤d∧(cnt n (nx r):Int)≤room-cnt n t.kids∧rgL (rgt n) t.text r=true
        · rw[if_pos hR, if_pos ⟨by omega, by push_cast;omega, by rw[hK.2.2, hR.2.2];rfl⟩]
          push_cast;omega
        · rw[if_neg hR, if_neg];rintro ⟨a,b,c⟩;rw[hK.2.2]at c
          exact hR ⟨by omega,by push_cast at b;omega,by simpa using c⟩
      · rw[if_neg hK]at hfk
        rw[hfk,if_pos (by decide),if_neg]
        rintro ⟨a,b,c⟩;simp only[Bool.and_eq_true]at c
        exact hK ⟨by omega,by push_cast at b;omega,c.1⟩
theorem rb_eq:∀ (d n:Nat)(l:List Tr)(room:Int),0≤room→Deep n l →
 rb d room l=if dep n l≤d∧(cnt n l:Int)≤room∧rgt n l=true then room-cnt n l else -1:=by
 intro d
 induction d with
 | zero =>
   intro n l room h0 hd;unfold rb;cases l with
   | nil=>simp[zh,q9,yU];omega
   | cons t r =>
     cases n with
     | zero=>cases (show t::r=[] from hd)
     | succ n =>
       rw[if_neg (by simp),if_neg]
       rintro ⟨a,_⟩;rw[zA]at a;omega
 | succ d ih =>
   intro n l room h0 hd;unfold rb;cases l with
   | nil=>simp[zh,q9,yU];omega
   | cons t r =>
     cases n with
     | zero=>cases (show t::r=[] from hd)
     | succ n =>
       rw[if_neg (by simp)]
       generalize hl:t::r=l at *
       have hne:l≠[]:=by rw[←hl];simp
       rw[x8 n l hne,x7 n l]
       by_cases hrm:room<(l.length:Int)
       · rw[if_pos hrm, if_neg];rintro ⟨_,b,_⟩
         push_cast at b;omega
       · rw[if_neg hrm, Qb d n (rb d) (fun room k h hk => ih n k room h hk) l false (room - l.length) (by omega) hd]
         by_cases hR:dep n (nx l)≤d∧(cnt n (nx l):Int)≤room-l.length∧rgL (rgt n) false l=true
         · rw[if_pos hR,if_pos ⟨by omega,by push_cast;omega,hR.2.2⟩];push_cast;omega
         · rw[if_neg hR, if_neg];rintro ⟨a,b,c⟩;exact hR ⟨by omega,by push_cast at b;omega,c⟩
theorem yY {n:Nat}{l:List Tr}(hd:Deep n l):zz l=(decide (dep n l≤8)&&decide (cnt n l≤80)&&rgt n l):=by
 unfold zz;rw[rb_eq 8 n l 80 (by decide) hd]
 by_cases h:dep n l≤8∧(cnt n l:Int)≤80∧rgt n l=true
 · rw[if_pos h];have h2:cnt n l≤80:=by omega
   simp[h.1,h2,h.2.2];omega
 · rw[if_neg h];cases hr:rgt n l with
   | false=>simp
   | true =>
     have:¬ (dep n l≤8∧cnt n l≤80):=fun ⟨a,b⟩=>h ⟨a,by omega,hr⟩
     by_cases h1:dep n l≤8
     · have h2 : ¬ cnt n l ≤ 80 := fun b => this ⟨h1, b⟩
       simp[h2]
     · simp[h1]
theorem xD {n:Nat}{t:Tr}(hd:Deep n t.kids):zm t=(!t.text&&decide (dep (n+1) [t]<9)&&decide (cnt (n+1) [t]<81)&&rgt (n+1) [t]):=by
 have h:Deep (n+1) [t]:=by intro x hx;simp at hx;subst hx;exact hd
 unfold zm;rw[yY h];have e1:decide (dep (n+1) [t]≤8)=decide (dep (n+1) [t]<9):=by congr 1;apply propext;omega
 have e2:decide (cnt (n+1) [t]≤80)=decide (cnt (n+1) [t]<81):=by congr 1;apply propext;omega
 rw[e1,e2,Bool.and_assoc,Bool.and_assoc,Bool.and_assoc]
end Go.Proofs.YtfdbipeidmpciabDoor
namespace Go.Proofs.YtfdbipeidmpciabDoor
open Go.RowKit
set_option maxRecDepth 100000
theorem jS (d:Nat)(t:Tr):rgt (d+1) [t]=(qp t&&(t.text||rgt d t.kids)):=by
 simp[rgt,rgL]
theorem xW {f:List Tr→Bool}:∀ (l:List Tr)(p:Bool),rgL f p l=true→∀ k∈l,qp k=true∧(k.text||f k.kids)=true:=by
 intro l
 induction l with
 | nil=>intro _ _ k hk;simp at hk
 | cons t r ih =>
   intro p h k hk;simp only[rgL,Bool.and_eq_true]at h
   rw[List.mem_cons]at hk
   rcases hk with rfl|hk
   · exact ⟨h.1.1.1,h.1.2⟩
   · exact ih _ h.2 k hk
theorem jm {t:Tr}(h:qp t=true)(ht:t.text=true):t.kids=[]:=by
 simp only[qp,ht,if_true,Bool.and_eq_true,decide_eq_true_eq]at h
 exact List.length_eq_zero_iff.1 h.2
theorem xX {d:Nat}{t k:Tr}(h:rgt (d+2) [t]=true)(hk:k∈t.kids):rgt (d+1) [k]=true:=by
 rw[jS]at h ⊢
 simp only[Bool.and_eq_true]at h
 cases ht:t.text with
 | true=>rw[jm h.1 ht]at hk;simp at hk
 | false =>
   have h2:=h.2;rw[ht,Bool.false_or]at h2
   have:=xW t.kids false h2 k hk;simp only[Bool.and_eq_true];exact this
theorem xG (ns:List Nd):∀ (d:Nat)(t:Tr)(par:Int)(a:Nat),Deep d t.kids→Seg ns a (layF d t par a)→rgt (d+1) [t]=true→∀ j,a≤j→j<a+cnt (d+1) [t] →
 ∃ d' t' par',Deep d' t'.kids∧Seg ns j (layF d' t' par' j)∧rgt (d'+1) [t']=true∧(j=a∧par'=par∨∃ q y,ns[q]?=some y∧par'=((q:Nat):Int)∧q<j∧(j:Int)∈y.kids∧a≤q):=by
 intro d
 induction d with
 | zero =>
   intro t par a hd hs hr j h1 h2;have e:t.kids=[]:=hd;have hc:cnt 1 [t]=1:=by rw[qv,e];rfl
   rw[hc]at h2
   obtain rfl:j=a:=by omega
   exact ⟨0,t,par,hd,hs,hr,Or.inl ⟨rfl,rfl⟩⟩
 | succ d ih =>
   intro t par a hd hs hr j h1 h2
   by_cases hj:j=a
   · subst hj;exact ⟨d+1,t,par,hd,hs,hr,Or.inl ⟨rfl,rfl⟩⟩
   · have h0 : ns[a]? = some ⟨t.text, t.s, t.attrs, par, qb d (a + 1) t.kids⟩ := hs 0 _ rfl;have hsk:Seg ns (a+1) (qi d (layF d) a (a+1) t.kids):=Seg.tail hs
     have key:∀ (ks:List Tr) (b:Nat),(∀ k∈ks,Deep d k.kids)→(∀ k∈ks,rgt (d+1) [k]=true)→Seg ns b (qi d (layF d) a b ks)→a≤b→b≤j→j<b+cnt (d+1) ks →
      ∃ d' t' par',Deep d' t'.kids∧Seg ns j (layF d' t' par' j)∧rgt (d'+1) [t']=true∧((par'=(a:Int)∧(j:Int)∈qb d b ks)∨∃ q y,ns[q]?=some y∧par'=((q:Nat):Int)∧q<j∧(j:Int)∈y.kids∧a≤q):=by
      intro ks
      induction ks with
      | nil=>intro b _ _ _ _ hb1 hb2;rw[q9]at hb2;omega
      | cons k ks ihk =>
        intro b hdk hrk hsb hab hb1 hb2;rw[qi]at hsb
        have hl:=hsb.left;have hr2:=hsb.right;have hdk0:=hdk k List.mem_cons_self;rw[layF_length d k a b hdk0]at hr2
        rw[qF]at hb2
        by_cases hjk:j<b+cnt (d+1) [k]
        · obtain ⟨d', t', par', g1, g2, g3, hor⟩ := ih k a b hdk0 hl (hrk k List.mem_cons_self) j hb1 hjk;refine ⟨d',t',par',g1,g2,g3,?_⟩
          rcases hor with ⟨hp1,hp2⟩|hor
          · exact Or.inl ⟨hp2,by rw[qb,hp1];exact List.mem_cons_self⟩
          · obtain ⟨q, y, k1, k2, k3, k4, k5⟩ := hor;exact Or.inr ⟨q,y,k1,k2,k3,k4,by omega⟩
        · obtain ⟨d', t', par', g1, g2, g3, hor⟩ := ihk (b + cnt (d + 1) [k]) (fun u hu => hdk u (List.mem_cons_of_mem _ hu)) (fun u hu => hrk u (List.mem_cons_of_mem _ hu)) hr2 (by omega) (by omega) (by omega)
          refine ⟨d',t',par',g1,g2,g3,?_⟩
          rcases hor with ⟨hp1,hp2⟩|hor
          · exact Or.inl ⟨hp1,by rw[qb];exact List.mem_cons_of_mem _ hp2⟩
          · exact Or.inr hor
     have hc1:cnt (d+1+1) [t]=1+cnt (d+1) t.kids:=qv (d+1) t;obtain ⟨d',t',par',g1,g2,g3,hor⟩:=key t.kids (a+1) hd (fun k hk=>xX hr hk) hsk (by omega) (by omega) (by omega)
     refine ⟨d',t',par',g1,g2,g3,Or.inr ?_⟩
     rcases hor with ⟨hp1,hp2⟩|hor
     · exact ⟨a,_,h0,hp1,by omega,hp2,nR9 _⟩
     · exact hor
theorem yE {ns:List Nd}(hg:qg ns=true):∃ (d:Nat)(t:Tr),Deep d t.kids∧Seg ns 0 (layF d t (-1) 0)∧cnt (d+1) [t]=ns.length∧rgt (d+1) [t]=true∧t.text=false∧zm t=true∧growF ns.length ns 0=t:=by
 have hg2:=hg;simp only[qg,Bool.and_eq_true,decide_eq_true_eq]at hg2
 have ho:=qO hg2.1.2;obtain ⟨t,hd,hs,hn⟩:=ord_conv (ns.length+1) ns (-1) 0 (by rw[ho])
 rw[ho]at hn
 simp only[Nat.zero_add]at hn
 have hgr:=grow_lay _ t ns.length ns (-1) 0 hd hs (by omega)
 have hG:=hg2.2;rw[hgr]at hG
 have hG2:=hG;rw[xD hd]at hG
 simp only[Bool.and_eq_true,Bool.not_eq_true']at hG
 exact ⟨_,t,hd,hs,hn.symm,hG.2,hG.1.1.1,hG2,hgr⟩
structure Fam (ns:List Nd) (j:Nat) (x:Nd):Prop where
 kids:∀ u∈x.kids,∃ (k:Nat) (y:Nd),u=(k:Int)∧j<k∧k<ns.length∧zq ns (k:Int)≤zq ns (j:Int)∧ns[k]?=some y∧y.parent=(j:Int)
 row:x.kids.Pairwise (fun u v=>zq ns u≤v)
 par:(j=0∧x.parent=-1)∨∃ (q:Nat) (y:Nd),ns[q]?=some y∧x.parent=(q:Int)∧q<j∧(j:Int)∈y.kids
 text:x.text=true→x.kids=[]
 name:x.text=false→qz x.s=true
 gt:(j:Int)<zq ns (j:Int)
theorem qe {α:Type}{l:List α}{j:Nat}{x:α}(hx:l[j]?=some x):j<l.length:=by
 rcases Nat.lt_or_ge j l.length with h'|h'
 · exact h'
 · rw[List.getElem?_eq_none h']at hx;cases hx
theorem xR {ns:List Nd}(hg:qg ns=true){d j:Nat}{t:Tr}{par:Int}(hd:Deep d t.kids)(hs:Seg ns j (layF d t par j)){x:Nd}(hx:ns[j]?=some x) :
 (∀ u∈x.kids,∃ (k:Nat) (y:Nd),u=(k:Int)∧j<k∧k<ns.length∧zq ns (k:Int)≤zq ns (j:Int)∧ns[k]?=some y∧y.parent=(j:Int))∧x.kids.Pairwise (fun u v=>zq ns u≤v)∧(j:Int)<zq ns (j:Int):=by
 have hj:=qe hx;obtain ⟨_,he,hl,_⟩:=jT hg ⟨d,t,hd,hs,rfl⟩ hj;have hh:=zi hd par j
 have hx2:x=⟨t.text,t.s,t.attrs,par,qb (d-1) (j+1) t.kids⟩:=by
  have:=hs 0 _ (by rw[hh];rfl)
  rw[Nat.add_zero,hx]at this
  exact Option.some.inj this
 have hgt:(j:Int)<zq ns (j:Int):=by rw[he,qv];omega
 cases d with
 | zero =>
   have e:t.kids=[]:=hd;have ek:x.kids=[]:=by rw[hx2,e];rfl
   rw[ek];exact ⟨by simp,List.Pairwise.nil,hgt⟩
 | succ e =>
   have hsk:Seg ns (j+1) (qi e (layF e) j (j+1) t.kids):=Seg.tail hs
   have key:∀ (ks:List Tr) (b:Nat),(∀ k∈ks,Deep e k.kids)→Seg ns b (qi e (layF e) j b ks)→b+cnt (e+1) ks≤ns.length →
    (qb e b ks).Pairwise (fun u v=>zq ns u≤v)∧∀ u∈qb e b ks,∃ (k:Nat) (y:Nd),u=(k:Int)∧b≤k∧k<ns.length∧zq ns (k:Int)≤((b+cnt (e+1) ks:Nat):Int)∧ns[k]?=some y∧y.parent=(j:Int):=by
    intro ks
    induction ks with
    | nil=>intro b _ _ _;exact ⟨List.Pairwise.nil,by simp[qb]⟩
    | cons k ks ihk =>
      intro b hdk hsb hle;rw[qi]at hsb
      have hl1:=hsb.left;have hr2:=hsb.right;have hdk0:=hdk k List.mem_cons_self;rw[layF_length e k j b hdk0]at hr2
      rw[qF]at hle ⊢
      have hc1:=qv e k;obtain ⟨_,heb,_,y,hy,hyp⟩:=jT hg ⟨e,k,hdk0,hl1,rfl⟩ (by omega)
      obtain ⟨hP,hM⟩:=ihk (b+cnt (e+1) [k]) (fun u hu=>hdk u (List.mem_cons_of_mem _ hu)) hr2 (by omega)
      rw[qb];refine ⟨List.Pairwise.cons (fun v hv=>?_) hP,fun u hu=>?_⟩
      · obtain ⟨k2, _, rfl, hk2, _⟩ := hM v hv;rw[heb];omega
      · rw[List.mem_cons]at hu
        rcases hu with rfl|hu
        · exact ⟨b,y,rfl,nR9 _,by omega,by rw[heb];omega,hy,hyp⟩
        · obtain ⟨k2, y2, g1, g2, g3, g4, g5⟩ := hM u hu;exact ⟨k2,y2,g1,by omega,g3,by omega,g5⟩
   have hc:=qv (e+1) t;obtain ⟨hP,hM⟩:=key t.kids (j+1) hd hsk (by omega)
   have ek:x.kids=qb e (j+1) t.kids:=by rw[hx2];rfl
   rw[ek];refine ⟨fun u hu=>?_,hP,hgt⟩
   obtain ⟨k2,y2,g1,g2,g3,g4,g5⟩:=hM u hu;exact ⟨k2,y2,g1,by omega,g3,by rw[he];omega,g5⟩
theorem qo {ns:List Nd}(hg:qg ns=true){j:Nat}{x:Nd}(hx:ns[j]?=some x):Fam ns j x:=by
 have hj:=qe hx;obtain ⟨d,t,hd,hs,hn,hr,_,_,_⟩:=yE hg;obtain ⟨d',t',par',g1,g2,g3,hor⟩:=xG ns d t (-1) 0 hd hs hr j (nZ9 _) (by omega)
 obtain ⟨k1,k2,k3⟩:=xR hg g1 g2 hx
 have hx2:x=⟨t'.text,t'.s,t'.attrs,par',qb (d'-1) (j+1) t'.kids⟩:=by
  have:=g2 0 _ (by rw[zi g1 par' j];rfl)
  rw[Nat.add_zero,hx]at this
  exact Option.some.inj this
 rw[jS]at g3
 simp only[Bool.and_eq_true]at g3
 refine ⟨k1,k2,?_,?_,?_,k3⟩
 · rcases hor with ⟨h1, h2⟩ | ⟨q, y, h1, h2, h3, h4, _⟩
   · exact Or.inl ⟨h1,by rw[hx2];exact h2⟩
   · exact Or.inr ⟨q,y,h1,by rw[hx2];exact h2,h3,h4⟩
 · intro ht;have ht':t'.text=true:=by rw[hx2]at ht;exact ht
   rw[hx2,jm g3.1 ht'];rfl
 · intro ht;have ht':t'.text=false:=by rw[hx2]at ht;exact ht
   have h1:=g3.1;simp[qp,ht']at h1
   rw[hx2];exact h1.1
structure St where
 name:ByteArray
 n:Int
def qM (x:Nd)(name:ByteArray):Bool:=if x.text then decide (name=⟨#[]⟩) else decide (name=⟨#[42]⟩)||decide (name=x.s)
def jN (ns:List Nd)(name:ByteArray)(u:Int):Bool:=match ns[u.toNat]? with|some x=>qM x name|none=>false
def z1 (ns:List Nd)(u:Int):List Int:=match ns[u.toNat]? with|some x=>x.kids|none=>[]
def xI (ns:List Nd)(u:Int):Int:=match ns[u.toNat]? with|some x=>x.parent|none=>-1
def zE (ns:List Nd)(l:List Int)(name:ByteArray):List Int:=l.filter (jN ns name)
def qn (ns:List Nd)(l:List Int)(s:St):List Int:=if s.n=0 then zE ns l s.name else ((zE ns l s.name).drop (s.n.toNat-1)).take 1
def qW (ns:List Nd)(here:List Int)(s:St):List Int:=here.flatMap fun u=>qn ns (z1 ns u) s
def zk (ns:List Nd):List St→List Int→List Int
 | [],here=>here
 | s::l,here=>zk ns l (qW ns here s)
def qq (s:St):Bool:=decide (0≤s.n)&&decide (s.n≤99)&&(decide (s.name=⟨#[]⟩)||decide (s.name=⟨#[42]⟩)||qz s.name)
def qu (l:List St):Bool:=decide (1≤l.length)&&decide (l.length≤5)&&l.all qq
def qZ (ns:List Nd):List St→List Int
 | []=>[]
 | s::r=>zk ns r (qn ns [0] s)
def q6 (ns:List Nd)(l:List St):List Int:=if qg ns&&qu l then qZ ns l else []
def zc (ns:List Nd)(l:List St):Int:=if qg ns&&qu l then 0 else 1
theorem qN (ns:List Nd)(l:List Int)(s:St):(qn ns l s).Sublist l:=by
 unfold qn
 split
 · exact List.filter_sublist
 · exact ((List.take_sublist _ _).trans (List.drop_sublist _ _)).trans List.filter_sublist
def depF:Nat→List Nd→Int→Nat
 | 0,_,_=>0
 | f+1,ns,k=>if 0≤k∧k<ns.length then depF f ns (xI ns k)+1 else 0
theorem zF {ns:List Nd}{j:Nat}{x:Nd}(hx:ns[j]?=some x):xI ns (j:Int)=x.parent:=by
 unfold xI;rw[Int.toNat_natCast,hx]
theorem qC {ns:List Nd}{j:Nat}{x:Nd}(hx:ns[j]?=some x):z1 ns (j:Int)=x.kids:=by
 unfold z1;rw[Int.toNat_natCast,hx]
theorem q5 {ns:List Nd}{j:Nat}{x:Nd}(hx:ns[j]?=some x)(s:ByteArray):jN ns s (j:Int)=qM x s:=by
 unfold jN;rw[Int.toNat_natCast,hx]
theorem zW (f:Nat)(ns:List Nd){k:Int}(h:k<0):depF f ns k=0:=by
 cases f with
 | zero=>rfl
 | succ f=>rw[depF,if_neg (by omega)]
theorem y6 {ns:List Nd}(hg:qg ns=true):∀ (f f' j:Nat),j<f→j<f'→depF f ns (j:Int)=depF f' ns (j:Int):=by
 intro f
 induction f with
 | zero=>intro f' j h;omega
 | succ f ih =>
   intro f' j h1 h2;obtain ⟨e,rfl⟩:∃ e,f'=e+1:=⟨f'-1,by omega⟩
   rw[depF,depF]
   by_cases hj:j<ns.length
   · rw[if_pos (by omega), if_pos (by omega)]
     obtain ⟨x,hx⟩:∃ x,ns[j]?=some x:=⟨ns[j],by simp[hj]⟩
     rw[zF hx]
     rcases (qo hg hx).par with ⟨_,hp⟩|⟨q,y,_,hp,hq,_⟩
     · rw[hp,zW _ _ (by omega),zW _ _ (by omega)]
     · rw[hp,ih e q (by omega) (by omega)]
   · rw[if_neg (by omega),if_neg (by omega)]
def dp (ns:List Nd)(j:Nat):Nat:=depF (j+1) ns (j:Int)
theorem xQ {ns:List Nd}(hg:qg ns=true){f j:Nat}(h:j<f):depF f ns (j:Int)=dp ns j:=y6 hg f (j+1) j h (by omega)
theorem zO {ns:List Nd}(_hg:qg ns=true){x:Nd}(hx:ns[0]?=some x)(hp:x.parent=-1):dp ns 0=1:=by
 unfold dp;have:=qe hx;rw[depF,if_pos (by omega),zF hx,hp,zW _ _ (by omega)]
theorem zD {ns:List Nd}(hg:qg ns=true){j q:Nat}{x:Nd}(hx:ns[j]?=some x)(hp:x.parent=(q:Int))(hq:q<j):dp ns j=dp ns q+1:=by
 have:=qe hx
 conv=>lhs;unfold dp
 rw[depF,if_pos (by omega),zF hx,hp,xQ hg hq]
structure Lev (ns:List Nd) (d:Nat) (l:List Int):Prop where
 mem:∀ u∈l,∃ (k:Nat) (x:Nd),u=(k:Int)∧ns[k]?=some x∧dp ns k=d
 row:l.Pairwise (fun u v=>zq ns u≤v)
theorem Lev.sub {ns:List Nd}{d:Nat}{l m:List Int}(h:Lev ns d l)(hs:m.Sublist l):Lev ns d m :=
 ⟨fun u hu=>h.mem u (hs.subset hu),h.row.sublist hs⟩
theorem yv {α β:Type}{R:β→β→Prop}{f:α→List β}:∀ (l:List α),(∀ a∈l,(f a).Pairwise R)→l.Pairwise (fun a b=>∀ u∈f a,∀ v∈f b,R u v)→(l.flatMap f).Pairwise R:=by
 intro l
 induction l with
 | nil=>intro _ _;exact List.Pairwise.nil
 | cons a l ih =>
   intro h1 h2;rw[List.flatMap_cons,List.pairwise_append];rw[List.pairwise_cons]at h2
   refine ⟨h1 a List.mem_cons_self,ih (fun b hb=>h1 b (List.mem_cons_of_mem _ hb)) h2.2,fun u hu v hv=>?_⟩
   obtain ⟨b,hb,hvb⟩:=List.mem_flatMap.1 hv;exact h2.1 b hb u hu v hvb
theorem y9 {ns:List Nd}(hg:qg ns=true){d:Nat}{here:List Int}(h:Lev ns d here)(s:St):Lev ns (d+1) (qW ns here s):=by
 refine ⟨fun u hu=>?_,?_⟩
 · obtain ⟨v, hv, hu2⟩ := List.mem_flatMap.1 hu;obtain ⟨k,x,rfl,hx,hd⟩:=h.mem v hv;have hm:=(qN _ _ _).subset hu2;rw[qC hx]at hm
   obtain ⟨j,y,rfl,h1,_,_,hy,hp⟩:=(qo hg hx).kids u hm;exact ⟨j,y,rfl,hy,by rw[zD hg hy hp h1,hd]⟩
 · refine yv here (fun v hv => ?_) ?_
   · obtain ⟨k, x, rfl, hx, _⟩ := h.mem v hv;have hs:=qN ns (z1 ns (k:Int)) s;rw[qC hx]at hs ⊢
     exact (qo hg hx).row.sublist hs
   · refine List.Pairwise.imp_of_mem ?_ h.row;intro a b ha hb hab u hu v hv;obtain ⟨ka,xa,rfl,hxa,_⟩:=h.mem a ha;obtain ⟨kb,xb,rfl,hxb,_⟩:=h.mem b hb;have hu2:=(qN _ _ _).subset hu;have hv2:=(qN _ _ _).subset hv;rw[qC hxa]at hu2
     rw[qC hxb]at hv2
     obtain ⟨ju,_,rfl,_,_,he,_⟩:=(qo hg hxa).kids u hu2;obtain ⟨jv,_,rfl,hj,_⟩:=(qo hg hxb).kids v hv2;omega
theorem jQ {ns:List Nd}(hg:qg ns=true):∀ (l:List St)(d:Nat)(here:List Int),Lev ns d here→Lev ns (d+l.length) (zk ns l here):=by
 intro l
 induction l with
 | nil=>intro d here h;exact h
 | cons s l ih =>
   intro d here h;have:=ih (d+1) _ (y9 hg h s);rw[zk,List.length_cons,show d+(l.length+1)=d+1+l.length by omega]
   exact this
theorem za {ns:List Nd}(hg:qg ns=true):∃ x,ns[0]?=some x∧x.parent=-1∧x.text=false:=by
 obtain ⟨d,t,hd,hs,hn,_,ht,_,_⟩:=yE hg;have:=hs 0 _ (by rw[zi hd (-1) 0];rfl)
 exact ⟨_,this,rfl,ht⟩
theorem jb {ns:List Nd}(hg:qg ns=true)(s:St):Lev ns 1 (qn ns [0] s):=by
 obtain ⟨x,hx,hp,_⟩:=za hg;refine Lev.sub ⟨fun u hu=>?_,List.Pairwise.cons (by simp) List.Pairwise.nil⟩ (qN _ _ _)
 rw[List.mem_singleton]at hu
 exact ⟨0,x,hu,hx,zO hg hx hp⟩
theorem yj {ns:List Nd}(hg:qg ns=true){l:List St}(hl:l≠[]):Lev ns l.length (qZ ns l):=by
 cases l with
 | nil=>exact absurd rfl hl
 | cons s r =>
   have:=jQ hg r 1 _ (jb hg s);rw[List.length_cons,Nat.add_comm];exact this
theorem Lev.rises {ns:List Nd}(hg:qg ns=true){d:Nat}{l:List Int}(h:Lev ns d l):l.Pairwise (fun u v=>u<v):=by
 refine List.Pairwise.imp_of_mem ?_ h.row;intro a b ha _ hab;obtain ⟨k,x,rfl,hx,_⟩:=h.mem a ha;have:=(qo hg hx).gt;omega
theorem yb {ns:List Nd}{a b:List Int}(h:a⊆b)(s:St):qW ns a s⊆qW ns b s:=by
 intro u hu;obtain ⟨v,hv,hm⟩:=List.mem_flatMap.1 hu;exact List.mem_flatMap.2 ⟨v,h hv,hm⟩
theorem yI {ns:List Nd}:∀ (l:List St){a b:List Int},a⊆b→zk ns l a⊆zk ns l b:=by
 intro l
 induction l with
 | nil=>intro a b h;exact h
 | cons s l ih=>intro a b h;exact ih (yb h s)
theorem z7 {ns:List Nd}{l:List Int}{s t:St}(hn:s.name=t.name)(ht:t.n=0):qn ns l s⊆qn ns l t:=by
 intro u hu;unfold qn at hu ⊢
 rw[if_pos ht,←hn]
 split at hu
 · exact hu
 · exact List.mem_of_mem_drop (List.mem_of_mem_take hu)
theorem j4 {ns:List Nd}{a b:List Int}{s t:St}(h:a⊆b)(hn:s.name=t.name)(ht:t.n=0):qW ns a s⊆qW ns b t:=by
 intro u hu;obtain ⟨v,hv,hm⟩:=List.mem_flatMap.1 hu;exact List.mem_flatMap.2 ⟨v,h hv,z7 hn ht hm⟩
theorem xg {ns:List Nd}:∀ (l:List St)(k:Nat)(s t x:St)(a b:List Int),l[k]?=some x→s.name=t.name→t.n=0→a⊆b→zk ns (l.set k s) a⊆zk ns (l.set k t) b:=by
 intro l
 induction l with
 | nil=>intro k s t x a b h;simp at h
 | cons y l ih =>
   intro k s t x a b h hn ht hab;cases k with
   | zero=>exact yI l (j4 hab hn ht)
   | succ k=>exact ih k s t x _ _ (by simpa using h) hn ht (yb hab y)
theorem xh {ns:List Nd}(l:List St)(k:Nat)(s t x:St)(h:l[k]?=some x)(hn:s.name=t.name)(ht:t.n=0):qZ ns (l.set k s)⊆qZ ns (l.set k t):=by
 cases l with
 | nil=>simp at h
 | cons y l =>
   cases k with
   | zero=>exact yI l (z7 hn ht)
   | succ k=>exact xg l k s t x _ _ (by simpa using h) hn ht (fun _ h=>h)
def starS:St:=⟨⟨#[42]⟩,0⟩
def textS:St:=⟨⟨#[]⟩,0⟩
theorem xY {s:ByteArray}(h:qz s=true):s≠⟨#[42]⟩∧s≠⟨#[]⟩:=by
 constructor
 · rintro rfl;exact absurd h (by decide)
 · rintro rfl;exact absurd h (by decide)
theorem yB (x:Nd):qM x ⟨#[42]⟩=!x.text:=by
 unfold qM;cases x.text<;>simp
theorem yC {x:Nd}(h:x.text=false→qz x.s=true):qM x ⟨#[]⟩=x.text:=by
 unfold qM;cases ht:x.text with
 | true=>simp
 | false =>
   have:=(xY (h ht)).2;have h2:¬ (⟨#[]⟩:ByteArray)=x.s:=fun e=>this e.symm
   have h3:¬ (⟨#[]⟩:ByteArray)=⟨#[42]⟩:=by decide
   simp[h2,h3]
theorem zr {ns:List Nd}{l:List Int}{s:St}(h:s.n=0)(u:Int):u∈qn ns l s↔u∈l∧jN ns s.name u=true:=by
 unfold qn zE;rw[if_pos h,List.mem_filter]
theorem jd {ns:List Nd}(hg:qg ns=true){d:Nat}{here:List Int}(hh:∀ u:Int,u∈here↔∃ (k:Nat)(x:Nd),u=(k:Int)∧ns[k]?=some x∧dp ns k=d∧x.text=false)(hd:1≤d)
 {s:St} (hs:s.n=0) {p:Nd→Bool} (hp:∀ (k:Nat) (x:Nd),ns[k]?=some x→qM x s.name=p x) :
 ∀ u:Int,u∈qW ns here s↔∃ (k:Nat) (x:Nd),u=(k:Int)∧ns[k]?=some x∧dp ns k=d+1∧p x=true:=by
 intro u
 constructor
 · intro hu;obtain ⟨v,hv,hm⟩:=List.mem_flatMap.1 hu;obtain ⟨j,y,rfl,hy,hdj,_⟩:=(hh v).1 hv;rw[qC hy,zr hs]at hm
   obtain ⟨k,x,rfl,h1,_,_,hx,hpar⟩:=(qo hg hy).kids u hm.1;refine ⟨k,x,rfl,hx,by rw[zD hg hx hpar h1,hdj],?_⟩
   rw[q5 hx]at hm
   rw[←hp k x hx];exact hm.2
 · rintro ⟨k, x, rfl, hx, hdk, hpx⟩
   rcases (qo hg hx).par with ⟨rfl,hpar⟩|⟨q,y,hy,hpar,hq,hm⟩
   · rw[zO hg hx hpar]at hdk;omega
   · rw[zD hg hx hpar hq]at hdk
     have hty:y.text=false:=by
      cases ht:y.text with
      | false=>rfl
      | true=>rw[(qo hg hy).text ht]at hm;simp at hm
     refine List.mem_flatMap.2 ⟨(q:Int),(hh _).2 ⟨q,y,rfl,hy,by omega,hty⟩,?_⟩
     rw[qC hy,zr hs,q5 hx];exact ⟨hm,by rw[hp k x hx];exact hpx⟩
theorem je {ns:List Nd}(hg:qg ns=true){s:St}(hs:s.n=0){p:Nd→Bool}(hp:∀ (k:Nat)(x:Nd),ns[k]?=some x→qM x s.name=p x) :
 ∀ u:Int,u∈qn ns [0] s↔∃ (k:Nat) (x:Nd),u=(k:Int)∧ns[k]?=some x∧dp ns k=1∧p x=true:=by
 intro u;obtain ⟨x0,hx0,hp0,_⟩:=za hg;rw[zr hs,List.mem_singleton]
 constructor
 · rintro ⟨rfl, hf⟩;refine ⟨0,x0,rfl,hx0,zO hg hx0 hp0,?_⟩;have:=q5 hx0 s.name;rw[show ((0:Nat):Int)=0 from rfl]at this
   rw[this,hp 0 x0 hx0]at hf
   exact hf
 · rintro ⟨k, x, rfl, hx, hdk, hpx⟩
   rcases (qo hg hx).par with ⟨rfl,_⟩|⟨q,y,hy,hpar,hq,hm⟩
   · refine ⟨rfl, ?_⟩;rw[q5 hx,hp 0 x hx];exact hpx
   · rw[zD hg hx hpar hq]at hdk
     have:1≤dp ns q:=by
      unfold dp;have:=qe hy;rw[depF,if_pos (by omega)];omega
     omega
theorem zI (ns:List Nd):∀ (l:List St)(s:St)(here:List Int),zk ns (l++[s]) here=qW ns (zk ns l here) s:=by
 intro l
 induction l with
 | nil=>intro s here;rfl
 | cons t l ih=>intro s here;exact ih s _
theorem yF {ns:List Nd}(hg:qg ns=true):∀ (m:Nat)(u:Int),u∈qZ ns (List.replicate (m+1) starS)↔∃ (k:Nat)(x:Nd),u=(k:Int)∧ns[k]?=some x∧dp ns k=m+1∧x.text=false:=by
 intro m
 induction m with
 | zero =>
   intro u;have:=je hg (s:=starS) rfl (p:=fun x=>!x.text) (fun k x _=>yB x) u
   simp only[Bool.not_eq_true']at this
   exact this
 | succ m ih =>
   intro u;have:=jd hg (here:=qZ ns (List.replicate (m+1) starS)) ih (by omega) (s:=starS) rfl (p:=fun x=>!x.text) (fun k x _=>yB x) u
   rw[show List.replicate (m+1+1) starS=List.replicate (m+1) starS++[starS] from List.replicate_succ']
   rw[show List.replicate (m+1) starS++[starS]=starS::(List.replicate m starS++[starS]) from rfl,qZ,zI]
   simp only[Bool.not_eq_true']at this
   exact this
theorem j3 {ns:List Nd}(hg:qg ns=true)(m:Nat)(u:Int):u∈qZ ns (List.replicate m starS++[textS])↔∃ (k:Nat)(x:Nd),u=(k:Int)∧ns[k]?=some x∧dp ns k=m+1∧x.text=true:=by
 cases m with
 | zero=>exact je hg (s:=textS) rfl (p:=fun x=>x.text) (fun k x hx=>yC (qo hg hx).name) u
 | succ m =>
   have:=jd hg (here:=qZ ns (List.replicate (m+1) starS)) (yF hg m) (by omega) (s:=textS) rfl (p:=fun x=>x.text) (fun k x hx=>yC (qo hg hx).name) u
   rw[show List.replicate (m+1) starS++[textS]=starS::(List.replicate m starS++[textS]) from rfl,qZ,zI]
   exact this
theorem sorted_ext:∀ {a b:List Int},a.Pairwise (fun u v=>u<v)→b.Pairwise (fun u v=>u<v)→(∀ u,u∈a↔u∈b)→a=b:=by
 intro a
 induction a with
 | nil =>
   intro b _ _ h;cases b with
   | nil=>rfl
   | cons y b=>exact absurd ((h y).2 List.mem_cons_self) (by simp)
 | cons x a ih =>
   intro b ha hb h;cases b with
   | nil=>exact absurd ((h x).1 List.mem_cons_self) (by simp)
   | cons y b =>
     rw[List.pairwise_cons]at ha hb
     have hxy:x=y:=by
      have h1:=(h x).1 List.mem_cons_self;have h2:=(h y).2 List.mem_cons_self;rw[List.mem_cons]at h1 h2
      rcases h1 with h1|h1
      · exact h1
      · rcases h2 with h2 | h2
        · exact h2.symm
        · have := hb.1 x h1;have:=ha.1 y h2;omega
     subst hxy;rw[ih ha.2 hb.2 (fun u=>?_)]
     constructor
     · intro hu;have h1:=(h u).1 (List.mem_cons_of_mem _ hu);rw[List.mem_cons]at h1
       rcases h1 with rfl|h1
       · exact absurd (ha.1 u hu) (by omega)
       · exact h1
     · intro hu;have h1:=(h u).2 (List.mem_cons_of_mem _ hu);rw[List.mem_cons]at h1
       rcases h1 with rfl|h1
       · exact absurd (hb.1 u hu) (by omega)
       · exact h1
def qk (ns:List Nd)(d:Nat)(tx:Bool):Nat→List Int
 | 0=>[]
 | k+1=>qk ns d tx k++(if dp ns k=d∧((ns[k]?).map (·.text))=some tx then [(k:Int)] else [])
theorem zB (ns:List Nd)(d:Nat)(tx:Bool):∀ (m:Nat)(u:Int),u∈qk ns d tx m↔∃ (k:Nat)(x:Nd),u=(k:Int)∧k<m∧ns[k]?=some x∧dp ns k=d∧x.text=tx:=by
 intro m
 induction m with
 | zero=>intro u;simp[qk]
 | succ m ih =>
   intro u;rw[qk,List.mem_append,ih]
   constructor
   · rintro (⟨k, x, h1, h2, h3⟩ | h)
     · exact ⟨k,x,h1,by omega,h3⟩
     · split at h
       · rename_i hc
         rw[List.mem_singleton]at h
         obtain ⟨x,hx,ht⟩:=Option.map_eq_some_iff.1 hc.2;exact ⟨m,x,h,by omega,hx,hc.1,ht⟩
       · simp at h
   · rintro ⟨k, x, h1, h2, h3, h4, h5⟩
     by_cases hk:k=m
     · subst hk
       right
       rw[if_pos ⟨h4,by rw[h3];simp[h5]⟩,h1]
       exact List.mem_singleton.2 rfl
     · exact Or.inl ⟨k,x,h1,by omega,h3,h4,h5⟩
theorem zx (ns:List Nd)(d:Nat)(tx:Bool):∀ (m:Nat),(qk ns d tx m).Pairwise (fun u v=>u<v):=by
 intro m
 induction m with
 | zero=>exact List.Pairwise.nil
 | succ m ih =>
   rw[qk,List.pairwise_append];refine ⟨ih,?_,?_⟩
   · split
     · exact List.Pairwise.cons (by simp) List.Pairwise.nil
     · exact List.Pairwise.nil
   · intro u hu v hv;obtain ⟨k,x,rfl,hk,_⟩:=(zB ns d tx m u).1 hu
     split at hv
     · rw[List.mem_singleton]at hv;omega
     · simp at hv
theorem xi {ns:List Nd}(hg:qg ns=true)(m:Nat):qZ ns (List.replicate (m+1) starS)=qk ns (m+1) false ns.length:=by
 refine sorted_ext ((yj hg (by simp)).rises hg) (zx _ _ _ _) (fun u=>?_)
 rw[yF hg,zB]
 constructor
 · rintro ⟨k,x,h1,h2,h3⟩;exact ⟨k,x,h1,qe h2,h2,h3⟩
 · rintro ⟨k,x,h1,_,h2,h3⟩;exact ⟨k,x,h1,h2,h3⟩
theorem xj {ns:List Nd}(hg:qg ns=true)(m:Nat):qZ ns (List.replicate m starS++[textS])=qk ns (m+1) true ns.length:=by
 refine sorted_ext ((yj hg (by simp)).rises hg) (zx _ _ _ _) (fun u=>?_)
 rw[j3 hg,zB]
 constructor
 · rintro ⟨k,x,h1,h2,h3⟩;exact ⟨k,x,h1,qe h2,h2,h3⟩
 · rintro ⟨k,x,h1,_,h2,h3⟩;exact ⟨k,x,h1,h2,h3⟩
end Go.Proofs.YtfdbipeidmpciabDoor
namespace Go.Proofs.YtfdbipeidmpciabDoor
open Go.ChangeShapes Go.WideShapes Go.ChangeAt Go.RowKit
set_option maxRecDepth 100000
section
attribute [local go_sem] qc
def qj (S:Nat→Prop)(w:World)(v:Value)(l:List St):Prop :=
  ∃ a cap, v = .slice a l.length cap ∧ l.length ≤ cap ∧ cap ≤ maxLen ∧
    (l≠[]→∃ b o,a=some ⟨b,o,none⟩∧S b∧∀ (i:Nat) (x:St),l[i]?=some x→w.cell? ⟨b,o+i*2,none⟩=some (.string x.name)∧w.cell? ⟨b,o+i*2+1,none⟩=some (.int .i64 x.n))
theorem qj.carry {S S':Nat→Prop}{w w':World}{v:Value}{l:List St}(h:qj S w v l)(hw:∀ b,S b→S' b∧w'.heap[b]?=w.heap[b]?):qj S' w' v l:=by
 obtain ⟨a,cap,h1,h2,h3,h4⟩:=h;refine ⟨a,cap,h1,h2,h3,fun hne=>?_⟩
 obtain ⟨b,o,ha,hs,hc⟩:=h4 hne;refine ⟨b,o,ha,(hw b hs).1,fun i x hx=>?_⟩
 rw[World.cell?_of_block (a:=⟨b,o+i*2,none⟩) (hw b hs).2,World.cell?_of_block (a:=⟨b,o+i*2+1,none⟩) (hw b hs).2];exact hc i x hx
theorem qj.bounded {S:Nat→Prop}{w:World}{v:Value}{l:List St}(h:qj S w v l):qj (fun b=>S b∧b<w.heap.size) w v l:=by
 obtain ⟨a,cap,h1,h2,h3,h4⟩:=h;refine ⟨a,cap,h1,h2,h3,fun hne=>?_⟩
 obtain ⟨b,o,ha,hs,hc⟩:=h4 hne;refine ⟨b,o,ha,⟨hs,?_⟩,hc⟩;cases l with
 | nil=>exact absurd rfl hne
 | cons x r=>exact World.block_lt_of_cell? w _ (hc 0 x rfl).1
theorem qj.later {S:Nat→Prop}{w w':World}{v:Value}{l:List St}(h:qj S w v l)(hb:Below w.heap.size w w'):qj S w' v l :=
 h.bounded.carry fun b hb'=>⟨hb'.1,hb.block b hb'.2⟩
theorem qj.shape {S:Nat→Prop}{w:World}{v:Value}{l:List St}(h:qj S w v l):∃ a c,v=.slice a l.length c∧l.length≤c∧c≤maxLen:=by
 obtain ⟨a,cap,h1,h2,h3,_⟩:=h;exact ⟨a,cap,h1,h2,h3⟩
theorem qj.at {S:Nat→Prop}{w:World}{v:Value}{l:List St}(h:qj S w v l){i:Nat}{x:St}(hx:l[i]?=some x):∃ b o cap,v=.slice (some ⟨b,o,none⟩) l.length cap∧S b∧b<w.heap.size∧w.cell? ⟨b,o+i*2,none⟩=some (.string x.name)∧w.cell? ⟨b,o+i*2+1,none⟩=some (.int .i64 x.n):=by
 obtain ⟨a,cap,h1,h2,h3,h4⟩:=h;have hne:l≠[]:=by intro e;subst e;simp at hx
 obtain ⟨b,o,rfl,hs,hc⟩:=h4 hne;exact ⟨b,o,cap,h1,hs,World.block_lt_of_cell? w _ (hc i x hx).1,hc i x hx⟩
theorem qw (a:ByteArray)(l:List UInt8):a.toList=l↔a=⟨l.toArray⟩:=by
 rw[ByteArray.toList_eq]
 constructor
 · intro h;cases a;simp at h;simp[←h]
 · intro h;subst h;simp
theorem jZ (a:ByteArray):a.toList.isEmpty=decide (a=⟨#[]⟩):=by
 by_cases h:a=⟨#[]⟩
 · have:=(qw a []).2 h;rw[this];simp[h]
 · have : ¬ a.toList = [] := fun e => h ((qw a []).1 e)
   simp[h,this]
theorem xL (a:ByteArray):(a.toList==[42])=decide (a=⟨#[42]⟩):=by
 by_cases h:a=⟨#[42]⟩
 · have:=(qw a [42]).2 h;rw[this];simp[h]
 · have : ¬ a.toList = [42] := fun e => h ((qw a [42]).1 e)
   simp[h,this]
theorem xC (x:Nd)(aa:Option Addr)(al ac:Nat)(ka:Option Addr)(kl kc:Nat)(name:ByteArray)(w:World) :
 Calls Tryd.prog 17 #[.agg #[.bool x.text,.string x.s,.slice aa al ac,.int .i64 x.parent,.slice ka kl kc],.string name] w fun e w'=>e=.returned (.bool (qM x name))∧Below w.heap.size w w':=by
 have hb:=Below.alloc1 w (.cells #[.bool x.text,.string x.s,.slice aa al ac,.int .i64 x.parent,.slice ka kl kc] 33);have HF:Hid (qM x name=if x.text then decide (name=⟨#[]⟩) else decide (name=⟨#[42]⟩)||decide (name=x.s)):=rfl
 cases ht:x.text with
 | true =>
   rw[ht]at hb HF
   have HF2:Hid (qM x name=decide (name=⟨#[]⟩)):=HF.out;clear HF ht
   go_enter Tryd.func17,Tryd.ntmps17
   go_wp2_with fail;go_ret;refine ⟨?_,hb⟩;rw[HF2.out,jZ];rfl
 | false =>
   rw[ht]at hb HF
   have HF2:Hid (qM x name=(decide (name=⟨#[42]⟩)||decide (name=x.s))):=HF.out
   clear HF ht
   go_enter Tryd.func17,Tryd.ntmps17
   go_wp2_with fail
   · rename_i h1
     go_ret;refine ⟨?_,hb⟩;rw[HF2.out];have:=(qw name [42]).1 h1;simp[this]
   · go_ret;refine ⟨?_,hb⟩;rw[HF2.out]
     show Ending.returned (Value.bool (name.toList==[42]||name.toList==x.s.toList))=_
     rw[xL,←jW]
set_option maxHeartbeats 1000000 in
theorem yM (s:St)(w:World)(hs:s.name.size≤maxLen) :
 Calls Tryd.prog 16 #[.agg #[.string s.name,.int .i64 s.n]] w fun e w'=>e=.returned (.bool (qq s))∧Below w.heap.size w w':=by
 have hb:=Below.alloc1 w (.cells #[.string s.name,.int .i64 s.n] 37);have HF:Hid (qq s=(decide (0≤s.n)&&decide (s.n≤99)&&(decide (s.name=⟨#[]⟩)||decide (s.name=⟨#[42]⟩)||qz s.name))):=rfl
 have HN:Hid (∀ W,Calls Tryd.prog 24 #[.string s.name] W fun e w'=>e=.returned (.bool (qz s.name))∧w'=W):=fun W=>qD s.name W hs
 clear hs
 by_cases h0:s.n<0
 · have HE : Hid (qq s = false) := by show _ = _;rw[HF.out];simp[show ¬ 0 ≤ s.n by omega]
   clear HF
   go_enter Tryd.func16,Tryd.ntmps16
   go_wp2_with fail;go_ret;exact ⟨by rw[HE.out];rfl,hb⟩
 · by_cases h99 : 99 < s.n
   · have HE : Hid (qq s = false) := by show _ = _;rw[HF.out];simp[show ¬ s.n ≤ 99 by omega]
     clear HF
     go_enter Tryd.func16,Tryd.ntmps16
     go_wp2_with fail;go_ret;exact ⟨by rw[HE.out];rfl,hb⟩
   · have HE : Hid (qq s = (decide (s.name = ⟨#[]⟩) || decide (s.name = ⟨#[42]⟩) || qz s.name)) := by show _ = _;rw[HF.out];simp[show 0 ≤ s.n by omega, show s.n ≤ 99 by omega]
     clear HF
     by_cases he:s.name=⟨#[]⟩
     · have hl : s.name.toList = [] := (qw _ _).2 he;have HE2:Hid (qq s=true):=by show _=_;rw[HE.out];simp[he]
       clear HE he
       go_enter Tryd.func16,Tryd.ntmps16
       go_wp2_with fail;go_ret;exact ⟨by rw[HE2.out];rfl,hb⟩
     · have hl : s.name.toList ≠ [] := fun e => he ((qw _ _).1 e)
       by_cases hst:s.name=⟨#[42]⟩
       · have hl2 : s.name.toList = [42] := (qw _ _).2 hst;have HE2:Hid (qq s=true):=by show _=_;rw[HE.out];simp[hst]
         clear HE he hst hl
         go_enter Tryd.func16,Tryd.ntmps16
         go_wp2_with fail;go_ret;exact ⟨by rw[HE2.out];rfl,hb⟩
       · have hl2 : s.name.toList ≠ [42] := fun e => hst ((qw _ _).1 e)
         have HE2:Hid (qq s=qz s.name):=by show _=_;rw[HE.out];simp[hst,he]
         clear HE he hst
         go_enter Tryd.func16,Tryd.ntmps16
         go_wp2_with (go_at_call 24;refine (Calls.mono (HN.out _) ?_);rintro e w2 ⟨rfl,rfl⟩);go_ret;refine ⟨?_,hb⟩;rw[HE2.out]
         show Ending.returned (Value.bool (s.name.toList.isEmpty||s.name.toList==[42]||qz s.name))=_
         simp[hl,hl2]
def qB (l:List St):Prop:=∀ s∈l,s.name.size≤maxLen
set_option maxHeartbeats 1000000 in
theorem yD (S:Nat→Prop)(v:Value)(l:List St)(w:World)(h:qj S w v l)(hn:qB l) :
 Calls Tryd.prog 10 #[v] w fun e w'=>e=.returned (.bool (qu l))∧Below w.heap.size w w':=by
 have HP:Hid (qu l=(decide (1≤l.length)&&decide (l.length≤5)&&l.all qq)):=rfl;have HL:Hid (qj S w v l):=h;have HN:Hid (qB l):=hn;obtain ⟨a,cap,rfl,hlc,hcm⟩:=h.shape;unfold maxLen at hcm
 clear h hn
 by_cases h1:l.length<1
 · have HE : Hid (qu l = false) := by show _ = _;rw[HP.out];simp[show ¬ 1 ≤ l.length by omega]
   have h1i:(l.length:Int)<1:=by omega
   clear HP
   go_enter Tryd.func10,Tryd.ntmps10
   go_wp2_with fail;go_ret;exact ⟨by rw[HE.out];rfl,Below.refl _ _⟩
 · have h1i : ¬ (l.length : Int) < 1 := by omega
   by_cases h5:5<l.length
   · have HE : Hid (qu l = false) := by show _ = _;rw[HP.out];simp[show ¬ l.length ≤ 5 by omega]
     have h5i:5<(l.length:Int):=by omega
     clear HP
     go_enter Tryd.func10,Tryd.ntmps10
     go_wp2_with fail;go_ret;exact ⟨by rw[HE.out];rfl,Below.refl _ _⟩
   · have h5i : ¬ 5 < (l.length : Int) := by omega
     have HE:Hid (qu l=l.all qq):=by show _=_;rw[HP.out];simp[show 1≤l.length by omega,show l.length≤5 by omega]
     clear HP
     go_enter Tryd.func10,Tryd.ntmps10
     go_wp2_with fail
     go_loopg [15] l.length (fun g j wr=>∃ (i:Nat),i+g=l.length∧j=.int .i64 (i:Int)∧Below w.heap.size w wr∧l.all qq=(l.drop i).all qq)
     case atStart => exact ⟨0,by omega,rfl,Below.refl _ _,rfl⟩
     case round =>
      obtain ⟨i,hi,rfl,hB,hA⟩:=hrel;have HA:Hid (l.all qq=(l.drop i).all qq):=hA;clear hA;have hsz:=hB.size
      by_cases hil:i<l.length
      · obtain ⟨s, hs⟩ : ∃ s, l[i]? = some s := ⟨l[i], by simp[hil]⟩
        obtain ⟨b,o,c2,hv,_,_,e0,e1⟩:=(HL.out.later hB).at hs
        injection hv with hv1 _ hv2
        subst hv1 hv2
        have hdr:l.drop i=s::l.drop (i+1):=by
         rw[List.drop_eq_getElem_cons hil];congr 1;simpa[hil] using hs
        have HD:Hid ((l.drop i).all qq=(qq s&&(l.drop (i+1)).all qq)):=by show _=_;rw[hdr];rfl
        have HG:Hid (∀ W,Calls Tryd.prog 16 #[.agg #[.string s.name,.int .i64 s.n]] W fun e w'=>e=.returned (.bool (qq s))∧Below W.heap.size W w'):=fun W=>yM s W (HN.out s (List.mem_of_getElem? hs))
        have hili:(i:Int)<(l.length:Int):=by omega
        have hb1:=hB.alloc hsz (.cells #[.string s.name,.int .i64 s.n] 37);clear hs hdr;cases hq:qq s with
        | true =>
          rw[hq]at HG HD
          clear hq;go_wp2_with fail;refine (Calls.mono (HG.out _) ?_);rintro e w3 ⟨rfl,hb3⟩;go_wp2_with fail
          go_roundg (l.length-(i+1))
          case measure => omega
          case rel => exact ⟨i+1,by omega,by go_num,hb1.trans (hb3.mono hb1.size),by rw[HA.out,HD.out];rfl⟩
        | false =>
          rw[hq]at HG HD
          clear hq;go_wp2_with fail;refine (Calls.mono (HG.out _) ?_);rintro e w3 ⟨rfl,hb3⟩;go_wp2_with fail;go_ret;exact ⟨by rw[HE.out,HA.out,HD.out];rfl,hb1.trans (hb3.mono hb1.size)⟩
      · have hili : ¬ (i : Int) < (l.length : Int) := by omega
        have HD:Hid ((l.drop i).all qq=true):=by show _=_;rw[List.drop_of_length_le (by omega)];rfl
        go_wp2_with fail;go_ret;exact ⟨by rw[HE.out,HA.out,HD.out];rfl,hB⟩
end
section
attribute [local go_sem] qc
theorem j0 {ns:List Nd}{l:List Int}{k m:Nat}{x:Nd}(hk:l[k]?=some (m:Int))(hx:ns[m]?=some x)(name:ByteArray) :
 zE ns (l.take (k+1)) name=zE ns (l.take k) name++(if qM x name then [(m:Int)] else []):=by
 have hl:=qe hk;have e:l[k]=(m:Int):=by simpa[hl] using hk
 unfold zE;rw[List.take_succ_eq_append_getElem hl,List.filter_append,e,List.filter_cons,q5 hx];rfl
theorem y7 (ns:List Nd)(l:List Int)(name:ByteArray):(zE ns l name).length≤l.length:=List.length_filter_le _ _
set_option maxHeartbeats 1000000 in
theorem z8 (S:Nat→Prop)(vn vs:Value)(ns:List Nd)(l:List Int)(s:St)(w:World)(hN:qr S w vn ns)(hI:qm S w vs l)(hin:∀ u∈l,0≤u∧u<ns.length)(hs0:0≤s.n)(hl:l.length≤1048576) :
 Calls Tryd.prog 11 #[vn,vs,.agg #[.string s.name,.int .i64 s.n]] w fun e w'=>∃ v,e=.returned v∧qm (fun b=>w.heap.size≤b) w' v (qn ns l s)∧Below w.heap.size w w':=by
 have hb1:=Below.alloc1 w (.cells #[.string s.name,.int .i64 s.n] 37);have hx1:=heap_alloc_new w (.cells #[.string s.name,.int .i64 s.n] 37);have hz1:(w.alloc (.cells #[.string s.name,.int .i64 s.n] 37)).heap.size=w.heap.size+1:=by simp
 obtain ⟨na,nc,rfl,hnl,hnm⟩:=hN.shape;obtain ⟨sa,sc,rfl,hsl,hsm⟩:=hI.shape;unfold maxLen at hnm hsm
 obtain ⟨i0,hi,hz0,hzz1,hz2⟩:=info_parts intInfoR;have HN:Hid (qr S w (.slice na ns.length nc) ns):=hN;have HI:Hid (qm S w (.slice sa l.length sc) l):=hI;have HIN:Hid (∀ u∈l,0≤u∧u<ns.length):=hin;have HM:Hid (qn ns l s=if s.n=0 then zE ns l s.name else ((zE ns l s.name).drop (s.n.toNat-1)).take 1):=rfl
 have HLN:Hid (ns.length=ns.length):=rfl;clear hN hI hin
 go_enter Tryd.func11,Tryd.ntmps11
 go_wp2_with fail
 generalize w.alloc (.cells #[.string s.name,.int .i64 s.n] 37)=W1 at *
 have HZ1:Hid (W1.heap.size=w.heap.size+1):=hz1;have hle1:w.heap.size≤W1.heap.size:=by omega
 clear hz1
 go_loopg [12,7] l.length (fun g i o wr=>∃ (k:Nat),k+g=l.length∧i=.int .i64 (k:Int)∧qK W1.heap.size wr o (zE ns (l.take k) s.name)∧Below W1.heap.size W1 wr)
 case atStart => exact ⟨0,by omega,rfl,qK.nil _ _,Below.refl _ _⟩
 case round =>
  obtain ⟨k,hk,rfl,hR,hB⟩:=hrel;have hsz:=hB.size;have hBw:Below w.heap.size w wr:=hb1.trans (hB.mono hle1);have hxr:=(hB.block _ (qh hx1)).trans hx1
  by_cases hil:k<l.length
  · obtain ⟨u, hu⟩ : ∃ u, l[k]? = some u := ⟨l[k], by simp[hil]⟩
    have hur:=HIN.out u (List.mem_of_getElem? hu);obtain ⟨m,rfl⟩:∃ m:Nat,u=(m:Int):=⟨u.toNat,by omega⟩
    obtain ⟨x,hx⟩:∃ x,ns[m]?=some x:=⟨ns[m]'(by omega),by simp⟩
    obtain ⟨ib,io,ic,hiv,_,hib,e1⟩:=(HI.out.later hBw).at hu
    injection hiv with hia _ hic
    subst hia hic;obtain ⟨b,o,cap,va,vk,hv,_,_,hSb,hbw,c0,c1,c2,c3,c4,hAt,hKi⟩:=(HN.out.later hBw).at hx
    injection hv with hv1 _ hv2
    subst hv1 hv2;obtain ⟨aa,ac,rfl⟩:=hAt.shape;obtain ⟨ka,kc,rfl,_,_⟩:=hKi.shape;have HSN:Hid _:=j0 hu hx s.name;have HF:Hid (∀ W,Calls Tryd.prog 17 #[.agg #[.bool x.text,.string x.s,.slice aa x.attrs.length ac,.int .i64 x.parent,.slice ka x.kids.length kc],.string s.name] W fun e w'=>e=.returned (.bool (qM x s.name))∧Below W.heap.size W w'):=fun W=>xC x _ _ _ _ _ _ s.name W
    have hili:(k:Int)<(l.length:Int):=by omega
    have hmi:(m:Int)<(ns.length:Int):=by omega
    have d0:wr.cell? ⟨w.heap.size,0,none⟩=some (.string s.name):=by rw[cH9 hxr];rfl
    have hlen:=y7 ns (l.take k) s.name;rw[List.length_take]at hlen
    have hlen2:(zE ns (l.take k) s.name).length≤1048576:=by omega
    obtain ⟨us,hus⟩:∃ us,zE ns (l.take k) s.name=us:=⟨_,rfl⟩;rw[hus]at hR HSN hlen2
    obtain ⟨ra,rc,rfl,_,_⟩:=hR.shape;have HR:Hid (qK W1.heap.size wr (.slice ra us.length rc) us):=hR
    have HC:Hid (∀ W,Below wr.heap.size wr W→Below wr.heap.size wr W∧W.cell? ⟨b,o+m*5,none⟩=some (.bool x.text)∧W.cell? ⟨b,o+m*5+1,none⟩=some (.string x.s)∧W.cell? ⟨b,o+m*5+2,none⟩=some (.slice aa x.attrs.length ac)∧W.cell? ⟨b,o+m*5+3,none⟩=some (.int .i64 x.parent)∧W.cell? ⟨b,o+m*5+4,none⟩=some (.slice ka x.kids.length kc)∧W.cell? ⟨w.heap.size,0,none⟩=some (.string s.name)):=by
     intro W h;refine ⟨h,?_,?_,?_,?_,?_,?_⟩
     · rw[h.cell (p:=⟨b,o+m*5,none⟩) hbw];exact c0
     · rw[h.cell (p:=⟨b,o+m*5+1,none⟩) hbw];exact c1
     · rw[h.cell (p:=⟨b,o+m*5+2,none⟩) hbw];exact c2
     · rw[h.cell (p:=⟨b,o+m*5+3,none⟩) hbw];exact c3
     · rw[h.cell (p:=⟨b,o+m*5+4,none⟩) hbw];exact c4
     · rw[h.cell (p:=⟨w.heap.size,0,none⟩) (qh hxr)];exact d0
    have hbn:Below wr.heap.size wr wr.drew:=(Below.refl _ _).drew;clear hu hx hAt hKi hus hR hlen hxr hur;cases hq:qM x s.name with
    | true =>
      rw[hq]at HF HSN
      clear hq;go_wp2_with fail
      go_region_held3 (fun W:World=>Below wr.heap.size wr W∧W.cell? ⟨b,o+m*5,none⟩=some (.bool x.text)∧W.cell? ⟨b,o+m*5+1,none⟩=some (.string x.s)∧W.cell? ⟨b,o+m*5+2,none⟩=some (.slice aa x.attrs.length ac)∧W.cell? ⟨b,o+m*5+3,none⟩=some (.int .i64 x.parent)∧W.cell? ⟨b,o+m*5+4,none⟩=some (.slice ka x.kids.length kc)∧W.cell? ⟨w.heap.size,0,none⟩=some (.string s.name))
       (with_reducible exact HC.out _ hbn)
       (first|(go_at_call 17;refine (Calls.mono (HF.out _) ?_);rintro e w3 ⟨rfl,hb3⟩;have hbn:=hbn.trans (hb3.mono hbn.size)))
      have hR3:qK W1.heap.size w3 (.slice ra us.length rc) us:=HR.out.later hbn;have hs3:=hbn.size;have hB3:Below W1.heap.size W1 w3:=hB.trans (hbn.mono hsz);have hown3:w3.ownsRow W1.heap.size 3 1 (.slice ra us.length rc) us.length (qt us):=hR3;clear c0 c1 c2 c3 c4;go_wp2_with (at_builtin;refine wpList_append_own_at _ rfl _ _ 26 rfl W1.heap.size 3 i0 _ 1 8 Tryd.underlying26 hi hz0 hzz1 hz2 rfl (by decide) _ _ _ rfl (hown3.alloc _) ⟨w3.heap.size,0,none⟩ 1 1 [.int .i64 (m:Int)] rfl ?qc1 ?qc2 ?qc3 ?qc4 ?qc5 ?qc6 ?_)
      case qc1 => rfl
      case qc2 => exact xT _ _ _
      case qc3 => intro z hz;simp at hz;subst hz;rfl
      case qc4 => unfold maxLen;omega
      case qc5 => omega
      case qc6 => simp;omega
      intro v' w4 hown4 hgr4 _ _;obtain ⟨ja,jl,jc,rfl⟩:=qR hown4
      have hR4:qK W1.heap.size w4 (.slice ja jl jc) (us++[(m:Int)]):=by
       unfold qK;rw[zd,List.length_append];exact hown4
      have hB4:Below W1.heap.size W1 w4:=(hB3.alloc (by omega) _).grown hgr4 (by simp;omega) (fun z hz=>(hR3.lt z hz).1)
      clear hown4 hown3 hR3;go_wp2_with fail
      go_roundg (l.length-(k+1))
      case measure => omega
      case rel => exact ⟨k+1,by omega,by go_num,by rw[HSN.out];exact hR4,hB4⟩
    | false =>
      rw[hq]at HF HSN
      clear hq;go_wp2_with fail
      go_region_held3 (fun W:World=>Below wr.heap.size wr W∧W.cell? ⟨b,o+m*5,none⟩=some (.bool x.text)∧W.cell? ⟨b,o+m*5+1,none⟩=some (.string x.s)∧W.cell? ⟨b,o+m*5+2,none⟩=some (.slice aa x.attrs.length ac)∧W.cell? ⟨b,o+m*5+3,none⟩=some (.int .i64 x.parent)∧W.cell? ⟨b,o+m*5+4,none⟩=some (.slice ka x.kids.length kc)∧W.cell? ⟨w.heap.size,0,none⟩=some (.string s.name))
       (with_reducible exact HC.out _ hbn)
       (first|(go_at_call 17;refine (Calls.mono (HF.out _) ?_);rintro e w3 ⟨rfl,hb3⟩;have hbn:=hbn.trans (hb3.mono hbn.size)))
      have hR3:qK W1.heap.size w3 (.slice ra us.length rc) us:=HR.out.later hbn;have hB3:Below W1.heap.size W1 w3:=hB.trans (hbn.mono hsz);clear c0 c1 c2 c3 c4;go_wp2_with fail
      go_roundg (l.length-(k+1))
      case measure => omega
      case rel => exact ⟨k+1,by omega,by go_num,by rw[HSN.out];simpa using hR3,hB3⟩
  · have hkk : k = l.length := by omega
    subst hkk;rw[List.take_length]at hR
    have hili:¬ ((l.length:Int)<(l.length:Int)):=by omega
    have d1:wr.cell? ⟨w.heap.size,1,none⟩=some (.int .i64 s.n):=by rw[cH9 hxr];rfl
    have hlen:=y7 ns l s.name;obtain ⟨us,hus⟩:∃ us,zE ns l s.name=us:=⟨_,rfl⟩;rw[hus]at hR HM hlen
    obtain ⟨ra,rc,rfl,hrc,hrm⟩:=hR.shape;have HRI:Hid (qm (fun b=>W1.heap.size≤b) wr (.slice ra us.length rc) us):=hR.ints
    clear hus hR
    by_cases hn0:s.n=0
    · have HE : Hid (qn ns l s = us) := by show _ = _;rw[HM.out, if_pos hn0]
      have hne:(s.n==0)=true:=by simp[hn0]
      clear HM hn0;go_wp2_with fail;go_ret;exact ⟨_,rfl,by rw[HE.out];exact HRI.out.carry fun b hb=>⟨by omega,rfl⟩,hBw⟩
    · have hne : (s.n == 0) = false := by simp[hn0]
      obtain ⟨m,hm⟩:∃ m:Nat,s.n=((m+1:Nat):Int):=⟨s.n.toNat-1,by omega⟩
      have HE:Hid (qn ns l s=(us.drop m).take 1):=by show _=_;rw[HM.out,if_neg hn0,hm];simp
      rw[hm]at d1 hne
      clear HM hn0 hm
      by_cases hgt:us.length<m+1
      · have hgi : (us.length : Int) < ((m + 1 : Nat) : Int) := by omega
        have HE2:Hid (qn ns l s=[]):=by show _=_;rw[HE.out,List.drop_of_length_le (by omega)];rfl
        clear HE;go_wp2_with fail;go_ret;exact ⟨_,rfl,by rw[HE2.out];exact qm.nil,hBw⟩
      · have hgi : ¬ (us.length : Int) < ((m + 1 : Nat) : Int) := by omega
        obtain ⟨y,hy⟩:∃ y,us[m]?=some y:=⟨us[m]'(by omega),by simp⟩
        have HE2:Hid (qn ns l s=[y]):=by
         show _=_
         rw[HE.out,List.drop_eq_getElem_cons (by omega)]
         have:us[m]'(by omega)=y:=by
          have:=hy;rw[List.getElem?_eq_getElem (by omega)]at this
          exact Option.some.inj this
         rw[this];rfl
        obtain ⟨rb,ro,rc2,hrv,hrS,hrb,e1⟩:=HRI.out.at hy
        injection hrv with hra _ hrc2
        subst hra hrc2;have HY:Hid (wr.cell? ⟨rb,ro+m,none⟩=some (.int .i64 y)):=e1;clear HE hy e1;unfold maxLen at hrm
        have hmc:m+1≤rc:=by omega
        go_wp2_with fail;go_ret;refine ⟨_,rfl,?_,hBw⟩;rw[HE2.out];refine ⟨some ⟨rb,ro+m,none⟩,rc-m,rfl,by simp;omega,by unfold maxLen;omega,fun _=>⟨rb,ro+m,rfl,by omega,fun i x hx=>?_⟩⟩
        match i,hx with
        | 0,hx=>simp at hx;subst hx;exact HY.out
end
section
attribute [local go_sem] qc
theorem zH {P:Program}{w:World}(base:Nat)(t ty e:TypeId)(i:TypeInfo)(size c:Nat)(ht:P.underlying t=some (.slice e))(hi:P.info? e=some i)
 (v:Value) (n:Nat) (xs:List Value) (hown:w.ownsRow base e size v n xs) :
 (Builtin.append_ #[t,t] ty #[v,.slice none 0 c]).run P w=.ok v w:=by
 rcases hown.2 with ⟨rfl,rfl⟩|⟨g,cap,cur,rfl,_,_,hnc,_⟩
 · simp[Builtin.append_,run_underlying ht,sizeOf,typeInfo,hi,Builtin.lenOf,Builtin.firstCells]
 · simp[Builtin.append_,run_underlying ht,sizeOf,typeInfo,hi,Builtin.lenOf,Builtin.firstCells,hnc,storeCells]
theorem xr {ops:Array Oper}{o:Oper}{a:Act}{w:World}{K:Act→World→Prop}{Q:Exit→Act→World→Prop}{E:Prop}
 (hg:o.guard=none) (s x:Operand) (hop:o.op=Op.call { callee:=Callee.builtin Builtin.append,args:=#[s,x],argTypes:=#[26,26] })
 (B:Nat) (v:Value) (l:List Int) (hs:a.eval s=v) (hown:qK B w v l) (S:Nat→Prop) (u:Value) (m:List Int) (hx:a.eval x=u) (hm:qm S w u m) (hn:l.length+m.length≤1048576) (hB:B≤w.heap.size)
 (hK:∀ v' w',qK B w' v' (l++m)→w.grownBy w' v.ownBlock→K (a.put o.dst v') w') :
 if Region.wanted o (yielded ops a.tmps)=true then Oper.wp Tryd.prog o a w K Q else E:=by
 have hw:Region.wanted o (yielded ops a.tmps)=true:=by simp[Region.wanted,hg]
 rw[if_pos hw];obtain ⟨i0,hi,hz0,hz1,hz2⟩:=info_parts intInfoR;obtain ⟨ua,uc,rfl,_,_⟩:=hm.shape;cases ua with
 | none =>
   have hm0:m=[]:=by
    obtain ⟨a',cap,h1,_,_,h4⟩:=hm
    apply Classical.byContradiction
    intro hne;obtain ⟨b,o,ha,_⟩:=h4 hne;rw[ha]at h1
    cases h1
   subst hm0;have hr:=zH (P:=Tryd.prog) (w:=w) B 26 o.type 3 i0 1 uc Tryd.underlying26 hi v l.length (qt l) hown;unfold Oper.wp;simp[execOp,hop,resolve,invoke,builtin,hs,hx,hr,Result.andThen];exact hK v w (by rw[List.append_nil];exact hown) (World.grownBy.refl _ _)
 | some ad =>
   obtain ⟨v',w',hr,h2,h3,_,h5⟩:=run_append_own_at (P:=Tryd.prog) w B 26 o.type 3 i0 _ 1 8 Tryd.underlying26 hi hz0 hz1 hz2 rfl (by decide) v l.length (qt l) hown ad m.length uc (qt m) (by rw[zL];omega) hm.cells (yO m) (by unfold maxLen;omega) (by omega) hB
   unfold Oper.wp;simp[execOp,hop,resolve,invoke,builtin,hs,hx,hr,Result.andThen];refine hK v' w' ?_ h3;unfold qK;rw[zd,List.length_append];exact h2
theorem jC {ns:List Nd}{here:List Int}{k:Nat}{u:Int}(hk:here[k]?=some u)(s:St):qW ns (here.take (k+1)) s=qW ns (here.take k) s++qn ns (z1 ns u) s:=by
 have hl:=qe hk;have e:here[k]=u:=by simpa[hl] using hk
 unfold qW;rw[List.take_succ_eq_append_getElem hl,List.flatMap_append,e];simp
theorem zP {ns:List Nd}(hg:qg ns=true){d:Nat}{l:List Int}(h:Lev ns d l):l.length≤ns.length:=by
 have hr:=h.rises hg
 have hm:∀ u∈l,0≤u∧u<ns.length:=fun u hu=>by
  obtain ⟨k,x,rfl,hx,_⟩:=h.mem u hu;have:=qe hx;omega
 clear h
 have key:∀ (l:List Int) (a:Int),l.Pairwise (fun u v=>u<v)→(∀ u∈l,a≤u∧u<ns.length)→a≤ns.length→(l.length:Int)≤ns.length-a:=by
  intro l
  induction l with
  | nil=>intro a _ _ h;simp;omega
  | cons x l ih =>
    intro a hp hm ha;rw[List.pairwise_cons]at hp
    have hx:=hm x List.mem_cons_self;have:=ih (x+1) hp.2 (fun u hu=>⟨by have:=hp.1 u hu;omega,(hm u (List.mem_cons_of_mem _ hu)).2⟩) (by omega)
    simp;omega
 have:=key l 0 hr hm (by omega)
 omega
theorem jP {ns:List Nd}(hg:qg ns=true){m:Nat}{x:Nd}(hx:ns[m]?=some x):∀ u∈x.kids,0≤u∧u<ns.length:=by
 intro u hu;obtain ⟨k,_,rfl,_,h,_⟩:=(qo hg hx).kids u hu;omega
set_option maxHeartbeats 2000000 in
theorem qS (S:Nat→Prop)(vd vl:Value)(ns:List Nd)(l:List St)(w:World)(hD:zj S w vd ns)(hL:qj S w vl l)(hn:qB l) :
 Calls Tryd.prog 6 #[.agg #[vd],vl] w fun e w'=>∃ v,e=.returned (.tuple #[v,.int .i64 (zc ns l)])∧qm (fun b=>w.heap.size≤b) w' v (q6 ns l)∧Below w.heap.size w w':=by
 have hb1:=Below.alloc1 w (.cells #[vd] 24);have hx1:=heap_alloc_new w (.cells #[vd] 24);have hz1:(w.alloc (.cells #[vd] 24)).heap.size=w.heap.size+1:=by simp
 have HG:Hid _:=(hD.later hb1).good;have HD:Hid (zj S w vd ns):=hD;have HL:Hid (qj S w vl l):=hL;have HPG:Hid (∀ W,Below w.heap.size w W→Calls Tryd.prog 10 #[vl] W fun e w'=>e=.returned (.bool (qu l))∧Below W.heap.size W w'):=fun W h=>yD S vl l W (hL.later h) hn
 have HSD:Hid (q6 ns l=if qg ns&&qu l then qZ ns l else []):=rfl
 have HSE:Hid (zc ns l=if qg ns&&qu l then 0 else 1):=rfl
 obtain ⟨na,nc,rfl,hnl,hnm⟩:=hD.nodes.shape;obtain ⟨la,lc,rfl,hll,hlm⟩:=hL.shape;unfold maxLen at hnm hlm
 clear hD hL hn
 go_enter Tryd.func6,Tryd.ntmps6
 go_wp2_with fail;refine (Calls.mono HG.out ?_);rintro e w2 ⟨rfl,hb2⟩;have hx2:=(hb2.block _ (qh hx1)).trans hx1;have hB2:Below w.heap.size w w2:=hb1.trans (hb2.mono hb1.size);have hz2:w.heap.size<w2.heap.size:=qh hx2;have d2:w2.cell? ⟨w.heap.size,0,none⟩=some (.slice na ns.length nc):=by rw[cH9 hx2];rfl
 clear HG hb1 hx1 hz1 hb2;obtain ⟨q,hq⟩:∃ q,qg ns=q:=⟨_,rfl⟩;rw[hq];cases q with
 | false =>
   have HSD2:Hid (q6 ns l=[]):=by show _=_;rw[HSD.out,hq];rfl
   have HSE2:Hid (zc ns l=1):=by show _=_;rw[HSE.out,hq];rfl
   clear HSD HSE hq;go_wp2_with fail
   go_ret2
   exact ⟨_,by rw[HSE2.out];rfl,by rw[HSD2.out];exact qm.nil,hB2⟩
 | true =>
   have HGD:Hid (qg ns=true):=hq;have HSD2:Hid (q6 ns l=if qu l then qZ ns l else []):=by show _=_;rw[HSD.out,hq];rfl
   have HSE2:Hid (zc ns l=if qu l then 0 else 1):=by show _=_;rw[HSE.out,hq];rfl
   have h80:ns.length≤80:=by
    simp only[qg,Bool.and_eq_true,decide_eq_true_eq]at hq
    exact hq.1.1
   clear HSD HSE hq;go_wp2_with fail;refine (Calls.mono (HPG.out _ hB2) ?_);rintro e w3 ⟨rfl,hb3⟩;have hx3:=(hb3.block _ (qh hx2)).trans hx2;have hB3:Below w.heap.size w w3:=hB2.trans (hb3.mono hB2.size);have hz3:w.heap.size<w3.heap.size:=qh hx3;have d3:w3.cell? ⟨w.heap.size,0,none⟩=some (.slice na ns.length nc):=by rw[cH9 hx3];rfl
   clear hx2 hB2 hz2 d2 hb3;obtain ⟨q2,hq2⟩:∃ q,qu l=q:=⟨_,rfl⟩;rw[hq2];cases q2 with
   | false =>
     have HSD3:Hid (q6 ns l=[]):=by show _=_;rw[HSD2.out,hq2];rfl
     have HSE3:Hid (zc ns l=1):=by show _=_;rw[HSE2.out,hq2];rfl
     clear HSD2 HSE2 hq2;go_wp2_with fail
     go_ret2
     exact ⟨_,by rw[HSE3.out];rfl,by rw[HSD3.out];exact qm.nil,hB3⟩
   | true =>
     have HSD3:Hid (q6 ns l=qZ ns l):=by show _=_;rw[HSD2.out,hq2];rfl
     have HSE3:Hid (zc ns l=0):=by show _=_;rw[HSE2.out,hq2];rfl
     have hpl:=hq2;simp only[qu,Bool.and_eq_true,decide_eq_true_eq]at hpl
     have HST:Hid (∀ s∈l,0≤s.n):=by
      intro s hs;have:=List.all_eq_true.1 hpl.2 s hs;simp only[qq,Bool.and_eq_true,decide_eq_true_eq]at this
      exact this.1.1
     have hl1:1≤l.length:=hpl.1.1;have hl5:l.length≤5:=hpl.1.2;clear HSD2 HSE2 hq2 hpl;obtain ⟨s0,hs0⟩:∃ s,l[0]?=some s:=⟨l[0]'(by omega),by simp⟩
     obtain ⟨lb,lo,lc2,hlv,_,hlb,e0,e1⟩:=(HL.out.later hB3).at hs0
     injection hlv with hla _ hlc2
     subst hla hlc2
     have HL0:Hid (∃ r,l=s0::r):=by
      cases l with
      | nil=>simp at hs0
      | cons a r=>simp at hs0;subst hs0;exact ⟨r,rfl⟩
     have hbn:Below w3.heap.size w3 w3.drew:=(Below.refl _ _).drew
     have HC:Hid (∀ W,Below w3.heap.size w3 W→Below w3.heap.size w3 W∧W.cell? ⟨w.heap.size,0,none⟩=some (.slice na ns.length nc)∧W.cell? ⟨lb,lo,none⟩=some (.string s0.name)∧W.cell? ⟨lb,lo+1,none⟩=some (.int .i64 s0.n)):=by
      intro W h;refine ⟨h,?_,?_,?_⟩
      · rw[h.cell (p:=⟨w.heap.size,0,none⟩) hz3];exact d3
      · rw[h.cell (p:=⟨lb,lo,none⟩) hlb];simpa using e0
      · rw[h.cell (p:=⟨lb,lo+1,none⟩) hlb];simpa using e1
     have hba:Below w3.heap.size w3 (w3.alloc (.cells #[.int .i64 0] 3)).drew:=((Below.refl _ w3).alloc (nR9 _) _).drew
     have HM:Hid (Calls Tryd.prog 11 #[.slice na ns.length nc,.slice (some ⟨w3.heap.size,0,none⟩) 1 1,.agg #[.string s0.name,.int .i64 s0.n]] (w3.alloc (.cells #[.int .i64 0] 3)).drew fun e w'=>∃ v,e=.returned v∧qm (fun b=>w.heap.size<b) w' v (qn ns [0] s0)∧Below w3.heap.size w3 w'):=by
      have hW:Below w.heap.size w (w3.alloc (.cells #[.int .i64 0] 3)).drew:=hB3.trans (hba.mono hB3.size);have hN:=((HD.out.nodes.later hW).carry (S':=fun b=>S b∨b=w3.heap.size) fun b hb=>⟨Or.inl hb,rfl⟩)
      have hI:qm (fun b=>S b∨b=w3.heap.size) (w3.alloc (.cells #[.int .i64 0] 3)).drew (.slice (some ⟨w3.heap.size,0,none⟩) 1 1) [0]:=by
       refine ⟨_,1,rfl,nR9 _,by unfold maxLen;omega,fun _=>⟨w3.heap.size,0,rfl,Or.inr rfl,fun i x hx=>?_⟩⟩
       match i,hx with
       | 0,hx=>simp at hx;subst hx;exact (by simp:(w3.alloc (.cells #[.int .i64 0] 3)).cell? ⟨w3.heap.size,0+0,none⟩=some (.int .i64 0))
      refine (z8 _ _ _ ns [0] s0 _ hN hI (fun u hu=>?_) (HST.out s0 (List.mem_of_getElem? hs0)) (by simp)).mono ?_
      · rw[List.mem_singleton]at hu
        obtain ⟨x,hx,_⟩:=za HGD.out;have:=qe hx;omega
      · rintro e w' ⟨v, rfl, hI', hb'⟩;have hsz:(w3.alloc (.cells #[.int .i64 0] 3)).drew.heap.size=w3.heap.size+1:=by show (w3.alloc (.cells #[.int .i64 0] 3)).heap.size=_;simp
        rw[hsz]at hI' hb'
        refine ⟨v,rfl,hI'.carry fun b hb=>⟨by omega,rfl⟩,?_⟩
        exact hba.trans (hb'.mono (by omega))
     have hl1i:(0:Int)<(l.length:Int):=by omega
     have hl0:0<l.length:=by omega
     have hlne:¬ l=[]:=by intro e;rw[e]at hl0;simp at hl0
     clear e0 e1 hs0;go_wp2_with fail
     go_region_held3 (fun W:World=>Below w3.heap.size w3 W∧W.cell? ⟨w.heap.size,0,none⟩=some (.slice na ns.length nc)∧W.cell? ⟨lb,lo,none⟩=some (.string s0.name)∧W.cell? ⟨lb,lo+1,none⟩=some (.int .i64 s0.n))
      (first
       | with_reducible exact HC.out _ hbn
       | with_reducible exact HC.out _ hba)
      (first|(go_at_call 11;refine (Calls.mono HM.out ?_);rintro e w4 ⟨v4,rfl,hI4,hbm⟩;obtain ⟨va4,vc4,rfl,_,_⟩:=hI4.shape;have hbn:=hbm))
     have hBw4:Below w.heap.size w w4:=hB3.trans (hbn.mono hB3.size);obtain ⟨H0,hH0⟩:∃ H0,qn ns [0] s0=H0:=⟨_,rfl⟩;have HH0:Hid (Lev ns 1 H0):=by show Lev ns 1 H0;rw[←hH0];exact jb HGD.out s0
     have HSP:Hid (qZ ns l=zk ns (l.drop 1) H0):=by
      obtain ⟨r,rfl⟩:=HL0.out
      show zk ns r (qn ns [0] s0)=_
      rw[hH0];rfl
     rw[hH0]at hI4 ⊢
     have HI4:Hid (qm (fun b=>w.heap.size<b) w4 (.slice va4 H0.length vc4) H0):=hI4
     have hb4:=hbn;have HLR:Hid ((l.drop 1).length=l.length-1):=List.length_drop;have HC4:Hid (∀ W,Below w3.heap.size w3 W→W.cell? ⟨w.heap.size,0,none⟩=some (.slice na ns.length nc)):=fun W h=>(HC.out W h).2.1
     clear hH0 HM HC hbm hI4 hba;go_wp2_with fail
     all_goals
      go_loopg [30,6] (l.length-1) (fun g j h wr=>∃ (i:Nat) (X:List Int),i+g=l.length-1∧j=.int .i64 (i:Int)∧X=zk ns ((l.drop 1).take i) H0∧qm (fun b=>w.heap.size<b) wr h X∧Below w3.heap.size w3 wr)
      case atStart => exact ⟨0,H0,by omega,rfl,rfl,HI4.out,hb4⟩
      case round =>
       rename World=>wo
       obtain ⟨i,X,hi,rfl,hX,hIX,hBX⟩:=hrel;have hBwr:Below w.heap.size w wo:=hB3.trans (hBX.mono hB3.size)
       by_cases hil:i<l.length-1
       · first
         | (exfalso;omega)
         | (obtain ⟨s, hs⟩ : ∃ s, l[i + 1]? = some s := ⟨l[i + 1]'(by omega), by simp⟩
            have HLev:Hid (Lev ns (1+i) X):=by
             have:=jQ HGD.out ((l.drop 1).take i) 1 H0 HH0.out;rw[List.length_take,HLR.out,Nat.min_eq_left (by omega),←hX]at this
             exact this
            have HXN:Hid (zk ns ((l.drop 1).take (i+1)) H0=qW ns X s):=by
             have e:(l.drop 1).take (i+1)=(l.drop 1).take i++[s]:=by
              rw[List.take_succ_eq_append_getElem (by rw[HLR.out];exact hil)]
              congr 2
              have:=hs;rw[List.getElem?_eq_getElem (by omega)]at this
              have:=Option.some.inj this;rw[List.getElem_drop];rw[←this]
              congr 1
              omega
             show _=_
             rw[e,zI,←hX]
            obtain ⟨lb2,lo2,lc2,hlv,_,hlb2,e0,e1⟩:=(HL.out.later hBwr).at hs
            injection hlv with hla _ hlc2
            injection hla with hla
            injection hla with hla1 hla2
            subst hla1 hla2 hlc2;have e0':wo.cell? ⟨lb,lo+2+i*2,none⟩=some (.string s.name):=by rw[show lo+2+i*2=lo+(i+1)*2 by omega];exact e0
            have e1':wo.cell? ⟨lb,lo+2+i*2+1,none⟩=some (.int .i64 s.n):=by rw[show lo+2+i*2=lo+(i+1)*2 by omega];exact e1
            have hsn:=HST.out s (List.mem_of_getElem? hs);have hXl:X.length≤80:=Nat.le_trans (zP HGD.out HLev.out) h80;obtain ⟨xa,xc,rfl,hxl,hxm⟩:=hIX.shape;unfold maxLen at hxm
            have HIX:Hid (qm (fun b=>w.heap.size<b) wo (.slice xa X.length xc) X):=hIX
            have hili:(i:Int)<((l.length-1:Nat):Int):=by omega
            have hb5:=Below.alloc1 wo (.cells #[.string s.name,.int .i64 s.n] 37);have hx5:=heap_alloc_new wo (.cells #[.string s.name,.int .i64 s.n] 37);have hz5:(wo.alloc (.cells #[.string s.name,.int .i64 s.n] 37)).heap.size=wo.heap.size+1:=by simp
            clear e0 e1 hs hX hIX;go_wp2_with fail
            generalize wo.alloc (.cells #[.string s.name,.int .i64 s.n] 37)=W5 at *
            have HZ5:Hid (W5.heap.size=wo.heap.size+1):=hz5;have hle5:wo.heap.size≤W5.heap.size:=by omega
            clear hz5
            go_loopg [36,9] X.length (fun g k o wr=>∃ (kk:Nat) (Y:List Int),kk+g=X.length∧k=.int .i64 (kk:Int)∧Y=qW ns (X.take kk) s∧qK W5.heap.size wr o Y∧Below W5.heap.size W5 wr)
            case atStart => exact ⟨0,[],by omega,rfl,rfl,qK.nil _ _,Below.refl _ _⟩
            case round =>
             obtain ⟨kk,Y,hkk,rfl,hY,hIY,hBY⟩:=hrel;have hB5:Below wo.heap.size wo wr:=hb5.trans (hBY.mono hle5);have hBwx:Below w.heap.size w wr:=hBwr.trans (hB5.mono hBwr.size);have hB3x:Below w3.heap.size w3 wr:=hBX.trans (hB5.mono hBX.size);have hszx:=hBY.size
             by_cases hkl:kk<X.length
             · obtain ⟨u, hu⟩ : ∃ u, X[kk]? = some u := ⟨X[kk], by simp[hkl]⟩
               obtain ⟨m,x,rfl,hx,_⟩:=HLev.out.mem u (List.mem_of_getElem? hu);have hmn:=qe hx;obtain ⟨xb,xo,xc2,hxv,_,hxbw,e2⟩:=(HIX.out.later hB5).at hu
               injection hxv with hxa _ hxc2
               subst hxa hxc2;obtain ⟨b,o,cap,va,vk,hv,_,_,hSb,hbw,c0,c1,c2,c3,c4,hAt,hKi⟩:=(HD.out.nodes.later hBwx).at hx
               injection hv with hv1 _ hv2
               subst hv1 hv2;obtain ⟨ka,kc,rfl,hkl2,hkm⟩:=hKi.shape
               have HYN:Hid (qW ns (X.take (kk+1)) s=Y++qn ns x.kids s):=by
                show _=_
                rw[jC hu,←hY,qC hx]
               have HYL:Hid (Y.length+(qn ns x.kids s).length≤80):=by
                show _≤_
                rw[←List.length_append,←HYN.out];exact Nat.le_trans (zP HGD.out (y9 HGD.out (HLev.out.sub (List.take_sublist _ _)) s)) h80
               have hkidl:x.kids.length≤80:=by
                have:=(jy HD.out HGD.out m x hx).2.1;have h1:=jP HGD.out hx
                have h2:x.kids.length≤ns.length:=zP HGD.out (d:=dp ns m+1) ⟨fun u hu=>by
                 obtain ⟨k,y,rfl,hjk,_,_,hy,hp⟩:=(qo HGD.out hx).kids u hu;exact ⟨k,y,rfl,hy,zD HGD.out hy hp hjk⟩,(qo HGD.out hx).row⟩
                omega
               have HMC:Hid (∀ W,Below wr.heap.size wr W→Calls Tryd.prog 11 #[.slice (some ⟨b,o,none⟩) ns.length nc,.slice ka x.kids.length kc,.agg #[.string s.name,.int .i64 s.n]] W fun e w'=>∃ v,e=.returned v∧qm (fun b=>W.heap.size≤b) w' v (qn ns x.kids s)∧Below W.heap.size W w'):=by
                intro W h;exact z8 S _ _ ns x.kids s W ((HD.out.nodes.later hBwx).later h) (hKi.later h) (jP HGD.out hx) hsn (by omega)
               have hbW5:b<W5.heap.size:=by
                have h1:=HD.out.here b hSb;have h2:=hBwr.size;have h3:=hb5.size;omega
               have hB35:Below w3.heap.size w3 W5:=hBX.trans (hb5.mono hBX.size);have c4':W5.cell? ⟨b,o+m*5+4,none⟩=some (.slice ka x.kids.length kc):=by rw[←hBY.cell (p:=⟨b,o+m*5+4,none⟩) hbW5];exact c4
               have HC:Hid (∀ W,Below W5.heap.size W5 W→Below W5.heap.size W5 W∧W.cell? ⟨w.heap.size,0,none⟩=some (.slice (some ⟨b,o,none⟩) ns.length nc)∧W.cell? ⟨b,o+m*5+4,none⟩=some (.slice ka x.kids.length kc)∧W.cell? ⟨wo.heap.size,0,none⟩=some (.string s.name)∧W.cell? ⟨wo.heap.size,1,none⟩=some (.int .i64 s.n)):=by
                intro W h;have h5:=(h.block _ (qh hx5)).trans hx5;refine ⟨h,HC4.out W (hB35.trans (h.mono hB35.size)),?_,?_,?_⟩
                · rw[h.cell (p:=⟨b,o+m*5+4,none⟩) hbW5];exact c4'
                · rw[cH9 h5];rfl
                · rw[cH9 h5];rfl
               obtain ⟨ya,yc,rfl,_,_⟩:=hIY.shape;have HIY:Hid (qK W5.heap.size wr (.slice ya Y.length yc) Y):=hIY;have hkli:(kk:Int)<(X.length:Int):=by omega
               have hmi:(m:Int)<(ns.length:Int):=by omega
               have hbx:Below wr.heap.size wr wr.drew:=(Below.refl _ _).drew;have hbn:Below W5.heap.size W5 wr.drew:=hBY.drew;obtain ⟨Z,hZ⟩:∃ Z,qn ns x.kids s=Z:=⟨_,rfl⟩;rw[hZ]at HMC HYN HYL
               clear hu hx hY hIY hKi hAt c0 c1 c2 c3 hZ c4';go_wp2_with fail
               go_region_held3 (fun W:World=>Below W5.heap.size W5 W∧W.cell? ⟨w.heap.size,0,none⟩=some (.slice (some ⟨b,o,none⟩) ns.length nc)∧W.cell? ⟨b,o+m*5+4,none⟩=some (.slice ka x.kids.length kc)∧W.cell? ⟨wo.heap.size,0,none⟩=some (.string s.name)∧W.cell? ⟨wo.heap.size,1,none⟩=some (.int .i64 s.n))
                (with_reducible exact HC.out _ hbn)
                (first
                 | (go_at_call 11;refine (Calls.mono (HMC.out _ hbx) ?_);rintro e w7 ⟨v7,rfl,hI7,hb7⟩;obtain ⟨va7,vc7,rfl,_,_⟩:=hI7.shape;have hbx:=hbx.trans (hb7.mono hbx.size);have hbn:=hBY.trans (hbx.mono hszx))
                 | (refine xr (by rfl) (.tmp 40) (.tmp 50) (by rfl) W5.heap.size (.slice ya Y.length yc) Y (by simp[Act.eval]) (HIY.out.later hbx) _ (.slice va7 Z.length vc7) Z (by simp[Act.eval]) hI7 (by have:=HYL.out;omega) hbn.size ?_;intro v8 w8 hR8 hg8;obtain ⟨va8,vc8,rfl,_,_⟩:=hR8.shape;have hbn:=hbn.grown hg8 hbn.size (fun z hz=>(HIY.out.lt z hz).1)))
               clear c4;go_wp2_with fail
               go_roundg (X.length-(kk+1))
               case measure => omega
               case rel => exact ⟨kk+1,Y++Z,by omega,by go_num,HYN.out.symm,by rw[List.length_append]at hR8;exact hR8,hbn⟩
             · have hkk2 : kk = X.length := by omega
               subst hkk2;rw[List.take_length]at hY
               have hkli:¬ ((X.length:Int)<(X.length:Int)):=by omega
               obtain ⟨ya,yc,rfl,_,_⟩:=hIY.shape;have hR:=hIY.ints;have hY2:zk ns ((l.drop 1).take (i+1)) H0=Y:=by rw[HXN.out,hY]
               have HY2:Hid (zk ns ((l.drop 1).take (i+1)) H0=Y):=hY2
               have h5w:w.heap.size<W5.heap.size:=by
                have h1:=hBwr.size;have h2:=HZ5.out;omega
               clear hIY hY hY2;go_wp2_with fail
               go_roundg (l.length-1-(i+1))
               case measure => omega
               case rel => exact ⟨i+1,Y,by omega,by go_num,HY2.out.symm,hR.carry fun b hb=>⟨by omega,rfl⟩,hB3x⟩)
       · have hili : ¬ ((i : Int) < ((l.length - 1 : Nat) : Int)) := by omega
         obtain ⟨xa,xc,rfl,hxl,hxm⟩:=hIX.shape
         have hXe:qZ ns l=X:=by
          rw[HSP.out,hX,List.take_of_length_le (by rw[HLR.out];omega)]
         have HX:Hid (qZ ns l=X):=hXe;clear hX hXe;go_wp2_with fail
         go_ret2
         exact ⟨_,by rw[HSE3.out];rfl,by rw[HSD3.out,HX.out];exact hIX.carry fun b hb=>⟨by omega,rfl⟩,hBwr⟩
end
end Go.Proofs.YtfdbipeidmpciabDoor
