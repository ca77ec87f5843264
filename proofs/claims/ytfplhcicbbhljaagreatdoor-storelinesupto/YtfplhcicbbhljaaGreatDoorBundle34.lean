/- Bundled: InsL InsI PutW KindW. What each says stands ahead of it. -/
import Derived.Shelf.Spec.SlicesInsertGrow
import Derived.Test.YtfplhcicbbhljaaGreatDoorBundle33
/- laid -/
namespace Go.Proofs
open Go.Shelf
shelf_try shelf_lay Lays2.n21 Nm2 21 at Tryz as Tryz.insI
shelf_tried
end Go.Proofs
namespace Go.Proofs.YtfplhcicbbhljaaGreatDoor
open Go.ChangeShapes Go.WideShapes Go.ChangeAt Go.RowKit
set_option maxRecDepth 100000
theorem K2 {w:World}{n c:Nat}{t:TypeId}(h:n≤1048576*2):grownCap w n c t≤maxLen:=grownCap_le_maxLen w n c t (by unfold maxLen;omega)
set_option maxHeartbeats 1000000 in
theorem K8 (v u:Value)(n c k c':Nat)(a:Option Addr)(a':Option Addr)(w:World)(hv:v=.slice a n c)(hu:u=.slice a' 0 c')(hk:k≤n) :
 Calls Tryz.prog 220 #[v,.int .i64 (k:Int),u] w fun e w'=>e=.returned v∧w'=w:=by
 subst hv hu;have hki:(k:Int)≤(n:Int):=by omega
 go_enter Tryz.func220,Tryz.ntmps220
 by_cases hck:c=k
 · go_wp2_with fail
   go_returns
   exact ⟨rfl,rfl⟩
 · go_wp2_with fail
   go_returns
   exact ⟨rfl,rfl⟩
theorem qap (B B':Nat)(v u:Value)(l m:List Int)(k:Nat)(w:World)(h:qZ B w v l)(hu:qZ B' w u m)(hk:k≤l.length)(hb:l.length≤1048576)(hb':m.length≤1048576)(hB:B≤w.heap.size)(hne:∀ b,v.ownBlock=some b→u.ownBlock≠some b) :
 Calls Tryz.prog 220 #[v,.int .i64 (k:Int),u] w fun e w'=>∃ v',e=.returned v'∧qZ B w' v' (l.take k++(m++l.drop k))∧(∀ b,v'.ownBlock=some b→v.ownBlock=some b∨w.heap.size≤b)∧Below 0 w w'∧(∀ b,b<w.heap.size→v.ownBlock≠some b→w'.heap[b]?=w.heap[b]?):=by
 have fin:∀ e w',qbh B 3 1 v l.length (qr l) k m.length (qr m) w e w'→∃ v',e=.returned v'∧qZ B w' v' (l.take k++(m++l.drop k))∧(∀ b,v'.ownBlock=some b→v.ownBlock=some b∨w.heap.size≤b)∧Below 0 w w'∧(∀ b,b<w.heap.size→v.ownBlock≠some b→w'.heap[b]?=w.heap[b]?):=by
  rintro e w' ⟨v',h1,h2,h3,h4,h5⟩;refine ⟨v',h1,?_,h3,h4,h5⟩;unfold qZ;have e1:(l.take k++(m++l.drop k)).length=l.length+m.length:=by simp;omega
  have e2:qr (l.take k++(m++l.drop k))=(qr l).take (k*1)++(qr m++(qr l).drop (k*1)):=by
   rw[zy,zy,Nat.mul_one];unfold qr;rw[List.map_take,List.map_drop]
  rw[e1,e2];exact h2
 rcases Nat.eq_zero_or_pos m.length with hm0|hm0
 · obtain ⟨a, c, hv, _, _⟩ := h.shape;obtain ⟨a',c',hu',_,_⟩:=hu.shape;have hm:m=[]:=List.eq_nil_of_length_eq_zero hm0;subst hm;refine (K8 v u l.length c k c' a a' w hv hu' hk).mono ?_;rintro e w' ⟨rfl,rfl⟩;exact ⟨v,rfl,by simpa using h,fun b hb=>Or.inl hb,Below.refl _ _,fun _ _ _=>rfl⟩
 · obtain ⟨vb, vc, rfl, hvc, hvm⟩ := j1 hu hm0;obtain ⟨vcur,hvh,hvs,_,_,_⟩:=QF hu
   have hvs':∀ j x,(qr m)[j]?=some x→w.cell? ⟨vb,0+j,none⟩=some x:=fun j x hj=>by
    rw[Nat.zero_add,World.ownsRow.cellAt hu j (by have:=qj hj;rw[zN]at this;omega)]
    exact hj
   have hml:=zN m;have hll:=zN l
   rcases Nat.lt_or_ge k l.length with hkl|hkl
   · obtain ⟨g, c, rfl, hnc, hcm⟩ := j1 h (by omega)
     obtain ⟨cur,hgh,hgs,_,_,hBg⟩:=QF h
     have hcs:∀ j x,(qr l)[j]?=some x→w.cell? ⟨g,0+j,none⟩=some x:=fun j x hj=>by
      rw[Nat.zero_add,World.ownsRow.cellAt h j (by have:=qj hj;rw[zN]at this;omega)]
      exact hj
     have hgv:vb≠g:=fun e=>hne g rfl (by rw[e];rfl)
     rcases Nat.lt_or_ge c (l.length+m.length) with hroom|hroom
     · refine Calls.mono (Any2.slices_Insert_int_grow Tryz.insI g 0 l.length c k vb 0 m.length vc (qr l) (qr m) w hkl hm0 hnc hroom (by omega) hll hml hcs hvs' (zR _) (zR _)) ?_
       rintro e w' ⟨rfl,rfl⟩;refine fin _ _ ?_;have hG:=grownCap_ge w (l.length+m.length) c (Tryz.insI_ren.t 3);have hGm:grownCap w (l.length+m.length) c (Tryz.insI_ren.t 3)≤maxLen:=K2 (by omega)
       generalize grownCap w (l.length+m.length) c (Tryz.insI_ren.t 3)=G at hG hGm ⊢
       have:=qdx (B:=B) (e:=3) (size:=1) (v:=.slice (some ⟨g,0,none⟩) l.length c) (w:=w) (n:=l.length) (i:=k) (m:=m.length) (G:=G) (q:=1) (r:=1) (xs:=qr l) (ys:=qr m)
        (ROW:=((qr l).take k).toArray++Builtin.zeroCells (Value.int .i64 0).cells (l.length+m.length-k)++Builtin.zeroCells (Value.int .i64 0).cells (G-(l.length+m.length)))
        (by omega) hB (by omega) (by omega) hG hGm (by simp[Value.cells,Builtin.zeroCells];omega) (by
         rw[Nat.mul_one,Array.toList_append,Array.toList_append,List.append_assoc,List.take_append_of_le_length (by simp;omega),List.take_of_length_le (by simp;omega)])
       rw[Nat.mul_one,Nat.mul_one]at this
       exact this
     · refine Calls.mono (Any2.slices_Insert_int_shift Tryz.insI g 0 l.length c k vb 0 m.length vc (qr l) (qr m) w hkl hm0 hroom (by unfold maxLen at hcm;omega) hgv hll hml hcs (fun j hj => qbn hgh (by omega)) (fun j _ => fH9 hgh _) hvs' (zR _) (zR _) 3 3 vcur.size cur.size (by simp[World.shape?, hvh]) (by simp[World.shape?, hgh]) (by omega) (fH9 hvh _) (fH9 hvh _)) ?_
       rintro e w' ⟨rfl,rfl⟩;refine fin _ _ ?_;have:=qb5 (q:=1) (r:=0) h hroom (i:=k) (by omega) (ys:=qr m) (by omega)
       rw[Nat.mul_one,Nat.mul_one]at this
       rw[Nat.zero_add,Nat.zero_add];exact this
   · have hkn : k = l.length := by omega
     subst hkn;obtain ⟨a,c,hv,hnc,hcm⟩:=h.shape
     rcases Nat.lt_or_ge c (l.length+m.length) with hroom|hroom
     · have hcs:∀ a',a=some a'→∀ j x,(qr l)[j]?=some x→w.cell? (a'.add j)=some x:=by
        rintro a' rfl j x hj;have hl0:0<l.length:=by have:=qj hj;omega
        obtain ⟨g,c',hv',_,_⟩:=j1 h hl0;rw[hv']at hv
        injection hv with hv1 _ _
        injection hv1 with hv1
        subst hv1;subst hv';rw[Addr.add_lit,Nat.zero_add,World.ownsRow.cellAt h j (by have:=qj hj;omega)]
        exact hj
       have hnil:a=none→l.length=0:=by
        rintro rfl
        rcases Nat.eq_zero_or_pos l.length with h0|h0
        · exact h0
        · obtain ⟨g, c', hv', _, _⟩ := j1 h h0;rw[hv']at hv
          injection hv with hv1 _ _
          cases hv1
       subst hv;refine Calls.mono (Any2.slices_Insert_int_end_grow Tryz.insI a l.length c vb 0 m.length vc (qr l) (qr m) w hm0 hnc hroom (by omega) hll hml hnil hcs hvs' (zR _)) ?_
       rintro e w' ⟨rfl,rfl⟩;refine fin _ _ ?_;have hG:=grownCap_ge w (l.length+m.length) c (Tryz.insI_ren.t 3);have hGm:grownCap w (l.length+m.length) c (Tryz.insI_ren.t 3)≤maxLen:=K2 (by omega)
       generalize grownCap w (l.length+m.length) c (Tryz.insI_ren.t 3)=G at hG hGm ⊢
       have hdr:Below w.heap.size w w.drew:=⟨rfl,rfl,rfl,nR9 _,fun _ _=>rfl⟩
       refine ⟨_,rfl,?_,fun b hb=>Or.inr ?_,?_,fun b hb _=>?_⟩
       · have := qbD (w := w.drew) (B := B) (e := 3) (size := 1) (k := l.length + m.length) (cap := G) (cur := (qr l ++ qr m).toArray ++ Builtin.zeroCells (Value.int .i64 0).cells (G - (l.length + m.length))) hB hG hGm (by simp[Builtin.zeroCells, Value.cells];omega)
         rw[Nat.mul_one,Array.toList_append,List.take_append_of_le_length (by simp;omega),List.take_of_length_le (by simp;omega)]at this
         rw[Nat.mul_one,←hll,List.take_length,List.drop_length,List.append_nil,hll];exact this
       · have : w.heap.size = b := by injection hb
         omega
       · exact (hdr.mono (nZ9 _)).trans ((Below.alloc1 w.drew _).mono (nZ9 _))
       · exact Lib.alloc_old w.drew _ _ hb
     · have hl0 : 0 < c := by omega
       have hv2:=h.2
       rcases hv2 with ⟨hv2,_⟩|⟨g,cap,cur,hv2,hBg,hgh,_,_,hgs,_⟩
       · rw[hv]at hv2;injection hv2 with _ _ h3;omega
       · have hcc : c = cap ∧ a = some ⟨g, 0, none⟩ := by rw[hv]at hv2;injection hv2 with h1 _ h3;exact ⟨h3, h1⟩
         obtain ⟨rfl,rfl⟩:=hcc;subst hv;refine Calls.mono (Any2.slices_Insert_int_end_room Tryz.insI g 0 l.length c vb 0 m.length vc (qr m) w hm0 hroom (by unfold maxLen at hcm;omega) hml (fun j hj=>qbn hgh (by omega)) (fun j _=>fH9 hgh _) hvs' (zR _)) ?_
         rintro e w' ⟨rfl,rfl⟩;refine fin _ _ ?_;have:=qeM h hroom (ys:=qr m) (by omega)
         rw[Nat.mul_one]at this
         rw[Nat.zero_add];exact this
section
attribute [local go_sem] qd
theorem zi.keepT {B:Nat}{T:Nat→Prop}{N:Nat}{w w':World}{v:Value}{ns:List Nd}{ms:List Rw}(h:zi B T N w v ns ms)(hsz:w.heap.size≤w'.heap.size)(hlow:∀ b,b<B→w'.heap[b]?=w.heap[b]?)(hT:∀ b,Tch N v ms b→w'.heap[b]?=w.heap[b]?):zi B T N w' v ns ms :=
 ⟨h.len,qn h.row fun b hb=>hT b (Or.inl hb),fun i r x hr hx=>(h.each i r x hr hx).keep (fun b hb=>hlow b (h.low b hb)) (fun hi b hb=>hT b (Or.inr ⟨i,r,hr,Or.inr ⟨hi,hb⟩⟩)) (fun b hb=>hT b (Or.inr ⟨i,r,hr,Or.inl hb⟩)),h.kids,h.attrs,h.low,Nat.le_trans h.le hsz⟩
structure PS (B:Nat) (T:Nat→Prop) (N bb d p:Nat) (w:World) (v:Value) (ms:List Rw) (ns:List Nd) (l:List Tr) (i:Nat) (vl v':Value) (ms':List Rw) (W:World):Prop where
 bench:Bx B T N bb W v' (ns++qu d (layF d) p ns.length (l.take i)) ms'
 st:zc N bb w W v v' ms ms'
 row:qZ w.heap.size W vl (qk d ns.length (l.take i))
 free:∀ b,vl.ownBlock=some b→¬ Tch N v' ms' b
theorem qcb {d p:Nat}{l:List Tr}{i:Nat}{t:Tr}(ht:l[i]?=some t)(a:Nat):qu d (layF d) p a (l.take (i+1))=qu d (layF d) p a (l.take i)++layF d t p (a+cnt (d+1) (l.take i))∧qk d a (l.take (i+1))=qk d a (l.take i)++[((a+cnt (d+1) (l.take i):Nat):Int)]:=by
 have hs:l.take (i+1)=l.take i++[t]:=by
  rw[List.take_succ_eq_append_getElem (qj ht)]
  congr 2
  rw[List.getElem?_eq_getElem (qj ht)]at ht
  exact Option.some.inj ht
 rw[hs,jC,yP];simp[qu,qk]
theorem ZC {d p:Nat}{a:Nat}(ks:List Tr)(hd:∀ k∈ks,Deep d k.kids):(qu d (layF d) p a ks).length=cnt (d+1) ks:=by
 induction ks generalizing a with
 | nil=>rfl
 | cons k ks ih=>rw[qu,List.length_append,layF_length d k _ _ (hd k List.mem_cons_self),ih (fun u hu=>hd u (List.mem_cons_of_mem _ hu)),zj d k ks]
theorem PS.step {B:Nat}{T:Nat→Prop}{N bb d p:Nat}{w:World}{v:Value}{ms:List Rw}{ns:List Nd}{l:List Tr}{i:Nat}{vl v':Value}{ms':List Rw}{W W1 W2 W3:World}{v2 v3:Value}{ms2:List Rw}{t:Tr}(h:PS B T N bb d p w v ms ns l i vl v' ms' W)(ht:l[i]?=some t)(hd:∀ k∈l,Deep d k.kids)
 (h1:Below W.heap.size W W1) (hX2:Bx B T N bb W2 v2 ((ns++qu d (layF d) p ns.length (l.take i))++layF d t p (ns++qu d (layF d) p ns.length (l.take i)).length) ms2) (hS2:zc N bb W1 W2 v' v2 ms' ms2) (hBw:B≤w.heap.size)
 (hown:W3.ownsRow w.heap.size 3 1 v3 (i+1) (qr (qk d ns.length (l.take i))++[.int .i64 ((ns++qu d (layF d) p ns.length (l.take i)).length:Int)])) (W2':World) (hb2:Below W2.heap.size W2 W2') (hg:W2'.grownBy W3 vl.ownBlock) (hat:v3.ownBlock=vl.ownBlock∨v3.ownBlock=some W2'.heap.size) :
 PS B T N bb d p w v ms ns l (i+1) v3 v2 ms2 W3:=by
 have hlen:(ns++qu d (layF d) p ns.length (l.take i)).length=ns.length+cnt (d+1) (l.take i):=by
  rw[List.length_append,ZC (l.take i) (fun k hk=>hd k (List.mem_of_mem_take hk))]
 obtain ⟨e1,e2⟩:=qcb (d:=d) (p:=p) ht ns.length;rw[hlen]at hX2 hown
 have hs0:=h.st.below.size;have hs1:=h1.size;have hs2:=hS2.below.size;have hs3:=hb2.size;have hs4:=hg.size;have hX1:=h.bench.later h1
 have notT2:∀ b,vl.ownBlock=some b→¬ Tch N v2 ms2 b:=fun b hb ht=>by
  rcases hS2.new b ht with h'|h'
  · exact h.free b hb h'
  · have:=(qZ.lt h.row b hb).2;omega
 have hX2':=hX2.later hb2;have hbbl:bb<W2'.heap.size:=by have:=qh hX2.1;omega
 have hX3:Bx B T N bb W3 v2 ((ns++qu d (layF d) p ns.length (l.take i))++layF d t p (ns.length+cnt (d+1) (l.take i))) ms2:=by
  have hvb:vl.ownBlock≠some bb:=fun e=>zL (qi (qZ.later h.row h1) e) (B':=0) (w:=W1) ⟨nZ9 _,_,_,hX1.1⟩ (by decide) rfl
  refine ⟨by rw[hg.block bb hbbl (fun e=>hvb e.symm)];exact hX2'.1,hX2.2.1,hX2'.2.2.keepT hg.size (fun b hb=>hg.block b (Nat.lt_of_lt_of_le hb hX2'.2.2.le) (fun e=>?_)) (fun b ht=>hg.block b (Tch.lt hX2'.2.2 ht).2 (fun e=>notT2 b e.symm ht))⟩
  have hx:=(qZ.lt h.row b e.symm).1;omega
 refine ⟨?_,?_,?_,?_⟩
 · rw[e1,←List.append_assoc];exact hX3
 · have hst := h.st.trans (zc.before h1 hS2);refine ⟨hst.below.trans (((hb2.mono (nZ9 _)).grown hg (nZ9 _) (fun _ _=>nZ9 _))),fun b hb hne hT=>?_,hst.new⟩
   have hb3:b<W2.heap.size:=by omega
   rw[hg.block b (by omega) (fun e=>by have:=(qZ.lt h.row b e.symm).1;omega),hb2.block b hb3]
   exact hst.keep b hb hne hT
 · unfold qZ;rw[e2,zy,List.length_append,jz,List.length_take,Nat.min_eq_left (by have:=qj ht;omega)]
   exact hown
 · intro b hb hT
   rcases hat with e|e
   · exact notT2 b (e ▸ hb) hT
   · rw[e]at hb
     injection hb with hb
     have:=(Tch.lt hX2.2.2 hT).2;omega
theorem qau {d p:Nat}{l:List Tr}(a i:Nat)(hd:∀ k∈l,Deep d k.kids):(qu d (layF d) p a (l.take i)).length≤cnt (d+1) l∧∀ t,l[i]?=some t→(qu d (layF d) p a (l.take i)).length+cnt (d+1) [t]≤cnt (d+1) l:=by
 have h1:=ZC (d:=d) (p:=p) (a:=a) (l.take i) (fun k hk=>hd k (List.mem_of_mem_take hk))
 have h2:cnt (d+1) l=cnt (d+1) (l.take i)+cnt (d+1) (l.drop i):=by rw[←zd,List.take_append_drop]
 refine ⟨by omega,fun t ht=>?_⟩
 have h3:l.drop i=t::l.drop (i+1):=by
  rw[←List.getElem_cons_drop (qj ht)];rw[List.getElem?_eq_getElem (qj ht)]at ht
  rw[Option.some.inj ht]
 rw[h3,zj d t]at h2
 omega
theorem qaD {l:List Nd}{n:Nat}{x:Nd}(f:Nd→Nd)(h:l[n]?=some x):l.modify n f=l.set n (f x):=by
 refine List.ext_getElem? (fun i=>?_)
 rw[List.getElem?_modify,List.getElem?_set]
 by_cases hi:n=i
 · subst hi;have e:l[n]'(qj h)=x:=by have:=h;rw[List.getElem?_eq_getElem (qj h)]at this;exact Option.some.inj this
   simp[qj h,e]
 · simp[hi]
set_option maxHeartbeats 2000000 in
theorem qcx (B:Nat)(T:Nat→Prop)(N bb d p k:Nat)(v vl:Value)(ns:List Nd)(ms:List Rw)(y:Nd)(l:List Tr)(w:World)(hX:Bx B T N bb w v ns ms)(hy:ns[p]?=some y)(hl:qb T w (d+1) vl l)(hk:k≤y.kids.length)(hN:N≤ns.length)(hc:ns.length+cnt (d+1) l≤1048576)(hkb:y.kids.length≤1048576) :
 Calls Tryz.prog 193 #[.pointer (some ⟨bb,0,none⟩),.int .i64 (p:Int),.int .i64 (k:Int),vl] w fun e w'=>e=.returned (.tuple #[])∧Did B T N bb w w' v ms (xV d ns p k l):=by
 have hdeep:∀ t∈l,Deep d t.kids:=qb.deep (d+1) hl;have HDP:Hid _:=hdeep;have HX:Hid (Bx B T N bb w v ns ms):=hX;have HTL:Hid (qb T w (d+1) vl l):=hl;obtain ⟨a,cap,rfl,hlc,hcm,h4⟩:=hl;have hpl:p<ns.length:=qj hy;have hlen:l.length≤cnt (d+1) l:=Deep.len hdeep;have hBw:B≤w.heap.size:=hX.2.2.le;have HLB:Hid _:=fun i=>qau (d:=d) (p:=p) (l:=l) ns.length i hdeep
 unfold maxLen at hcm
 clear hX hdeep;obtain ⟨i0,hi0,hz0,hz1,hz2⟩:=info_parts intInfoR
 go_enter Tryz.func193,Tryz.ntmps193
 go_wp2_with fail
 go_loopg [14,8] l.length (fun g vi vr wr=>∃ (i:Nat) (v':Value) (ms':List Rw),i+g=l.length∧vi=.int .i64 (i:Int)∧PS B T N bb d p w v ms ns l i vr v' ms' wr)
 case atStart =>
  refine ⟨0,v,ms,by omega,rfl,?_,zc.refl _ _ _ _ _,?_,?_⟩
  · simpa[qu] using HX.out
  · exact qZ.nil _ _
  · intro b hb;cases hb
 case round =>
  obtain ⟨i,v',ms',hig,rfl,hP⟩:=hrel;have HP:Hid _:=hP
  by_cases hlt:i<l.length
  · have hlti : (i : Int) < (l.length : Int) := by omega
    obtain ⟨t,ht⟩:∃ t,l[i]?=some t:=⟨l[i],by simp[hlt]⟩
    have hTr:qb T wr (d+1) (.slice a l.length cap) l:=qb.carry (fun b hb=>⟨hb,HP.out.st.low HX.out.2.2 HX.out.2.1 b (HX.out.2.2.low b hb)⟩) (d+1) HTL.out
    obtain ⟨_,_,hsl,_,_,h5⟩:=hTr
    injection hsl with hsl _ hsc
    subst hsl hsc;obtain ⟨b,o,rfl,hTb,hcc⟩:=h5 (by intro e;subst e;simp at hlt)
    obtain ⟨va,vk,c0,c1,c2,c3,hat,hkt⟩:=hcc i t ht;obtain ⟨aa,ac,rfl⟩:=hat.shape;obtain ⟨ka,kc,rfl,_,_⟩:=qb.shape d hkt;obtain ⟨L,hL⟩:∃ L,L=ns++qu d (layF d) p ns.length (l.take i):=⟨_,rfl⟩;have hLl:L.length=ns.length+(qu d (layF d) p ns.length (l.take i)).length:=by rw[hL,List.length_append]
    have hLb:=(HLB.out i).2 t ht;have hbx:Bx B T N bb wr v' L ms':=by rw[hL];exact HP.out.bench
    have hbu:L.length+cnt (d+1) [t]≤1048576:=by omega
    have hNL:N≤L.length:=by omega
    have HLY:Hid (∀ W,Below wr.heap.size wr W→Calls Tryz.prog 195 #[.pointer (some ⟨bb,0,none⟩),.agg #[.bool t.text,.string t.s,.slice aa t.attrs.length ac,.slice ka t.kids.length kc],.int .i64 (p:Int)] W fun e w'=>e=.returned (.int .i64 (L.length:Int))∧∃ v2 ms2,Bx B T N bb w' v2 (L++layF d t p L.length) ms2∧zc N bb W w' v' v2 ms' ms2):=fun W h =>
     blay_any d B T N bb _ _ t p v' L ms' W (hat.later h) (qb.later h d hkt) (hbx.later h) hNL hbu
    have hbal:Below wr.heap.size wr (wr.alloc (.cells #[.bool t.text,.string t.s,.slice aa t.attrs.length ac,.slice ka t.kids.length kc] 79)):=Below.alloc1 wr _;have hil:i≤1048576:=by omega
    have HRW:Hid (∀ W w2 v2 ms2,Below wr.heap.size wr W→zc N bb W w2 v' v2 ms' ms2→w2.ownsRow w.heap.size 3 1 u8 i (qr (qk d ns.length (l.take i)))):=by
     intro W w2 v2 ms2 h1 h2;have hr:=HP.out.row;have hsl:(qk d ns.length (l.take i)).length=i:=by rw[jz,List.length_take,Nat.min_eq_left (by omega)]
     unfold qZ at hr
     rw[hsl]at hr
     refine qn (qq hr h1) (fun x hx=>?_)
     have hlt:=(qZ.lt HP.out.row x hx).2;refine h2.keep x (by have:=h1.size;omega) (fun e=>?_) (HP.out.free x hx)
     subst e;exact zL (qi HP.out.row hx) (B':=0) (w:=wr) ⟨nZ9 _,_,_,hbx.1⟩ (by decide) rfl
    have hsw:w.heap.size≤wr.heap.size:=HP.out.st.below.size
    have HPS:Hid (∀ W1 W2 W3 v2 v3 ms2 W2',Below wr.heap.size wr W1→Bx B T N bb W2 v2 (L++layF d t p L.length) ms2→zc N bb W1 W2 v' v2 ms' ms2→W3.ownsRow w.heap.size 3 1 v3 (i+1) (qr (qk d ns.length (l.take i))++[.int .i64 (L.length:Int)])→Below W2.heap.size W2 W2'→W2'.grownBy W3 u8.ownBlock→(v3.ownBlock=u8.ownBlock∨v3.ownBlock=some W2'.heap.size)→PS B T N bb d p w v ms ns l (i+1) v3 v2 ms2 W3):=by
     intro W1 W2 W3 v2 v3 ms2 W2' g1 g2 g3 g4 g5 g6 g7;rw[hL]at g2 g4
     exact HP.out.step ht HDP.out g1 g2 g3 hBw g4 W2' g5 g6 g7
    clear hL hLl hLb hbx hcc h4 h5 hat hkt hP ht HLB;go_wp2_with fail;refine (Calls.mono (HLY.out _ hbal) ?_);rintro e w2 ⟨rfl,v2,ms2,hX2,hS2⟩;have hs2:=hS2.below.size;have hs1:=hbal.size;have HR2:Hid _:=HRW.out _ w2 v2 ms2 hbal hS2
    have HPX:Hid (∀ W3 v3,W3.ownsRow w.heap.size 3 1 v3 (i+1) (qr (qk d ns.length (l.take i))++[.int .i64 (L.length:Int)])→(w2.alloc (.cells #[.int .i64 (L.length:Int)] 3)).grownBy W3 u8.ownBlock→(v3.ownBlock=u8.ownBlock∨v3.ownBlock=some (w2.alloc (.cells #[.int .i64 (L.length:Int)] 3)).heap.size)→PS B T N bb d p w v ms ns l (i+1) v3 v2 ms2 W3):=fun W3 v3 g1 g2 g3 =>
     HPS.out _ w2 W3 v2 v3 ms2 _ hbal hX2 hS2 g1 (Below.alloc1 w2 _) g2 g3
    have hwle:w.heap.size≤(w2.alloc (.cells #[.int .i64 (L.length:Int)] 3)).heap.size:=by simp;omega
    clear hX2 hS2 HPS HRW HLY;go_wp2_with (at_builtin;refine wpList_append_own_at _ rfl _ _ 88 rfl w.heap.size 3 i0 _ 1 8 Tryz.underlying88 hi0 hz0 hz1 hz2 rfl (by decide) _ _ _ rfl (World.ownsRow.alloc HR2.out _) ⟨w2.heap.size,0,none⟩ 1 1 [.int .i64 (L.length:Int)] rfl rfl (Yw w2 _ _) (by simp[Value.oneCell']) (by unfold maxLen;omega) (by omega) hwle ?_)
    intro v3 w3 g1 g2 _ g4;have HN:Hid _:=HPX.out w3 v3 g1 g2 (by rw[World.size_alloc];exact g4)
    obtain ⟨a3,n3,c3',rfl⟩:=qQ g1;clear g1 g2 g4 HPX;go_wp2_with fail
    go_roundg (l.length-(i+1))
    case measure => omega
    case rel => exact ⟨i+1,v2,ms2,by omega,by go_num,HN.out⟩
  · have hlti : ¬ (i : Int) < (l.length : Int) := by omega
    have hieq:i=l.length:=by omega
    subst hieq;have htl:l.take l.length=l:=List.take_length;have hb0:=HP.out.bench;have hr0:=HP.out.row;rw[htl]at hb0 hr0
    obtain ⟨L,hL⟩:∃ L,L=ns++qu d (layF d) p ns.length l:=⟨_,rfl⟩;rw[←hL]at hb0
    have hLy:L[p]?=some y:=by rw[hL,List.getElem?_append_left hpl];exact hy
    obtain ⟨r,hr,hR⟩:=hb0.2.2.get hLy;obtain ⟨g,cap2,rfl,_,hcm2,hgB,hgl,_,_,_,_,m4,hfz⟩:=hb0.2.2.at hr
    have hLb:=(HLB.out l.length).1;rw[htl]at hLb
    have hLl:L.length=ns.length+(qu d (layF d) p ns.length l).length:=by rw[hL,List.length_append]
    have hpL:(p:Int)<(L.length:Int):=by omega
    have hsl:(qk d ns.length l).length=l.length:=jz d l _;have HI:Hid _:=qap B w.heap.size r.vk u8 y.kids (qk d ns.length l) k wr hR.kids hr0 hk hkb (by omega) hb0.2.2.le (fun b hb hu=>HP.out.free b hu (Or.inr ⟨p,r,hr,Or.inl hb⟩))
    have hgq:r.vk.ownBlock≠some g:=fun e=>zL (qi hR.kids e) (qi hb0.2.2.row rfl) (by decide) rfl
    have hput:xV d ns p k l=L.set p { y with kids:=y.kids.take k++(qk d ns.length l++y.kids.drop k) }:=by
     unfold xV;rw[←hL];exact qaD (fun y=>{ y with kids:=y.kids.take k++(qk d ns.length l++y.kids.drop k) }) hLy
    have HD:Hid (∀ (w6:World) (v6:Value),qZ B w6 v6 (y.kids.take k++(qk d ns.length l++y.kids.drop k))→(∀ b,v6.ownBlock=some b→r.vk.ownBlock=some b∨wr.heap.size≤b)→Below 0 wr w6→(∀ b,b<wr.heap.size→r.vk.ownBlock≠some b→w6.heap[b]?=wr.heap[b]?) →
     Did B T N bb w (w6.setCell ⟨g,p*5+4,none⟩ v6) v ms (xV d ns p k l)∧(∃ u,w6.cell? ⟨g,p*5+4,none⟩=some u)∧w6.frozen? ⟨g,p*5+4,none⟩=false):=by
     intro w6 v6 g1 g2 g3 g4;obtain ⟨p1,p2⟩:=qfS hb0 hr hLy g1 g3 g4 g2;have hg6:w6.heap[g]?=wr.heap[g]?:=g4 g hgl hgq;rw[hput];exact ⟨⟨_,_,p1,HP.out.st.trans p2⟩,⟨_,(World.cell?_of_block (a:=⟨g,p*5+4,none⟩) hg6).trans m4⟩,by have:=hfz (p*5+4);simpa[World.frozen?,hg6] using this⟩
    have b0:wr.cell? ⟨bb,0,none⟩=some (.slice (some ⟨g,0,none⟩) L.length cap2):=by rw[cH9 hb0.1];rfl
    obtain ⟨ka,kc,hvk,_,_⟩:=hR.kids.shape;obtain ⟨ua,uc,hu8,_,_⟩:=hr0.shape;rw[hsl]at hu8
    subst hu8;rw[hvk]at m4 HI HD
    unfold maxLen at hcm2
    clear hP HP hb0 hr0 hLy hr hR hput htl HLB hL hLl hLb HX HTL h4 hy HDP hfz hgq hvk hsl;go_wp2_with fail;refine (Calls.mono HI.out ?_);rintro e w6 ⟨v6,rfl,g1,g2,g3,g4⟩;obtain ⟨hDD,⟨u6,z6⟩,f6⟩:=HD.out w6 v6 g1 g2 g3 g4;have HDX:Hid _:=hDD;obtain ⟨a6,c6,rfl,_,_⟩:=g1.shape;clear hDD g1 g2 g3 g4 HD HI
    generalize (y.kids.take k++(qk d ns.length l++y.kids.drop k)).length=m6 at *
    go_wp2_with fail
    go_returns
    exact ⟨rfl,HDX.out⟩
end
section
attribute [local go_sem] qd
theorem Did.before {B:Nat}{T:Nat→Prop}{N bb:Nat}{w w' w'':World}{v:Value}{ms:List Rw}{ns:List Nd}(hb:Below w.heap.size w w')(h:Did B T N bb w' w'' v ms ns):Did B T N bb w w'' v ms ns:=by
 obtain ⟨v',ms',h1,h2⟩:=h;exact ⟨v',ms',h1,zc.before hb h2⟩
set_option linter.unusedSimpArgs false in
set_option maxHeartbeats 1000000 in
theorem VC (B:Nat)(T:Nat→Prop)(N bb d n:Nat)(v:Value)(ns:List Nd)(ms:List Rw)(x:Nd)(o:Opn)(ca:Option Addr)(cc:Nat)(w:World)(hX:Bx B T N bb w v ns ms)(ho:o.target=(n:Int))(hx:ns[n]?=some x)(hl:qb T w (d+1) (.slice ca o.content.length cc) o.content)(hN:N≤ns.length)(hc:ns.length+cnt (d+1) o.content≤1048576)(hkb:x.kids.length≤1048576) :
 Calls Tryz.prog 153 #[.pointer (some ⟨bb,0,none⟩),.agg #[.int .i64 o.kind,.int .i64 o.target,.slice ca o.content.length cc,.string o.name,.string o.s]] w fun e w'=>e=.returned (.tuple #[])∧Did B T N bb w w' v ms (xV d ns n x.kids.length o.content):=by
 obtain ⟨kd,tg,ct,nm,s⟩:=o;simp only at ho
 subst ho;obtain ⟨W0,hW0⟩:∃ W0,W0=(w.alloc (.cells #[.int .i64 kd,.int .i64 (n:Int),.slice ca ct.length cc,.string nm,.string s] 24)).drew:=⟨_,rfl⟩;have hb:Below w.heap.size w W0:=by rw[hW0];exact (Below.alloc1 w _).drew
 have hox:W0.heap[w.heap.size]?=some (.cells #[.int .i64 kd,.int .i64 (n:Int),.slice ca ct.length cc,.string nm,.string s] 24 (0,0)):=by rw[hW0];exact heap_alloc_new _ _
 have hX0:Bx B T N bb W0 v ns ms:=hX.later hb;have HP:Hid _:=qcx B T N bb d n x.kids.length v _ ns ms x ct W0 hX0 hx (qb.later hb (d+1) hl) (nR9 _) hN hc hkb;obtain ⟨r,hr,hR⟩:=hX0.2.2.get hx;obtain ⟨g,cap,rfl,hcl,hcm,hgB,hgl,_,_,_,_,m4,_⟩:=hX0.2.2.at hr
 have hnl:n<ns.length:=qj hx;have hni:(n:Int)<(ns.length:Int):=by omega
 obtain ⟨ka,kc,hvk,_,_⟩:=hR.kids.shape;rw[hvk]at m4
 have b0:W0.cell? ⟨bb,0,none⟩=some (.slice (some ⟨g,0,none⟩) ns.length cap):=by rw[cH9 hX0.1];rfl
 have HS:Hid (∀ W:World,W.heap[w.heap.size]?=W0.heap[w.heap.size]?→W.cell? ⟨w.heap.size,1,none⟩=some (.int .i64 (n:Int))∧W.cell? ⟨w.heap.size,2,none⟩=some (.slice ca ct.length cc)):=fun W e=>by
  rw[hox]at e
  exact ⟨by rw[cH9 e];rfl,by rw[cH9 e];rfl⟩
 have HS1:Hid _:=HS.out W0 rfl
 have HSK:Hid (∀ w1,Did B T N bb W0 w1 (.slice (some ⟨g,0,none⟩) ns.length cap) ms (xV d ns n x.kids.length ct)→W0.cell? ⟨w.heap.size,1,none⟩=some (.int .i64 (n:Int))→w1.cell? ⟨w.heap.size,1,none⟩=some (.int .i64 (n:Int))∧w1.cell? ⟨w.heap.size,2,none⟩=some (.slice ca ct.length cc)):=by
  rintro w1 ⟨v',ms',_,hst⟩ _;refine HS.out w1 (hst.keep _ (qh hox) (fun e=>?_) (Tch.not hX0.2.2 hox (by decide) (by decide) (by decide)))
  have h0:=hX0.1;rw[←e,hox]at h0
  injection h0 with h0
  injection h0 with _ h0 _
  exact absurd h0 (by decide)
 unfold maxLen at hcm
 clear hX hX0 hl hx hr hR hvk hox HS
 go_enter Tryz.func153,Tryz.ntmps153
 go_wp2_with fail;refine wp_region_held_drew (S:=(fun W:World=>W.cell? ⟨w.heap.size,1,none⟩=some (.int .i64 (n:Int))∧W.cell? ⟨w.heap.size,2,none⟩=some (.slice ca ct.length cc))) (by kernel_rfl) (by rw[←hW0];exact HS1.out) (fun hHeld=>?_)
 rw[←hW0];clear hW0;refine wqi [0,1,2,3,4,5,7,8,13,14] ?_
 repeat (refine wqt (v:=?_) rfl (by kernel_rfl) (fun _ _ _ h=>h) (by rfl) (by assumption) ?_ ?_;rotate_left;(· (intro w hSw;(try dsimp only at hSw);go_simp;try with_reducible rfl));try simp only[Act.put,List.getElem_toArray,List.getElem_cons_succ,List.getElem_cons_zero,List.setIfInBounds_toArray,List.set_cons_zero,List.set_cons_succ])
 refine wqn ?_;refine wpAnyH_ready (rs:=[6]) (by kernel_rfl) (by simp) ?_
 refine AllReadyH.cons rfl (fun K hK=>?_) AllReadyH.nil
 go_simp;refine hK.out _ _ HS1.out (fun hHeld=>?_)
 clear hK K
 try simp only[Act.put,List.setIfInBounds_toArray,List.set_cons_zero,List.set_cons_succ]
 refine wqi [9,10] ?_
 repeat (refine wqt (v:=?_) rfl (by kernel_rfl) (fun _ _ _ h=>h) (by rfl) (by assumption) ?_ ?_;rotate_left;(· (intro w hSw;(try dsimp only at hSw);go_simp;try with_reducible rfl));try simp only[Act.put,List.getElem_toArray,List.getElem_cons_succ,List.getElem_cons_zero,List.setIfInBounds_toArray,List.set_cons_zero,List.set_cons_succ])
 refine wqn ?_;refine wpAnyH_ready (rs:=[11]) (by kernel_rfl) (by simp) ?_
 refine AllReadyH.cons rfl (fun K hK=>?_) AllReadyH.nil
 go_simp;refine hK.out _ _ HS1.out (fun hHeld=>?_)
 clear hK K
 try simp only[Act.put,List.setIfInBounds_toArray,List.set_cons_zero,List.set_cons_succ]
 refine wpAnyH_take (i:=12) (v:=?_) rfl (by kernel_rfl) (by kernel_rfl) (by kernel_rfl) (fun _ _ _ h=>h) (Or.inl ⟨by rfl,?_⟩) (by assumption) ?_
 rotate_left
 · (intro w hSw;(try dsimp only at hSw);go_simp;try with_reducible rfl)
 try simp only[Act.put,List.getElem_toArray,List.getElem_cons_succ,List.getElem_cons_zero,List.setIfInBounds_toArray,List.set_cons_zero,List.set_cons_succ]
 refine wpAnyH_ready (rs:=[15]) (by kernel_rfl) (by simp) ?_
 refine AllReadyH.cons rfl (fun K hK=>?_) AllReadyH.nil
 refine yT (by rfl) 193 #[.pointer (some ⟨bb,0,none⟩),.int .i64 (n:Int),.int .i64 (x.kids.length:Int),.slice ca ct.length cc] (by go_simp) (fun r w'=>r=.tuple #[]∧Did B T N bb W0 w' (.slice (some ⟨g,0,none⟩) ns.length cap) ms (xV d ns n x.kids.length ct)) (Calls.mono HP.out (by rintro e w' ⟨rfl,h⟩;exact ⟨_,rfl,rfl,h⟩)) ?_
 rintro r w1 ⟨rfl,hD⟩;have HS6:Hid _:=HSK.out w1 hD HS1.out.1;have HD:Hid _:=Did.before hb hD;clear hD;refine hK.out _ _ HS6.out (fun hHeld=>?_)
 clear hK K
 try simp only[Act.put,List.setIfInBounds_toArray,List.set_cons_zero,List.set_cons_succ]
 refine wpAnyH_done (by kernel_rfl) ?_ _
 go_wp2_with fail
 go_returns
 exact ⟨rfl,HD.out⟩
end
end Go.Proofs.YtfplhcicbbhljaaGreatDoor
