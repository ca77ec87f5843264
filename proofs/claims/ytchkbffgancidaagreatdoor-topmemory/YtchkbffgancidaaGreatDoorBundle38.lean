/- Bundled: ApplyW FineW FullW. What each says stands ahead of it. -/
import Derived.Test.YtchkbffgancidaaGreatDoorBundle35
import Derived.Test.YtchkbffgancidaaGreatDoorBundle37
namespace Go.Proofs.YtchkbffgancidaaGreatDoor
open Go.ChangeShapes Go.WideShapes Go.ChangeAt Go.RowKit
set_option maxRecDepth 100000
section
attribute [local go_sem] qd
theorem qa.narrow {S:Nat→Prop}{w:World}:∀ (m n:Nat){v:Value}{ts:List Tr},qa S w n v ts→Deep m ts→qa S w m v ts:=by
 intro m
 induction m with
 | zero =>
   intro n v ts h hd;have e:ts=[]:=hd;subst e;obtain ⟨a,c,hv,h1,h2⟩:=qa.shape n h;exact ⟨rfl,⟨a,c,hv,h2⟩⟩
 | succ m ih =>
   intro n v ts h hd
   by_cases hne:ts=[]
   · subst hne;obtain ⟨a,c,hv,h1,h2⟩:=qa.shape n h;exact ⟨a,c,hv,h1,h2,fun e=>absurd rfl e⟩
   · cases n with
     | zero=>exact absurd h.1 hne
     | succ n =>
       obtain ⟨a,cap,h1,h2,h3,h4⟩:=h;refine ⟨a,cap,h1,h2,h3,fun _=>?_⟩
       obtain ⟨b,o,ha,hs,hc⟩:=h4 hne;refine ⟨b,o,ha,hs,fun i t ht=>?_⟩
       obtain ⟨va,vk,c0,c1,c2,c3,c4,c5⟩:=hc i t ht;exact ⟨va,vk,c0,c1,c2,c3,c4,ih n c5 (hd t (List.mem_of_getElem? ht))⟩
theorem Ops.narrow {S:Nat→Prop}{w:World}{n m:Nat}{v:Value}{l:List Opn}(h:Ops S w n v l)(hd:∀ o∈l,Deep m o.content):Ops S w m v l:=by
 obtain ⟨a,cap,h1,h2,h3,h4⟩:=h;refine ⟨a,cap,h1,h2,h3,fun hne=>?_⟩
 obtain ⟨b,o,ha,hs,hc⟩:=h4 hne;refine ⟨b,o,ha,hs,fun i x hx=>?_⟩
 obtain ⟨ca,cc,c0,c1,c2,c3,c4,c5⟩:=hc i x hx;exact ⟨ca,cc,c0,c1,c2,c3,c4,qa.narrow m n c5 (hd x (List.mem_of_getElem? hx))⟩
structure qc8 (ns:List Nd) (l:List Opn):Prop where
 small:Small (ns.length+9+1) [zz ns l]
 few:cnt (ns.length+9+1) [zz ns l]≤1048576
 texts:TextsN (ns.length+9+1) [zc ns l]
theorem Yh {ns:List Nd}{l:List Opn}(hg:qr ns=true):(zz ns l).text=false:=by
 obtain ⟨d,t,_,hl,_,_,ht,_,_⟩:=Qo hg;have h0:0<ns.length:=by rw[←hl,layF_length d t (-1) 0 (by assumption),qv];omega
 obtain ⟨x,hx⟩:∃ x,ns[0]?=some x:=⟨ns[0],by simp[h0]⟩
 unfold zz;obtain ⟨f,hf⟩:∃ f,ns.length=f+1:=⟨ns.length-1,by omega⟩
 rw[hf,bodyF,hx]
 show x.text=false
 have:ns[0]?=some ⟨t.text,t.s,t.attrs,-1,(layF d t (-1) 0)[0]?.elim [] (·.kids)⟩:=by
  rw[←hl];cases d<;>rfl
 rw[hx]at this
 rw[Option.some.inj this];exact ht
theorem j6.of9 {S:Nat→Prop}{w w1 w2:World}{v:Value}{l:List Opn}(h:Ops S w 9 v l)(hS:∀ b,S b→b<w.heap.size)(h1:Below w.heap.size w w1)(h2:Below w1.heap.size w1 w2):j6 (fun b=>b<w1.heap.size) (fun b=>b<w1.heap.size) w2 (8+1) v l :=
 Ops.row (((h.later h1).later h2).carry fun b hb=>⟨Nat.lt_of_lt_of_le (hS b hb) h1.size,rfl⟩)
structure AP (w:World) (v:Value) (W:World):Prop where
 below:Below w.heap.size w W
 box:W.heap[w.heap.size]?=some (.cells #[v] 29 (0,0))
 res:W.heap[w.heap.size+1]?=some (.cells #[.slice none 0 0] 29 (0,0))
theorem AP.later {w:World}{v:Value}{W W':World}{m:Nat}(h:AP w v W)(hb:Below m W W')(hm:w.heap.size+2≤m):AP w v W' :=
 ⟨h.below.trans (hb.mono (by omega)),(hb.block _ (by omega)).trans h.box,(hb.block _ (by omega)).trans h.res⟩
theorem AP.two {w:World}{v:Value}{W:World}(h:AP w v W):w.heap.size+2≤W.heap.size:=qe h.res
theorem qcB {S:Nat→Prop}{w:World}{n:Nat}{va vk:Value}{t:Tr}(hA:qj S w va t.attrs)(hK:qa S w n vk t.kids):qa (fun b=>b<w.heap.size+1) (w.alloc (.cells #[.bool t.text,.string t.s,va,vk] 51)) (n+1) (.slice (some ⟨w.heap.size,0,none⟩) 1 1) [t]:=by
 have hb:=Below.alloc1 w (.cells #[.bool t.text,.string t.s,va,vk] 51);have hh:=heap_alloc_new w (.cells #[.bool t.text,.string t.s,va,vk] 51);refine ⟨_,1,rfl,nR9 _,by decide,fun _=>⟨w.heap.size,0,rfl,Nat.lt_succ_self _,fun i u hu=>?_⟩⟩
 have hi:i=0:=by have:=qh hu;simp at this;exact this
 subst hi;simp at hu
 subst hu;refine ⟨va,vk,by rw[cH9 hh];rfl,by rw[cH9 hh];rfl,by rw[cH9 hh];rfl,by rw[cH9 hh];rfl,?_,?_⟩
 · exact (hA.later hb).bounded.carry fun b hb'=>⟨by have:=hb'.2;simpa using this,rfl⟩
 · exact qa.carry (fun b hb'=>⟨by have:=hb'.2;simpa using this,rfl⟩) n (qa.bounded n (qa.later hb n hK))
set_option maxHeartbeats 4000000 in
theorem qaK (S:Nat→Prop)(n:Nat)(vn vl:Value)(ns:List Nd)(l:List Opn)(w:World)(hN:qu S w vn ns)(hS:∀ b,S b→b<w.heap.size)(ha:∀ x∈ns,x.attrs.length≤4398046511104)(hx:j7 ns)(hO:Ops S w n vl l)(ht:QI n l)(hf:zi ns l=0→qc8 ns l) :
 Calls Tryz.prog 26 #[.agg #[vn],vl] w fun e w'=>∃ v',e=.returned (.tuple #[.agg #[v'],.int .i64 (yp ns l)])∧qu (fun b=>S b∨w.heap.size≤b) w' v' (yo ns l)∧Below w.heap.size w w':=by
 obtain ⟨na,nc,rfl,hnl,hnc⟩:=hN.shape;obtain ⟨la,lc,rfl,hll,hlc⟩:=hO.shape;have HCK:Hid (∀ W,Below w.heap.size w W→Calls Tryz.prog 39 #[.agg #[.slice na ns.length nc],.slice la l.length lc] W fun e w'=>e=.returned (.int .i64 (zi ns l))∧Below W.heap.size W w'):=fun W hW=>qaN S n _ _ ns l W (hN.later hW) (fun b hb=>Nat.lt_of_lt_of_le (hS b hb) hW.size) ha hx (hO.later hW) ht
 have HP0:Hid (AP w (.slice na ns.length nc) ((w.alloc (.cells #[.slice na ns.length nc] 29)).alloc (.cells #[.slice none 0 0] 29))):=by
  refine ⟨(Below.alloc1 w _).alloc (by simp) _,?_,?_⟩
  · rw[Lib.alloc_old _ _ _ (by simp)];exact heap_alloc_new _ _
  · have e := heap_alloc_new (w.alloc (.cells #[.slice na ns.length nc] 29)) (.cells #[.slice none 0 0] 29);rw[World.size_alloc]at e
    exact e
 have HN:Hid (qu S w (.slice na ns.length nc) ns):=hN;have HO:Hid (Ops S w n (.slice la l.length lc) l):=hO;have HS:Hid (∀ b,S b→b<w.heap.size):=hS;unfold maxLen at hnc hlc
 by_cases hc:zi ns l=0
 · obtain ⟨hg, hlen, hw, hpw⟩ := (jG _ _).1 hc;have hF:=hf hc;rw[hc]at HCK
   have hdeep:∀ o∈l,Deep 9 o.content:=fun o ho k hk=>(QB (hw o ho)).1.deep k hk
   have hb80:=jA hg
   have hne:ns≠[]:=by
    intro e;obtain ⟨d,t,hd,hl,_⟩:=Qo hg;have:=layF_length d t (-1) 0 hd;rw[hl,e,qv]at this
    simp at this
    omega
   have HNB:Hid (∀ W,Below w.heap.size w W→Calls Tryz.prog 40 #[.slice na ns.length nc] W fun e w'=>∃ bb v' ms',e=.returned (.pointer (some ⟨bb,0,none⟩))∧Bx W.heap.size (fun b=>b<W.heap.size) ns.length bb w' v' ns ms'∧Below W.heap.size W w'):=fun W hW=>XB _ ns W ((HN.out.later hW).bounded.carry fun b hb=>⟨hb.2,rfl⟩) hne (hb80.more (by omega))
   have HDA:Hid (∀ (B:Nat) (T:Nat→Prop) (bb:Nat) (v:Value) (ms:List Rw) (W:World),Bx B T ns.length bb W v ns ms→j6 T T W (8+1) (.slice la l.length lc) l→Calls Tryz.prog 41 #[.pointer (some ⟨bb,0,none⟩),.slice la l.length lc] W fun e w'=>e=.returned (.tuple #[])∧Did B T ns.length bb W w' v ms (QL 8 ns l)∧Bnd 20000 (QL 8 ns l)∧Bch ns (xu ns l) (QL 8 ns l)):=fun B T bb v ms W h1 h2=>qaS B T bb _ v l ns ms W h1 h2 hc
   have h0:0<ns.length:=List.length_pos_iff.2 hne
   have HGB:Hid (∀ ns',Bch ns (xu ns l) ns'→FitG (ns.length+9) ns' 0∧growF (ns.length+9) ns' 0=zz ns l):=by
    intro ns' hB;have h1:=qaZ hg hB ns.length ns'.length 0 h0 (by omega) (by omega)
    have h2:growF ns'.length ns' 0=zz ns l:=Vn hg hB ns.length ns'.length 0 h0 (by omega) (by omega)
    obtain ⟨h3,h4⟩:=fit_less (ns.length+8) ns'.length ns' 0 h1 (by rw[h2];exact (Yg hc).1)
    exact ⟨h3,h4.trans h2⟩
   have hroot:(zz ns l).text=false:=Yh hg
   have HJ:Hid ((jt [zz ns l]).map (jk (ns.length+9))=[zc ns l]):=by
    show _=_
    rw[Zd _ _ hroot];rfl
   have HD:Hid (yo ns l=(if qS (zc ns l) then layF (ns.length+9) (zc ns l) (-1) 0 else ns)∧yp ns l=(if qS (zc ns l) then 0 else 2)):=by
    show _∧_
    unfold yo yp;rw[if_pos hc,if_pos hc];exact ⟨rfl,rfl⟩
   obtain ⟨hF1,hF2,hF3⟩:=hF
   have HJN:Hid (∀ (S:Nat→Prop) (v:Value) (W:World),qa S W (ns.length+9+1) v [zz ns l]→(∀ b,S b→b<W.heap.size)→Calls Tryz.prog 42 #[v] W fun e w'=>∃ v',e=.returned v'∧qa (fun b=>W.heap.size≤b) w' (ns.length+9+1) v' [zc ns l]∧Below W.heap.size W w'):=by
    intro S v W h1 h2;have:=Vs S (ns.length+9) v [zz ns l] W h1 hF1 h2 hF2;rw[HJ.out]at this
    exact this
   have HMK:Hid (∀ (S:Nat→Prop) (va vk:Value) (W:World),qj S W va (zc ns l).attrs→qa S W (ns.length+9) vk (zc ns l).kids→(∀ b,S b→b<W.heap.size)→Calls Tryz.prog 10 #[.agg #[.bool (zc ns l).text,.string (zc ns l).s,va,vk]] W fun e w'=>∃ v,e=.returned (.tuple #[.agg #[v],.int .i64 (xO (zc ns l))])∧qu (fun b=>W.heap.size≤b) w' v (ym (ns.length+9) (zc ns l))∧Below W.heap.size W w'):=fun S va vk W h1 h2 h3=>YJ S (ns.length+9) va vk (zc ns l) W h1 h2 hF3 h3
   have HO9:Hid (Ops S w 9 (.slice la l.length lc) l):=HO.out.narrow hdeep
   generalize yo ns l=RD at HD ⊢
   generalize yp ns l=RE at HD ⊢
   generalize hJJ:zc ns l=J at HD HJN HMK
   generalize hTT:zz ns l=TT at HJN HGB
   clear hF1 hF2 hF3 HJ hf hJJ hTT hroot hN hO hS ha hx ht hw hpw hdeep hg
   go_enter Tryz.func26,Tryz.ntmps26
   go_wp2_with fail;refine (HCK.out _ HP0.out.below).mono ?_;rintro e w1 ⟨rfl,hb1⟩;have HP1:Hid _:=HP0.out.later hb1 HP0.out.two;have x1:w1.cell? ⟨w.heap.size,0,none⟩=some (.slice na ns.length nc):=by rw[cH9 HP1.out.box];rfl
   clear hb1 HP0 HCK;go_wp2_with fail;refine (HNB.out _ HP1.out.below).mono ?_;rintro e w2 ⟨bb,v2,ms2,rfl,hX2,hb2⟩;have HX2:Hid _:=hX2;have HP2:Hid _:=HP1.out.later hb2 HP1.out.two;have HB2:Hid _:=hb2;clear hX2 hb2 HNB x1;go_wp2_with fail;refine (HDA.out _ _ _ _ _ _ HX2.out (j6.of9 HO9.out HS.out HP1.out.below HB2.out)).mono ?_;rintro e w3 ⟨rfl,hD3,hB3,hH3⟩;have hb3:=hD3.below HX2.out;have HP3:Hid _:=HP2.out.later hb3 HP1.out.two;obtain ⟨v3,ms3,hX3,_⟩:=hD3;obtain ⟨hfit,hgrow⟩:=HGB.out _ hH3
   have HG4:Hid (Calls Tryz.prog 43 #[.pointer (some ⟨bb,0,none⟩),.int .i64 0] w3 fun e w'=>∃ va vk,e=.returned (.agg #[.bool TT.text,.string TT.s,va,vk])∧qj (fun b=>b<w3.heap.size∨w3.heap.size≤b) w' va TT.attrs∧qa (fun b=>b<w3.heap.size∨w3.heap.size≤b) w' (ns.length+9) vk TT.kids∧Below w3.heap.size w3 w'):=by
    have h:=Vd (ns.length+9) (fun b=>b<w3.heap.size) v3 (QL 8 ns l) 0 bb w3 hX3.2.2.nodes (fun _ h=>h) hX3.1 (hB3.more (by omega)) hfit
    rw[hgrow]at h
    exact h
   clear hb3 hX3 hfit hgrow hB3 hH3 HGB HDA HX2 HO9 HB2 HP2 HP1;go_wp2_with fail;refine Calls.mono HG4.out ?_;rintro e w4 ⟨va4,vk4,rfl,hA4,hK4,hb4⟩;obtain ⟨a4,c4,rfl⟩:=hA4.shape;obtain ⟨k4,d4,rfl,_,_⟩:=qa.shape _ hK4;have HP4:Hid _:=HP3.out.later hb4 HP3.out.two;have HT5:Hid _:=qcB hA4 hK4;have HP5:Hid _:=HP4.out.later (Below.alloc1 w4 (.cells #[.bool TT.text,.string TT.s,.slice a4 TT.attrs.length c4,.slice k4 TT.kids.length d4] 51)) HP4.out.two;clear hA4 hK4 hb4 HG4 HP3;go_wp2_with fail;refine (HJN.out _ _ _ HT5.out (fun b hb=>by simpa using hb)).mono ?_
   rintro e w6 ⟨v6,rfl,hT6,hb6⟩;have HP6:Hid _:=HP5.out.later hb6 HP5.out.two;obtain ⟨a6,c6,hv6,hl6,hm6,h6⟩:=hT6;obtain ⟨b6,o6,rfl,hs6,hc6⟩:=h6 (by simp)
   obtain ⟨va6,vk6,e0,e1,e2,e3,hA6,hK6⟩:=hc6 0 J rfl;obtain ⟨a7,c7,rfl⟩:=hA6.shape;obtain ⟨k7,d7,rfl,_,_⟩:=qa.shape _ hK6;simp only[Nat.zero_mul,Nat.add_zero,List.length_singleton]at e0 e1 e2 e3 hv6 hl6
   subst hv6;have HMK6:Hid _:=HMK.out _ _ _ w6 hA6.bounded (qa.bounded _ hK6) (fun b hb=>hb.2)
   clear hA6 hK6 hc6 h6 hs6 hb6 HMK HJN HT5 HP5 HP4;unfold maxLen at hm6
   go_wp2_with fail;refine Calls.mono HMK6.out ?_;rintro e w7 ⟨v7,rfl,hN7,hb7⟩;have HP7:Hid _:=HP6.out.later hb7 HP6.out.two;have HN7:Hid _:=hN7;have hz7:=HP7.out.two;have HZ6:Hid _:=HP6.out.two;obtain ⟨a8,c8,rfl,_,_⟩:=hN7.shape;clear hN7 hb7 HMK6 e0 e1 e2 e3;have x7:w7.cell? ⟨w.heap.size,0,none⟩=some (.slice na ns.length nc):=by rw[cH9 HP7.out.box];rfl
   have r7:w7.cell? ⟨w.heap.size+1,0,none⟩=some (.slice none 0 0):=by rw[cH9 HP7.out.res];rfl
   have f7:w7.frozen? ⟨w.heap.size+1,0,none⟩=false:=fH9 HP7.out.res 0;have HP8:Hid _:=HP7.out.later (Below.alloc1 w7 (.cells #[.slice a8 (ym (ns.length+9) J).length c8] 29)) HP7.out.two;have HN8:Hid _:=qu.later HN7.out (Below.alloc1 w7 (.cells #[.slice a8 (ym (ns.length+9) J).length c8] 29));have f8:(w7.alloc (.cells #[.slice a8 (ym (ns.length+9) J).length c8] 29)).frozen? ⟨w.heap.size+1,0,none⟩=false:=fH9 HP8.out.res 0;have r8:(w7.alloc (.cells #[.slice a8 (ym (ns.length+9) J).length c8] 29)).cell? ⟨w.heap.size+1,0,none⟩=some (.slice none 0 0):=by rw[cH9 HP8.out.res];rfl
   have x8:(w7.alloc (.cells #[.slice a8 (ym (ns.length+9) J).length c8] 29)).cell? ⟨w.heap.size,0,none⟩=some (.slice na ns.length nc):=by rw[cH9 HP8.out.box];rfl
   cases hgd:qS J with
   | true =>
     rw[show xO J=0 by unfold xO;rw[hgd];rfl]
     rw[hgd]at HD
     go_wp2_with fail;refine bodyPost_ret (v:=.tuple #[.agg #[.slice a8 (ym (ns.length+9) J).length c8],.int .i64 0]) (by simp[results,Tryz.results26,go_sem,qd,r8]) rfl ⟨.slice a8 (ym (ns.length+9) J).length c8,?_,?_,?_⟩
     · rw[HD.out.2];rfl
     · rw[HD.out.1];have:ym (ns.length+9) J=layF (ns.length+9) J (-1) 0:=by unfold ym;rw[hgd];rfl
       have h1:qu (fun b=>w6.heap.size≤b) _ _ _:=HN8.out
       rw[this]at h1
       rw[this];simp only[if_true];refine h1.carry fun b hb=>⟨Or.inr (by have:=HZ6.out;omega),?_⟩
       exact qb (by have:=HZ6.out;omega)
     · exact HP8.out.below.setCell (p:=⟨w.heap.size+1,0,none⟩) (by show w.heap.size≤w.heap.size+1;omega) _
   | false =>
     rw[show xO J=1 by unfold xO;rw[hgd];rfl]
     rw[hgd]at HD
     go_wp2_with fail;refine bodyPost_ret (v:=.tuple #[.agg #[.slice na ns.length nc],.int .i64 2]) (by simp[results,Tryz.results26,go_sem,qd,r8]) rfl ⟨.slice na ns.length nc,?_,?_,?_⟩
     · rw[HD.out.2];rfl
     · rw[HD.out.1];simp only[Bool.false_eq_true,if_false];refine (HN.out.later HP8.out.below).carry fun b hb=>⟨Or.inl hb,?_⟩
       exact qb (by have:=HS.out b hb;omega)
     · exact HP8.out.below.setCell (p:=⟨w.heap.size+1,0,none⟩) (by show w.heap.size≤w.heap.size+1;omega) _
 · have HR:Hid (yo ns l=ns∧yp ns l=zi ns l):=by
    show _∧_
    unfold yo yp;rw[if_neg hc,if_neg hc];exact ⟨rfl,rfl⟩
   generalize yo ns l=RD at HR ⊢
   generalize yp ns l=RE at HR ⊢
   obtain ⟨c,hcc⟩:∃ c,zi ns l=c:=⟨_,rfl⟩;rw[hcc]at HCK HR hc
   clear hf hN hO hS ha hx ht hcc
   go_enter Tryz.func26,Tryz.ntmps26
   go_wp2_with fail;refine (HCK.out _ HP0.out.below).mono ?_;rintro e w1 ⟨rfl,hb1⟩;have HP1:Hid _:=HP0.out.later hb1 HP0.out.two;have x1:w1.cell? ⟨w.heap.size,0,none⟩=some (.slice na ns.length nc):=by rw[cH9 HP1.out.box];rfl
   have r1:w1.cell? ⟨w.heap.size+1,0,none⟩=some (.slice none 0 0):=by rw[cH9 HP1.out.res];rfl
   have f1:w1.frozen? ⟨w.heap.size+1,0,none⟩=false:=fH9 HP1.out.res 0;clear hb1 HP0 HCK;go_wp2_with fail;refine bodyPost_ret (v:=.tuple #[.agg #[.slice na ns.length nc],.int .i64 c]) (by simp[results,Tryz.results26,go_sem,qd,r1]) rfl ⟨.slice na ns.length nc,?_,?_,?_⟩
   · rw[HR.out.2]
   · rw[HR.out.1];refine (HN.out.later HP1.out.below).carry fun b hb=>⟨Or.inl hb,?_⟩
     exact qb (by have:=HS.out b hb;omega)
   · exact HP1.out.below.setCell (p:=⟨w.heap.size+1,0,none⟩) (by show w.heap.size≤w.heap.size+1;omega) _
end
theorem Ops.deep {S:Nat→Prop}{w:World}{n:Nat}{v:Value}{l:List Opn}(h:Ops S w n v l):∀ o∈l,Deep n o.content:=by
 intro o ho;obtain ⟨i,hi⟩:=List.mem_iff_getElem?.1 ho;obtain ⟨a,cap,_,_,_,h4⟩:=h;obtain ⟨b,p,_,_,hc⟩:=h4 (by intro e;subst e;cases ho)
 obtain ⟨ca,cc,_,_,_,_,_,h5⟩:=hc i o hi;exact qa.deep n h5
theorem qdf {P Q R:Tr→Prop}(h:∀ t,P t→Q t→R t):∀ {n:Nat}{ts:List Tr},zy P n ts→zy Q n ts→zy R n ts:=by
 intro n
 induction n with
 | zero=>intro ts _ _;trivial
 | succ n ih=>intro ts h1 h2 t ht;exact ⟨h t (h1 t ht).1 (h2 t ht).1,ih (h1 t ht).2 (h2 t ht).2⟩
theorem texts_all':∀ (n:Nat)(ts:List Tr),TextsN n ts→zy Yd n ts:=by
 intro n
 induction n with
 | zero=>intro ts _;trivial
 | succ n ih=>intro ts h t ht;exact ⟨(h t ht).1,ih t.kids (h t ht).2⟩
theorem qdw {ns:List Nd}{l:List Opn}{n:Nat}(hc:zi ns l=0)(hT:qd3 ns+10*qd4 l≤1099511627776)(hx:j7 ns)(ht:QI n l)(hd:∀ o∈l,Deep n o.content):qc8 ns l:=by
 obtain ⟨hg,hlen,hw,_⟩:=(jG _ _).1 hc;have h1:∀ k,yK 1048576 (xu ns l k).attrs:=fun k=>(qbW (fun o ho=>(ht o ho).2) (fun x hm=>⟨((jA hg).2 x hm).2,(hx x hm).2⟩) k).more (by omega)
 have h2:∀ o∈l,∀ k,zy (fun t=>yK 1048576 t.attrs) k o.content:=by
  intro o ho;have h3:=X4 (Yr (XE (hw o ho)).deep) (XE (hw o ho)).att n;refine X4 (hd o ho) (qdf (fun t (p:t.attrs.length≤4) (q:Yd t)=>⟨by omega,q.2⟩) h3 (texts_all' n _ (ht o ho).1))
 have h4:=qb1 (P:=yK 1048576) (ns:=ns) ⟨nZ9 _,fun y hy=>by cases hy⟩ h1 (qbS h2) ns.length (ns.length+9+1) 0
 have hs:Small (ns.length+9+1) [zz ns l]:=small_of _ _ (Nat.le_trans (JD hc) (by omega)) (Nat.le_trans (qaL hc) hT) h4
 refine ⟨hs,Nat.le_trans (JD hc) (by omega),?_⟩
 have e:[zc ns l]=qd8 (ns.length+9) [zz ns l]:=by
  show _=(jt [zz ns l]).map (jk (ns.length+9))
  rw[Zd _ _ (Yh hg)];rfl
 have hj:Small (ns.length+9+1) [zc ns l]:=by rw[e];exact Vr hs
 refine texts_small _ _ hj ?_;intro t hm;rw[List.mem_singleton.1 hm];have h5:=h4 _ List.mem_cons_self;refine ⟨?_,qei _ _ _ h5.2⟩
 show yK 1048576 (jk (ns.length+9) (zz ns l)).attrs
 rw[Qd];exact h5.1
theorem Zm {s:ByteArray}(h:zo s=true):s.size≤40:=by
 simp only[zo,Bool.and_eq_true,decide_eq_true_eq]at h
 exact h.1
theorem Zi {s:ByteArray}(h:za s=true):s.size≤8:=by
 simp only[za,Bool.and_eq_true,decide_eq_true_eq]at h
 exact h.1.2
theorem QO {t:Tr}(h:qw t=true):t.s.size≤40:=by
 unfold qw at h
 split at h
 · simp only[Bool.and_eq_true]at h
   exact Zm h.1.1.2
 · simp only[Bool.and_eq_true]at h
   have:=Zi h.1;omega
theorem rgt_sizes:∀ {n:Nat}{ts:List Tr},(∀ N,rgt N ts=true)→zy (fun t=>t.s.size≤40) n ts:=by
 intro n
 induction n with
 | zero=>intro ts _;trivial
 | succ n ih =>
   intro ts h t ht;obtain ⟨h1,_⟩:=y9 _ _ (h (n+1)) t ht;refine ⟨QO h1,ih (fun N=>?_)⟩
   obtain ⟨h3,h4⟩:=y9 _ _ (h (N+1)) t ht;cases hx:t.text with
   | true=>rw[xr h3 hx];exact xM N
   | false=>rw[hx,Bool.false_or]at h4;exact h4
theorem sum_cnt:∀ {n:Nat}{ts:List Tr},zy (fun t=>t.s.size≤40) n ts→zm id n ts≤40*cnt n ts:=by
 intro n
 induction n with
 | zero=>intro ts _;exact nZ9 _
 | succ n ih =>
   intro ts;rw[←sumN_cnt]
   induction ts with
   | nil=>intro _;rw[zl];exact nZ9 _
   | cons t r ihr =>
     intro h;rw[zH,zH];have h1:=ihr (fun u hu=>h u (List.mem_cons_of_mem _ hu))
     have h2:=h t List.mem_cons_self;have h3:=ih h2.2;rw[←sumN_cnt]at h3
     have h4:=h2.1;simp only[id];omega
theorem Ke {l:List Tr}(h:qG l=true):zm id 9 l≤3200:=by
 have hd:Deep 8 l:=rb_deep 8 80 l (by simpa[qG] using h)
 have h2:=h;rw[jW hd]at h2
 simp only[Bool.and_eq_true,decide_eq_true_eq]at h2
 have h3:=sum_cnt (n:=9) (rgt_sizes (rgt_all hd h2.2));have h4:cnt 9 l≤80:=(ZT h).cnt;omega
theorem qeo {ns:List Nd}{o:Opn}(h:qP ns o=0):opW id o≤3300:=by
 obtain ⟨_,_,_,h1,h2,h3⟩:=QB h
 have a1:zm id 9 o.content≤3200:=by
  unfold yr at h1
  split at h1
  · exact Ke h1
  · have : o.content = [] := List.eq_nil_of_length_eq_zero (by simpa using h1)
    rw[this,zl];omega
 have a2:o.name.size≤8:=by
  unfold jm at h2
  split at h2
  · exact Zi h2
  · rw[of_decide_eq_true h2];exact nZ9 _
 have a3:o.s.size≤40:=by
  unfold jR at h3
  split at h3
  · exact Zm h3
  · rw[of_decide_eq_true h3];exact nZ9 _
 unfold opW;simp only[id];omega
theorem YC {ns:List Nd}(hg:qr ns=true):∀ x∈ns,x.s.size≤40:=by
 intro y hy;obtain ⟨n,hn⟩:=List.mem_iff_getElem?.1 hy;obtain ⟨d,T,u,fs,hz⟩:=Ya hg (qh hn);obtain ⟨x',hx',_,e2,_⟩:=hz.get;rw[hn]at hx'
 obtain rfl:=Option.some.inj hx';rw[e2];exact QO hz.right
theorem qaB {α:Type}(f:α→Nat)(m:Nat):∀ l:List α,(∀ x∈l,f x≤m)→(l.map f).sum≤m*l.length:=by
 intro l
 induction l with
 | nil=>intro _;exact nR9 _
 | cons x l ih =>
   intro h;rw[List.map_cons,List.sum_cons,List.length_cons,Nat.mul_succ];have h1:=h x List.mem_cons_self;have h2:=ih (fun y hy=>h y (List.mem_cons_of_mem _ hy))
   omega
theorem qaO {ns:List Nd}{l:List Opn}(h:zi ns l=0):qd3 ns+10*qd4 l≤1099511627776:=by
 obtain ⟨hg,hlen,hw,_⟩:=(jG _ _).1 h;have h1:qd3 ns≤40*ns.length:=qaB _ 40 ns (YC hg);have h2:qd4 l≤3300*l.length:=qaB _ 3300 l (fun o ho=>qeo (hw o ho))
 have h3:=Qb hg;omega
theorem qcb {ns:List Nd}{l:List Opn}{n:Nat}(hc:zi ns l=0)(hx:j7 ns)(ht:QI n l)(hd:∀ o∈l,Deep n o.content):qc8 ns l:=qdw hc (qaO hc) hx ht hd
theorem Xm (S:Nat→Prop)(n:Nat)(vn vl:Value)(ns:List Nd)(l:List Opn)(w:World)(hN:qu S w vn ns)(hS:∀ b,S b→b<w.heap.size)(ha:∀ x∈ns,x.attrs.length≤4398046511104)(hx:j7 ns)(hO:Ops S w n vl l)(ht:QI n l) :
 Calls Tryz.prog 26 #[.agg #[vn],vl] w fun e w'=>∃ v',e=.returned (.tuple #[.agg #[v'],.int .i64 (yp ns l)])∧qu (fun b=>S b∨w.heap.size≤b) w' v' (yo ns l)∧Below w.heap.size w w' :=
 qaK S n vn vl ns l w hN hS ha hx hO ht (fun hc=>qcb hc hx ht hO.deep)
end Go.Proofs.YtchkbffgancidaaGreatDoor
