/- Bundled: ApplyW FineW FullW ChgsK ChgsL. What each says stands ahead of it. -/
import Derived.Test.YtnppmdpmippcoaaGreatDoorBundle23
import Derived.Test.YtnppmdpmippcoaaGreatDoorBundle30
namespace Go.Proofs.YtnppmdpmippcoaaGreatDoor
open Go.ChangeShapes Go.WideShapes Go.ChangeAt Go.RowKit
set_option maxRecDepth 100000
section
attribute [local go_sem] qD
theorem qw.narrow {S:Nat→Prop}{w:World}:∀ (m n:Nat){v:Value}{ts:List Tr},qw S w n v ts→Deep m ts→qw S w m v ts:=by
 intro m
 induction m with
 | zero =>
   intro n v ts h hd;have e:ts=[]:=hd;subst e;obtain ⟨a,c,hv,h1,h2⟩:=qw.shape n h;exact ⟨rfl,⟨a,c,hv,h2⟩⟩
 | succ m ih =>
   intro n v ts h hd
   by_cases hne:ts=[]
   · subst hne;obtain ⟨a,c,hv,h1,h2⟩:=qw.shape n h;exact ⟨a,c,hv,h1,h2,fun e=>absurd rfl e⟩
   · cases n with
     | zero=>exact absurd h.1 hne
     | succ n =>
       obtain ⟨a,cap,h1,h2,h3,h4⟩:=h;refine ⟨a,cap,h1,h2,h3,fun _=>?_⟩
       obtain ⟨b,o,ha,hs,hc⟩:=h4 hne;refine ⟨b,o,ha,hs,fun i t ht=>?_⟩
       obtain ⟨va,vk,c0,c1,c2,c3,c4,c5⟩:=hc i t ht;exact ⟨va,vk,c0,c1,c2,c3,c4,ih n c5 (hd t (List.mem_of_getElem? ht))⟩
theorem Ops.narrow {S:Nat→Prop}{w:World}{n m:Nat}{v:Value}{l:List Opn}(h:Ops S w n v l)(hd:∀ o∈l,Deep m o.content):Ops S w m v l:=by
 obtain ⟨a,cap,h1,h2,h3,h4⟩:=h;refine ⟨a,cap,h1,h2,h3,fun hne=>?_⟩
 obtain ⟨b,o,ha,hs,hc⟩:=h4 hne;refine ⟨b,o,ha,hs,fun i x hx=>?_⟩
 obtain ⟨ca,cc,c0,c1,c2,c3,c4,c5⟩:=hc i x hx;exact ⟨ca,cc,c0,c1,c2,c3,c4,qw.narrow m n c5 (hd x (List.mem_of_getElem? hx))⟩
structure qaC (ns:List Nd) (l:List Opn):Prop where
 small:Small (ns.length+9+1) [zi ns l]
 few:cnt (ns.length+9+1) [zi ns l]≤1048576
 texts:TextsN (ns.length+9+1) [zd ns l]
theorem j5 {ns:List Nd}{l:List Opn}(hg:qM ns=true):(zi ns l).text=false:=by
 obtain ⟨d,t,_,hl,_,_,ht,_,_⟩:=xI hg;have h0:0<ns.length:=by rw[←hl,layF_length d t (-1) 0 (by assumption),qL];omega
 obtain ⟨x,hx⟩:∃ x,ns[0]?=some x:=⟨ns[0],by simp[h0]⟩
 unfold zi;obtain ⟨f,hf⟩:∃ f,ns.length=f+1:=⟨ns.length-1,by omega⟩
 rw[hf,bodyF,hx]
 show x.text=false
 have:ns[0]?=some ⟨t.text,t.s,t.attrs,-1,(layF d t (-1) 0)[0]?.elim [] (·.kids)⟩:=by
  rw[←hl];cases d<;>rfl
 rw[hx]at this
 rw[Option.some.inj this];exact ht
theorem jR.of9 {S:Nat→Prop}{w w1 w2:World}{v:Value}{l:List Opn}(h:Ops S w 9 v l)(hS:∀ b,S b→b<w.heap.size)(h1:Below w.heap.size w w1)(h2:Below w1.heap.size w1 w2):jR (fun b=>b<w1.heap.size) (fun b=>b<w1.heap.size) w2 (8+1) v l :=
 Ops.row (((h.later h1).later h2).carry fun b hb=>⟨Nat.lt_of_lt_of_le (hS b hb) h1.size,rfl⟩)
structure AP (w:World) (v:Value) (W:World):Prop where
 below:Below w.heap.size w W
 box:W.heap[w.heap.size]?=some (.cells #[v] 24 (0,0))
 res:W.heap[w.heap.size+1]?=some (.cells #[.slice none 0 0] 24 (0,0))
theorem AP.later {w:World}{v:Value}{W W':World}{m:Nat}(h:AP w v W)(hb:Below m W W')(hm:w.heap.size+2≤m):AP w v W' :=
 ⟨h.below.trans (hb.mono (by omega)),(hb.block _ (by omega)).trans h.box,(hb.block _ (by omega)).trans h.res⟩
theorem AP.two {w:World}{v:Value}{W:World}(h:AP w v W):w.heap.size+2≤W.heap.size:=qA h.res
theorem V8 {S:Nat→Prop}{w:World}{n:Nat}{va vk:Value}{t:Tr}(hA:qC S w va t.attrs)(hK:qw S w n vk t.kids):qw (fun b=>b<w.heap.size+1) (w.alloc (.cells #[.bool t.text,.string t.s,va,vk] 56)) (n+1) (.slice (some ⟨w.heap.size,0,none⟩) 1 1) [t]:=by
 have hb:=Below.alloc1 w (.cells #[.bool t.text,.string t.s,va,vk] 56);have hh:=heap_alloc_new w (.cells #[.bool t.text,.string t.s,va,vk] 56);refine ⟨_,1,rfl,nR9 _,by decide,fun _=>⟨w.heap.size,0,rfl,Nat.lt_succ_self _,fun i u hu=>?_⟩⟩
 have hi:i=0:=by have:=qy hu;simp at this;exact this
 subst hi;simp at hu
 subst hu;refine ⟨va,vk,by rw[cH9 hh];rfl,by rw[cH9 hh];rfl,by rw[cH9 hh];rfl,by rw[cH9 hh];rfl,?_,?_⟩
 · exact (hA.later hb).bounded.carry fun b hb'=>⟨by have:=hb'.2;simpa using this,rfl⟩
 · exact qw.carry (fun b hb'=>⟨by have:=hb'.2;simpa using this,rfl⟩) n (qw.bounded n (qw.later hb n hK))
set_option maxHeartbeats 4000000 in
theorem Z5 (S:Nat→Prop)(n:Nat)(vn vl:Value)(ns:List Nd)(l:List Opn)(w:World)(hN:qK S w vn ns)(hS:∀ b,S b→b<w.heap.size)(ha:∀ x∈ns,x.attrs.length≤4398046511104)(hx:y6 ns)(hO:Ops S w n vl l)(ht:jS n l)(hf:qW ns l=0→qaC ns l) :
 Calls Tryz.prog 15 #[.agg #[vn],vl] w fun e w'=>∃ v',e=.returned (.tuple #[.agg #[v'],.int .i64 (yi ns l)])∧qK (fun b=>S b∨w.heap.size≤b) w' v' (qO ns l)∧Below w.heap.size w w':=by
 obtain ⟨na,nc,rfl,hnl,hnc⟩:=hN.shape;obtain ⟨la,lc,rfl,hll,hlc⟩:=hO.shape;have HCK:Hid (∀ W,Below w.heap.size w W→Calls Tryz.prog 11 #[.agg #[.slice na ns.length nc],.slice la l.length lc] W fun e w'=>e=.returned (.int .i64 (qW ns l))∧Below W.heap.size W w'):=fun W hW=>KH S n _ _ ns l W (hN.later hW) (fun b hb=>Nat.lt_of_lt_of_le (hS b hb) hW.size) ha hx (hO.later hW) ht
 have HP0:Hid (AP w (.slice na ns.length nc) ((w.alloc (.cells #[.slice na ns.length nc] 24)).alloc (.cells #[.slice none 0 0] 24))):=by
  refine ⟨(Below.alloc1 w _).alloc (by simp) _,?_,?_⟩
  · rw[Lib.alloc_old _ _ _ (by simp)];exact heap_alloc_new _ _
  · have e := heap_alloc_new (w.alloc (.cells #[.slice na ns.length nc] 24)) (.cells #[.slice none 0 0] 24);rw[World.size_alloc]at e
    exact e
 have HN:Hid (qK S w (.slice na ns.length nc) ns):=hN;have HO:Hid (Ops S w n (.slice la l.length lc) l):=hO;have HS:Hid (∀ b,S b→b<w.heap.size):=hS;unfold maxLen at hnc hlc
 by_cases hc:qW ns l=0
 · obtain ⟨hg, hlen, hw, hpw⟩ := (ym _ _).1 hc;have hF:=hf hc;rw[hc]at HCK
   have hdeep:∀ o∈l,Deep 9 o.content:=fun o ho k hk=>(jq (hw o ho)).1.deep k hk
   have hb80:=jW hg
   have hne:ns≠[]:=by
    intro e;obtain ⟨d,t,hd,hl,_⟩:=xI hg;have:=layF_length d t (-1) 0 hd;rw[hl,e,qL]at this
    simp at this
    omega
   have HNB:Hid (∀ W,Below w.heap.size w W→Calls Tryz.prog 31 #[.slice na ns.length nc] W fun e w'=>∃ bb v' ms',e=.returned (.pointer (some ⟨bb,0,none⟩))∧Bx W.heap.size (fun b=>b<W.heap.size) ns.length bb w' v' ns ms'∧Below W.heap.size W w'):=fun W hW=>YI _ ns W ((HN.out.later hW).bounded.carry fun b hb=>⟨hb.2,rfl⟩) hne (hb80.more (by omega))
   have HDA:Hid (∀ (B:Nat) (T:Nat→Prop) (bb:Nat) (v:Value) (ms:List Rw) (W:World),Bx B T ns.length bb W v ns ms→jR T T W (8+1) (.slice la l.length lc) l→Calls Tryz.prog 32 #[.pointer (some ⟨bb,0,none⟩),.slice la l.length lc] W fun e w'=>e=.returned (.tuple #[])∧Did B T ns.length bb W w' v ms (x9 8 ns l)∧Bnd 20000 (x9 8 ns l)∧Bch ns (yB ns l) (x9 8 ns l)):=fun B T bb v ms W h1 h2=>KN B T bb _ v l ns ms W h1 h2 hc
   have h0:0<ns.length:=List.length_pos_iff.2 hne
   have HGB:Hid (∀ ns',Bch ns (yB ns l) ns'→FitG (ns.length+9) ns' 0∧growF (ns.length+9) ns' 0=zi ns l):=by
    intro ns' hB;have h1:=KP hg hB ns.length ns'.length 0 h0 (by omega) (by omega)
    have h2:growF ns'.length ns' 0=zi ns l:=Xt hg hB ns.length ns'.length 0 h0 (by omega) (by omega)
    obtain ⟨h3,h4⟩:=fit_less (ns.length+8) ns'.length ns' 0 h1 (by rw[h2];exact (Xd hc).1)
    exact ⟨h3,h4.trans h2⟩
   have hroot:(zi ns l).text=false:=j5 hg
   have HJ:Hid ((jt [zi ns l]).map (jk (ns.length+9))=[zd ns l]):=by
    show _=_
    rw[jO _ _ hroot];rfl
   have HD:Hid (qO ns l=(if zh (zd ns l) then layF (ns.length+9) (zd ns l) (-1) 0 else ns)∧yi ns l=(if zh (zd ns l) then 0 else 2)):=by
    show _∧_
    unfold qO yi;rw[if_pos hc,if_pos hc];exact ⟨rfl,rfl⟩
   obtain ⟨hF1,hF2,hF3⟩:=hF
   have HJN:Hid (∀ (S:Nat→Prop) (v:Value) (W:World),qw S W (ns.length+9+1) v [zi ns l]→(∀ b,S b→b<W.heap.size)→Calls Tryz.prog 34 #[v] W fun e w'=>∃ v',e=.returned v'∧qw (fun b=>W.heap.size≤b) w' (ns.length+9+1) v' [zd ns l]∧Below W.heap.size W w'):=by
    intro S v W h1 h2;have:=XB S (ns.length+9) v [zi ns l] W h1 hF1 h2 hF2;rw[HJ.out]at this
    exact this
   have HMK:Hid (∀ (S:Nat→Prop) (va vk:Value) (W:World),qC S W va (zd ns l).attrs→qw S W (ns.length+9) vk (zd ns l).kids→(∀ b,S b→b<W.heap.size)→Calls Tryz.prog 33 #[.agg #[.bool (zd ns l).text,.string (zd ns l).s,va,vk]] W fun e w'=>∃ v,e=.returned (.tuple #[.agg #[v],.int .i64 (jp (zd ns l))])∧qK (fun b=>W.heap.size≤b) w' v (zA (ns.length+9) (zd ns l))∧Below W.heap.size W w'):=fun S va vk W h1 h2 h3=>V3 S (ns.length+9) va vk (zd ns l) W h1 h2 hF3 h3
   have HO9:Hid (Ops S w 9 (.slice la l.length lc) l):=HO.out.narrow hdeep
   generalize qO ns l=RD at HD ⊢
   generalize yi ns l=RE at HD ⊢
   generalize hJJ:zd ns l=J at HD HJN HMK
   generalize hTT:zi ns l=TT at HJN HGB
   clear hF1 hF2 hF3 HJ hf hJJ hTT hroot hN hO hS ha hx ht hw hpw hdeep hg
   go_enter Tryz.func15,Tryz.ntmps15
   go_wp2_with fail;refine (HCK.out _ HP0.out.below).mono ?_;rintro e w1 ⟨rfl,hb1⟩;have HP1:Hid _:=HP0.out.later hb1 HP0.out.two;have x1:w1.cell? ⟨w.heap.size,0,none⟩=some (.slice na ns.length nc):=by rw[cH9 HP1.out.box];rfl
   clear hb1 HP0 HCK;go_wp2_with fail;refine (HNB.out _ HP1.out.below).mono ?_;rintro e w2 ⟨bb,v2,ms2,rfl,hX2,hb2⟩;have HX2:Hid _:=hX2;have HP2:Hid _:=HP1.out.later hb2 HP1.out.two;have HB2:Hid _:=hb2;clear hX2 hb2 HNB x1;go_wp2_with fail;refine (HDA.out _ _ _ _ _ _ HX2.out (jR.of9 HO9.out HS.out HP1.out.below HB2.out)).mono ?_;rintro e w3 ⟨rfl,hD3,hB3,hH3⟩;have hb3:=hD3.below HX2.out;have HP3:Hid _:=HP2.out.later hb3 HP1.out.two;obtain ⟨v3,ms3,hX3,_⟩:=hD3;obtain ⟨hfit,hgrow⟩:=HGB.out _ hH3
   have HG4:Hid (Calls Tryz.prog 35 #[.pointer (some ⟨bb,0,none⟩),.int .i64 0] w3 fun e w'=>∃ va vk,e=.returned (.agg #[.bool TT.text,.string TT.s,va,vk])∧qC (fun b=>b<w3.heap.size∨w3.heap.size≤b) w' va TT.attrs∧qw (fun b=>b<w3.heap.size∨w3.heap.size≤b) w' (ns.length+9) vk TT.kids∧Below w3.heap.size w3 w'):=by
    have h:=Xg (ns.length+9) (fun b=>b<w3.heap.size) v3 (x9 8 ns l) 0 bb w3 hX3.2.2.nodes (fun _ h=>h) hX3.1 (hB3.more (by omega)) hfit
    rw[hgrow]at h
    exact h
   clear hb3 hX3 hfit hgrow hB3 hH3 HGB HDA HX2 HO9 HB2 HP2 HP1;go_wp2_with fail;refine Calls.mono HG4.out ?_;rintro e w4 ⟨va4,vk4,rfl,hA4,hK4,hb4⟩;obtain ⟨a4,c4,rfl⟩:=hA4.shape;obtain ⟨k4,d4,rfl,_,_⟩:=qw.shape _ hK4;have HP4:Hid _:=HP3.out.later hb4 HP3.out.two;have HT5:Hid _:=V8 hA4 hK4;have HP5:Hid _:=HP4.out.later (Below.alloc1 w4 (.cells #[.bool TT.text,.string TT.s,.slice a4 TT.attrs.length c4,.slice k4 TT.kids.length d4] 56)) HP4.out.two;clear hA4 hK4 hb4 HG4 HP3;go_wp2_with fail;refine (HJN.out _ _ _ HT5.out (fun b hb=>by simpa using hb)).mono ?_
   rintro e w6 ⟨v6,rfl,hT6,hb6⟩;have HP6:Hid _:=HP5.out.later hb6 HP5.out.two;obtain ⟨a6,c6,hv6,hl6,hm6,h6⟩:=hT6;obtain ⟨b6,o6,rfl,hs6,hc6⟩:=h6 (by simp)
   obtain ⟨va6,vk6,e0,e1,e2,e3,hA6,hK6⟩:=hc6 0 J rfl;obtain ⟨a7,c7,rfl⟩:=hA6.shape;obtain ⟨k7,d7,rfl,_,_⟩:=qw.shape _ hK6;simp only[Nat.zero_mul,Nat.add_zero,List.length_singleton]at e0 e1 e2 e3 hv6 hl6
   subst hv6;have HMK6:Hid _:=HMK.out _ _ _ w6 hA6.bounded (qw.bounded _ hK6) (fun b hb=>hb.2)
   clear hA6 hK6 hc6 h6 hs6 hb6 HMK HJN HT5 HP5 HP4;unfold maxLen at hm6
   go_wp2_with fail;refine Calls.mono HMK6.out ?_;rintro e w7 ⟨v7,rfl,hN7,hb7⟩;have HP7:Hid _:=HP6.out.later hb7 HP6.out.two;have HN7:Hid _:=hN7;have hz7:=HP7.out.two;have HZ6:Hid _:=HP6.out.two;obtain ⟨a8,c8,rfl,_,_⟩:=hN7.shape;clear hN7 hb7 HMK6 e0 e1 e2 e3;have x7:w7.cell? ⟨w.heap.size,0,none⟩=some (.slice na ns.length nc):=by rw[cH9 HP7.out.box];rfl
   have r7:w7.cell? ⟨w.heap.size+1,0,none⟩=some (.slice none 0 0):=by rw[cH9 HP7.out.res];rfl
   have f7:w7.frozen? ⟨w.heap.size+1,0,none⟩=false:=fH9 HP7.out.res 0;have HP8:Hid _:=HP7.out.later (Below.alloc1 w7 (.cells #[.slice a8 (zA (ns.length+9) J).length c8] 24)) HP7.out.two;have HN8:Hid _:=qK.later HN7.out (Below.alloc1 w7 (.cells #[.slice a8 (zA (ns.length+9) J).length c8] 24));have f8:(w7.alloc (.cells #[.slice a8 (zA (ns.length+9) J).length c8] 24)).frozen? ⟨w.heap.size+1,0,none⟩=false:=fH9 HP8.out.res 0;have r8:(w7.alloc (.cells #[.slice a8 (zA (ns.length+9) J).length c8] 24)).cell? ⟨w.heap.size+1,0,none⟩=some (.slice none 0 0):=by rw[cH9 HP8.out.res];rfl
   have x8:(w7.alloc (.cells #[.slice a8 (zA (ns.length+9) J).length c8] 24)).cell? ⟨w.heap.size,0,none⟩=some (.slice na ns.length nc):=by rw[cH9 HP8.out.box];rfl
   cases hgd:zh J with
   | true =>
     rw[show jp J=0 by unfold jp;rw[hgd];rfl]
     rw[hgd]at HD
     go_wp2_with fail;refine bodyPost_ret (v:=.tuple #[.agg #[.slice a8 (zA (ns.length+9) J).length c8],.int .i64 0]) (by simp[results,Tryz.results15,go_sem,qD,r8]) rfl ⟨.slice a8 (zA (ns.length+9) J).length c8,?_,?_,?_⟩
     · rw[HD.out.2];rfl
     · rw[HD.out.1];have:zA (ns.length+9) J=layF (ns.length+9) J (-1) 0:=by unfold zA;rw[hgd];rfl
       have h1:qK (fun b=>w6.heap.size≤b) _ _ _:=HN8.out
       rw[this]at h1
       rw[this];simp only[if_true];refine h1.carry fun b hb=>⟨Or.inr (by have:=HZ6.out;omega),?_⟩
       exact qd (by have:=HZ6.out;omega)
     · exact HP8.out.below.setCell (p:=⟨w.heap.size+1,0,none⟩) (by show w.heap.size≤w.heap.size+1;omega) _
   | false =>
     rw[show jp J=1 by unfold jp;rw[hgd];rfl]
     rw[hgd]at HD
     go_wp2_with fail;refine bodyPost_ret (v:=.tuple #[.agg #[.slice na ns.length nc],.int .i64 2]) (by simp[results,Tryz.results15,go_sem,qD,r8]) rfl ⟨.slice na ns.length nc,?_,?_,?_⟩
     · rw[HD.out.2];rfl
     · rw[HD.out.1];simp only[Bool.false_eq_true,if_false];refine (HN.out.later HP8.out.below).carry fun b hb=>⟨Or.inl hb,?_⟩
       exact qd (by have:=HS.out b hb;omega)
     · exact HP8.out.below.setCell (p:=⟨w.heap.size+1,0,none⟩) (by show w.heap.size≤w.heap.size+1;omega) _
 · have HR:Hid (qO ns l=ns∧yi ns l=qW ns l):=by
    show _∧_
    unfold qO yi;rw[if_neg hc,if_neg hc];exact ⟨rfl,rfl⟩
   generalize qO ns l=RD at HR ⊢
   generalize yi ns l=RE at HR ⊢
   obtain ⟨c,hcc⟩:∃ c,qW ns l=c:=⟨_,rfl⟩;rw[hcc]at HCK HR hc
   clear hf hN hO hS ha hx ht hcc
   go_enter Tryz.func15,Tryz.ntmps15
   go_wp2_with fail;refine (HCK.out _ HP0.out.below).mono ?_;rintro e w1 ⟨rfl,hb1⟩;have HP1:Hid _:=HP0.out.later hb1 HP0.out.two;have x1:w1.cell? ⟨w.heap.size,0,none⟩=some (.slice na ns.length nc):=by rw[cH9 HP1.out.box];rfl
   have r1:w1.cell? ⟨w.heap.size+1,0,none⟩=some (.slice none 0 0):=by rw[cH9 HP1.out.res];rfl
   have f1:w1.frozen? ⟨w.heap.size+1,0,none⟩=false:=fH9 HP1.out.res 0;clear hb1 HP0 HCK;go_wp2_with fail;refine bodyPost_ret (v:=.tuple #[.agg #[.slice na ns.length nc],.int .i64 c]) (by simp[results,Tryz.results15,go_sem,qD,r1]) rfl ⟨.slice na ns.length nc,?_,?_,?_⟩
   · rw[HR.out.2]
   · rw[HR.out.1];refine (HN.out.later HP1.out.below).carry fun b hb=>⟨Or.inl hb,?_⟩
     exact qd (by have:=HS.out b hb;omega)
   · exact HP1.out.below.setCell (p:=⟨w.heap.size+1,0,none⟩) (by show w.heap.size≤w.heap.size+1;omega) _
end
theorem Ops.deep {S:Nat→Prop}{w:World}{n:Nat}{v:Value}{l:List Opn}(h:Ops S w n v l):∀ o∈l,Deep n o.content:=by
 intro o ho;obtain ⟨i,hi⟩:=List.mem_iff_getElem?.1 ho;obtain ⟨a,cap,_,_,_,h4⟩:=h;obtain ⟨b,p,_,_,hc⟩:=h4 (by intro e;subst e;cases ho)
 obtain ⟨ca,cc,_,_,_,_,_,h5⟩:=hc i o hi;exact qw.deep n h5
theorem qaG {P Q R:Tr→Prop}(h:∀ t,P t→Q t→R t):∀ {n:Nat}{ts:List Tr},zV P n ts→zV Q n ts→zV R n ts:=by
 intro n
 induction n with
 | zero=>intro ts _ _;trivial
 | succ n ih=>intro ts h1 h2 t ht;exact ⟨h t (h1 t ht).1 (h2 t ht).1,ih (h1 t ht).2 (h2 t ht).2⟩
theorem texts_all':∀ (n:Nat)(ts:List Tr),TextsN n ts→zV Za n ts:=by
 intro n
 induction n with
 | zero=>intro ts _;trivial
 | succ n ih=>intro ts h t ht;exact ⟨(h t ht).1,ih t.kids (h t ht).2⟩
theorem Kj {ns:List Nd}{l:List Opn}{n:Nat}(hc:qW ns l=0)(hT:qax ns+10*qay l≤1099511627776)(hx:y6 ns)(ht:jS n l)(hd:∀ o∈l,Deep n o.content):qaC ns l:=by
 obtain ⟨hg,hlen,hw,_⟩:=(ym _ _).1 hc;have h1:∀ k,yU 1048576 (yB ns l k).attrs:=fun k=>(VE (fun o ho=>(ht o ho).2) (fun x hm=>⟨((jW hg).2 x hm).2,(hx x hm).2⟩) k).more (by omega)
 have h2:∀ o∈l,∀ k,zV (fun t=>yU 1048576 t.attrs) k o.content:=by
  intro o ho;have h3:=Y3 (Zj (Zs (hw o ho)).deep) (Zs (hw o ho)).att n;refine Y3 (hd o ho) (qaG (fun t (p:t.attrs.length≤4) (q:Za t)=>⟨by omega,q.2⟩) h3 (texts_all' n _ (ht o ho).1))
 have h4:=VG (P:=yU 1048576) (ns:=ns) ⟨nZ9 _,fun y hy=>by cases hy⟩ h1 (VA h2) ns.length (ns.length+9+1) 0
 have hs:Small (ns.length+9+1) [zi ns l]:=small_of _ _ (Nat.le_trans (Z6 hc) (by omega)) (Nat.le_trans (KC hc) hT) h4
 refine ⟨hs,Nat.le_trans (Z6 hc) (by omega),?_⟩
 have e:[zd ns l]=jG (ns.length+9) [zi ns l]:=by
  show _=(jt [zi ns l]).map (jk (ns.length+9))
  rw[jO _ _ (j5 hg)];rfl
 have hj:Small (ns.length+9+1) [zd ns l]:=by rw[e];exact XA hs
 refine texts_small _ _ hj ?_;intro t hm;rw[List.mem_singleton.1 hm];have h5:=h4 _ List.mem_cons_self;refine ⟨?_,qbx _ _ _ h5.2⟩
 show yU 1048576 (jk (ns.length+9) (zi ns l)).attrs
 rw[jo];exact h5.1
theorem Y2 (S:Nat→Prop)(n:Nat)(vn vl:Value)(ns:List Nd)(l:List Opn)(w:World)(hN:qK S w vn ns)(hS:∀ b,S b→b<w.heap.size)(ha:∀ x∈ns,x.attrs.length≤4398046511104)(hx:y6 ns)(hO:Ops S w n vl l)(ht:jS n l)(hT:qax ns+10*qay l≤1099511627776) :
 Calls Tryz.prog 15 #[.agg #[vn],vl] w fun e w'=>∃ v',e=.returned (.tuple #[.agg #[v'],.int .i64 (yi ns l)])∧qK (fun b=>S b∨w.heap.size≤b) w' v' (qO ns l)∧Below w.heap.size w w' :=
 Z5 S n vn vl ns l w hN hS ha hx hO ht (fun hc=>Kj hc hT hx ht hO.deep)
theorem JS {s:ByteArray}(h:zx s=true):s.size≤40:=by
 simp only[zx,Bool.and_eq_true,decide_eq_true_eq]at h
 exact h.1
theorem Kr {s:ByteArray}(h:zI s=true):s.size≤8:=by
 simp only[zI,Bool.and_eq_true,decide_eq_true_eq]at h
 exact h.1.2
theorem ZA {t:Tr}(h:qT t=true):t.s.size≤40:=by
 unfold qT at h
 split at h
 · simp only[Bool.and_eq_true]at h
   exact JS h.1.1.2
 · simp only[Bool.and_eq_true]at h
   have:=Kr h.1;omega
theorem rgt_sizes:∀ {n:Nat}{ts:List Tr},(∀ N,rgt N ts=true)→zV (fun t=>t.s.size≤40) n ts:=by
 intro n
 induction n with
 | zero=>intro ts _;trivial
 | succ n ih =>
   intro ts h t ht;obtain ⟨h1,_⟩:=jQ _ _ (h (n+1)) t ht;refine ⟨ZA h1,ih (fun N=>?_)⟩
   obtain ⟨h3,h4⟩:=jQ _ _ (h (N+1)) t ht;cases hx:t.text with
   | true=>rw[xC h3 hx];exact xM N
   | false=>rw[hx,Bool.false_or]at h4;exact h4
theorem sum_cnt:∀ {n:Nat}{ts:List Tr},zV (fun t=>t.s.size≤40) n ts→zN id n ts≤40*cnt n ts:=by
 intro n
 induction n with
 | zero=>intro ts _;exact nZ9 _
 | succ n ih =>
   intro ts;rw[←sumN_cnt]
   induction ts with
   | nil=>intro _;rw[zL];exact nZ9 _
   | cons t r ihr =>
     intro h;rw[ye,ye];have h1:=ihr (fun u hu=>h u (List.mem_cons_of_mem _ hu))
     have h2:=h t List.mem_cons_self;have h3:=ih h2.2;rw[←sumN_cnt]at h3
     have h4:=h2.1;simp only[id];omega
theorem Jc {l:List Tr}(h:q9 l=true):zN id 9 l≤3200:=by
 have hd:Deep 8 l:=rb_deep 8 80 l (by simpa[q9] using h)
 have h2:=h;rw[jL hd]at h2
 simp only[Bool.and_eq_true,decide_eq_true_eq]at h2
 have h3:=sum_cnt (n:=9) (rgt_sizes (rgt_all hd h2.2));have h4:cnt 9 l≤80:=(QV h).cnt;omega
theorem qbE {ns:List Nd}{o:Opn}(h:ze ns o=0):opW id o≤3300:=by
 obtain ⟨_,_,_,h1,h2,h3⟩:=jq h
 have a1:zN id 9 o.content≤3200:=by
  unfold zH at h1
  split at h1
  · exact Jc h1
  · have : o.content = [] := List.eq_nil_of_length_eq_zero (by simpa using h1)
    rw[this,zL];omega
 have a2:o.name.size≤8:=by
  unfold yj at h2
  split at h2
  · exact Kr h2
  · rw[of_decide_eq_true h2];exact nZ9 _
 have a3:o.s.size≤40:=by
  unfold yp at h3
  split at h3
  · exact JS h3
  · rw[of_decide_eq_true h3];exact nZ9 _
 unfold opW;simp only[id];omega
theorem Xs {ns:List Nd}(hg:qM ns=true):∀ x∈ns,x.s.size≤40:=by
 intro y hy;obtain ⟨n,hn⟩:=List.mem_iff_getElem?.1 hy;obtain ⟨d,T,u,fs,hz⟩:=YV hg (qy hn);obtain ⟨x',hx',_,e2,_⟩:=hz.get;rw[hn]at hx'
 obtain rfl:=Option.some.inj hx';rw[e2];exact ZA hz.right
theorem KA {α:Type}(f:α→Nat)(m:Nat):∀ l:List α,(∀ x∈l,f x≤m)→(l.map f).sum≤m*l.length:=by
 intro l
 induction l with
 | nil=>intro _;exact nR9 _
 | cons x l ih =>
   intro h;rw[List.map_cons,List.sum_cons,List.length_cons,Nat.mul_succ];have h1:=h x List.mem_cons_self;have h2:=ih (fun y hy=>h y (List.mem_cons_of_mem _ hy))
   omega
theorem KI {ns:List Nd}{l:List Opn}(h:qW ns l=0):qax ns+10*qay l≤1099511627776:=by
 obtain ⟨hg,hlen,hw,_⟩:=(ym _ _).1 h;have h1:qax ns≤40*ns.length:=KA _ 40 ns (Xs hg);have h2:qay l≤3300*l.length:=KA _ 3300 l (fun o ho=>qbE (hw o ho))
 have h3:=Qt hg;omega
theorem Jl {ns:List Nd}{l:List Opn}{n:Nat}(hc:qW ns l=0)(hx:y6 ns)(ht:jS n l)(hd:∀ o∈l,Deep n o.content):qaC ns l:=Kj hc (KI hc) hx ht hd
theorem Yt (S:Nat→Prop)(n:Nat)(vn vl:Value)(ns:List Nd)(l:List Opn)(w:World)(hN:qK S w vn ns)(hS:∀ b,S b→b<w.heap.size)(ha:∀ x∈ns,x.attrs.length≤4398046511104)(hx:y6 ns)(hO:Ops S w n vl l)(ht:jS n l) :
 Calls Tryz.prog 15 #[.agg #[vn],vl] w fun e w'=>∃ v',e=.returned (.tuple #[.agg #[v'],.int .i64 (yi ns l)])∧qK (fun b=>S b∨w.heap.size≤b) w' v' (qO ns l)∧Below w.heap.size w w' :=
 Z5 S n vn vl ns l w hN hS ha hx hO ht (fun hc=>Jl hc hx ht hO.deep)
section
attribute [local go_sem] qD
def chgsN:List Nd:=[⟨false,⟨#[97]⟩,[],-1,[1]⟩,⟨false,⟨#[98]⟩,[],0,[]⟩]
def chgsT:Tr:=⟨false,⟨#[99]⟩,[],[]⟩
def chgsO:List Opn:=[⟨3,1,[chgsT],⟨#[]⟩,⟨#[]⟩⟩,⟨8,1,[],⟨#[101]⟩,⟨#[]⟩⟩]
def chgsR:List Nd:=[⟨false,⟨#[97]⟩,[],-1,[1,2]⟩,⟨false,⟨#[99]⟩,[],0,[]⟩,⟨false,⟨#[101]⟩,[],0,[]⟩]
theorem chgs_e:yi chgsN chgsO=0:=by kernel_rfl
theorem chgs_d:qO chgsN chgsO=chgsR:=by kernel_rfl
theorem qbu (w:World)(o0 o1 o2 o3 o4:Obj):Below w.heap.size w (((((w.alloc o0).alloc o1).alloc o2).alloc o3).alloc o4)∧(((((w.alloc o0).alloc o1).alloc o2).alloc o3).alloc o4).heap[w.heap.size]?=some o0∧(((((w.alloc o0).alloc o1).alloc o2).alloc o3).alloc o4).heap[w.heap.size+1]?=some o1 ∧
 (((((w.alloc o0).alloc o1).alloc o2).alloc o3).alloc o4).heap[w.heap.size+1+1+1]?=some o3∧(((((w.alloc o0).alloc o1).alloc o2).alloc o3).alloc o4).heap[w.heap.size+1+1+1+1]?=some o4:=by
 have e0:=heap_alloc_new w o0;have e1:=heap_alloc_new (w.alloc o0) o1;have e2:=heap_alloc_new ((w.alloc o0).alloc o1) o2;have e3:=heap_alloc_new (((w.alloc o0).alloc o1).alloc o2) o3;have e4:=heap_alloc_new ((((w.alloc o0).alloc o1).alloc o2).alloc o3) o4;simp only[World.size_alloc]at e1 e2 e3 e4
 refine ⟨((((Below.alloc1 w _).alloc (by simp) _).alloc (by simp only[World.size_alloc];omega) _).alloc (by simp only[World.size_alloc];omega) _).alloc (by simp only[World.size_alloc];omega) _,?_,?_,?_,e4⟩
 · rw[heap_alloc_old _ _ (by simp only[World.size_alloc];omega),heap_alloc_old _ _ (by simp only[World.size_alloc];omega),heap_alloc_old _ _ (by simp only[World.size_alloc];omega),heap_alloc_old _ _ (by simp)];exact e0
 · rw[heap_alloc_old _ _ (by simp only[World.size_alloc];omega),heap_alloc_old _ _ (by simp only[World.size_alloc];omega),heap_alloc_old _ _ (by simp)];exact e1
 · rw[heap_alloc_old _ _ (by simp)];exact e3
theorem Xi {W:World}{a:Nat}(h0:W.heap[a]?=some (.cells #[.int .i64 1] 3 (0,0)))(h1:W.heap[a+1]?=some (.cells #[.bool false,.string ⟨#[97]⟩,.slice none 0 0,.int .i64 (-1),.slice (some ⟨a,0,none⟩) 1 1,.bool false,.string ⟨#[98]⟩,.slice none 0 0,.int .i64 0,.slice none 0 0] 43 (0,0))) :
 qK (fun b=>b<W.heap.size) W (.slice (some ⟨a+1,0,none⟩) 2 2) chgsN:=by
 refine ⟨_,2,rfl,nR9 _,by unfold maxLen;omega,fun _=>⟨a+1,0,rfl,qA h1,fun i x hx=>?_⟩⟩
 have hi:=qy hx;have hi2:i<2:=hi
 match i,hx with
 | 0, hx =>
   simp[chgsN]at hx
   subst hx;refine ⟨.slice none 0 0,.slice (some ⟨a,0,none⟩) 1 1,by rw[cH9 h1];rfl,by rw[cH9 h1];rfl,by rw[cH9 h1];rfl,by rw[cH9 h1];rfl,by rw[cH9 h1];rfl,qC.nil,?_⟩
   refine ⟨_,1,rfl,nR9 _,by unfold maxLen;omega,fun _=>⟨a,0,rfl,qA h0,fun j y hy=>?_⟩⟩
   have hj:=qy hy;have hj2:j=0:=by simp at hj;exact hj
   subst hj2;simp at hy
   subst hy;rw[cH9 h0];rfl
 | 1, hx =>
   simp[chgsN]at hx
   subst hx;exact ⟨.slice none 0 0,.slice none 0 0,by rw[cH9 h1];rfl,by rw[cH9 h1];rfl,by rw[cH9 h1];rfl,by rw[cH9 h1];rfl,by rw[cH9 h1];rfl,qC.nil,⟨none,0,rfl,nR9 _,nZ9 _,fun h=>absurd rfl h⟩⟩
 | i+2,_=>omega
theorem VI {W:World}{a:Nat}(h3:W.heap[a+1+1+1]?=some (.cells #[.bool false,.string ⟨#[99]⟩,.slice none 0 0,.slice none 0 0] 56 (0,0)))
 (h4:W.heap[a+1+1+1+1]?=some (.cells #[.int .i64 3,.int .i64 1,.slice (some ⟨a+1+1+1,0,none⟩) 1 1,.string ⟨#[]⟩,.string ⟨#[]⟩,.int .i64 8,.int .i64 1,.slice none 0 0,.string ⟨#[101]⟩,.string ⟨#[]⟩] 30 (0,0))) :
 Ops (fun b=>b<W.heap.size) W 1 (.slice (some ⟨a+1+1+1+1,0,none⟩) 2 2) chgsO:=by
 have hT:qw (fun b=>b<W.heap.size) W 1 (.slice (some ⟨a+1+1+1,0,none⟩) 1 1) [chgsT] :=
  qw.carry (fun b hb=>⟨by rcases hb with hb|rfl;exact hb.elim;exact qA h3,rfl⟩) 1 (qw.of_block (S:=fun _=>False) (qs:=[(false,⟨#[99]⟩,.slice none 0 0,.slice none 0 0)]) h3 rfl rfl rfl (nR9 _) (by unfold maxLen;omega) (by
   intro i q t hq ht
   match i,hq,ht with
   | 0, hq, ht =>
     simp at hq ht
     subst hq ht;exact ⟨rfl,rfl,qC.nil,rfl,none,0,rfl,nZ9 _⟩
   | i+1,hq,_=>simp at hq))
 refine ⟨_,2,rfl,nR9 _,by unfold maxLen;omega,fun _=>⟨a+1+1+1+1,0,rfl,qA h4,fun i x hx=>?_⟩⟩
 have hi:=qy hx;have hi2:i<2:=hi
 match i,hx with
 | 0, hx =>
   simp[chgsO]at hx
   subst hx;exact ⟨some ⟨a+1+1+1,0,none⟩,1,by rw[cH9 h4];rfl,by rw[cH9 h4];rfl,by rw[cH9 h4];rfl,by rw[cH9 h4];rfl,by rw[cH9 h4];rfl,hT⟩
 | 1, hx =>
   simp[chgsO]at hx
   subst hx;exact ⟨none,0,by rw[cH9 h4];rfl,by rw[cH9 h4];rfl,by rw[cH9 h4];rfl,by rw[cH9 h4];rfl,by rw[cH9 h4];rfl,qw.nil _ ⟨none,0,rfl,nZ9 _⟩⟩
 | i+2,_=>omega
theorem chgs_texts:y6 chgsN∧jS 1 chgsO:=by
 constructor
 · intro x hx;simp only[chgsN,List.mem_cons,List.not_mem_nil,or_false]at hx
   rcases hx with rfl|rfl<;>exact ⟨by show 1≤maxLen;unfold maxLen;omega,by intro y hy;simp at hy⟩
 · intro o ho;simp only[chgsO,List.mem_cons,List.not_mem_nil,or_false]at ho
   rcases ho with rfl|rfl
   · refine ⟨fun t ht => ?_, nZ9 _, nZ9 _⟩
     simp only[List.mem_singleton]at ht
     subst ht;exact ⟨⟨by show 1≤maxLen;unfold maxLen;omega,by intro y hy;simp[chgsT]at hy⟩,trivial⟩
   · exact ⟨fun t ht=>by simp at ht,by show 1≤maxLen;unfold maxLen;omega,nZ9 _⟩
end
section
attribute [local go_sem] qD
set_option maxHeartbeats 1000000 in
theorem KJ (w:World):Calls Tryz.prog 14 #[] w fun e w'=>e=.returned (.bool true)∧Below w.heap.size w w':=by
 go_enter Tryz.func14,Tryz.ntmps14
 go_wp2_with fail;obtain ⟨hb,h0,h1,h3,h4⟩:=qbu w (.cells #[.int .i64 1] 3) (.cells #[.bool false,.string ⟨#[97]⟩,.slice none 0 0,.int .i64 (-1),.slice (some ⟨w.heap.size,0,none⟩) 1 1,.bool false,.string ⟨#[98]⟩,.slice none 0 0,.int .i64 0,.slice none 0 0] 43) (.cells #[.slice (some ⟨w.heap.size+1,0,none⟩) 2 2] 24) (.cells #[.bool false,.string ⟨#[99]⟩,.slice none 0 0,.slice none 0 0] 56) (.cells #[.int .i64 3,.int .i64 1,.slice (some ⟨w.heap.size+1+1+1,0,none⟩) 1 1,.string ⟨#[]⟩,.string ⟨#[]⟩,.int .i64 8,.int .i64 1,.slice none 0 0,.string ⟨#[101]⟩,.string ⟨#[]⟩] 30)
 generalize ((((w.alloc (.cells #[.int .i64 1] 3)).alloc (.cells #[.bool false,.string ⟨#[97]⟩,.slice none 0 0,.int .i64 (-1),.slice (some ⟨w.heap.size,0,none⟩) 1 1,.bool false,.string ⟨#[98]⟩,.slice none 0 0,.int .i64 0,.slice none 0 0] 43)).alloc (.cells #[.slice (some ⟨w.heap.size+1,0,none⟩) 2 2] 24)).alloc (.cells #[.bool false,.string ⟨#[99]⟩,.slice none 0 0,.slice none 0 0] 56)).alloc (.cells #[.int .i64 3,.int .i64 1,.slice (some ⟨w.heap.size+1+1+1,0,none⟩) 1 1,.string ⟨#[]⟩,.string ⟨#[]⟩,.int .i64 8,.int .i64 1,.slice none 0 0,.string ⟨#[101]⟩,.string ⟨#[]⟩] 30)=W at hb h0 h1 h3 h4 ⊢
 have hA:=Y2 _ 1 _ _ chgsN chgsO W (Xi h0 h1) (fun _ h=>h) (by intro x hx;simp only[chgsN,List.mem_cons,List.not_mem_nil,or_false]at hx;rcases hx with rfl|rfl<;>exact nZ9 _) chgs_texts.1 (VI h3 h4) chgs_texts.2 (by decide)
 rw[chgs_e,chgs_d]at hA
 have HA:Hid _:=hA;clear hA h0 h1 h3 h4;refine Calls.mono HA.out ?_;rintro e w1 ⟨v1,rfl,hN1,hb1⟩;have hB1:Below w.heap.size w w1:=hb.trans (hb1.mono hb.size);obtain ⟨b,o,cap,va,vk,rfl,hlc,hcm,_,hbl,_,e1,_,_,_,_,_⟩:=hN1.at (i:=1) (x:=⟨false,⟨#[99]⟩,[],0,[]⟩) rfl
 obtain ⟨b',o',cap',va',vk',hv',_,_,_,_,_,e2,_,_,_,_,_⟩:=hN1.at (i:=2) (x:=⟨false,⟨#[101]⟩,[],0,[]⟩) rfl
 injection hv' with hv1 _ hv2
 injection hv1 with hv1
 injection hv1 with hv1 hv3
 subst hv1 hv2 hv3;have hl3:chgsR.length=3:=rfl;rw[hl3]at hlc ⊢
 unfold maxLen at hcm
 have f1:(w1.alloc (.cells #[.slice (some ⟨b,o,none⟩) 3 cap] 24)).cell? ⟨b,o+1*5+1,none⟩=some (.string ⟨#[99]⟩):=Lib.cell?_alloc_some _ e1;have f2:(w1.alloc (.cells #[.slice (some ⟨b,o,none⟩) 3 cap] 24)).cell? ⟨b,o+2*5+1,none⟩=some (.string ⟨#[101]⟩):=Lib.cell?_alloc_some _ e2;simp only[Nat.one_mul]at f1 e1
 clear HA hN1;go_wp2_with fail;go_ret;exact ⟨rfl,hB1.alloc hB1.size _⟩
end
end Go.Proofs.YtnppmdpmippcoaaGreatDoor
