/- Bundled: AppR ChkK AppK. What each says stands ahead of it. -/
import Derived.Test.YtnppmdpmippcoaaGreatDoorBundle31
import Derived.Test.YtnppmdpmippcoaaGreatDoorBundle34
import Derived.Test.YtnppmdpmippcoaaGreatDoorBundle35
namespace Go.Proofs.YtnppmdpmippcoaaGreatDoor
open Go.ChangeShapes Go.WideShapes Go.ChangeAt Go.RowKit
set_option maxRecDepth 100000
section
attribute [local go_sem] qD
theorem qah {ns:List Nd}{l:List Opn}(hc:qW ns l=0)(kd tg:Int):(qJ l kd tg).length≤1600:=by
 obtain ⟨_,hlen,hw,_⟩:=(ym _ _).1 hc
 have key:∀ L:List Opn,(∀ o∈L,ze ns o=0)→(L.flatMap (·.content)).length≤80*L.length:=by
  intro L
  induction L with
  | nil=>intro _;simp
  | cons o L ih =>
    intro h;rw[List.flatMap_cons,List.length_append,List.length_cons];have h1:=ih (fun p hp=>h p (List.mem_cons_of_mem _ hp))
    have h2:=(Zs (h o List.mem_cons_self)).cnt;have h3:=j7 8 o.content;omega
 unfold qJ yf;have h1:=key _ (fun o ho=>hw o ((List.mem_filter.1 ho).1):∀ o∈l.filter (fun o=>decide (o.kind=kd)&&decide (o.target=tg)),ze ns o=0)
 have h2:=List.length_filter_le (fun o:Opn=>decide (o.kind=kd)&&decide (o.target=tg)) l
 omega
theorem small_narrow:∀ (n m:Nat)(ts:List Tr),Small n ts→m≤n→Small m ts:=by
 intro n
 induction n with
 | zero =>
   intro m ts _ hm;have e:m=0:=by omega
   subst e
   trivial
 | succ n ih =>
   intro m ts h hm;cases m with
   | zero=>trivial
   | succ m=>exact ⟨h.1,h.2.1,fun t ht=>⟨(h.2.2 t ht).1,(h.2.2 t ht).2.1,ih m _ (h.2.2 t ht).2.2 (by omega)⟩⟩
theorem JY {d:Nat}:∀ (n:Nat)(ts:List Tr),Deep n ts→Small n ts→Small (n+d) ts:=by
 intro n
 induction n with
 | zero=>intro ts hd _;have e:ts=[]:=hd;subst e;cases d<;>simp[Small,catL]
 | succ n ih =>
   intro ts hd h;rw[show n+1+d=n+d+1 by omega]
   exact ⟨h.1,h.2.1,fun t ht=>⟨(h.2.2 t ht).1,(h.2.2 t ht).2.1,ih _ (hd t ht) (h.2.2 t ht).2.2⟩⟩
set_option linter.unusedSimpArgs false in
set_option maxHeartbeats 4000000 in
theorem Yu (hI:IsDocOk)(S T:Nat→Prop)(n:Nat)(vd v:Value)(ns:List Nd)(l:List Opn)(w:World)(hD:QF S w vd ns)(hO:Ops T w (n+1) v l)(hf:Xa n l)(hto:jS (n+1) l)(hsm:∀ x∈l,Small (n+1) x.content) :
 Calls Tryz.prog 16 #[.agg #[vd],v] w fun e w'=>∃ v',e=.returned (.tuple #[.agg #[v'],.int .i64 (yi ns l)])∧qK (fun b=>S b∨w.heap.size≤b) w' v' (qO ns l)∧Below w.heap.size w w':=by
 obtain ⟨na,nc,rfl,hnl,hnc⟩:=hD.nodes.shape;obtain ⟨la,lc,rfl,hll,hlc⟩:=hO.shape;have hb1:Below w.heap.size w ((w.alloc (.cells #[.slice na ns.length nc] 24)).alloc (.cells #[.slice none 0 0] 24)):=(Below.alloc1 w _).alloc (by simp) _
 have HBD:Hid (((w.alloc (.cells #[.slice na ns.length nc] 24)).alloc (.cells #[.slice none 0 0] 24)).heap[w.heap.size]?=some (.cells #[.slice na ns.length nc] 24 (0,0))):=by
  show _=_
  rw[heap_alloc_old _ _ (by simp)];exact heap_alloc_new _ _
 have HBR:Hid (((w.alloc (.cells #[.slice na ns.length nc] 24)).alloc (.cells #[.slice none 0 0] 24)).heap[w.heap.size+1]?=some (.cells #[.slice none 0 0] 24 (0,0))):=by
  have:=heap_alloc_new (w.alloc (.cells #[.slice na ns.length nc] 24)) (.cells #[.slice none 0 0] 24);rw[World.size_alloc]at this
  exact this
 have HCK:Hid _:=Yy hI S T n _ _ ns l _ (hD.later hb1) (hO.later hb1) hf;have HD:Hid (QF S w (.slice na ns.length nc) ns):=hD;have HO:Hid (Ops T w (n+1) (.slice la l.length lc) l):=hO;have HB1:Hid _:=hb1;have HKP:Hid (∀ W,Below w.heap.size w W→∀ u,qK (fun b=>S b∨w.heap.size≤b) (W.setCell ⟨w.heap.size+1,0,none⟩ u) (.slice na ns.length nc) ns):=fun W hW u=>(hD.later hW).nodes.bounded.carry fun b hb=>⟨Or.inl hb.1,qd (by have:=hD.here b hb.1;omega)⟩
 unfold maxLen at hnc hlc
 clear hb1 hO
 by_cases hc:qW ns l=0
 · obtain ⟨hg, hlen, hw, _⟩ := (ym _ _).1 hc;have hF:=Jl hc hD.short hto HO.out.deep;have hdeep:∀ o∈l,Deep 9 o.content:=fun o ho k hk=>(jq (hw o ho)).1.deep k hk
   have hsm9:∀ x∈l,Small (8+1) x.content:=fun x hx=>by
    by_cases h9:8+1≤n+1
    · exact small_narrow _ _ _ (hsm x hx) h9
    · have := JY (d := 8 - n) (n + 1) x.content (HO.out.deep x hx) (hsm x hx);rw[show n+1+(8-n)=8+1 by omega]at this
      exact this
   have HTU:Hid (∀ W,Below w.heap.size w W→Calls Tryz.prog 38 #[.agg #[.slice na ns.length nc],.slice la l.length lc,.int .i64 0] W fun e w'=>∃ r,e=.returned r∧(TGr W.heap.size (8+ns.length) w' r [zi ns l]∧Below W.heap.size W w')):=by
    intro W hW
    have h:=ZF 8 ns l hg hD.few (qah hc) hsm9 hlen ns.length S T 0 _ _ W (by
     have h1:=hg;simp only[qM,Bool.and_eq_true]at h1
     exact Qd h1.1.2) (by omega) (hD.later hW).nodes ((HO.out.later hW).narrow hdeep)
    rw[Vp hc]at h
    exact h
   have HJN:Hid (∀ (S:Nat→Prop) (v:Value) (W:World),qw S W (ns.length+9+1) v [zi ns l]→(∀ b,S b→b<W.heap.size)→Calls Tryz.prog 37 #[v] W fun e w'=>∃ r,e=.returned r∧qw (fun b=>S b∨W.heap.size≤b) w' (ns.length+9+1) r [zd ns l]∧Below W.heap.size W w'):=by
    intro S v W h1 h2;have h:=KX (ns.length+9+1) S v [zi ns l] W h1 hF.small h2
    have e:jn (ns.length+9+1) [zi ns l]=[zd ns l]:=by
     show (jt [zi ns l]).map (jk (ns.length+9))=_
     rw[jO _ _ (j5 hg)];rfl
    rw[e]at h
    exact h
   have hcj:cnt (ns.length+9+1) [zd ns l]≤1048576:=by
    have e:[zd ns l]=jG (ns.length+9) [zi ns l]:=by
     show _=(jt [zi ns l]).map (jk (ns.length+9))
     rw[jO _ _ (j5 hg)];rfl
    rw[e];exact Nat.le_trans (VT _ _) hF.few
   have HMK:Hid (∀ (S:Nat→Prop) (va vk:Value) (W:World),qC S W va (zd ns l).attrs→qw S W (ns.length+9) vk (zd ns l).kids→(∀ b,S b→b<W.heap.size)→Calls Tryz.prog 36 #[.agg #[.bool (zd ns l).text,.string (zd ns l).s,va,vk]] W fun e w'=>∃ v,e=.returned (.tuple #[.agg #[v],.int .i64 (jp (zd ns l))])∧qK (fun b=>W.heap.size≤b) w' v (zA (ns.length+9) (zd ns l))∧Below W.heap.size W w'):=fun S va vk W h1 h2 h3=>makeDoc_any S (ns.length+9) va vk (zd ns l) W h1 h2 hF.texts hcj h3
   have HAD:Hid (qO ns l=(if zh (zd ns l) then layF (ns.length+9) (zd ns l) (-1) 0 else ns)∧yi ns l=(if zh (zd ns l) then 0 else 2)):=by
    show _∧_
    unfold qO yi;rw[if_pos hc,if_pos hc];exact ⟨rfl,rfl⟩
   rw[hc]at HCK
   clear hg hlen hw hF hdeep hsm9 hcj hc hsm hto hf
   generalize qO ns l=AD at *
   generalize yi ns l=AE at *
   generalize zd ns l=J at *
   go_enter Tryz.func16,Tryz.ntmps16
   go_wp2_with fail
   generalize (w.alloc (.cells #[.slice na ns.length nc] 24)).alloc (.cells #[.slice none 0 0] 24)=W1 at *
   refine Calls.mono HCK.out ?_;rintro e w2 ⟨rfl,hb2⟩;have HB2:Hid (Below w.heap.size w w2):=HB1.out.trans (hb2.mono HB1.out.size);have HD2:Hid _:=(hb2.block _ (qA HBD.out)).trans HBD.out;have HR2:Hid _:=(hb2.block _ (qA HBR.out)).trans HBR.out;have d2:w2.cell? ⟨w.heap.size,0,none⟩=some (.slice na ns.length nc):=by rw[cH9 HD2.out];rfl
   clear HBD HBR HB1 HCK hb2;go_wp2_with fail;refine Calls.mono (HTU.out w2 HB2.out) ?_;rintro e w3 ⟨r3,rfl,hG3,hb3⟩
   have hT3:qw (fun b=>w2.heap.size≤b∧b<w3.heap.size) w3 (ns.length+9+1) r3 [zi ns l]:=by
    have h1:=qw.deeper (8+ns.length+1) hG3.trees;rw[show 8+ns.length+1+1=ns.length+9+1 by omega]at h1
    exact h1
   have HJ3:Hid _:=HJN.out _ r3 w3 hT3 (fun b hb=>hb.2)
   obtain ⟨ra,rc,rfl,_,_⟩:=qw.shape (ns.length+9+1) hT3;have HB3:Hid (Below w.heap.size w w3):=HB2.out.trans (hb3.mono HB2.out.size);have HD3:Hid _:=(hb3.block _ (qA HD2.out)).trans HD2.out;have HR3:Hid _:=(hb3.block _ (qA HR2.out)).trans HR2.out;clear hG3 hT3 hb3 HTU HJN HD2 HR2 d2 HB2;go_wp2_with fail;refine Calls.mono HJ3.out ?_;rintro e w4 ⟨r4,rfl,hT4,hb4⟩;have HB4:Hid (Below w.heap.size w w4):=HB3.out.trans (hb4.mono HB3.out.size);have HD4:Hid _:=(hb4.block _ (qA HD3.out)).trans HD3.out;have HR4:Hid _:=(hb4.block _ (qA HR3.out)).trans HR3.out;obtain ⟨a4,cap4,rfl,hl4,hm4,hc4⟩:=qw.bounded (ns.length+9+1) hT4;obtain ⟨b4,o4,rfl,_,hcc⟩:=hc4 (by simp)
   obtain ⟨va4,vk4,x0,x1,x2,x3,hA4,hK4⟩:=hcc 0 J rfl;obtain ⟨aa4,ac4,rfl⟩:=hA4.shape;obtain ⟨ka4,kc4,rfl,_,_⟩:=qw.shape (ns.length+9) hK4;simp only[Nat.zero_mul,Nat.add_zero]at x0 x1 x2 x3
   have HM4:Hid _:=HMK.out _ _ _ w4 hA4 hK4 (fun b hb=>hb.2)
   unfold maxLen at hm4
   simp only[List.length_cons,List.length_nil]at hl4
   clear hT4 hb4 hc4 hcc hA4 hK4 HMK HD3 HR3 HB3 HJ3;go_wp2_with fail;refine Calls.mono HM4.out ?_;rintro e w5 ⟨v5,rfl,hN5,hb5⟩;obtain ⟨a5,c5,rfl,_,_⟩:=hN5.shape;have hb6:=Below.alloc1 w5 (.cells #[.slice a5 (zA (ns.length+9) J).length c5] 24);have hb56:=hb5.trans (hb6.mono hb5.size);have HB6:Hid _:=HB4.out.trans (hb56.mono HB4.out.size);have HD6:Hid _:=(hb56.block _ (qA HD4.out)).trans HD4.out;have HR6:Hid _:=(hb56.block _ (qA HR4.out)).trans HR4.out;have HO6:Hid _:=heap_alloc_new w5 (.cells #[.slice a5 (zA (ns.length+9) J).length c5] 24);have HN6:Hid (qK (fun b=>w4.heap.size≤b) (w5.alloc (.cells #[.slice a5 (zA (ns.length+9) J).length c5] 24)) (.slice a5 (zA (ns.length+9) J).length c5) (zA (ns.length+9) J)):=qK.later hN5 hb6
   have d6:(w5.alloc (.cells #[.slice a5 (zA (ns.length+9) J).length c5] 24)).cell? ⟨w.heap.size,0,none⟩=some (.slice na ns.length nc):=by rw[cH9 HD6.out];rfl
   have r6:(w5.alloc (.cells #[.slice a5 (zA (ns.length+9) J).length c5] 24)).cell? ⟨w.heap.size+1,0,none⟩=some (.slice none 0 0):=by rw[cH9 HR6.out];rfl
   have rf6:(w5.alloc (.cells #[.slice a5 (zA (ns.length+9) J).length c5] 24)).frozen? ⟨w.heap.size+1,0,none⟩=false:=fH9 HR6.out 0;have o6:(w5.alloc (.cells #[.slice a5 (zA (ns.length+9) J).length c5] 24)).cell? ⟨w5.heap.size,0,none⟩=some (.slice a5 (zA (ns.length+9) J).length c5):=by rw[cH9 HO6.out];rfl
   have hw4:w.heap.size+1<w4.heap.size:=qA HR4.out;have HME:Hid (jp J=(if zh J then 0 else 1)∧zA (ns.length+9) J=(if zh J then layF (ns.length+9) J (-1) 0 else [])):=⟨rfl,rfl⟩
   generalize jp J=ME at *
   generalize zA (ns.length+9) J=MD at *
   clear hN5 hb5 hb6 hb56 HM4 HD4 HR4 x0 x1 x2 x3 HO6;cases hgj:zh J with
   | true =>
     rw[hgj]at HME HAD
     obtain rfl:0=ME:=HME.out.1.symm;obtain ⟨e1,e2⟩:=HAD.out;obtain rfl:MD=AD:=by rw[e1,HME.out.2];rfl
     obtain rfl:0=AE:=e2.symm;clear hgj e1 e2 HME HAD;go_wp2_with fail
     generalize w5.alloc (.cells #[.slice a5 MD.length c5] 24)=W6 at *
     refine bodyPost_ret (v:=.tuple #[.agg #[.slice a5 MD.length c5],.int .i64 0]) (by simp[results,Tryz.results16,go_sem,qD,r6]) rfl ?_
     exact ⟨_,rfl,(qK.bounded HN6.out).carry fun b hb=>⟨Or.inr (by omega),qd (by omega)⟩,HB6.out.setCell (p:=⟨w.heap.size+1,0,none⟩) (Nat.le_succ _) _⟩
   | false =>
     rw[hgj]at HME HAD
     obtain rfl:1=ME:=HME.out.1.symm;obtain ⟨e1,e2⟩:=HAD.out;obtain rfl:ns=AD:=e1.symm;obtain rfl:2=AE:=e2.symm;clear hgj e1 e2 HME HAD;go_wp2_with fail
     generalize w5.alloc (.cells #[.slice a5 MD.length c5] 24)=W6 at *
     refine bodyPost_ret (v:=.tuple #[.agg #[.slice na ns.length nc],.int .i64 2]) (by simp[results,Tryz.results16,go_sem,qD,r6]) rfl ?_
     exact ⟨_,rfl,HKP.out W6 HB6.out _,HB6.out.setCell (p:=⟨w.heap.size+1,0,none⟩) (Nat.le_succ _) _⟩
 · have HAD:Hid (qO ns l=ns∧yi ns l=qW ns l):=by
    show _∧_
    unfold qO yi;rw[if_neg hc,if_neg hc];exact ⟨rfl,rfl⟩
   generalize qO ns l=AD at *
   generalize yi ns l=AE at *
   generalize qW ns l=C at *
   have hcb:(C==0)=false:=by simpa using hc
   obtain ⟨rfl,rfl⟩:=HAD.out;clear HAD hc hsm hto hf
   go_enter Tryz.func16,Tryz.ntmps16
   go_wp2_with fail
   generalize (w.alloc (.cells #[.slice na AD.length nc] 24)).alloc (.cells #[.slice none 0 0] 24)=W1 at *
   refine Calls.mono HCK.out ?_;rintro e w2 ⟨rfl,hb2⟩;have HB2:Hid (Below w.heap.size w w2):=HB1.out.trans (hb2.mono HB1.out.size);have hd2:=(hb2.block _ (qA HBD.out)).trans HBD.out;have hr2:=(hb2.block _ (qA HBR.out)).trans HBR.out;have d2:w2.cell? ⟨w.heap.size,0,none⟩=some (.slice na AD.length nc):=by rw[cH9 hd2];rfl
   have r2:w2.cell? ⟨w.heap.size+1,0,none⟩=some (.slice none 0 0):=by rw[cH9 hr2];rfl
   have rf2:w2.frozen? ⟨w.heap.size+1,0,none⟩=false:=fH9 hr2 0;clear hd2 hr2 HBD HBR HB1 HCK hb2;go_wp2_with fail;refine bodyPost_ret (v:=.tuple #[.agg #[.slice na AD.length nc],.int .i64 AE]) (by simp[results,Tryz.results16,go_sem,qD,r2]) rfl ?_
   exact ⟨_,rfl,HKP.out w2 HB2.out _,HB2.out.setCell (p:=⟨w.heap.size+1,0,none⟩) (Nat.le_succ _) _⟩
set_option linter.unusedSimpArgs false in
set_option maxHeartbeats 2000000 in
theorem XS (S S':Nat→Prop)(n:Nat)(ca ca':Option Addr)(cc cc':Nat)(o:Opn)(w:World)(h:qw S w n (.slice ca o.content.length cc) o.content)(h':qw S' w n (.slice ca' o.content.length cc') o.content) :
 Calls Tryz.prog 17 #[.agg #[.int .i64 o.kind,.int .i64 o.target,.slice ca o.content.length cc,.string o.name,.string o.s],.agg #[.int .i64 o.kind,.int .i64 o.target,.slice ca' o.content.length cc',.string o.name,.string o.s]] w fun e w'=>e=.returned (.bool true)∧Below w.heap.size w w':=by
 have hb1:Below w.heap.size w ((w.alloc (.cells #[.int .i64 o.kind,.int .i64 o.target,.slice ca o.content.length cc,.string o.name,.string o.s] 30)).alloc (.cells #[.int .i64 o.kind,.int .i64 o.target,.slice ca' o.content.length cc',.string o.name,.string o.s] 30)):=(Below.alloc1 w _).alloc (by simp) _
 have HS:Hid _:=ZW n S S' _ _ o.content _ (qw.later hb1 n h) (qw.later hb1 n h');clear h h'
 go_enter Tryz.func17,Tryz.ntmps17
 go_wp2_with fail;refine Calls.mono HS.out ?_;rintro e w2 ⟨rfl,hb2⟩;go_wp2_with fail;go_ret;exact ⟨rfl,hb1.trans (hb2.mono hb1.size)⟩
end
section
attribute [local go_sem] qD
theorem Xa.texts {n:Nat}{l:List Opn}(h:Xa n l):jS (n+1) l:=by
 have key:∀ (m:Nat) (ts:List Tr),TexN m ts→TextsN m ts:=by
  intro m
  induction m with
  | zero=>intro ts _;trivial
  | succ m ih =>
    intro ts ht t hm;obtain ⟨h1,h2,h3⟩:=ht t hm;exact ⟨⟨h1,h2⟩,ih _ h3⟩
 exact fun x hx=>⟨key _ _ (h x hx).2.1,(h x hx).2.2.1,(h x hx).2.2.2⟩
end
section
attribute [local go_sem] qD
set_option linter.unusedSimpArgs false in
set_option maxHeartbeats 8000000 in
theorem Qn (S:Nat→Prop)(n:Nat)(vd vl:Value)(ns:List Nd)(l:List Opn)(w:World)(hD:QF S w vd ns)(hdl:ns.length≤1759218604441)(hdk:∀ x∈ns,x.kids.length≤17592186044416)(hO:Ops S w (n+1) vl l)(hf:Xa n l)(hsm:∀ x∈l,Small (n+1) x.content)(hl:l.length≤1048576) :
 Calls Tryz.prog 4 #[.agg #[vd],vl] w fun e w'=>e=.returned (.bool true)∧Below w.heap.size w w':=by
 obtain ⟨na,nc,rfl,hnl,hnc⟩:=hD.nodes.shape;obtain ⟨la,lc,rfl,hll,hlc⟩:=hO.shape;have hb1:=Below.alloc1 w (.cells #[.slice na ns.length nc] 24);have HBD:Hid _:=heap_alloc_new w (.cells #[.slice na ns.length nc] 24);have HCP:Hid _:=Jd S _ ns (w.alloc (.cells #[.slice na ns.length nc] 24)) (hD.later hb1).nodes (fun x hx=>⟨hD.few x hx,hdk x hx⟩) hdl
 have HD:Hid (QF S w (.slice na ns.length nc) ns):=hD;have HO:Hid (Ops S w (n+1) (.slice la l.length lc) l):=hO;have HF:Hid (Xa n l):=hf;have HSM:Hid (∀ x∈l,Small (n+1) x.content):=hsm;have HB1:Hid _:=hb1;have HII:Hid IsDocOk:=KV makeDoc_any;unfold maxLen at hnc hlc
 clear hD hO hf hsm hb1 hdl hdk
 go_enter Tryz.func4,Tryz.ntmps4
 go_wp2_with fail
 generalize w.alloc (.cells #[.slice na ns.length nc] 24)=W1 at *
 refine Calls.mono HCP.out ?_;rintro e w2 ⟨vc,rfl,hN2,hb2⟩;obtain ⟨ka,kc,rfl,_,_⟩:=hN2.shape;have hB2:=HB1.out.trans (hb2.mono HB1.out.size);have HOP:Hid _:=qa7 S (n+1) _ l w2 (HO.out.later hB2) HSM.out hl;clear HCP;go_wp2_with fail;refine Calls.mono HOP.out ?_;rintro e w3 ⟨vm,rfl,hM3,hb3⟩;obtain ⟨ma,mc,rfl,hml,hmc⟩:=hM3.shape;have hb4:=Below.alloc1 w3 (.cells #[.slice ka ns.length kc] 24);have hb34:=hb3.trans (hb4.mono hb3.size);have hB4:=hB2.trans (hb34.mono hB2.size);have HN4:Hid (qK (fun b=>W1.heap.size≤b) (w3.alloc (.cells #[.slice ka ns.length kc] 24)) (.slice ka ns.length kc) ns):=qK.later hN2 hb34
 have HM4:Hid (Ops (fun b=>w2.heap.size≤b) (w3.alloc (.cells #[.slice ka ns.length kc] 24)) (n+1) (.slice ma l.length mc) l):=hM3.later hb4
 have HC4:Hid _:=heap_alloc_new w3 (.cells #[.slice ka ns.length kc] 24);have HD4:Hid _:=((hb2.trans (hb34.mono hb2.size)).block _ (qA HBD.out)).trans HBD.out;have HB4:Hid _:=hB4;unfold maxLen at hmc
 have c4:(w3.alloc (.cells #[.slice ka ns.length kc] 24)).cell? ⟨w3.heap.size,0,none⟩=some (.slice ka ns.length kc):=by rw[cH9 HC4.out];rfl
 clear hN2 hM3 hb2 hb3 hb4 hb34 hB2 hB4 HOP HBD;go_wp2_with fail
 generalize w3.alloc (.cells #[.slice ka ns.length kc] 24)=W4 at *
 generalize w3.heap.size=cb at *
 have HA4:Hid _:=Yt (fun b=>b<W4.heap.size) (n+1) _ _ ns l W4 (HN4.out.bounded.carry fun b hb=>⟨hb.2,rfl⟩) (fun b hb=>hb) HD.out.few HD.out.short (HM4.out.bounded.carry fun b hb=>⟨hb.2,rfl⟩) HF.out.texts
 refine Calls.mono HA4.out ?_;rintro e w5 ⟨v5,rfl,hN5,hb5⟩;obtain ⟨a5,c5,rfl,_,_⟩:=hN5.shape;have hb6:=Below.alloc1 w5 (.cells #[.slice a5 (qO ns l).length c5] 24);have hb56:=hb5.trans (hb6.mono hb5.size);have HA6:Hid _:=heap_alloc_new w5 (.cells #[.slice a5 (qO ns l).length c5] 24);have HN6:Hid (qK (fun b=>b<W4.heap.size∨W4.heap.size≤b) (w5.alloc (.cells #[.slice a5 (qO ns l).length c5] 24)) (.slice a5 (qO ns l).length c5) (qO ns l)):=qK.later hN5 hb6
 have HB46:Hid (Below W4.heap.size W4 (w5.alloc (.cells #[.slice a5 (qO ns l).length c5] 24))):=hb56;have HB6:Hid (Below w.heap.size w (w5.alloc (.cells #[.slice a5 (qO ns l).length c5] 24))):=HB4.out.trans (hb56.mono HB4.out.size);have d6:(w5.alloc (.cells #[.slice a5 (qO ns l).length c5] 24)).cell? ⟨w.heap.size,0,none⟩=some (.slice na ns.length nc):=by rw[cH9 ((hb56.block _ (qA HD4.out)).trans HD4.out)];rfl
 have HAP:Hid _:=Yu HII.out S S n _ _ ns l _ (HD.out.later HB6.out) (HO.out.later HB6.out) HF.out HF.out.texts HSM.out;clear hN5 hb5 hb6 hb56 HA4;go_wp2_with fail
 generalize w5.alloc (.cells #[.slice a5 (qO ns l).length c5] 24)=W6 at *
 generalize w5.heap.size=ab at *
 refine Calls.mono HAP.out ?_;rintro e w7 ⟨v7,rfl,hN7,hb7⟩;obtain ⟨a7,c7,rfl,_,_⟩:=hN7.shape;have hb8:=Below.alloc1 w7 (.cells #[.slice a7 (qO ns l).length c7] 24);have hb78:=hb7.trans (hb8.mono hb7.size);have HB48:Hid (Below W4.heap.size W4 (w7.alloc (.cells #[.slice a7 (qO ns l).length c7] 24))):=HB46.out.trans (hb78.mono HB46.out.size);have HB8:Hid (Below w.heap.size w (w7.alloc (.cells #[.slice a7 (qO ns l).length c7] 24))):=HB6.out.trans (hb78.mono HB6.out.size)
 have HSA:Hid (Calls Tryz.prog 13 #[.agg #[.slice a5 (qO ns l).length c5],.agg #[.slice a7 (qO ns l).length c7]] (w7.alloc (.cells #[.slice a7 (qO ns l).length c7] 24)) fun e w'=>e=.returned (.bool true)∧Below (w7.alloc (.cells #[.slice a7 (qO ns l).length c7] 24)).heap.size (w7.alloc (.cells #[.slice a7 (qO ns l).length c7] 24)) w'):=by
  have h:=Qf _ _ _ _ (qO ns l) (qO ns l) _ (qK.later HN6.out hb78) (qK.later hN7 hb8);rw[ndsB_iff.2 rfl]at h
  exact h
 have HSC:Hid (∀ V,Below (w7.alloc (.cells #[.slice a7 (qO ns l).length c7] 24)).heap.size (w7.alloc (.cells #[.slice a7 (qO ns l).length c7] 24)) V→Calls Tryz.prog 13 #[.agg #[.slice ka ns.length kc],.agg #[.slice na ns.length nc]] V fun e w'=>e=.returned (.bool true)∧Below V.heap.size V w'):=by
  intro V hV;have h:=Qf _ S _ _ ns ns V (qK.later (qK.later HN4.out HB48.out) hV) (HD.out.later (HB8.out.trans (hV.mono HB8.out.size))).nodes;rw[ndsB_iff.2 rfl]at h
  exact h
 have HA8:Hid _:=(hb78.block _ (qA HA6.out)).trans HA6.out;have HB8N:Hid _:=heap_alloc_new w7 (.cells #[.slice a7 (qO ns l).length c7] 24)
 have HCC:Hid (∀ V,Below (w7.alloc (.cells #[.slice a7 (qO ns l).length c7] 24)).heap.size (w7.alloc (.cells #[.slice a7 (qO ns l).length c7] 24)) V→V.cell? ⟨ab,0,none⟩=some (.slice a5 (qO ns l).length c5)∧V.cell? ⟨w7.heap.size,0,none⟩=some (.slice a7 (qO ns l).length c7)∧V.cell? ⟨cb,0,none⟩=some (.slice ka ns.length kc)∧V.cell? ⟨w.heap.size,0,none⟩=some (.slice na ns.length nc)):=by
  intro V hV;have h4V:=HB48.out.trans (hV.mono HB48.out.size);refine ⟨?_,?_,?_,?_⟩
  · rw[cH9 ((hV.block _ (qA HA8.out)).trans HA8.out)];rfl
  · rw[cH9 ((hV.block _ (qA HB8N.out)).trans HB8N.out)];rfl
  · rw[cH9 ((h4V.block _ (qA HC4.out)).trans HC4.out)];rfl
  · rw[cH9 ((h4V.block _ (qA HD4.out)).trans HD4.out)];rfl
 obtain ⟨p0,p1,p2,p3⟩:=HCC.out _ (Below.refl _ _);clear hN7 hb7 hb8 hb78 HAP d6 c4
 generalize yi ns l=AE at *
 go_wp2_with fail
 generalize w7.alloc (.cells #[.slice a7 (qO ns l).length c7] 24)=W8 at *
 generalize w7.heap.size=bb at *
 refine Calls.mono HSA.out ?_;rintro e w9 ⟨rfl,hb9⟩;clear p0 p1 p2 p3;obtain ⟨p0,p1,p2,p3⟩:=HCC.out w9 hb9;go_wp2_with fail;refine Calls.mono (HSC.out w9 hb9) ?_;rintro e w10 ⟨rfl,hb10⟩;have hb910:=hb9.trans (hb10.mono hb9.size);have HB10:Hid (Below W4.heap.size W4 w10):=HB48.out.trans (hb910.mono HB48.out.size);clear p0 p1 p2 p3 HSA HSC HCC hb9 hb10 hb910;go_wp2_with fail
 go_loopg [45] l.length (fun g i wr=>∃ k:Nat,k+g=l.length∧i=.int .i64 (k:Int)∧Below W4.heap.size W4 wr)
 case atStart => exact ⟨0,by omega,rfl,HB10.out⟩
 case round =>
  obtain ⟨i,hi,rfl,hB⟩:=hrel;have HW:Hid (Below W4.heap.size W4 wr):=hB;have hBw:=HB4.out.trans (hB.mono HB4.out.size);clear hB
  by_cases hlt:i<l.length
  · have hlti : (i : Int) < (l.length : Int) := by omega
    obtain ⟨x,hx⟩:∃ x,l[i]?=some x:=⟨l[i],by simp[hlt]⟩
    obtain ⟨mb,mo,mc',ca,cc,hv1,_,hmbl,p0,p1,p2,p3,p4,hTx⟩:=(HM4.out.later HW.out).at hx
    injection hv1 with hv1 hv2 hv3
    subst hv1 hv3;obtain ⟨lb,lo,lc',xa,xc,hw1,_,hlbl,r0,r1,r2,r3,r4,hTl⟩:=(HO.out.later hBw).at hx
    injection hw1 with hw1 hw2 hw3
    subst hw1 hw3
    have HCL:Hid (∀ W,Below wr.heap.size wr W→(W.cell? ⟨lb,lo+i*5,none⟩=some (.int .i64 x.kind)∧W.cell? ⟨lb,lo+i*5+1,none⟩=some (.int .i64 x.target)∧W.cell? ⟨lb,lo+i*5+2,none⟩=some (.slice xa x.content.length xc)∧W.cell? ⟨lb,lo+i*5+3,none⟩=some (.string x.name)∧W.cell? ⟨lb,lo+i*5+4,none⟩=some (.string x.s))∧W.cell? ⟨mb,mo+i*5,none⟩=some (.int .i64 x.kind)∧W.cell? ⟨mb,mo+i*5+1,none⟩=some (.int .i64 x.target)∧W.cell? ⟨mb,mo+i*5+2,none⟩=some (.slice ca x.content.length cc)∧W.cell? ⟨mb,mo+i*5+3,none⟩=some (.string x.name)∧W.cell? ⟨mb,mo+i*5+4,none⟩=some (.string x.s)):=by
     intro W hW;have qm:∀ y,W.cell? ⟨mb,y,none⟩=wr.cell? ⟨mb,y,none⟩:=fun y=>World.cell?_of_block (a:=⟨mb,y,none⟩) (hW.block mb hmbl)
     have ql:∀ y,W.cell? ⟨lb,y,none⟩=wr.cell? ⟨lb,y,none⟩:=fun y=>World.cell?_of_block (a:=⟨lb,y,none⟩) (hW.block lb hlbl)
     exact ⟨⟨(ql _).trans r0,(ql _).trans r1,(ql _).trans r2,(ql _).trans r3,(ql _).trans r4⟩,(qm _).trans p0,(qm _).trans p1,(qm _).trans p2,(qm _).trans p3,(qm _).trans p4⟩
    have HSO:Hid (∀ W,Below wr.heap.size wr W→Calls Tryz.prog 17 #[.agg #[.int .i64 x.kind,.int .i64 x.target,.slice xa x.content.length xc,.string x.name,.string x.s],.agg #[.int .i64 x.kind,.int .i64 x.target,.slice ca x.content.length cc,.string x.name,.string x.s]] W fun e w'=>e=.returned (.bool true)∧Below W.heap.size W w'):=fun W hW=>XS S _ (n+1) xa ca xc cc x W (qw.later hW (n+1) hTl) (qw.later hW (n+1) hTx)
    have hbn:Below wr.heap.size wr wr.drew:=(Below.refl _ wr).drew;clear hv2 hw2 hTx hTl p0 p1 p2 p3 p4 r0 r1 r2 r3 r4 hx hBw;go_wp2_with fail
    go_region_held3 (fun W:World=>(W.cell? ⟨lb,lo+i*5,none⟩=some (.int .i64 x.kind)∧W.cell? ⟨lb,lo+i*5+1,none⟩=some (.int .i64 x.target)∧W.cell? ⟨lb,lo+i*5+2,none⟩=some (.slice xa x.content.length xc)∧W.cell? ⟨lb,lo+i*5+3,none⟩=some (.string x.name)∧W.cell? ⟨lb,lo+i*5+4,none⟩=some (.string x.s))∧W.cell? ⟨mb,mo+i*5,none⟩=some (.int .i64 x.kind)∧W.cell? ⟨mb,mo+i*5+1,none⟩=some (.int .i64 x.target)∧W.cell? ⟨mb,mo+i*5+2,none⟩=some (.slice ca x.content.length cc)∧W.cell? ⟨mb,mo+i*5+3,none⟩=some (.string x.name)∧W.cell? ⟨mb,mo+i*5+4,none⟩=some (.string x.s))
     (with_reducible exact HCL.out _ hbn)
     ((go_at_call 17;refine (Calls.mono (HSO.out _ hbn) ?_);rintro e w5 ⟨rfl,hb5⟩;have hbn:=hbn.trans (hb5.mono hbn.size)))
    have HW5:Hid (Below W4.heap.size W4 w5):=HW.out.trans (hbn.mono HW.out.size);clear HCL HSO hbn hb5;go_wp2_with fail
    go_roundg (l.length-(i+1))
    case measure => omega
    case rel => exact ⟨i+1,by omega,by go_num,HW5.out⟩
  · have hlti : ¬ ((i : Int) < (l.length : Int)) := by omega
    have HBF:Hid (Below w.heap.size w wr):=hBw;clear hBw;go_wp2_with fail;refine Calls.mono (KJ wr) ?_;rintro e w6 ⟨rfl,hb6⟩;go_wp2_with fail;go_ret;exact ⟨rfl,HBF.out.trans (hb6.mono HBF.out.size)⟩
end
end Go.Proofs.YtnppmdpmippcoaaGreatDoor
