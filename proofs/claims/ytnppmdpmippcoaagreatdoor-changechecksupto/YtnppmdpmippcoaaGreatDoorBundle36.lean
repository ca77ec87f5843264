/- topiarylaw.ChangeChecks says true. Condition: arguments of at most 2^20 values. -/
import Derived.Test.YtnppmdpmippcoaaGreatDoorBundle34
import Derived.Test.YtnppmdpmippcoaaGreatDoorBundle35
namespace Go.Proofs.YtnppmdpmippcoaaGreatDoor
open Go.ChangeShapes Go.WideShapes Go.ChangeAt Go.RowKit
set_option maxRecDepth 100000
section
attribute [local go_sem] qk
theorem y6 {P:Program}{ops:Array Oper}{o:Oper}{a:Act}{w:World}{K:Act→World→Prop}{Q:Exit→Act→World→Prop}{E:Prop}
 (hw:Region.wanted o (yielded ops a.tmps)=true) (f:FuncId) (args:Array Value) (hrun:(execOp a.eval o).run P w=.ok (.enter f args) w)
 (R:Value→World→Prop) (hc:Calls P f args w fun e w'=>∃ r,e=.returned r∧R r w')
 (hK:∀ r w',R r w'→K (a.put o.dst r) w') :
 if Region.wanted o (yielded ops a.tmps)=true then Oper.wp P o a w K Q else E:=by
 rw[if_pos hw];unfold Oper.wp;rw[hrun,Oper.upon_enter];refine hc.mono ?_;rintro e w' ⟨r,rfl,hr⟩;exact hK r w' hr
def yQ (f:Nat)(args:Array Value)(r:Value)(w:World):Prop:=Calls Tryz.prog f args w fun e w'=>∃ r',e=.returned r'∧(r'=r∧Below w.heap.size w w')
theorem yQ.of {f:Nat}{args:Array Value}{r:Value}{w:World}(h:Calls Tryz.prog f args w fun e w'=>e=.returned r∧Below w.heap.size w w'):yQ f args r w:=by
 refine h.mono ?_;rintro e w' ⟨rfl,h2⟩;exact ⟨_,rfl,rfl,h2⟩
set_option maxHeartbeats 1000000 in
theorem Jj (S T:Nat→Prop)(n:Nat)(v:Value)(ca:Option Addr)(cc:Nat)(ns:List Nd)(o:Opn)(w:World)(hD:Qn S w v ns)(hC:qd T w n (.slice ca o.content.length cc) o.content)(hx:TextsN n o.content)(hn:o.name.size≤maxLen)(hs:o.s.size≤maxLen) :
 Calls Tryz.prog 7 #[.agg #[v],.agg #[.int .i64 o.kind,.int .i64 o.target,.slice ca o.content.length cc,.string o.name,.string o.s]] w fun e w'=>e=.returned (.int .i64 (if qu ns then qE ns o else 1))∧Below w.heap.size w w':=by
 obtain ⟨na,nc,rfl,_,_⟩:=hD.nodes.shape;have hb1:Below w.heap.size w ((w.alloc (.cells #[.slice na ns.length nc] 24)).alloc (.cells #[.int .i64 o.kind,.int .i64 o.target,.slice ca o.content.length cc,.string o.name,.string o.s] 30)):=(Below.alloc1 w _).alloc (by simp) _
 have HBD:Hid (((w.alloc (.cells #[.slice na ns.length nc] 24)).alloc (.cells #[.int .i64 o.kind,.int .i64 o.target,.slice ca o.content.length cc,.string o.name,.string o.s] 30)).heap[w.heap.size]?=some (.cells #[.slice na ns.length nc] 24 (0,0))):=by
  show _=_
  rw[heap_alloc_old _ _ (by simp)];exact heap_alloc_new _ _
 have HBO:Hid (((w.alloc (.cells #[.slice na ns.length nc] 24)).alloc (.cells #[.int .i64 o.kind,.int .i64 o.target,.slice ca o.content.length cc,.string o.name,.string o.s] 30)).heap[w.heap.size+1]?=some (.cells #[.int .i64 o.kind,.int .i64 o.target,.slice ca o.content.length cc,.string o.name,.string o.s] 30 (0,0))):=by
  have:=heap_alloc_new (w.alloc (.cells #[.slice na ns.length nc] 24)) (.cells #[.int .i64 o.kind,.int .i64 o.target,.slice ca o.content.length cc,.string o.name,.string o.s] 30);rw[World.size_alloc]at this
  exact this
 have HG:Hid _:=Zo S _ ns _ (hD.later hb1).nodes (hD.later hb1).here hD.few hD.short;have HW:Hid (∀ W,Below w.heap.size w W→Calls Tryz.prog 20 #[.slice na ns.length nc,.agg #[.int .i64 o.kind,.int .i64 o.target,.slice ca o.content.length cc,.string o.name,.string o.s]] W fun e w'=>e=.returned (.int .i64 (qE ns o))∧Below W.heap.size W w'):=fun W hW=>xi (fun b=>b<W.heap.size) n _ ca cc ns o W ((hD.later hW).nodes.carry fun b hb=>⟨(hD.later hW).here b hb,rfl⟩) (qd.carry (fun b hb=>⟨hb.2,rfl⟩) n (qd.bounded n (qd.later hW n hC))) hx hn hs
 clear hD hC hx hn hs
 generalize qu ns=gd at *
 go_enter Tryz.func7,Tryz.ntmps7
 go_wp2_with fail
 generalize (w.alloc (.cells #[.slice na ns.length nc] 24)).alloc (.cells #[.int .i64 o.kind,.int .i64 o.target,.slice ca o.content.length cc,.string o.name,.string o.s] 30)=W1 at *
 refine Calls.mono HG.out ?_;rintro e w2 ⟨rfl,hb2⟩;have hB2:=hb1.trans (hb2.mono hb1.size);have e1:=(hb2.block _ (qh HBD.out)).trans HBD.out;obtain ⟨x0,x1,x2,x3,x4⟩:=zN ((hb2.block _ (qh HBO.out)).trans HBO.out);have d0:w2.cell? ⟨w.heap.size,0,none⟩=some (.slice na ns.length nc):=by rw[cH9 e1];rfl
 clear e1 HG HBD HBO;cases gd with
 | false =>
   go_wp2_with fail;go_ret;exact ⟨rfl,hB2⟩
 | true =>
   go_wp2_with fail;refine Calls.mono (HW.out _ hB2) ?_;rintro e w3 ⟨rfl,hb3⟩;go_wp2_with fail;go_ret;exact ⟨rfl,hB2.trans (hb3.mono hB2.size)⟩
theorem Xi.texts {n:Nat}{l:List Opn}(h:Xi n l):xm (n+1) l:=by
 have key:∀ (m:Nat) (ts:List Tr),TexN m ts→TextsN m ts:=by
  intro m
  induction m with
  | zero=>intro ts _;trivial
  | succ m ih =>
    intro ts ht t hm;obtain ⟨h1,h2,h3⟩:=ht t hm;exact ⟨⟨h1,h2⟩,ih _ h3⟩
 exact fun x hx=>⟨key _ _ (h x hx).2.1,(h x hx).2.2.1,(h x hx).2.2.2⟩
set_option linter.unusedSimpArgs false in
set_option maxHeartbeats 8000000 in
theorem xX (S:Nat→Prop)(n:Nat)(vd vl:Value)(ns:List Nd)(l:List Opn)(w:World)(hD:Qn S w vd ns)(hdl:ns.length≤1759218604441)(hdk:∀ x∈ns,x.kids.length≤17592186044416)(hO:Ops S w (n+1) vl l)(hf:Xi n l)(hsm:∀ x∈l,Small (n+1) x.content)(hl:l.length≤1048576) :
 Calls Tryz.prog 3 #[.agg #[vd],vl] w fun e w'=>e=.returned (.bool true)∧Below w.heap.size w w':=by
 obtain ⟨na,nc,rfl,hnl,hnc⟩:=hD.nodes.shape;obtain ⟨la,lc,rfl,hll,hlc⟩:=hO.shape;have hb1:=Below.alloc1 w (.cells #[.slice na ns.length nc] 24);have HBD:Hid _:=heap_alloc_new w (.cells #[.slice na ns.length nc] 24);have HCP:Hid _:=Yj S _ ns (w.alloc (.cells #[.slice na ns.length nc] 24)) (hD.later hb1).nodes (fun x hx=>⟨hD.few x hx,hdk x hx⟩) hdl
 have HD:Hid (Qn S w (.slice na ns.length nc) ns):=hD;have HO:Hid (Ops S w (n+1) (.slice la l.length lc) l):=hO;have HF:Hid (Xi n l):=hf;have HSM:Hid _:=hsm;have HB1:Hid _:=hb1;have HII:Hid IsDocOk:=Xz makeDoc_any;unfold maxLen at hnc hlc
 clear hD hO hf hsm hb1 hdl hdk
 go_enter Tryz.func3,Tryz.ntmps3
 go_wp2_with fail
 generalize w.alloc (.cells #[.slice na ns.length nc] 24)=W1 at *
 refine Calls.mono HCP.out ?_;rintro e w2 ⟨vc,rfl,hN2,hb2⟩;obtain ⟨ka,kc,rfl,_,_⟩:=hN2.shape;have hB2:=HB1.out.trans (hb2.mono HB1.out.size);have HOP:Hid _:=Vx S (n+1) _ l w2 (HO.out.later hB2) HSM.out hl;clear HCP HSM;go_wp2_with fail;refine Calls.mono HOP.out ?_;rintro e w3 ⟨vm,rfl,hM3,hb3⟩;obtain ⟨ma,mc,rfl,hml,hmc⟩:=hM3.shape;have hb4:=Below.alloc1 w3 (.cells #[.slice ka ns.length kc] 24);have hb34:=hb3.trans (hb4.mono hb3.size);have hB4:=hB2.trans (hb34.mono hB2.size);have HN4:Hid (qv (fun b=>W1.heap.size≤b) (w3.alloc (.cells #[.slice ka ns.length kc] 24)) (.slice ka ns.length kc) ns):=qv.later hN2 hb34
 have HM4:Hid (Ops (fun b=>w2.heap.size≤b) (w3.alloc (.cells #[.slice ka ns.length kc] 24)) (n+1) (.slice ma l.length mc) l):=hM3.later hb4
 have HC4:Hid _:=heap_alloc_new w3 (.cells #[.slice ka ns.length kc] 24);have HD4:Hid _:=((hb2.trans (hb34.mono hb2.size)).block _ (qh HBD.out)).trans HBD.out;have HB4:Hid _:=hB4;unfold maxLen at hmc
 clear hN2 hM3 hb2 hb3 hb4 hb34 hB2 hB4 HOP HBD;go_wp2_with fail
 generalize w3.alloc (.cells #[.slice ka ns.length kc] 24)=W4 at *
 generalize w3.heap.size=cb at *
 go_loopg [15] l.length (fun g i wr=>∃ k:Nat,k+g=l.length∧i=.int .i64 (k:Int)∧Below W4.heap.size W4 wr)
 case atStart => exact ⟨0,by omega,rfl,Below.refl _ _⟩
 case round =>
  obtain ⟨i,hi,rfl,hB⟩:=hrel;have HW:Hid (Below W4.heap.size W4 wr):=hB;clear hB
  by_cases hlt:i<l.length
  · have hlti : (i : Int) < (l.length : Int) := by omega
    have h0l:(0:Int)<(l.length:Int):=by omega
    obtain ⟨x,hx⟩:∃ x,l[i]?=some x:=⟨l[i],by simp[hlt]⟩
    obtain ⟨z,hz⟩:∃ z,l[0]?=some z:=⟨l[0]'(by omega),by simp⟩
    obtain ⟨mb,mo,mc',ca,cc,hv1,_,hmbl,p0,p1,p2,p3,p4,hTx⟩:=(HM4.out.later HW.out).at hx
    injection hv1 with hv1 hv2 hv3
    subst hv1 hv3;obtain ⟨mb',mo',mc'',za,zc,hv4,_,_,q0,q1,q2,q3,q4,_⟩:=(HM4.out.later HW.out).at hz
    injection hv4 with hv4 hv5 hv6
    injection hv4 with hv4
    injection hv4 with hv7 hv8 _
    subst hv7 hv8;have hBw:=HB4.out.trans (HW.out.mono HB4.out.size);obtain ⟨lb,lo,lc',xa,xc,hw1,_,hlbl,r0,r1,r2,r3,r4,_⟩:=(HO.out.later hBw).at hx
    injection hw1 with hw1 hw2 hw3
    subst hw1 hw3;obtain ⟨lb',lo',lc'',ya,yc,hw4,_,_,s0,s1,s2,s3,s4,_⟩:=(HO.out.later hBw).at hz
    injection hw4 with hw4 hw5 hw6
    injection hw4 with hw4
    injection hw4 with hw7 hw8 _
    subst hw7 hw8;simp only[Nat.zero_mul,Nat.add_zero]at q0 q1 q2 q3 q4 s0 s1 s2 s3 s4
    have hb5:=Below.alloc1 wr (.cells #[.int .i64 x.kind,.int .i64 x.target,.slice ca x.content.length cc,.string x.name,.string x.s] 30);have HX5:Hid _:=heap_alloc_new wr (.cells #[.int .i64 x.kind,.int .i64 x.target,.slice ca x.content.length cc,.string x.name,.string x.s] 30);have hsz5:wr.heap.size<(wr.alloc (.cells #[.int .i64 x.kind,.int .i64 x.target,.slice ca x.content.length cc,.string x.name,.string x.s] 30)).heap.size:=by simp
    have HCC:Hid (∀ V,Below (wr.alloc (.cells #[.int .i64 x.kind,.int .i64 x.target,.slice ca x.content.length cc,.string x.name,.string x.s] 30)).heap.size (wr.alloc (.cells #[.int .i64 x.kind,.int .i64 x.target,.slice ca x.content.length cc,.string x.name,.string x.s] 30)) V→V.cell? ⟨cb,0,none⟩=some (.slice ka ns.length kc)∧V.cell? ⟨w.heap.size,0,none⟩=some (.slice na ns.length nc)∧(V.cell? ⟨wr.heap.size,0,none⟩=some (.int .i64 x.kind)∧V.cell? ⟨wr.heap.size,1,none⟩=some (.int .i64 x.target)∧V.cell? ⟨wr.heap.size,2,none⟩=some (.slice ca x.content.length cc)∧V.cell? ⟨wr.heap.size,3,none⟩=some (.string x.name)∧V.cell? ⟨wr.heap.size,4,none⟩=some (.string x.s))∧(V.cell? ⟨mb,mo,none⟩=some (.int .i64 z.kind)∧V.cell? ⟨mb,mo+1,none⟩=some (.int .i64 z.target)∧V.cell? ⟨mb,mo+2,none⟩=some (.slice za z.content.length zc)∧V.cell? ⟨mb,mo+3,none⟩=some (.string z.name)∧V.cell? ⟨mb,mo+4,none⟩=some (.string z.s))∧(V.cell? ⟨lb,lo+i*5,none⟩=some (.int .i64 x.kind)∧V.cell? ⟨lb,lo+i*5+1,none⟩=some (.int .i64 x.target)∧V.cell? ⟨lb,lo+i*5+2,none⟩=some (.slice xa x.content.length xc)∧V.cell? ⟨lb,lo+i*5+3,none⟩=some (.string x.name)∧V.cell? ⟨lb,lo+i*5+4,none⟩=some (.string x.s))∧V.cell? ⟨lb,lo,none⟩=some (.int .i64 z.kind)∧V.cell? ⟨lb,lo+1,none⟩=some (.int .i64 z.target)∧V.cell? ⟨lb,lo+2,none⟩=some (.slice ya z.content.length yc)∧V.cell? ⟨lb,lo+3,none⟩=some (.string z.name)∧V.cell? ⟨lb,lo+4,none⟩=some (.string z.s)):=by
     intro V hV;have hwV:Below wr.heap.size wr V:=hb5.trans (hV.mono hb5.size);have e1:=(hwV.block _ (qh ((HW.out.block _ (qh HC4.out)).trans HC4.out))).trans ((HW.out.block _ (qh HC4.out)).trans HC4.out);have e2:=(hwV.block _ (qh ((HW.out.block _ (qh HD4.out)).trans HD4.out))).trans ((HW.out.block _ (qh HD4.out)).trans HD4.out);have qm:∀ y,V.cell? ⟨mb,y,none⟩=wr.cell? ⟨mb,y,none⟩:=fun y=>World.cell?_of_block (a:=⟨mb,y,none⟩) (hwV.block mb hmbl)
     have ql:∀ y,V.cell? ⟨lb,y,none⟩=wr.cell? ⟨lb,y,none⟩:=fun y=>World.cell?_of_block (a:=⟨lb,y,none⟩) (hwV.block lb hlbl)
     refine ⟨by rw[cH9 e1];rfl,by rw[cH9 e2];rfl,zN ((hV.block _ (qh HX5.out)).trans HX5.out),⟨(qm _).trans q0,(qm _).trans q1,(qm _).trans q2,(qm _).trans q3,(qm _).trans q4⟩,⟨(ql _).trans r0,(ql _).trans r1,(ql _).trans r2,(ql _).trans r3,(ql _).trans r4⟩,(ql _).trans s0,(ql _).trans s1,(ql _).trans s2,(ql _).trans s3,(ql _).trans s4⟩
    have hfx:=HF.out x (List.mem_of_getElem? hx)
    have HG:Hid (∀ V,Below (wr.alloc (.cells #[.int .i64 x.kind,.int .i64 x.target,.slice ca x.content.length cc,.string x.name,.string x.s] 30)).heap.size (wr.alloc (.cells #[.int .i64 x.kind,.int .i64 x.target,.slice ca x.content.length cc,.string x.name,.string x.s] 30)) V→yQ 7 #[.agg #[.slice ka ns.length kc],.agg #[.int .i64 x.kind,.int .i64 x.target,.slice ca x.content.length cc,.string x.name,.string x.s]] (.int .i64 (if qu ns then qE ns x else 1)) V):=by
     intro V hV;have hwV:Below wr.heap.size wr V:=hb5.trans (hV.mono hb5.size);have hN:=(qv.later (qv.later HN4.out HW.out) hwV).bounded;exact yQ.of (Jj _ _ (n+1) _ ca cc ns x V ⟨hN,fun b hb=>hb.2,HD.out.few,HD.out.short⟩ (qd.later hwV (n+1) hTx) (HF.out.texts x (List.mem_of_getElem? hx)).1 hfx.2.2.1 hfx.2.2.2)
    have HI:Hid (∀ V,Below (wr.alloc (.cells #[.int .i64 x.kind,.int .i64 x.target,.slice ca x.content.length cc,.string x.name,.string x.s] 30)).heap.size (wr.alloc (.cells #[.int .i64 x.kind,.int .i64 x.target,.slice ca x.content.length cc,.string x.name,.string x.s] 30)) V→yQ 8 #[.agg #[.slice na ns.length nc],.agg #[.int .i64 x.kind,.int .i64 x.target,.slice ca x.content.length cc,.string x.name,.string x.s]] (.int .i64 (if qu ns then qE ns x else 1)) V):=by
     intro V hV;have hwV:Below wr.heap.size wr V:=hb5.trans (hV.mono hb5.size);exact yQ.of (YG HII.out S _ n _ ca cc ns x V (HD.out.later (hBw.trans (hwV.mono hBw.size))) (qd.later hwV (n+1) hTx) hfx.1 hfx.2.1 hfx.2.2.1 hfx.2.2.2)
    generalize (if qu ns then qE ns x else 1)=R at *
    have HWB:Hid (∀ V,Below (wr.alloc (.cells #[.int .i64 x.kind,.int .i64 x.target,.slice ca x.content.length cc,.string x.name,.string x.s] 30)).heap.size (wr.alloc (.cells #[.int .i64 x.kind,.int .i64 x.target,.slice ca x.content.length cc,.string x.name,.string x.s] 30)) V→Below W4.heap.size W4 V):=fun V hV=>HW.out.trans ((hb5.trans (hV.mono hb5.size)).mono HW.out.size)
    clear hv2 hv5 hv6 hw2 hw5 hw6 hTx hb5 HX5 q0 q1 q2 q3 q4 r0 r1 r2 r3 r4 s0 s1 s2 s3 s4 hx hz hfx hBw;go_wp2_with fail
    generalize (wr.alloc (.cells #[.int .i64 x.kind,.int .i64 x.target,.slice ca x.content.length cc,.string x.name,.string x.s] 30))=W5 at *
    have h0n:0<l.length:=by omega
    have hbn:Below W5.heap.size W5 W5.drew:=(Below.refl _ W5).drew;refine wp_region_held_drew (S:=fun V:World=>V.cell? ⟨cb,0,none⟩=some (.slice ka ns.length kc)∧V.cell? ⟨w.heap.size,0,none⟩=some (.slice na ns.length nc)∧(V.cell? ⟨wr.heap.size,0,none⟩=some (.int .i64 x.kind)∧V.cell? ⟨wr.heap.size,1,none⟩=some (.int .i64 x.target)∧V.cell? ⟨wr.heap.size,2,none⟩=some (.slice ca x.content.length cc)∧V.cell? ⟨wr.heap.size,3,none⟩=some (.string x.name)∧V.cell? ⟨wr.heap.size,4,none⟩=some (.string x.s))∧(V.cell? ⟨mb,mo,none⟩=some (.int .i64 z.kind)∧V.cell? ⟨mb,mo+1,none⟩=some (.int .i64 z.target)∧V.cell? ⟨mb,mo+2,none⟩=some (.slice za z.content.length zc)∧V.cell? ⟨mb,mo+3,none⟩=some (.string z.name)∧V.cell? ⟨mb,mo+4,none⟩=some (.string z.s))∧(V.cell? ⟨lb,lo+i*5,none⟩=some (.int .i64 x.kind)∧V.cell? ⟨lb,lo+i*5+1,none⟩=some (.int .i64 x.target)∧V.cell? ⟨lb,lo+i*5+2,none⟩=some (.slice xa x.content.length xc)∧V.cell? ⟨lb,lo+i*5+3,none⟩=some (.string x.name)∧V.cell? ⟨lb,lo+i*5+4,none⟩=some (.string x.s))∧V.cell? ⟨lb,lo,none⟩=some (.int .i64 z.kind)∧V.cell? ⟨lb,lo+1,none⟩=some (.int .i64 z.target)∧V.cell? ⟨lb,lo+2,none⟩=some (.slice ya z.content.length yc)∧V.cell? ⟨lb,lo+3,none⟩=some (.string z.name)∧V.cell? ⟨lb,lo+4,none⟩=some (.string z.s)) (by kernel_rfl) (HCC.out _ hbn) (fun hHeld=>?_)
    refine wqi [0,1,3,4] ?_
    repeat (refine wqt (v:=?_) rfl (by kernel_rfl) (fun _ _ _ h=>h) (by rfl) (by assumption) ?_ ?_;rotate_left;(· (intro w hSw;(try dsimp only at hSw);go_simp;try with_reducible rfl));try simp only[Act.put,List.getElem_toArray,List.getElem_cons_succ,List.getElem_cons_zero,List.setIfInBounds_toArray,List.set_cons_zero,List.set_cons_succ])
    refine wqn ?_;refine wpAnyH_ready (rs:=[2]) (by kernel_rfl) (by simp) ?_
    refine AllReadyH.cons rfl (fun K hK=>?_) AllReadyH.nil
    refine qM (by rfl) 7 #[.agg #[.slice ka ns.length kc],.agg #[.int .i64 x.kind,.int .i64 x.target,.slice ca x.content.length cc,.string x.name,.string x.s]] (by go_simp) _ (HG.out _ hbn) ?_
    rintro v6 w6 ⟨rfl,hb6⟩;have hbn:=hbn.trans (hb6.mono hbn.size);refine hK.out _ _ (HCC.out _ hbn) (fun hHeld=>?_)
    clear hK K
    try simp only[Act.put,List.getElem_toArray,List.getElem_cons_succ,List.getElem_cons_zero,List.setIfInBounds_toArray,List.set_cons_zero,List.set_cons_succ]
    refine wpAnyH_ready (rs:=[5]) (by kernel_rfl) (by simp) ?_
    refine AllReadyH.cons rfl (fun K hK=>?_) AllReadyH.nil
    refine qM (by rfl) 8 #[.agg #[.slice na ns.length nc],.agg #[.int .i64 x.kind,.int .i64 x.target,.slice ca x.content.length cc,.string x.name,.string x.s]] (by go_simp) _ (HI.out _ hbn) ?_
    rintro v7 w7 ⟨rfl,hb7⟩;have hbn:=hbn.trans (hb7.mono hbn.size);refine hK.out _ _ (HCC.out _ hbn) (fun hHeld=>?_)
    clear hK K
    try simp only[Act.put,List.getElem_toArray,List.getElem_cons_succ,List.getElem_cons_zero,List.setIfInBounds_toArray,List.set_cons_zero,List.set_cons_succ]
    refine wqi [6,7,8,9,10,11,13,14,15,16,17,18,19] ?_
    repeat (refine wqt (v:=?_) rfl (by kernel_rfl) (fun _ _ _ h=>h) (by rfl) (by assumption) ?_ ?_;rotate_left;(· (intro w hSw;(try dsimp only at hSw);go_simp;try with_reducible rfl));try simp only[Act.put,List.getElem_toArray,List.getElem_cons_succ,List.getElem_cons_zero,List.setIfInBounds_toArray,List.set_cons_zero,List.set_cons_succ])
    refine wqn ?_;refine wpAnyH_ready (rs:=[12]) (by kernel_rfl) (by simp) ?_
    refine AllReadyH.cons rfl (fun K hK=>?_) AllReadyH.nil
    refine y6 (by rfl) 9 #[.agg #[.int .i64 x.kind,.int .i64 x.target,.slice ca x.content.length cc,.string x.name,.string x.s],.agg #[.int .i64 z.kind,.int .i64 z.target,.slice za z.content.length zc,.string z.name,.string z.s]] (by go_simp) _ (yQ.of (Qj x z _ _ _)) ?_
    rintro v8 w8 ⟨rfl,hb8⟩;have hbn:=hbn.trans (hb8.mono hbn.size);refine hK.out _ _ (HCC.out _ hbn) (fun hHeld=>?_)
    clear hK K
    try simp only[Act.put,List.getElem_toArray,List.getElem_cons_succ,List.getElem_cons_zero,List.setIfInBounds_toArray,List.set_cons_zero,List.set_cons_succ]
    refine wpAnyH_ready (rs:=[20]) (by kernel_rfl) (by simp) ?_
    refine AllReadyH.cons rfl (fun K hK=>?_) AllReadyH.nil
    refine y6 (by rfl) 10 #[.agg #[.int .i64 x.kind,.int .i64 x.target,.slice xa x.content.length xc,.string x.name,.string x.s],.agg #[.int .i64 z.kind,.int .i64 z.target,.slice ya z.content.length yc,.string z.name,.string z.s]] (by go_simp) _ (yQ.of (xd x z _ _ _)) ?_
    rintro v9 w9 ⟨rfl,hb9⟩;have hbn:=hbn.trans (hb9.mono hbn.size);refine hK.out _ _ (HCC.out _ hbn) (fun hHeld=>?_)
    clear hK K
    try simp only[Act.put,List.getElem_toArray,List.getElem_cons_succ,List.getElem_cons_zero,List.setIfInBounds_toArray,List.set_cons_zero,List.set_cons_succ]
    refine wqi [21,22] ?_
    repeat (refine wqt (v:=?_) rfl (by kernel_rfl) (fun _ _ _ h=>h) (by rfl) (by assumption) ?_ ?_;rotate_left;(· (intro w hSw;(try dsimp only at hSw);go_simp;try with_reducible rfl));try simp only[Act.put,List.getElem_toArray,List.getElem_cons_succ,List.getElem_cons_zero,List.setIfInBounds_toArray,List.set_cons_zero,List.set_cons_succ])
    refine wqn ?_;refine wpAnyH_done (by kernel_rfl) ?_ _
    have HW9:Hid (Below W4.heap.size W4 w9):=HWB.out _ hbn;clear hHeld HCC hbn HG HI hb6 hb7 hb8 hb9;go_wp2_with fail
    go_roundg (l.length-(i+1))
    case measure => omega
    case rel => exact ⟨i+1,by omega,by go_num,HW9.out⟩
  · have hlti : ¬ ((i : Int) < (l.length : Int)) := by omega
    have hBw:=HB4.out.trans (HW.out.mono HB4.out.size)
    have HCC:Hid (∀ V,Below wr.heap.size wr V→V.cell? ⟨cb,0,none⟩=some (.slice ka ns.length kc)∧V.cell? ⟨w.heap.size,0,none⟩=some (.slice na ns.length nc)):=by
     intro V hV;have e1:=(hV.block _ (qh ((HW.out.block _ (qh HC4.out)).trans HC4.out))).trans ((HW.out.block _ (qh HC4.out)).trans HC4.out);have e2:=(hV.block _ (qh ((HW.out.block _ (qh HD4.out)).trans HD4.out))).trans ((HW.out.block _ (qh HD4.out)).trans HD4.out);exact ⟨by rw[cH9 e1];rfl,by rw[cH9 e2];rfl⟩
    have HG:Hid (∀ V,Below wr.heap.size wr V→yQ 11 #[.agg #[.slice ka ns.length kc],.slice ma l.length mc] (.int .i64 (qJ ns l)) V):=by
     intro V hV;have hN:=(qv.later (qv.later HN4.out HW.out) hV).bounded;have hM:=((HM4.out.later HW.out).later hV).bounded;exact yQ.of (Zn (fun b=>b<V.heap.size) (n+1) _ _ ns l V (hN.carry fun b hb=>⟨hb.2,rfl⟩) (fun b hb=>hb) HD.out.few HD.out.short (hM.carry fun b hb=>⟨hb.2,rfl⟩) HF.out.texts)
    have HI:Hid (∀ V,Below wr.heap.size wr V→yQ 12 #[.agg #[.slice na ns.length nc],.slice la l.length lc] (.int .i64 (qJ ns l)) V):=by
     intro V hV;have hBV:=hBw.trans (hV.mono hBw.size);exact yQ.of (ZG HII.out S S n _ _ ns l V (HD.out.later hBV) (HO.out.later hBV) HF.out)
    have HS:Hid (∀ V,Below wr.heap.size wr V→yQ 13 #[.agg #[.slice ka ns.length kc],.agg #[.slice na ns.length nc]] (.bool true) V):=by
     intro V hV;have hBV:=hBw.trans (hV.mono hBw.size);have h:=QR _ S _ _ ns ns V (qv.later (qv.later HN4.out HW.out) hV) (HD.out.later hBV).nodes;rw[ndsB_iff.2 rfl]at h
     exact yQ.of h
    have HWB:Hid (∀ V,Below wr.heap.size wr V→Below w.heap.size w V):=fun V hV=>hBw.trans (hV.mono hBw.size)
    generalize qJ ns l=R at *
    clear hBw;go_wp2_with fail;have hbn:Below wr.heap.size wr wr.drew:=(Below.refl _ wr).drew;refine wp_region_held_drew (S:=fun V:World=>V.cell? ⟨cb,0,none⟩=some (.slice ka ns.length kc)∧V.cell? ⟨w.heap.size,0,none⟩=some (.slice na ns.length nc)) (by kernel_rfl) (HCC.out _ hbn) (fun hHeld=>?_)
    refine wqi [0,1,3,4] ?_
    repeat (refine wqt (v:=?_) rfl (by kernel_rfl) (fun _ _ _ h=>h) (by rfl) (by assumption) ?_ ?_;rotate_left;(· (intro w hSw;(try dsimp only at hSw);go_simp;try with_reducible rfl));try simp only[Act.put,List.getElem_toArray,List.getElem_cons_succ,List.getElem_cons_zero,List.setIfInBounds_toArray,List.set_cons_zero,List.set_cons_succ])
    refine wqn ?_;refine wpAnyH_ready (rs:=[2]) (by kernel_rfl) (by simp) ?_
    refine AllReadyH.cons rfl (fun K hK=>?_) AllReadyH.nil
    refine qM (by rfl) 11 #[.agg #[.slice ka ns.length kc],.slice ma l.length mc] (by go_simp) _ (HG.out _ hbn) ?_
    rintro v6 w6 ⟨rfl,hb6⟩;have hbn:=hbn.trans (hb6.mono hbn.size);refine hK.out _ _ (HCC.out _ hbn) (fun hHeld=>?_)
    clear hK K
    try simp only[Act.put,List.getElem_toArray,List.getElem_cons_succ,List.getElem_cons_zero,List.setIfInBounds_toArray,List.set_cons_zero,List.set_cons_succ]
    refine wpAnyH_ready (rs:=[5]) (by kernel_rfl) (by simp) ?_
    refine AllReadyH.cons rfl (fun K hK=>?_) AllReadyH.nil
    refine qM (by rfl) 12 #[.agg #[.slice na ns.length nc],.slice la l.length lc] (by go_simp) _ (HI.out _ hbn) ?_
    rintro v7 w7 ⟨rfl,hb7⟩;have hbn:=hbn.trans (hb7.mono hbn.size);refine hK.out _ _ (HCC.out _ hbn) (fun hHeld=>?_)
    clear hK K
    try simp only[Act.put,List.getElem_toArray,List.getElem_cons_succ,List.getElem_cons_zero,List.setIfInBounds_toArray,List.set_cons_zero,List.set_cons_succ]
    refine wqi [6,7,8,9] ?_
    repeat (refine wqt (v:=?_) rfl (by kernel_rfl) (fun _ _ _ h=>h) (by rfl) (by assumption) ?_ ?_;rotate_left;(· (intro w hSw;(try dsimp only at hSw);go_simp;try with_reducible rfl));try simp only[Act.put,List.getElem_toArray,List.getElem_cons_succ,List.getElem_cons_zero,List.setIfInBounds_toArray,List.set_cons_zero,List.set_cons_succ])
    refine wqn ?_;refine wpAnyH_ready (rs:=[10]) (by kernel_rfl) (by simp) ?_
    refine AllReadyH.cons rfl (fun K hK=>?_) AllReadyH.nil
    refine y6 (by rfl) 13 #[.agg #[.slice ka ns.length kc],.agg #[.slice na ns.length nc]] (by go_simp) _ (HS.out _ hbn) ?_
    rintro v8 w8 ⟨rfl,hb8⟩;have hbn:=hbn.trans (hb8.mono hbn.size);refine hK.out _ _ (HCC.out _ hbn) (fun hHeld=>?_)
    clear hK K
    try simp only[Act.put,List.getElem_toArray,List.getElem_cons_succ,List.getElem_cons_zero,List.setIfInBounds_toArray,List.set_cons_zero,List.set_cons_succ]
    refine wqi [11,12] ?_
    repeat (refine wqt (v:=?_) rfl (by kernel_rfl) (fun _ _ _ h=>h) (by rfl) (by assumption) ?_ ?_;rotate_left;(· (intro w hSw;(try dsimp only at hSw);go_simp;try with_reducible rfl));try simp only[Act.put,List.getElem_toArray,List.getElem_cons_succ,List.getElem_cons_zero,List.setIfInBounds_toArray,List.set_cons_zero,List.set_cons_succ])
    refine wqn ?_;refine wpAnyH_ready (rs:=[13]) (by kernel_rfl) (by simp) ?_
    refine AllReadyH.cons rfl (fun K hK=>?_) AllReadyH.nil
    refine y6 (by rfl) 14 #[] (by go_simp) _ (yQ.of (Xo _)) ?_
    rintro v9 w9 ⟨rfl,hb9⟩;have hbn:=hbn.trans (hb9.mono hbn.size);refine hK.out _ _ (HCC.out _ hbn) (fun hHeld=>?_)
    clear hK K
    try simp only[Act.put,List.getElem_toArray,List.getElem_cons_succ,List.getElem_cons_zero,List.setIfInBounds_toArray,List.set_cons_zero,List.set_cons_succ]
    refine wqi [14,15] ?_
    repeat (refine wqt (v:=?_) rfl (by kernel_rfl) (fun _ _ _ h=>h) (by rfl) (by assumption) ?_ ?_;rotate_left;(· (intro w hSw;(try dsimp only at hSw);go_simp;try with_reducible rfl));try simp only[Act.put,List.getElem_toArray,List.getElem_cons_succ,List.getElem_cons_zero,List.setIfInBounds_toArray,List.set_cons_zero,List.set_cons_succ])
    refine wqn ?_;refine wpAnyH_done (by kernel_rfl) ?_ _
    have HW9:Hid (Below w.heap.size w w9):=HWB.out _ hbn;clear hHeld HCC hbn HG HI HS hb6 hb7 hb8 hb9;go_wp2_with fail;go_ret;exact ⟨rfl,HW9.out⟩
end
end Go.Proofs.YtnppmdpmippcoaaGreatDoor
