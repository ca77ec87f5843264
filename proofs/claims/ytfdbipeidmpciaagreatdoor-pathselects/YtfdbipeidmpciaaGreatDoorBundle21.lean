/- PathSelects: for every document and steps path.Good and path.Select answer as the document's own do: the walk. Condition: lists of a size that can be read; the variables of strconv and bytealg hold what their texts lay. -/
import Derived.Test.YtfdbipeidmpciaaGreatDoorBundle18
import Derived.Test.YtfdbipeidmpciaaGreatDoorBundle20
namespace Go.Proofs.YtfdbipeidmpciaaGreatDoor
open Go.ChangeShapes Go.WideShapes Go.ChangeAt Go.RowKit
set_option maxRecDepth 100000
section
attribute [local go_sem] qf
theorem x9 (w:World)(hE:yy w):Calls Tryz.prog 11 #[] w fun e w'=>e=.returned (.bool true)∧Below w.heap.size w w':=by
 have HP:Hid (Calls Tryz.prog 19 #[.string ⟨#[47,97,47,42,91,50,93,47,35]⟩] w fun e w'=>∃ v,e=.returned (.tuple #[v,.int .i64 0])∧qy (fun b=>w.heap.size≤b) w' v [⟨⟨#[97]⟩,0⟩,⟨⟨#[42]⟩,2⟩,⟨⟨#[]⟩,0⟩]∧Below w.heap.size w w'):=by
  have:=x8 ⟨#[47,97,47,42,91,50,93,47,35]⟩ w hE (by decide)
  rw[paths_parse.1,paths_parse.2]at this
  exact this
 clear hE
 go_enter Tryz.func11,Tryz.ntmps11
 go_wp2_with fail;refine (Calls.mono HP.out ?_);rintro e w2 ⟨v,rfl,hS,hb⟩;obtain ⟨b,o,cap,rfl,_,_,e0,e1⟩:=hS.at (i:=1) (x:=⟨⟨#[42]⟩,2⟩) rfl
 obtain ⟨b',o',cap',hv,_,_,g0,g1⟩:=hS.at (i:=2) (x:=⟨⟨#[]⟩,0⟩) rfl
 injection hv with hv1 _ hv2
 injection hv1 with hv1
 injection hv1 with hv3 hv4
 subst hv3 hv4 hv2;clear hS HP;simp only[List.length_cons,List.length_nil,Nat.one_mul]at *
 go_wp2_with fail;go_ret;exact ⟨rfl,hb⟩
theorem qy.cellsM {S:Nat→Prop}{w:World}{a:Addr}{n c:Nat}{l:List St}(h:qy S w (.slice (some a) n c) l):∀ j u,(stepCells l)[j]?=some u→w.cell? (a.add j)=some u:=by
 intro j u hj;have hlen:=zH l
 have hjl:j<l.length*2:=by
  rcases Nat.lt_or_ge j (l.length*2) with h'|h'
  · exact h'
  · rw[List.getElem?_eq_none (by omega)]at hj;cases hj
 obtain ⟨s,hs⟩:∃ s,l[j / 2]?=some s:=⟨l[j / 2]'(by omega),by simp⟩
 obtain ⟨g0,g1⟩:=z8 l (j / 2) s hs;obtain ⟨b,o,cap,hv,_,_,c0,c1⟩:=h.at hs
 injection hv with hv1 _ _
 injection hv1 with hv1
 subst hv1;rw[Addr.add_lit]
 rcases Nat.mod_two_eq_zero_or_one j with h'|h'
 · rw[show j / 2 * 2 = j by omega]at g0 c0
   rw[g0]at hj
   rw[c0,hj]
 · rw[show j / 2 * 2 + 1 = j by omega]at g1
   rw[show o+j / 2*2+1=o+j by omega]at c1
   rw[g1]at hj
   rw[c1,hj]
theorem jk (l:List St):∀ u∈stepCells l,u.oneCell'=true:=by
 induction l with
 | nil=>intro u hu;simp[stepCells]at hu
 | cons s l ih =>
   intro u hu;simp only[stepCells,List.mem_cons]at hu
   rcases hu with rfl|rfl|hu
   · rfl
   · rfl
   · exact ih u hu
theorem xH {ops:Array Oper}{o:Oper}{a:Act}{w:World}{K:Act→World→Prop}{Q:Exit→Act→World→Prop}{E:Prop}
 (hg:o.guard=none) (x:Operand) (hop:o.op=Op.call { callee:=Callee.builtin Builtin.append,args:=#[.const (.slice none 0 0),x],argTypes:=#[25,25] })
 (S:Nat→Prop) (v:Value) (l:List St) (hx:a.eval x=v) (h:qy S w v l) (hl:l.length≤5864062014805)
 (hK:∀ v' w',zN w.heap.size w' v' l→Below w.heap.size w w'→K (a.put o.dst v') w') :
 if Region.wanted o (yielded ops a.tmps)=true then Oper.wp Tryz.prog o a w K Q else E:=by
 have hw:Region.wanted o (yielded ops a.tmps)=true:=by simp[Region.wanted,hg]
 rw[if_pos hw];obtain ⟨i0,hi,hz0,hz1,hz2⟩:=info_parts stepInfo;have h':=h;obtain ⟨ad,cap,rfl,h2,h3,h4⟩:=h;have hs:a.eval (.const (.slice none 0 0))=.slice none 0 0:=rfl;cases ad with
 | none =>
   have hn:l=[]:=by
    apply Classical.byContradiction;intro hne
    obtain ⟨b,o,ha,_⟩:=h4 hne;cases ha
   subst hn
   have hrun:(Builtin.append_ #[25,25] o.type #[.slice none 0 0,.slice none 0 cap]).run Tryz.prog w=.ok (.slice none 0 0) w:=by
    simp[Builtin.append_,run_underlying Tryz.underlying25,sizeOf,typeInfo,hi,Builtin.lenOf,Builtin.firstCells]
   simp only[List.length_nil]at hx
   unfold Oper.wp;simp[execOp,hop,resolve,invoke,builtin,hs,hx,hrun,Result.andThen];exact hK _ _ (World.ownsRow_nil _ _ _ _) (Below.refl _ _)
 | some ad =>
   obtain ⟨v',w',hrun,r1,r2,_⟩:=run_append_own (P:=Tryz.prog) w w.heap.size 25 o.type 42 i0 _ 2 24 Tryz.underlying25 hi hz0 hz1 hz2 rfl (by decide) (.slice none 0 0) 0 [] (World.ownsRow_nil w _ _ _) ad l.length cap (stepCells l) (zH l) h'.cellsM (jk l) (by unfold maxLen;omega) (by omega) (nR9 _)
   unfold Oper.wp;simp[execOp,hop,resolve,invoke,builtin,hs,hx,hrun,Result.andThen];refine hK _ _ (by unfold zN;simpa using r1) ((Below.refl _ w).grown r2 (nR9 _) (fun k hk=>by simp[Value.ownBlock]at hk))
set_option maxHeartbeats 4000000 in
theorem yN (S:Nat→Prop)(v vs:Value)(ns:List Nd)(l:List St)(w:World)(hD:zM S w v ns)(hkf:∀ x∈ns,x.kids.length≤17592186044416)(hlen:ns.length≤1759218604441)(hS:qy S w vs l)(hn:zf l)(hll:l.length≤5864062014805)(hE:yy w) :
 Calls Tryz.prog 3 #[.agg #[v],vs] w fun e w'=>e=.returned (.bool true)∧Below w.heap.size w w':=by
 have hb1:=Below.alloc1 w (.cells #[v] 24);have hx1:=heap_alloc_new w (.cells #[v] 24);have HCD:Hid _:=j9 S v ns _ (hD.later hb1).nodes (fun x hx=>⟨hD.few x hx,hkf x hx⟩) hlen
 have HD:Hid (zM S w v ns):=hD;have HST:Hid (qy S w vs l):=hS;have HNM:Hid (zf l):=hn;have HEN:Hid (yy w):=hE;obtain ⟨a,cap,rfl,_,_⟩:=hD.nodes.shape;obtain ⟨sa,sc,rfl,_,_,_⟩:=id hS;clear hD hkf hlen hS hn hE
 go_enter Tryz.func3,Tryz.ntmps3
 go_wp2_with fail;refine (Calls.mono HCD.out ?_);rintro e w2 ⟨v2,rfl,hN2,hb2⟩;obtain ⟨a2,c2,rfl,_,_⟩:=hN2.shape;have hx2:=(hb2.block _ (qe hx1)).trans hx1;have hB2:Below w.heap.size w w2:=hb1.trans (hb2.mono hb1.size);have hb3:=Below.alloc1 w2 (.cells #[.slice a2 ns.length c2] 24);have hy3:=heap_alloc_new w2 (.cells #[.slice a2 ns.length c2] 24);have hx3:=(hb3.block _ (qe hx2)).trans hx2;have hB3:Below w.heap.size w _:=hB2.trans (hb3.mono hB2.size)
 have HV3:Hid (zM (fun b=>w.heap.size≤b∧b<(w2.alloc (.cells #[.slice a2 ns.length c2] 24)).heap.size) (w2.alloc (.cells #[.slice a2 ns.length c2] 24)) (.slice a2 ns.length c2) ns) :=
  ⟨(hN2.later hb3).bounded.carry fun b hb=>⟨⟨by have:=hb.1;simp at this;omega,hb.2⟩,rfl⟩,fun b hb=>hb.2,HD.out.few,HD.out.short⟩
 clear HCD hN2 hb2 hb1 hx1 hx2 hB2 hb3;go_wp2_with fail
 generalize w2.alloc (.cells #[.slice a2 ns.length c2] 24)=W3 at HV3 hy3 hx3 hB3 ⊢
 generalize w2.heap.size=cb at hy3 ⊢
 have HW:Hid (∀ W,Below W3.heap.size W3 W→Below w.heap.size w W):=fun W h=>hB3.trans (h.mono hB3.size)
 have HC3:Hid (∀ W,Below W3.heap.size W3 W→W.cell? ⟨w.heap.size,0,none⟩=some (.slice a ns.length cap)∧W.cell? ⟨cb,0,none⟩=some (.slice a2 ns.length c2)):=by
  intro W h;have e1:=(h.block _ (qe hx3)).trans hx3;have e2:=(h.block _ (qe hy3)).trans hy3;exact ⟨by rw[cH9 e1];rfl,by rw[cH9 e2];rfl⟩
 obtain ⟨y1,y2⟩:=HC3.out W3 (Below.refl _ _)
 have HSL:Hid (∀ (W0 W:World) (v4:Value),Below W3.heap.size W3 W0→Below W0.heap.size W0 W→zN W0.heap.size W v4 l→Calls Tryz.prog 5 #[.agg #[.slice a2 ns.length c2],v4] W fun e w'=>∃ v,e=.returned (.tuple #[v,.int .i64 (yv ns l)])∧qx (fun b=>W.heap.size≤b) w' v (yu ns l)∧Below W.heap.size W w'):=by
  intro W0 W v4 h0 h1 hs;have hb:Below W3.heap.size W3 W:=h0.trans (h1.mono h0.size);refine Qc (fun b=>b<W.heap.size) _ v4 ns l W ⟨(HV3.out.later hb).nodes.bounded.carry fun b hb=>⟨hb.2,rfl⟩,fun b hb=>hb,HD.out.few,HD.out.short⟩ (hs.steps.bounded.carry fun b hb=>⟨hb.2,rfl⟩) HNM.out
 have HSO:Hid (∀ W,Below W3.heap.size W3 W→Calls Tryz.prog 6 #[.agg #[.slice a ns.length cap],.slice sa l.length sc] W fun e w'=>∃ v',e=.returned (.tuple #[v',.int .i64 (yv ns l)])∧qx (fun b=>W.heap.size≤b) w' v' (yu ns l)∧Below W.heap.size W w') :=
  fun W h=>j2 S S _ _ ns l W (HD.out.later (HW.out W h)) (HST.out.later (HW.out W h)) HNM.out
 have HGP:Hid (∀ W,Below W3.heap.size W3 W→Calls Tryz.prog 8 #[.slice sa l.length sc] W fun e w'=>e=.returned (.bool (qE l))∧Below W.heap.size W w'):=fun W h=>yA S _ l W (HST.out.later (HW.out W h)) HNM.out
 have HIP:Hid (∀ W,Below W3.heap.size W3 W→Calls Tryz.prog 9 #[.slice sa l.length sc] W fun e w'=>e=.returned (.bool (qE l))∧Below W.heap.size W w'):=fun W h=>y7 S _ l W (HST.out.later (HW.out W h)) HNM.out
 have HSD:Hid (∀ W,Below W3.heap.size W3 W→Calls Tryz.prog 10 #[.agg #[.slice a2 ns.length c2],.agg #[.slice a ns.length cap]] W fun e w'=>e=.returned (.bool true)∧Below W.heap.size W w'):=by
  intro W h;have:=jg _ _ _ _ ns ns W (HV3.out.later h).nodes (HD.out.later (HW.out W h)).nodes;rw[ndsB_iff.2 rfl]at this
  exact this
 have HPA:Hid (∀ W,Below W3.heap.size W3 W→Calls Tryz.prog 11 #[] W fun e w'=>e=.returned (.bool true)∧Below W.heap.size W w'):=fun W h=>x9 W (HEN.out.later (HW.out W h))
 obtain ⟨E,hEE0⟩:∃ E,yv ns l=E:=⟨_,rfl⟩;obtain ⟨L,hLL0⟩:∃ L,yu ns l=L:=⟨_,rfl⟩;obtain ⟨P,hPP0⟩:∃ P,qE l=P:=⟨_,rfl⟩;rw[hEE0,hLL0]at HSL HSO
 rw[hPP0]at HGP HIP
 have hEE:(E==E)=true:=by simp
 have hPP:(P==P)=true:=by simp
 have hbn:=(Below.refl W3.heap.size W3).drew;have HS3:Hid (qy S W3.drew (.slice sa l.length sc) l):=HST.out.later (HW.out _ hbn);clear hEE0 hLL0 hPP0 hx3 hy3
 go_region_held3 (fun W:World=>W.cell? ⟨w.heap.size,0,none⟩=some (.slice a ns.length cap)∧W.cell? ⟨cb,0,none⟩=some (.slice a2 ns.length c2))
  (first|with_reducible exact HC3.out _ hbn|exact HC3.out _ hbn)
  (first
   | (refine xH (by rfl) (.tmp 14) (by rfl) S (.slice sa l.length sc) l (by first|rfl|simp[Act.eval]) HS3.out hll ?_;intro v4 w4 hR4 hb4;obtain ⟨a4,c4,rfl,_,_⟩:=hR4.shape;have hbn:=hbn.trans (hb4.mono hbn.size))
   | (go_at_call 5;refine (Calls.mono (HSL.out W3.drew w4 _ (Below.refl W3.heap.size W3).drew hb4 hR4) ?_);rintro e w5 ⟨v5,rfl,hI5,hb5⟩;obtain ⟨a5,c5,rfl,_,_⟩:=hI5.shape;have hbn:=hbn.trans (hb5.mono hbn.size)))
 all_goals
  obtain ⟨y3,y4⟩:=HC3.out w5 hbn;have HB5:Hid (Below W3.heap.size W3 w5):=hbn;go_wp2_with fail;refine (Calls.mono (HSO.out w5 HB5.out) ?_);rintro e w6 ⟨v6,rfl,hI6,hb6⟩;obtain ⟨a6,c6,rfl,_,_⟩:=hI6.shape;have hB6:Below W3.heap.size W3 w6:=HB5.out.trans (hb6.mono HB5.out.size);have HSN:Hid _:=zu _ _ _ _ L L w6 (hI5.later hb6) hI6;rw[decide_eq_true (rfl:L=L)]at HSN
  go_wp2_with fail;refine (Calls.mono HSN.out ?_);rintro e w7 ⟨rfl,hb7⟩;have hB7:Below W3.heap.size W3 w7:=hB6.trans (hb7.mono hB6.size);go_wp2_with fail;refine (Calls.mono (HGP.out w7 hB7) ?_);rintro e w8 ⟨rfl,hb8⟩;have hB8:Below W3.heap.size W3 w8:=hB7.trans (hb8.mono hB7.size);go_wp2_with fail;refine (Calls.mono (HIP.out w8 hB8) ?_);rintro e w9 ⟨rfl,hb9⟩;have hB9:Below W3.heap.size W3 w9:=hB8.trans (hb9.mono hB8.size);obtain ⟨z3,z4⟩:=HC3.out w9 hB9;go_wp2_with fail;refine (Calls.mono (HSD.out w9 hB9) ?_);rintro e w10 ⟨rfl,hb10⟩;have hB10:Below W3.heap.size W3 w10:=hB9.trans (hb10.mono hB9.size);go_wp2_with fail;refine (Calls.mono (HPA.out w10 hB10) ?_);rintro e w11 ⟨rfl,hb11⟩;go_wp2_with fail;go_ret;exact ⟨rfl,HW.out _ (hB10.trans (hb11.mono hB10.size))⟩
end
end Go.Proofs.YtfdbipeidmpciaaGreatDoor
