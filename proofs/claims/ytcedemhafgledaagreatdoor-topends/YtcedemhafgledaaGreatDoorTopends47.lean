/- topiarytop.TopEnds says true. Condition: the variables hold what their texts lay; lines of a size that can be read. -/
import Derived.Test.YtcedemhafgledaaGreatDoorBundle39
namespace Go.Proofs.YtcedemhafgledaaGreatDoor
open Go.ChangeShapes Go.WideShapes Go.ChangeAt Go.RowKit
set_option maxRecDepth 100000
section
attribute [local go_sem] qd
def qeT (W1:World)(sb:Nat)(ns:List Nd)(k:Nat)(wr:World):Prop:=∃ S:Nat→Prop,(∀ b,S b→W1.heap.size≤b)∧Sto S wr sb ns k∧Below W1.heap.size W1 wr
theorem Yf {P:Program}{ops:Array Oper}{o:Oper}{a:Act}{w:World}{K:Act→World→Prop}{Q:Exit→Act→World→Prop}{E:Prop}
 (hw:Region.wanted o (yielded ops a.tmps)=true) (f:FuncId) (args:Array Value) (hrun:(execOp a.eval o).run P w=.ok (.enter f args) w)
 (R:Value→World→Prop) (hc:Calls P f args w fun e w'=>∃ r,e=.returned r∧R r w')
 (hK:∀ r w',R r w'→K (a.put o.dst r) w') :
 if Region.wanted o (yielded ops a.tmps)=true then Oper.wp P o a w K Q else E:=by
 rw[if_pos hw];unfold Oper.wp;rw[hrun,Oper.upon_enter];refine hc.mono ?_;rintro e w' ⟨r,rfl,hr⟩;exact hK r w' hr
set_option linter.unusedSimpArgs false in
set_option maxHeartbeats 2000000 in
theorem Vv (S0:Nat→Prop)(vl vs:Value)(l:List Ac)(a:Ac)(w:World)(hL:QH S0 w vl l)(hV:Strs S0 w vs a.lines)(hS0:∀ b,S0 b→b<w.heap.size)(hz:ZG l)(hza:∀ s∈a.lines,s.size≤maxLen)(hE:yz w) :
 Calls Tryz.prog 5 #[vl,.agg #[.int .i64 a.kind,vs]] w fun e w'=>e=.returned (.bool true)∧Below w.heap.size w w':=by
 obtain ⟨sa,sc,rfl,_,_⟩:=hV.shape;obtain ⟨la,lc,rfl,hlc,hlm⟩:=hL.shape;unfold maxLen at hlm
 have hb0:=Below.alloc1 w (.cells #[.int .i64 a.kind,.slice sa a.lines.length sc] 45);have HA0:Hid _:=heap_alloc_new w (.cells #[.int .i64 a.kind,.slice sa a.lines.length sc] 45);have hL1:QH S0 (w.alloc (.cells #[.int .i64 a.kind,.slice sa a.lines.length sc] 45)) (.slice la l.length lc) l:=hL.carry fun b hb=>⟨hb,hb0.block b (hS0 b hb)⟩
 have HP:Hid _:=Q8 S0 _ l (w.alloc (.cells #[.int .i64 a.kind,.slice sa a.lines.length sc] 45)) hL1 (fun b hb=>Nat.lt_of_lt_of_le (hS0 b hb) hb0.size) hz (hE.later hb0)
 have HE1:Hid _:=hE.later hb0;have HV1:Hid _:=hV.later hb0;have HS0:Hid _:=hS0;have hsz1:w.heap.size<(w.alloc (.cells #[.int .i64 a.kind,.slice sa a.lines.length sc] 45)).heap.size:=by simp
 have hrun:(qQ (l.take 50)).2=min 50 l.length:=by rw[qb2 _ (by rw[List.length_take];omega),List.length_take]
 clear hL hL1 hE hV hS0 hz
 go_enter Tryz.func5,Tryz.ntmps5
 go_wp2_with fail
 generalize w.alloc (.cells #[.int .i64 a.kind,.slice sa a.lines.length sc] 45)=W1 at *
 refine Calls.mono HP.out ?_;rintro e w2 ⟨sb,S,rfl,hsb,hSw,hSt,hb2⟩;have HI:Hid (qeT W1 sb (qQ (l.take 50)).1 (qQ (l.take 50)).2 w2):=⟨S,hSw,hSt,hb2⟩;rw[hrun]at HI
 generalize (qQ (l.take 50)).1=ns0 at *
 clear hSt HP hSw hrun S hb2;go_wp2_with fail
 go_loopg [7] (100-min 50 l.length) (fun g i wr=>∃ k:Nat,k+g=100∧i=.int .i64 k∧qeT W1 sb ns0 k wr)
 case atStart =>
  refine ⟨min 50 l.length,by omega,?_,HI.out⟩
  rw[show (min (l.length:Int) 50)=((min 50 l.length:Nat):Int) by omega]
 case round =>
  obtain ⟨k,hk,rfl,hI⟩:=hrel;obtain ⟨S3,hSw3,hSt3,hb3⟩:=hI
  by_cases hlt:k<100
  · have HDO : Hid _ := Qi S3 (fun _ => False) sb k ns0 (.slice none 0 0) ⟨0, []⟩ W1 wr hSt3 Strs.nil (fun _ h => h.elim) HE1.out hb3 hsb (by intro s hs;cases hs)
    rw[qes hlt]at HDO
    simp only at HDO
    clear hSt3;go_wp2_with fail;refine Calls.mono HDO.out ?_;rintro e w4 ⟨rfl,⟨S4,hS4,hSt4⟩,hF4⟩
    have HI4:Hid (qeT W1 sb ns0 (k+1) w4):=⟨S4,fun b hb=>by
     rcases hS4 b hb with h|h
     · exact hSw3 b h
     · have:=hb3.size;omega,hSt4,z7 hb3 hF4 hsb⟩
    have hfd:(Instr.field 41 (.agg #[.int .i64 4,.int .i64 0,.string ⟨#[]⟩]) 0).run Tryz.prog w4=.ok (.int .i64 4) w4:=by
     simp[Instr.field,part,asAgg,go_sem]
    clear hSt4 hF4 HDO hS4;go_wp2_with fail
    go_roundg (100-(k+1))
    case measure => omega
    case rel => exact ⟨k+1,by omega,by go_num,HI4.out⟩
  · have hkk : k = 100 := by omega
    subst hkk;have HG0:Hid _:=hSt3.good;have HST:Hid _:=hSt3;have HDC:Hid _:=jF S3 sb 100 ns0 wr hSt3;obtain ⟨_,_,hbx,_,_⟩:=hSt3.box;have hsbl:=qe hbx;clear hSt3 hbx HI;go_wp2_with fail;refine Calls.mono HDC.out ?_;rintro e w9 ⟨v9,rfl,hN9,hb9⟩;obtain ⟨a9,c9,rfl,_,_⟩:=hN9.shape;have hb10:=Below.alloc1 w9 (.cells #[.slice a9 ns0.length c9] 29);have hb3_10:=hb9.trans (hb10.mono hb9.size);have hB10:=hb3.trans (hb3_10.mono hb3.size);have HD10:Hid _:=heap_alloc_new w9 (.cells #[.slice a9 ns0.length c9] 29);have HA10:Hid _:=(hB10.block _ (qe HA0.out)).trans HA0.out;have HN10:Hid _:=qp.later hN9 hb10;have HST10:Hid _:=HST.out.later hb3_10;have hsr9:=hb9.size;have hs910:w9.heap.size<(w9.alloc (.cells #[.slice a9 ns0.length c9] 29)).heap.size:=by simp
    have HCC:Hid (∀ W:World,W.heap[w.heap.size]?=(w9.alloc (.cells #[.slice a9 ns0.length c9] 29)).heap[w.heap.size]?→W.heap[w9.heap.size]?=(w9.alloc (.cells #[.slice a9 ns0.length c9] 29)).heap[w9.heap.size]?→W.cell? ⟨w.heap.size,0,none⟩=some (.int .i64 a.kind)∧W.cell? ⟨w.heap.size,1,none⟩=some (.slice sa a.lines.length sc)∧W.cell? ⟨w9.heap.size,0,none⟩=some (.slice a9 ns0.length c9)):=by
     intro W h1 h2;have e1:=h1.trans HA10.out;have e2:=h2.trans HD10.out;refine ⟨?_,?_,?_⟩
     · rw[cH9 e1];rfl
     · rw[cH9 e1];rfl
     · rw[cH9 e2];rfl
    clear HDC hN9 hb9 HST;go_wp2_with fail
    generalize w9.alloc (.cells #[.slice a9 ns0.length c9] 29)=W10 at *
    have hbn:Below W10.heap.size W10 W10.drew:=(Below.refl _ W10).drew;have hBn:Below W1.heap.size W1 W10.drew:=hB10.trans (hbn.mono hB10.size);refine wp_region_held_drew (S:=fun W:World=>W.cell? ⟨w.heap.size,0,none⟩=some (.int .i64 a.kind)∧W.cell? ⟨w.heap.size,1,none⟩=some (.slice sa a.lines.length sc)∧W.cell? ⟨w9.heap.size,0,none⟩=some (.slice a9 ns0.length c9)) (by kernel_rfl) (HCC.out _ rfl rfl) (fun hHeld=>?_)
    refine wqi [0,1,3] ?_
    repeat (refine wqt (v:=?_) rfl (by kernel_rfl) (fun _ _ _ h=>h) (by rfl) (by assumption) ?_ ?_;rotate_left;(· (intro w hSw;(try dsimp only at hSw);go_simp;try with_reducible rfl));try simp only[Act.put,List.getElem_toArray,List.getElem_cons_succ,List.getElem_cons_zero,List.setIfInBounds_toArray,List.set_cons_zero,List.set_cons_succ])
    refine wqn ?_
    have HDO:Hid (Calls Tryz.prog 11 #[.pointer (some ⟨sb,0,none⟩),.agg #[.int .i64 a.kind,.slice sa a.lines.length sc]] W10.drew fun e w'=>∃ r,e=.returned r∧(r=.agg #[.int .i64 7,.int .i64 0,.string ⟨#[]⟩]∧(∃ S':Nat→Prop,Sto S' w' sb ns0 100)∧CFr sb W10.drew w')):=by
     have:=Qi S3 S0 sb 100 ns0 _ a W1 W10.drew (HST10.out.later hbn) (Strs.later HV1.out hBn) (fun b hb=>by have:=HS0.out b hb;omega) HE1.out hBn hsb hza
     rw[qeb]at this
     refine this.mono ?_;rintro e w' ⟨rfl,⟨S',_,h2⟩,h3⟩;exact ⟨_,rfl,rfl,⟨S',h2⟩,h3⟩
    refine wpAnyH_ready (rs:=[2]) (by kernel_rfl) (by simp) ?_
    refine AllReadyH.cons rfl (fun K hK=>?_) AllReadyH.nil
    refine zd (by rfl) 11 #[.pointer (some ⟨sb,0,none⟩),.agg #[.int .i64 a.kind,.slice sa a.lines.length sc]] (by go_simp) _ HDO.out ?_
    rintro v11 w11 ⟨rfl,⟨S11,hSt11⟩,hF11⟩;have hB11:=z7 hBn hF11 hsb;have hne1:w.heap.size≠sb:=by omega
    have hne9:w9.heap.size≠sb:=by omega
    have hlt1:w.heap.size<W10.drew.heap.size:=by have:=hb3_10.size;have:=hBn.size;omega
    have hlt9:w9.heap.size<W10.drew.heap.size:=hs910
    have HC11:Hid (∀ W,Below w11.heap.size w11 W→W.cell? ⟨w.heap.size,0,none⟩=some (.int .i64 a.kind)∧W.cell? ⟨w.heap.size,1,none⟩=some (.slice sa a.lines.length sc)∧W.cell? ⟨w9.heap.size,0,none⟩=some (.slice a9 ns0.length c9)):=by
     intro W hW;refine HCC.out W ?_ ?_
     · exact (hW.block _ (Nat.lt_of_lt_of_le hlt1 hF11.below.size)).trans (hF11.frame _ hlt1 hne1)
     · exact (hW.block _ (Nat.lt_of_lt_of_le hlt9 hF11.below.size)).trans (hF11.frame _ hlt9 hne9)
    have HN11:Hid (qp (fun b=>wr.heap.size≤b) w11 (.slice a9 ns0.length c9) ns0):=(qp.bounded (qp.later HN10.out hbn)).carry fun b hb=>⟨hb.1,hF11.frame b hb.2 (by have:=hb.1;omega)⟩
    refine hK.out _ _ (HC11.out w11 (Below.refl _ _)) (fun hHeld=>?_)
    clear hK K
    try simp only[Act.put,List.getElem_toArray,List.getElem_cons_succ,List.getElem_cons_zero,List.setIfInBounds_toArray,List.set_cons_zero,List.set_cons_succ]
    refine wqi [4,5,6,7] ?_
    repeat (refine wqt (v:=?_) rfl (by kernel_rfl) (fun _ _ _ h=>h) (by rfl) (by assumption) ?_ ?_;rotate_left;(· (intro w hSw;(try dsimp only at hSw);go_simp;try with_reducible rfl));try simp only[Act.put,List.getElem_toArray,List.getElem_cons_succ,List.getElem_cons_zero,List.setIfInBounds_toArray,List.set_cons_zero,List.set_cons_succ])
    refine wqn ?_
    have HDD:Hid (Calls Tryz.prog 8 #[.pointer (some ⟨sb,0,none⟩)] w11 fun e w'=>∃ r,e=.returned r∧((∃ aq cq,r=.agg #[.slice aq ns0.length cq]∧qp (fun b=>w11.heap.size≤b) w' (.slice aq ns0.length cq) ns0)∧Below w11.heap.size w11 w')):=by
     refine (jF S11 sb 100 ns0 w11 hSt11).mono ?_;rintro e w' ⟨v,rfl,h1,h2⟩;obtain ⟨aq,cq,rfl,_,_⟩:=h1.shape;exact ⟨_,rfl,⟨aq,cq,rfl,h1⟩,h2⟩
    refine wpAnyH_ready (rs:=[8]) (by kernel_rfl) (by simp) ?_
    refine AllReadyH.cons rfl (fun K hK=>?_) AllReadyH.nil
    refine Yf (by rfl) 8 #[.pointer (some ⟨sb,0,none⟩)] (by go_simp) _ HDD.out ?_
    rintro v12 w12 ⟨⟨aq,cq,rfl,hNq⟩,hb12⟩;refine hK.out _ _ (HC11.out w12 hb12) (fun hHeld=>?_)
    clear hK K
    try simp only[Act.put,List.getElem_toArray,List.getElem_cons_succ,List.getElem_cons_zero,List.setIfInBounds_toArray,List.set_cons_zero,List.set_cons_succ]
    have HSD:Hid (Calls Tryz.prog 12 #[.agg #[.slice a9 ns0.length c9],.agg #[.slice aq ns0.length cq]] w12 fun e w'=>∃ r,e=.returned r∧(r=.bool true∧Below w12.heap.size w12 w')):=by
     refine (Qt _ _ _ _ ns0 w12 (yn (qp.later HN11.out hb12) HG0.out) (yn hNq HG0.out) HG0.out).mono ?_;rintro e w' ⟨rfl,h2⟩;exact ⟨_,rfl,rfl,h2⟩
    refine wpAnyH_ready (rs:=[9]) (by kernel_rfl) (by simp) ?_
    refine AllReadyH.cons rfl (fun K hK=>?_) AllReadyH.nil
    refine Yf (by rfl) 12 #[.agg #[.slice a9 ns0.length c9],.agg #[.slice aq ns0.length cq]] (by go_simp) _ HSD.out ?_
    rintro v13 w13 ⟨rfl,hb13⟩;have hb11_13:=hb12.trans (hb13.mono hb12.size);refine hK.out _ _ (HC11.out w13 hb11_13) (fun hHeld=>?_)
    clear hK K
    try simp only[Act.put,List.getElem_toArray,List.getElem_cons_succ,List.getElem_cons_zero,List.setIfInBounds_toArray,List.set_cons_zero,List.set_cons_succ]
    refine wqi [10,11] ?_
    repeat (refine wqt (v:=?_) rfl (by kernel_rfl) (fun _ _ _ h=>h) (by rfl) (by assumption) ?_ ?_;rotate_left;(· (intro w hSw;(try dsimp only at hSw);go_simp;try with_reducible rfl));try simp only[Act.put,List.getElem_toArray,List.getElem_cons_succ,List.getElem_cons_zero,List.setIfInBounds_toArray,List.set_cons_zero,List.set_cons_succ])
    refine wqn ?_;refine wpAnyH_done (by kernel_rfl) ?_ _
    have hB13:=hB11.trans (hb11_13.mono hB11.size);have hBB:=hb0.trans (hB13.mono hb0.size);clear hHeld HC11 HSD HDD HDO HCC;go_wp2_with fail;go_ret;exact ⟨rfl,hBB⟩
end
end Go.Proofs.YtcedemhafgledaaGreatDoor
