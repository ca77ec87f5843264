/- TopOrder: for every input the law answers true, and its arguments read as they did. No condition beyond the given row's. -/
import Derived.Test.YtcgknjhpgikckaaGreatDoorBundle40
import Derived.Test.YtcgknjhpgikckaaGreatDoorBundle47
import Derived.Test.YtcgknjhpgikckaaGreatDoorCards
import Derived.Test.YtcgknjhpgikckaaGreatDoorTie
import Derived.Deep.DeepWitnessRowRef
namespace Go.Proofs.YtcgknjhpgikckaaGreatDoor
open Go.ChangeShapes Go.WideShapes Go.ChangeAt Go.RowKit
set_option maxRecDepth 100000
theorem topOrderOwn:ownKnob Tryz.prog.godebug=none:=by kernel_rfl
theorem topOrderLaid:laidOutB Tryz.prog=true:=by kernel_rfl
theorem XS {W:World}(hL:laidMetH Tryz.prog Rows.topOrderRow.laid W)(hS:W.ShapedOpen Tryz.prog):yN W:=by
 have h:laidMet Tryz.prog Rows.topOrderRow.laid W:=hL;exact ⟨KH (Lib.laidMet.reads h (by simp[Rows.topOrderRow])),qd4 hS (Lib.laidMet.reads h (by simp[Rows.topOrderRow])) (Lib.laidMet.reads h (by simp[Rows.topOrderRow])) (Lib.laidMet.reads h (by simp[Rows.topOrderRow])),Ve (Lib.laidMet.reads h (by simp[Rows.topOrderRow]))⟩
theorem Zq (H:Type)(enc:TypeId × Value→H)(W:World)(base:Nat)(args:Array Value)(ds gs:List (DataW H))(before:List MemPlace)
 (hval:∀ (j:Nat) t v,Tryz.f3.params[j]?=some t→args[j]?=some v→Value.okWide Tryz.prog W .any base t v)
 (hW:DataW.Whole enc Tryz.prog Tryz.f3.params.toList Rows.topOrderSpec.vars false W args.toList ds gs before) (hE:yN W) (hz:(DataW.weightsEach Tryz.prog (Tryz.f3.params.toList++Rows.topOrderSpec.plain.varTypes Tryz.prog) (ds++gs)).all (·≤reachBytes)=true) :
 Calls Tryz.prog 3 args W fun e W'=>∃ v,e=.returned v∧Rows.topOrderSpec.post enc Tryz.prog Tryz.f3 false true false false W args v W':=by
 have hW':=hW;obtain ⟨p,q,hA0,hV,rfl,hfz,hnd⟩:=hW;have hA:DataW.TrodAll enc Tryz.prog W 0 (fun _=>true) true Tryz.f3.params.toList args.toList ds p:=hA0
 rw[Tryz.params3]at hA hval hz
 obtain ⟨v0,vs0,d0,ds0,p0,q0,hargs0,rfl,rfl,h0,r0⟩:=trodAll_cons hA;obtain ⟨v1,vs1,d1,ds1,p1,q1,hargs1,rfl,rfl,h1,r1⟩:=trodAll_cons r0;obtain ⟨v2,vs2,d2,ds2,p2,q2,hargs2,rfl,rfl,h2,r2⟩:=trodAll_cons r1;obtain ⟨rfl,rfl,rfl⟩:=trodAll_nil r2;subst hargs2;subst hargs1;obtain rfl:args=#[v0,v1,v2]:=by cases args;simp_all
 obtain ⟨rfl,rfl⟩:=trodVars_none hV;have h0k:=h0;obtain ⟨f0,hf0⟩:=h0;have h1k:=h1;obtain ⟨f1,hf1⟩:=h1;have h2k:=h2;obtain ⟨f2,hf2⟩:=h2;clear hA0 hA r0 r1 r2 hargs0 hV;simp only[List.append_nil]at hW'
 have hlt0:∀ x∈p0,x.block<W.heap.size:=fun x hx=>by simpa using hW'.lt x (by simp[hx])
 have hlt1:∀ x∈p1,x.block<W.heap.size:=fun x hx=>by simpa using hW'.lt x (by simp[hx])
 have hlt2:∀ x∈p2,x.block<W.heap.size:=fun x hx=>by simpa using hW'.lt x (by simp[hx])
 obtain ⟨sa0,sl0,sc0,rfl⟩:=okWide_slice Tryz.underlying22 (hval 0 22 v0 rfl rfl);obtain ⟨w0,l0,hv0,hL0,hT0⟩:=qbs hf0
 have e0:w0=.slice sa0 sl0 sc0:=by
  have:[Value.slice sa0 sl0 sc0]=[w0]:=by simpa[Value.cells] using hv0
  simp at this
  exact this.symm
 subst e0;obtain ⟨sa1,sl1,sc1,rfl⟩:=okWide_slice Tryz.underlying23 (hval 1 23 v1 rfl rfl)
 have hw1:sl1*16≤reachBytes:=V7 (by simpa[Value.cells] using hf1) (fun y hy=>by
  have:=List.all_eq_true.1 hz y (by simp only[DataW.weightsEach,List.cons_append,List.mem_append];exact Or.inr (Or.inl hy))
  simpa using this)
 obtain ⟨w1,l1,hv1,hL1,hT1⟩:=J8 hf1
 have e1:w1=.slice sa1 sl1 sc1:=by
  have:[Value.slice sa1 sl1 sc1]=[w1]:=by simpa[Value.cells] using hv1
  simp at this
  exact this.symm
 subst e1
 have hn1:l1.length*16≤140737488355328:=by
  obtain ⟨_,_,h,_⟩:=hL1.shape
  injection h with _ h _
  unfold reachBytes at hw1
  omega
 obtain ⟨y2,rfl⟩:=okWide_int Tryz.underlying3 (hval 2 3 v2 rfl rfl);refine (XR (fun b=>b<W.heap.size) _ _ l0 l1 y2 W hL0 hL1 (fun _ h=>h) hT0 hT1 hn1 hE).mono ?_
 rintro e W' ⟨rfl,hb⟩;refine ⟨_,rfl,_,_,_,[],(p0++(p1++(p2++[]))),[],hW',?_,?_,rfl,hb.frame _,fun h=>by cases h⟩
 · exact trodAll_mk1 (shut_bool Tryz.underlying4 true)
 · exact trodAll_cons_mk (Below.trod topOrderLaid (by kernel_rfl) (of_decide_eq_true (by kernel_rfl)) h0k hb (fun x hx=>hlt0 x hx)) (trodAll_cons_mk (Below.trod topOrderLaid (by kernel_rfl) (of_decide_eq_true (by kernel_rfl)) h1k hb (fun x hx=>hlt1 x hx)) (trodAll_cons_mk (Below.trod topOrderLaid (by kernel_rfl) (of_decide_eq_true (by kernel_rfl)) h2k hb (fun x hx=>hlt2 x hx)) (trodAll_mk0)))
noncomputable def xe (os:Os):World:=World.laidAll Tryz.prog os Rows.topOrderRow.laid
theorem XT (os:Os):laidMet Tryz.prog Rows.topOrderRow.laid ((xe os).forCall (fun _ _=>0) ⟨#[],#[Value.slice none 0 0,.slice none 0 0,.int .i64 0],[]⟩).memory :=
 laidMet_laidAll _ (by kernel_rfl) (by kernel_rfl)
theorem Y9 (os:Os){H:Type}(enc:TypeId × Value→H):∃ places,DataW.whole enc Tryz.prog ((xe os).forCall (fun _ _=>0) ⟨#[],#[Value.slice none 0 0,.slice none 0 0,.int .i64 0],[]⟩).memory Tryz.f3.params.toList Rows.topOrderSpec.vars false #[Value.slice none 0 0,.slice none 0 0,.int .i64 0].toList 8 =
 some ([.nil,.nil,.lit (.int .i64 0)],[],places) :=
 ⟨[],by kernel_rfl⟩
theorem Z3 (os:Os)(started:os.Started)(H:Type)(enc:TypeId × Value→H)(F:Stop.Interp) :
 ReturnsInHanded {} Tryz.checked os 3 .any ((OpenSpec.ofChange Rows.topOrderSpec).preRow enc Tryz.prog Tryz.f3 Rows.topOrderRow.domain false Rows.topOrderRow.laid) (((OpenSpec.ofChange Rows.topOrderSpec).at F).post enc Tryz.prog Tryz.f3 false true false false):=by
 obtain ⟨places,hx⟩:=Y9 os enc
 refine returnsInHanded_of_row (C:=Tryz.checked) (s:=OpenSpec.ofChange Rows.topOrderSpec) topOrderOwn started (by kernel_rfl) Tryz.func3
  (witness_row_atRef (enc:=enc) (C:=Tryz.checked) false (xe os) #[Value.slice none 0 0,.slice none 0 0,.int .i64 0] rfl (by kernel_rfl) (by kernel_rfl) (by kernel_rfl)
   (OpenSpec.preRow_of_cond 8 hx (by kernel_rfl) (fun k hk=>by cases hk) (by kernel_rfl) (XT os))) ?_
 intro W base args ds gs before hval hW _ _ hz hL hS _;exact Zq H enc W base args ds gs before hval hW (XS hL hS) hz
theorem topOrder_said:Rows.TopOrderSaid :=
 OpenClaim.holds_of_cond 3 Tryz.f3 rfl rfl rfl rfl rfl rfl rfl ⟨rfl,rfl,rfl,rfl,rfl⟩ rfl rfl rfl rfl rfl (by kernel_rfl) Tryz.func3 topOrder_closed
  (of_decide_eq_true (by kernel_rfl)) (by unfold Func.isWrapper;first|(rw[if_pos (by decide +kernel)];kernel_rfl)|(rw[if_neg (by decide +kernel)];exact ⟨rfl,rfl⟩))
  (fun os started H enc _ F=>by rw[OpenClaim.pre_eq_preRow];exact Z3 os started H enc F)
theorem Y8 (f : FuncId) (fn : Func) (hf : Tryz.pinned.checked.prog.funcNamed "topiary/topiarytop.TopOrder" = some f) (hfn : Tryz.pinned.checked.prog.funcs[f]? = some fn) :
 true=Tryz.pinned.checked.prog.looks []∧∀ (j:Nat) t,fn.params[j]?=some t→Tryz.pinned.checked.prog.wantsStandIn t=false:=by
 obtain rfl : f = 3 := Option.some.inj ((show Tryz.prog.funcNamed "topiary/topiarytop.TopOrder" = some 3 by kernel_rfl).symm.trans hf) |>.symm
 obtain rfl:fn=Tryz.f3:=(Option.some.inj (Tryz.func3.symm.trans hfn)).symm;refine ⟨by kernel_rfl,fun j t ht=>?_⟩
 rw[Tryz.params3]at ht
 have hm:t=22∨t=23∨t=3:=by simpa using Array.mem_of_getElem? ht
 rcases hm with rfl|rfl|rfl
 · exact (show Tryz.prog.wantsStandIn 22=false by kernel_rfl)
 · exact (show Tryz.prog.wantsStandIn 23=false by kernel_rfl)
 · exact (show Tryz.prog.wantsStandIn 3=false by kernel_rfl)
theorem topOrder_holds:Rows.TopOrderCardSaid :=
 Claim7.holds_tied_plain_at .later [] _ _ _ _ topOrder_said (fun _ h=>by cases h) (by kernel_rfl) (fun _ h=>by cases h) topOrder_row_tie rfl ⟨rfl,rfl⟩ (by kernel_rfl) rfl Y8 (by kernel_rfl)
end Go.Proofs.YtcgknjhpgikckaaGreatDoor
