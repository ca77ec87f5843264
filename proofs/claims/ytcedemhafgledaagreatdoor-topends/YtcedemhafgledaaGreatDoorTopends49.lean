/- TopEnds: for every input the law answers true, and its arguments read as they did. No condition beyond the given row's. -/
import Derived.Test.YtcedemhafgledaaGreatDoorTopends47
import Derived.Test.YtcedemhafgledaaGreatDoorTopends48
import Derived.Test.YtcedemhafgledaaGreatDoorBundle46
import Derived.Test.YtcedemhafgledaaGreatDoorCards
import Derived.Test.YtcedemhafgledaaGreatDoorTie
import Derived.Deep.DeepWitnessRowRef
namespace Go.Proofs.YtcedemhafgledaaGreatDoor
open Go.ChangeShapes Go.WideShapes Go.ChangeAt Go.RowKit
set_option maxRecDepth 100000
theorem topEndsOwn:ownKnob Tryz.prog.godebug=none:=by kernel_rfl
theorem topEndsLaid:laidOutB Tryz.prog=true:=by kernel_rfl
theorem Vw {W:World}(hL:laidMetH Tryz.prog Rows.topEndsRow.laid W)(hS:W.ShapedOpen Tryz.prog):yz W:=by
 have h:laidMet Tryz.prog Rows.topEndsRow.laid W:=hL;exact ⟨Qp (Lib.laidMet.reads h (by simp[Rows.topEndsRow])),XZ hS (Lib.laidMet.reads h (by simp[Rows.topEndsRow])) (Lib.laidMet.reads h (by simp[Rows.topEndsRow])) (Lib.laidMet.reads h (by simp[Rows.topEndsRow])),Qx (Lib.laidMet.reads h (by simp[Rows.topEndsRow]))⟩
theorem Z4 (H:Type)(enc:TypeId × Value→H)(W:World)(base:Nat)(args:Array Value)(ds gs:List (DataW H))(before:List MemPlace)
 (hval:∀ (j:Nat) t v,Tryz.f5.params[j]?=some t→args[j]?=some v→Value.okWide Tryz.prog W .any base t v)
 (hW:DataW.Whole enc Tryz.prog Tryz.f5.params.toList Rows.topEndsSpec.vars false W args.toList ds gs before) (hE:yz W) :
 Calls Tryz.prog 5 args W fun e W'=>∃ v,e=.returned v∧Rows.topEndsSpec.post enc Tryz.prog Tryz.f5 false true false false W args v W':=by
 have hW':=hW;obtain ⟨p,q,hA0,hV,rfl,hfz,hnd⟩:=hW;have hA:DataW.TrodAll enc Tryz.prog W 0 (fun _=>true) true Tryz.f5.params.toList args.toList ds p:=hA0
 rw[Tryz.params5]at hA hval
 obtain ⟨v0,vs0,d0,ds0,p0,q0,hargs0,rfl,rfl,h0,r0⟩:=trodAll_cons hA;obtain ⟨v1,vs1,d1,ds1,p1,q1,hargs1,rfl,rfl,h1,r1⟩:=trodAll_cons r0;obtain ⟨rfl,rfl,rfl⟩:=trodAll_nil r1;subst hargs1;obtain rfl:args=#[v0,v1]:=by cases args;simp_all
 obtain ⟨rfl,rfl⟩:=trodVars_none hV;have h0k:=h0;obtain ⟨f0,hf0⟩:=h0;have h1k:=h1;obtain ⟨f1,hf1⟩:=h1;clear hA0 hA r0 r1 hargs0 hV;simp only[List.append_nil]at hW'
 have hlt0:∀ x∈p0,x.block<W.heap.size:=fun x hx=>by simpa using hW'.lt x (by simp[hx])
 have hlt1:∀ x∈p1,x.block<W.heap.size:=fun x hx=>by simpa using hW'.lt x (by simp[hx])
 obtain ⟨sa0,sl0,sc0,rfl⟩:=okWide_slice Tryz.underlying22 (hval 0 22 v0 rfl rfl);obtain ⟨w0,l0,hv0,hL0,hT0⟩:=ZS hf0
 have e0:w0=.slice sa0 sl0 sc0:=by
  have:[Value.slice sa0 sl0 sc0]=[w0]:=by simpa[Value.cells] using hv0
  simp at this
  exact this.symm
 subst e0;obtain ⟨c1,rfl,hc1⟩:=okWide_struct Tryz.underlying45 (hval 1 45 v1 rfl rfl);rw[actCellsOfA]at hc1
 obtain ⟨a1,vs1,hv1,hS1,hT1⟩:=Vb (by simpa[Value.cells] using hc1) hf1
 have e1:c1=#[.int .i64 a1.kind,vs1]:=by
  have:c1.toList=[.int .i64 a1.kind,vs1]:=by simpa[Value.cells] using hv1
  cases c1;simp at this;simp[this]
 subst e1;refine (Vv (fun b=>b<W.heap.size) _ _ l0 a1 W hL0 hS1 (fun _ h=>h) hT0 hT1 hE).mono ?_
 rintro e W' ⟨rfl,hb⟩;refine ⟨_,rfl,_,_,_,[],(p0++(p1++[])),[],hW',?_,?_,rfl,hb.frame _,fun h=>by cases h⟩
 · exact trodAll_mk1 (shut_bool Tryz.underlying4 true)
 · exact trodAll_cons_mk (Below.trod topEndsLaid (by kernel_rfl) (of_decide_eq_true (by kernel_rfl)) h0k hb (fun x hx=>hlt0 x hx)) (trodAll_cons_mk (Below.trod topEndsLaid (by kernel_rfl) (of_decide_eq_true (by kernel_rfl)) h1k hb (fun x hx=>hlt1 x hx)) (trodAll_mk0))
noncomputable def xY (os:Os):World:=World.laidAll Tryz.prog os Rows.topEndsRow.laid
theorem Vx (os:Os):laidMet Tryz.prog Rows.topEndsRow.laid ((xY os).forCall (fun _ _=>0) ⟨#[],#[Value.slice none 0 0,.agg #[.int .i64 0,.slice none 0 0]],[]⟩).memory :=
 laidMet_laidAll _ (by kernel_rfl) (by kernel_rfl)
theorem JO (os:Os){H:Type}(enc:TypeId × Value→H):∃ places,DataW.whole enc Tryz.prog ((xY os).forCall (fun _ _=>0) ⟨#[],#[Value.slice none 0 0,.agg #[.int .i64 0,.slice none 0 0]],[]⟩).memory Tryz.f5.params.toList Rows.topEndsSpec.vars false #[Value.slice none 0 0,.agg #[.int .i64 0,.slice none 0 0]].toList 8 =
 some ([.nil,.agg [.lit (.int .i64 0),.nil]],[],places) :=
 ⟨[],by kernel_rfl⟩
theorem Jk (os:Os)(started:os.Started)(H:Type)(enc:TypeId × Value→H)(F:Stop.Interp) :
 ReturnsInHanded {} Tryz.checked os 5 .any ((OpenSpec.ofChange Rows.topEndsSpec).preRow enc Tryz.prog Tryz.f5 Rows.topEndsRow.domain false Rows.topEndsRow.laid) (((OpenSpec.ofChange Rows.topEndsSpec).at F).post enc Tryz.prog Tryz.f5 false true false false):=by
 obtain ⟨places,hx⟩:=JO os enc
 refine returnsInHanded_of_row (C:=Tryz.checked) (s:=OpenSpec.ofChange Rows.topEndsSpec) topEndsOwn started (by kernel_rfl) Tryz.func5
  (witness_row_atRef (enc:=enc) (C:=Tryz.checked) false (xY os) #[Value.slice none 0 0,.agg #[.int .i64 0,.slice none 0 0]] rfl (by kernel_rfl) (by kernel_rfl) (by kernel_rfl)
   (OpenSpec.preRow_of_cond 8 hx (by kernel_rfl) (fun k hk=>by cases hk) (by kernel_rfl) (Vx os))) ?_
 intro W base args ds gs before hval hW _ _ _ hL hS _;exact Z4 H enc W base args ds gs before hval hW (Vw hL hS)
theorem topEnds_said:Rows.TopEndsSaid :=
 OpenClaim.holds_of_cond 5 Tryz.f5 rfl rfl rfl rfl rfl rfl rfl ⟨rfl,rfl,rfl,rfl,rfl⟩ rfl rfl rfl rfl rfl (by kernel_rfl) Tryz.func5 topEnds_closed
  (of_decide_eq_true (by kernel_rfl)) (by unfold Func.isWrapper;first|(rw[if_pos (by decide +kernel)];kernel_rfl)|(rw[if_neg (by decide +kernel)];exact ⟨rfl,rfl⟩))
  (fun os started H enc _ F=>by rw[OpenClaim.pre_eq_preRow];exact Jk os started H enc F)
theorem JN (f : FuncId) (fn : Func) (hf : Tryz.pinned.checked.prog.funcNamed "topiary/topiarytop.TopEnds" = some f) (hfn : Tryz.pinned.checked.prog.funcs[f]? = some fn) :
 true=Tryz.pinned.checked.prog.looks []∧∀ (j:Nat) t,fn.params[j]?=some t→Tryz.pinned.checked.prog.wantsStandIn t=false:=by
 obtain rfl : f = 5 := Option.some.inj ((show Tryz.prog.funcNamed "topiary/topiarytop.TopEnds" = some 5 by kernel_rfl).symm.trans hf) |>.symm
 obtain rfl:fn=Tryz.f5:=(Option.some.inj (Tryz.func5.symm.trans hfn)).symm;refine ⟨by kernel_rfl,fun j t ht=>?_⟩
 rw[Tryz.params5]at ht
 have hm:t=22∨t=45:=by simpa using Array.mem_of_getElem? ht
 rcases hm with rfl|rfl
 · exact (show Tryz.prog.wantsStandIn 22=false by kernel_rfl)
 · exact (show Tryz.prog.wantsStandIn 45=false by kernel_rfl)
theorem topEnds_holds:Rows.TopEndsCardSaid :=
 Claim7.holds_tied_plain_at .later [] _ _ _ _ topEnds_said (fun _ h=>by cases h) (by kernel_rfl) (fun _ h=>by cases h) topEnds_row_tie rfl ⟨rfl,rfl⟩ (by kernel_rfl) rfl JN (by kernel_rfl)
end Go.Proofs.YtcedemhafgledaaGreatDoor
