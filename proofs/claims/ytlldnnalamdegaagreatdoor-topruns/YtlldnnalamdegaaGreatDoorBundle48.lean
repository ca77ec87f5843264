/- TopRuns: for every input the law answers true, and its arguments read as they did. No condition beyond the given row's. -/
import Derived.Test.YtlldnnalamdegaaGreatDoorBundle40
import Derived.Test.YtlldnnalamdegaaGreatDoorBundle47
import Derived.Test.YtlldnnalamdegaaGreatDoorCards
import Derived.Test.YtlldnnalamdegaaGreatDoorTie
import Derived.Deep.DeepWitnessRowRef
namespace Go.Proofs.YtlldnnalamdegaaGreatDoor
open Go.ChangeShapes Go.WideShapes Go.ChangeAt Go.RowKit
set_option maxRecDepth 100000
theorem topRunsOwn:ownKnob Tryz.prog.godebug=none:=by kernel_rfl
theorem topRunsLaid:laidOutB Tryz.prog=true:=by kernel_rfl
theorem Kx {W:World}(hL:laidMetH Tryz.prog Rows.topRunsRow.laid W)(hS:W.ShapedOpen Tryz.prog):jd W:=by
 have h:laidMet Tryz.prog Rows.topRunsRow.laid W:=hL;exact ⟨X5 (Lib.laidMet.reads h (by simp[Rows.topRunsRow])),qc8 hS (Lib.laidMet.reads h (by simp[Rows.topRunsRow])) (Lib.laidMet.reads h (by simp[Rows.topRunsRow])) (Lib.laidMet.reads h (by simp[Rows.topRunsRow])),KC (Lib.laidMet.reads h (by simp[Rows.topRunsRow]))⟩
theorem ZC (H:Type)(enc:TypeId × Value→H)(W:World)(base:Nat)(args:Array Value)(ds gs:List (DataW H))(before:List MemPlace)
 (hval:∀ (j:Nat) t v,Tryz.f3.params[j]?=some t→args[j]?=some v→Value.okWide Tryz.prog W .any base t v)
 (hW:DataW.Whole enc Tryz.prog Tryz.f3.params.toList Rows.topRunsSpec.vars false W args.toList ds gs before) (hE:jd W) :
 Calls Tryz.prog 3 args W fun e W'=>∃ v,e=.returned v∧Rows.topRunsSpec.post enc Tryz.prog Tryz.f3 false true false false W args v W':=by
 have hW':=hW;obtain ⟨p,q,hA0,hV,rfl,hfz,hnd⟩:=hW;have hA:DataW.TrodAll enc Tryz.prog W 0 (fun _=>true) true Tryz.f3.params.toList args.toList ds p:=hA0
 rw[Tryz.params3]at hA hval
 obtain ⟨v0,vs0,d0,ds0,p0,q0,hargs0,rfl,rfl,h0,r0⟩:=trodAll_cons hA;obtain ⟨v1,vs1,d1,ds1,p1,q1,hargs1,rfl,rfl,h1,r1⟩:=trodAll_cons r0;obtain ⟨rfl,rfl,rfl⟩:=trodAll_nil r1;subst hargs1;obtain rfl:args=#[v0,v1]:=by cases args;simp_all
 obtain ⟨rfl,rfl⟩:=trodVars_none hV;have h0k:=h0;obtain ⟨f0,hf0⟩:=h0;have h1k:=h1;obtain ⟨f1,hf1⟩:=h1;clear hA0 hA r0 r1 hargs0 hV;simp only[List.append_nil]at hW'
 have hlt0:∀ x∈p0,x.block<W.heap.size:=fun x hx=>by simpa using hW'.lt x (by simp[hx])
 have hlt1:∀ x∈p1,x.block<W.heap.size:=fun x hx=>by simpa using hW'.lt x (by simp[hx])
 obtain ⟨sa0,sl0,sc0,rfl⟩:=okWide_slice Tryz.underlying22 (hval 0 22 v0 rfl rfl);obtain ⟨w0,l0,hv0,hL0,hT0⟩:=qaD hf0
 have e0:w0=.slice sa0 sl0 sc0:=by
  have:[Value.slice sa0 sl0 sc0]=[w0]:=by simpa[Value.cells] using hv0
  simp at this
  exact this.symm
 subst e0;obtain ⟨y1,rfl⟩:=okWide_int Tryz.underlying3 (hval 1 3 v1 rfl rfl);refine (Kw (fun b=>b<W.heap.size) _ l0 y1 W hL0 (fun _ h=>h) hT0 hE).mono ?_
 rintro e W' ⟨rfl,hb⟩;refine ⟨_,rfl,_,_,_,[],(p0++(p1++[])),[],hW',?_,?_,rfl,hb.frame _,fun h=>by cases h⟩
 · exact trodAll_mk1 (shut_bool Tryz.underlying4 true)
 · exact trodAll_cons_mk (Below.trod topRunsLaid (by kernel_rfl) (of_decide_eq_true (by kernel_rfl)) h0k hb (fun x hx=>hlt0 x hx)) (trodAll_cons_mk (Below.trod topRunsLaid (by kernel_rfl) (of_decide_eq_true (by kernel_rfl)) h1k hb (fun x hx=>hlt1 x hx)) (trodAll_mk0))
noncomputable def xD (os:Os):World:=World.laidAll Tryz.prog os Rows.topRunsRow.laid
theorem Ky (os:Os):laidMet Tryz.prog Rows.topRunsRow.laid ((xD os).forCall (fun _ _=>0) ⟨#[],#[Value.slice none 0 0,.int .i64 0],[]⟩).memory :=
 laidMet_laidAll _ (by kernel_rfl) (by kernel_rfl)
theorem Ja (os:Os){H:Type}(enc:TypeId × Value→H):∃ places,DataW.whole enc Tryz.prog ((xD os).forCall (fun _ _=>0) ⟨#[],#[Value.slice none 0 0,.int .i64 0],[]⟩).memory Tryz.f3.params.toList Rows.topRunsSpec.vars false #[Value.slice none 0 0,.int .i64 0].toList 8 =
 some ([.nil,.lit (.int .i64 0)],[],places) :=
 ⟨[],by kernel_rfl⟩
theorem YK (os:Os)(started:os.Started)(H:Type)(enc:TypeId × Value→H)(F:Stop.Interp) :
 ReturnsInHanded {} Tryz.checked os 3 .any ((OpenSpec.ofChange Rows.topRunsSpec).preRow enc Tryz.prog Tryz.f3 Rows.topRunsRow.domain false Rows.topRunsRow.laid) (((OpenSpec.ofChange Rows.topRunsSpec).at F).post enc Tryz.prog Tryz.f3 false true false false):=by
 obtain ⟨places,hx⟩:=Ja os enc
 refine returnsInHanded_of_row (C:=Tryz.checked) (s:=OpenSpec.ofChange Rows.topRunsSpec) topRunsOwn started (by kernel_rfl) Tryz.func3
  (witness_row_atRef (enc:=enc) (C:=Tryz.checked) false (xD os) #[Value.slice none 0 0,.int .i64 0] rfl (by kernel_rfl) (by kernel_rfl) (by kernel_rfl)
   (OpenSpec.preRow_of_cond 8 hx (by kernel_rfl) (fun k hk=>by cases hk) (by kernel_rfl) (Ky os))) ?_
 intro W base args ds gs before hval hW _ _ _ hL hS _;exact ZC H enc W base args ds gs before hval hW (Kx hL hS)
theorem topRuns_said:Rows.TopRunsSaid :=
 OpenClaim.holds_of_cond 3 Tryz.f3 rfl rfl rfl rfl rfl rfl rfl ⟨rfl,rfl,rfl,rfl,rfl⟩ rfl rfl rfl rfl rfl (by kernel_rfl) Tryz.func3 topRuns_closed
  (of_decide_eq_true (by kernel_rfl)) (by unfold Func.isWrapper;first|(rw[if_pos (by decide +kernel)];kernel_rfl)|(rw[if_neg (by decide +kernel)];exact ⟨rfl,rfl⟩))
  (fun os started H enc _ F=>by rw[OpenClaim.pre_eq_preRow];exact YK os started H enc F)
theorem Y9 (f : FuncId) (fn : Func) (hf : Tryz.pinned.checked.prog.funcNamed "topiary/topiarytop.TopRuns" = some f) (hfn : Tryz.pinned.checked.prog.funcs[f]? = some fn) :
 true=Tryz.pinned.checked.prog.looks []∧∀ (j:Nat) t,fn.params[j]?=some t→Tryz.pinned.checked.prog.wantsStandIn t=false:=by
 obtain rfl : f = 3 := Option.some.inj ((show Tryz.prog.funcNamed "topiary/topiarytop.TopRuns" = some 3 by kernel_rfl).symm.trans hf) |>.symm
 obtain rfl:fn=Tryz.f3:=(Option.some.inj (Tryz.func3.symm.trans hfn)).symm;refine ⟨by kernel_rfl,fun j t ht=>?_⟩
 rw[Tryz.params3]at ht
 have hm:t=22∨t=3:=by simpa using Array.mem_of_getElem? ht
 rcases hm with rfl|rfl
 · exact (show Tryz.prog.wantsStandIn 22=false by kernel_rfl)
 · exact (show Tryz.prog.wantsStandIn 3=false by kernel_rfl)
theorem topRuns_holds:Rows.TopRunsCardSaid :=
 Claim7.holds_tied_plain_at .later [] _ _ _ _ topRuns_said (fun _ h=>by cases h) (by kernel_rfl) (fun _ h=>by cases h) topRuns_row_tie rfl ⟨rfl,rfl⟩ (by kernel_rfl) rfl Y9 (by kernel_rfl)
end Go.Proofs.YtlldnnalamdegaaGreatDoor
