/- TopMemory: for every input the law answers true, and its arguments read as they did. No condition beyond the given row's. -/
import Derived.Test.YtchkbffgancidaaGreatDoorBundle40
import Derived.Test.YtchkbffgancidaaGreatDoorBundle47
import Derived.Test.YtchkbffgancidaaGreatDoorCards
import Derived.Test.YtchkbffgancidaaGreatDoorTie
import Derived.Deep.DeepWitnessRowRef
namespace Go.Proofs.YtchkbffgancidaaGreatDoor
open Go.ChangeShapes Go.WideShapes Go.ChangeAt Go.RowKit
set_option maxRecDepth 100000
theorem topMemoryOwn:ownKnob Tryz.prog.godebug=none:=by kernel_rfl
theorem topMemoryLaid:laidOutB Tryz.prog=true:=by kernel_rfl
theorem Js {W:World}(hL:laidMetH Tryz.prog Rows.topMemoryRow.laid W)(hS:W.ShapedOpen Tryz.prog):yU W:=by
 have h:laidMet Tryz.prog Rows.topMemoryRow.laid W:=hL;exact ⟨KA (Lib.laidMet.reads h (by simp[Rows.topMemoryRow])),qdO hS (Lib.laidMet.reads h (by simp[Rows.topMemoryRow])) (Lib.laidMet.reads h (by simp[Rows.topMemoryRow])) (Lib.laidMet.reads h (by simp[Rows.topMemoryRow])),K6 (Lib.laidMet.reads h (by simp[Rows.topMemoryRow]))⟩
theorem QQ (H:Type)(enc:TypeId × Value→H)(W:World)(base:Nat)(args:Array Value)(ds gs:List (DataW H))(before:List MemPlace)
 (hval:∀ (j:Nat) t v,Tryz.f3.params[j]?=some t→args[j]?=some v→Value.okWide Tryz.prog W .any base t v)
 (hW:DataW.Whole enc Tryz.prog Tryz.f3.params.toList Rows.topMemorySpec.vars false W args.toList ds gs before) (hE:yU W) :
 Calls Tryz.prog 3 args W fun e W'=>∃ v,e=.returned v∧Rows.topMemorySpec.post enc Tryz.prog Tryz.f3 false true false false W args v W':=by
 have hW':=hW;obtain ⟨p,q,hA0,hV,rfl,hfz,hnd⟩:=hW;have hA:DataW.TrodAll enc Tryz.prog W 0 (fun _=>true) true Tryz.f3.params.toList args.toList ds p:=hA0
 rw[Tryz.params3]at hA hval
 obtain ⟨v0,vs0,d0,ds0,p0,q0,hargs0,rfl,rfl,h0,r0⟩:=trodAll_cons hA;obtain ⟨rfl,rfl,rfl⟩:=trodAll_nil r0;obtain rfl:args=#[v0]:=by cases args;simp_all
 obtain ⟨rfl,rfl⟩:=trodVars_none hV;have h0k:=h0;obtain ⟨f0,hf0⟩:=h0;clear hA0 hA r0 hargs0 hV;simp only[List.append_nil]at hW'
 have hlt0:∀ x∈p0,x.block<W.heap.size:=fun x hx=>by simpa using hW'.lt x (by simp[hx])
 obtain ⟨sa0,sl0,sc0,rfl⟩:=okWide_slice Tryz.underlying22 (hval 0 22 v0 rfl rfl);obtain ⟨w0,l0,hv0,hL0,hT0⟩:=qbf hf0
 have e0:w0=.slice sa0 sl0 sc0:=by
  have:[Value.slice sa0 sl0 sc0]=[w0]:=by simpa[Value.cells] using hv0
  simp at this
  exact this.symm
 subst e0;refine (Jr (fun b=>b<W.heap.size) _ l0 W hL0 (fun _ h=>h) hT0 hE).mono ?_
 rintro e W' ⟨rfl,hb⟩;refine ⟨_,rfl,_,_,_,[],(p0++[]),[],hW',?_,?_,rfl,hb.frame _,fun h=>by cases h⟩
 · exact trodAll_mk1 (shut_bool Tryz.underlying4 true)
 · exact trodAll_cons_mk (Below.trod topMemoryLaid (by kernel_rfl) (of_decide_eq_true (by kernel_rfl)) h0k hb (fun x hx=>hlt0 x hx)) (trodAll_mk0)
noncomputable def jS (os:Os):World:=World.laidAll Tryz.prog os Rows.topMemoryRow.laid
theorem Jt (os:Os):laidMet Tryz.prog Rows.topMemoryRow.laid ((jS os).forCall (fun _ _=>0) ⟨#[],#[Value.slice none 0 0],[]⟩).memory :=
 laidMet_laidAll _ (by kernel_rfl) (by kernel_rfl)
theorem Z3 (os:Os){H:Type}(enc:TypeId × Value→H):∃ places,DataW.whole enc Tryz.prog ((jS os).forCall (fun _ _=>0) ⟨#[],#[Value.slice none 0 0],[]⟩).memory Tryz.f3.params.toList Rows.topMemorySpec.vars false #[Value.slice none 0 0].toList 8 =
 some ([.nil],[],places) :=
 ⟨[],by kernel_rfl⟩
theorem ZO (os:Os)(started:os.Started)(H:Type)(enc:TypeId × Value→H)(F:Stop.Interp) :
 ReturnsInHanded {} Tryz.checked os 3 .any ((OpenSpec.ofChange Rows.topMemorySpec).preRow enc Tryz.prog Tryz.f3 Rows.topMemoryRow.domain false Rows.topMemoryRow.laid) (((OpenSpec.ofChange Rows.topMemorySpec).at F).post enc Tryz.prog Tryz.f3 false true false false):=by
 obtain ⟨places,hx⟩:=Z3 os enc
 refine returnsInHanded_of_row (C:=Tryz.checked) (s:=OpenSpec.ofChange Rows.topMemorySpec) topMemoryOwn started (by kernel_rfl) Tryz.func3
  (witness_row_atRef (enc:=enc) (C:=Tryz.checked) false (jS os) #[Value.slice none 0 0] rfl (by kernel_rfl) (by kernel_rfl) (by kernel_rfl)
   (OpenSpec.preRow_of_cond 8 hx (by kernel_rfl) (fun k hk=>by cases hk) (by kernel_rfl) (Jt os))) ?_
 intro W base args ds gs before hval hW _ _ _ hL hS _;exact QQ H enc W base args ds gs before hval hW (Js hL hS)
theorem topMemory_said:Rows.TopMemorySaid :=
 OpenClaim.holds_of_cond 3 Tryz.f3 rfl rfl rfl rfl rfl rfl rfl ⟨rfl,rfl,rfl,rfl,rfl⟩ rfl rfl rfl rfl rfl (by kernel_rfl) Tryz.func3 topMemory_closed
  (of_decide_eq_true (by kernel_rfl)) (by unfold Func.isWrapper;first|(rw[if_pos (by decide +kernel)];kernel_rfl)|(rw[if_neg (by decide +kernel)];exact ⟨rfl,rfl⟩))
  (fun os started H enc _ F=>by rw[OpenClaim.pre_eq_preRow];exact ZO os started H enc F)
theorem Z2 (f : FuncId) (fn : Func) (hf : Tryz.pinned.checked.prog.funcNamed "topiary/topiarytop.TopMemory" = some f) (hfn : Tryz.pinned.checked.prog.funcs[f]? = some fn) :
 true=Tryz.pinned.checked.prog.looks []∧∀ (j:Nat) t,fn.params[j]?=some t→Tryz.pinned.checked.prog.wantsStandIn t=false:=by
 obtain rfl : f = 3 := Option.some.inj ((show Tryz.prog.funcNamed "topiary/topiarytop.TopMemory" = some 3 by kernel_rfl).symm.trans hf) |>.symm
 obtain rfl:fn=Tryz.f3:=(Option.some.inj (Tryz.func3.symm.trans hfn)).symm;refine ⟨by kernel_rfl,fun j t ht=>?_⟩
 rw[Tryz.params3]at ht
 have hm:t=22:=by simpa using Array.mem_of_getElem? ht
 rcases hm with rfl
 · exact (show Tryz.prog.wantsStandIn 22=false by kernel_rfl)
theorem topMemory_holds:Rows.TopMemoryCardSaid :=
 Claim7.holds_tied_plain_at .later [] _ _ _ _ topMemory_said (fun _ h=>by cases h) (by kernel_rfl) (fun _ h=>by cases h) topMemory_row_tie rfl ⟨rfl,rfl⟩ (by kernel_rfl) rfl Z2 (by kernel_rfl)
end Go.Proofs.YtchkbffgancidaaGreatDoor
