/- ChangeApplies: for every document and changes change.Apply answers as the document says, errors too. Condition: what is handed in holds together at most 1048576 values and letters. -/
import Derived.Test.YtnppmdpmippcoaaGreatDoorBundle36
import Derived.Test.YtnppmdpmippcoaaGreatDoorBundle37
import Derived.Test.YtnppmdpmippcoaaGreatDoorBundle41
import Derived.Test.YtnppmdpmippcoaaGreatDoorCards
import Derived.Test.YtnppmdpmippcoaaGreatDoorTie
import Derived.Deep.DeepWitnessRowRef
import Derived.Lay
import Derived.Lib.LaidU8
namespace Go.Proofs.YtnppmdpmippcoaaGreatDoor
open Go.ChangeShapes Go.WideShapes Go.ChangeAt Go.RowKit
set_option maxRecDepth 100000
theorem changeAppliesOwn:ownKnob Tryz.prog.godebug=none:=by kernel_rfl
theorem changeAppliesLaid:laidOutB Tryz.prog=true:=by kernel_rfl
theorem j6 (H:Type)(enc:TypeId × Value→H)(W:World)(base:Nat)(args:Array Value)(ds gs:List (DataW H))(before:List MemPlace)
 (hval:∀ (j:Nat) t v,Tryz.f4.params[j]?=some t→args[j]?=some v→Value.okWide Tryz.prog W .any base t v)
 (hW:DataW.Whole enc Tryz.prog Tryz.f4.params.toList Rows.changeAppliesSpec.vars false W args.toList ds gs before) (hk:Rows.uptoSmall H (ds++gs)=true)
 (hz:(DataW.weightsEach Tryz.prog (Tryz.f4.params.toList++Rows.changeAppliesSpec.plain.varTypes Tryz.prog) (ds++gs)).all (·≤reachBytes)=true) :
 Calls Tryz.prog 4 args W fun e W'=>∃ v,e=.returned v∧Rows.changeAppliesSpec.post enc Tryz.prog Tryz.f4 false true false false W args v W':=by
 have hW':=hW;obtain ⟨p,q,hA0,hV,rfl,hfz,hnd⟩:=hW;have hA:DataW.TrodAll enc Tryz.prog W 0 (fun _=>true) true Tryz.f4.params.toList args.toList ds p:=hA0
 rw[Tryz.params4]at hA hval hz
 obtain ⟨v0,vs0,d0,ds0,p0,q0,hargs0,rfl,rfl,h0,r0⟩:=trodAll_cons hA;obtain ⟨v1,vs1,d1,ds1,p1,q1,hargs1,rfl,rfl,h1,r1⟩:=trodAll_cons r0;obtain ⟨rfl,rfl,rfl⟩:=trodAll_nil r1;subst hargs1;obtain rfl:args=#[v0,v1]:=by cases args;simp_all
 obtain ⟨rfl,rfl⟩:=trodVars_none hV;obtain ⟨c0,rfl,hc0⟩:=okWide_struct Tryz.underlying24 (hval 0 24 v0 rfl rfl);rw[docCellsOf]at hc0
 obtain ⟨a1,len1,cap1,rfl⟩:=okWide_slice Tryz.underlying25 (hval 1 25 v1 rfl rfl);have h0k:=h0;have h1k:=h1;obtain ⟨f0,hf0⟩:=h0;obtain ⟨f1,hf1⟩:=h1;clear hA0 hA r0 r1 hargs0 hV;simp only[List.append_nil]at hW' hk
 have hlt0:∀ x∈p0,x.block<W.heap.size:=fun x hx=>by simpa using hW'.lt x (by simp[hx])
 have hlt1:∀ x∈p1,x.block<W.heap.size:=fun x hx=>by simpa using hW'.lt x (by simp[hx])
 obtain ⟨v,ns,hv0,hD,hkf,hnl⟩:=K8 (by simpa[Value.cells] using hc0) hf0 (fun y hy=>by
  have:=List.all_eq_true.1 hz y (by simp only[DataW.weightsEach,List.cons_append,List.mem_append];exact Or.inl hy)
  simpa using this)
 have e0:c0=#[v]:=by
  have:c0.toList=[v]:=by simpa[Value.cells] using hv0
  cases c0;simp at this;simp[this]
 subst e0;obtain ⟨vl,l,hv1,hO,hto,hll⟩:=Va hf1;simp only[Value.cells,List.cons.injEq,and_true]at hv1
 subst hv1;have hbulk:Rows.uptoBulkAll [d0,d1]≤1048576:=of_decide_eq_true hk;simp only[Rows.uptoBulkAll]at hbulk
 simp only at hto hll
 refine (Qn (fun b=>b<W.heap.size) f1 v _ ns l W hD hnl hkf hO (fun x hx=>?_) (fun x hx=>wt_small _ _ (by have:=(hto x hx).1;omega)) (by omega)).mono ?_
 · have hw : wt (f1 + 1) x.content ≤ 1048576 := by have := (hto x hx).1;omega
   exact ⟨Nat.le_trans (wt_cnt _ _) hw,wt_tex _ _ hw,(hto x hx).2⟩
 rintro e W' ⟨rfl,hb⟩;refine ⟨_,rfl,_,_,_,[],p0++(p1++[]),[],hW',?_,?_,rfl,hb.frame _,fun h=>by cases h⟩
 · exact trodAll_mk1 (shut_bool Tryz.underlying4 true)
 · exact trodAll_cons_mk (Below.trod changeAppliesLaid (by kernel_rfl) (of_decide_eq_true (by kernel_rfl)) h0k hb (fun x hx=>hlt0 x hx)) (trodAll_cons_mk (Below.trod changeAppliesLaid (by kernel_rfl) (of_decide_eq_true (by kernel_rfl)) h1k hb (fun x hx=>hlt1 x hx)) trodAll_mk0)
noncomputable def yO (os:Os):World:=World.laidAll Tryz.prog os Rows.changeAppliesUptoRow.laid
theorem Qo (os:Os):laidMet Tryz.prog Rows.changeAppliesUptoRow.laid ((yO os).forCall (fun _ _=>0) ⟨#[],#[.agg #[.slice none 0 0],.slice none 0 0],[]⟩).memory :=
 laidMet_laidAll _ (by kernel_rfl) (by kernel_rfl)
theorem xS (os:Os){H:Type}(enc:TypeId × Value→H):∃ places,DataW.whole enc Tryz.prog ((yO os).forCall (fun _ _=>0) ⟨#[],#[.agg #[.slice none 0 0],.slice none 0 0],[]⟩).memory Tryz.f4.params.toList Rows.changeAppliesSpec.vars false #[Value.agg #[.slice none 0 0],.slice none 0 0].toList 8 =
 some ([.agg [.nil],.nil],[],places) :=
 ⟨[],by kernel_rfl⟩
theorem xo (os:Os)(started:os.Started)(H:Type)(enc:TypeId × Value→H)(F:Stop.Interp) :
 ReturnsInHanded {} Tryz.checked os 4 .any ((Rows.OpenSpec.upto Rows.changeAppliesSpec).preRow enc Tryz.prog Tryz.f4 Rows.changeAppliesUptoRow.domain false Rows.changeAppliesUptoRow.laid) (((Rows.OpenSpec.upto Rows.changeAppliesSpec).at F).post enc Tryz.prog Tryz.f4 false true false false):=by
 obtain ⟨places,hx⟩:=xS os enc
 refine returnsInHanded_of_row (C:=Tryz.checked) (s:=Rows.OpenSpec.upto Rows.changeAppliesSpec) changeAppliesOwn started (by kernel_rfl) Tryz.func4
  (witness_row_atRef (enc:=enc) (C:=Tryz.checked) false (yO os) #[.agg #[.slice none 0 0],.slice none 0 0] rfl (by kernel_rfl) (by kernel_rfl) (by kernel_rfl)
   (OpenSpec.preRow_of_cond 8 hx (by kernel_rfl) (fun k hk=>by cases hk;kernel_rfl) (by kernel_rfl) (Qo os))) ?_
 intro W base args ds gs before hval hW _ hcond hz _ _ _;exact j6 H enc W base args ds gs before hval hW (hcond _ rfl) hz
theorem changeApplies_said:Rows.ChangeAppliesUptoSaid :=
 OpenClaim.holds_of_cond 4 Tryz.f4 rfl rfl rfl rfl rfl rfl rfl ⟨rfl,rfl,rfl,rfl,rfl⟩ rfl rfl rfl rfl rfl (by kernel_rfl) Tryz.func4 changeApplies_closed
  (of_decide_eq_true (by kernel_rfl)) (by unfold Func.isWrapper;first|(rw[if_pos (by decide +kernel)];kernel_rfl)|(rw[if_neg (by decide +kernel)];exact ⟨rfl,rfl⟩))
  (fun os started H enc _ F=>by rw[OpenClaim.pre_eq_preRow];exact xo os started H enc F)
theorem xR (f : FuncId) (fn : Func) (hf : Tryz.pinned.checked.prog.funcNamed "topiary/topiarylaw.ChangeApplies" = some f) (hfn : Tryz.pinned.checked.prog.funcs[f]? = some fn) :
 false=Tryz.pinned.checked.prog.looks []∧∀ (j:Nat) t,fn.params[j]?=some t→Tryz.pinned.checked.prog.wantsStandIn t=false:=by
 obtain rfl : f = 4 := Option.some.inj ((show Tryz.prog.funcNamed "topiary/topiarylaw.ChangeApplies" = some 4 by kernel_rfl).symm.trans hf) |>.symm
 obtain rfl:fn=Tryz.f4:=(Option.some.inj (Tryz.func4.symm.trans hfn)).symm;refine ⟨by kernel_rfl,fun j t ht=>?_⟩
 rw[Tryz.params4]at ht
 have hm:t=24∨t=25:=by simpa using Array.mem_of_getElem? ht
 rcases hm with rfl|rfl
 · exact (show Tryz.prog.wantsStandIn 24=false by kernel_rfl)
 · exact (show Tryz.prog.wantsStandIn 25=false by kernel_rfl)
theorem changeApplies_holds:Rows.ChangeAppliesUptoCardSaid :=
 Claim7.holds_tied_plain_at .later [] _ _ _ _ changeApplies_said (fun _ h=>by cases h) (by kernel_rfl) (fun _ h=>by cases h) changeAppliesUpto_row_tie rfl ⟨rfl,rfl⟩ (by kernel_rfl) rfl xR (by kernel_rfl)
end Go.Proofs.YtnppmdpmippcoaaGreatDoor
