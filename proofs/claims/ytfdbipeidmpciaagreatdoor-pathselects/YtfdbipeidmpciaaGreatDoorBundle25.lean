/- PathSelects: for every document and steps path.Good and path.Select answer as the document says, errors too. No condition beyond the given row's. -/
import Derived.Test.YtfdbipeidmpciaaGreatDoorBundle21
import Derived.Test.YtfdbipeidmpciaaGreatDoorBundle23
import Derived.Test.YtfdbipeidmpciaaGreatDoorBundle24
import Derived.Test.YtfdbipeidmpciaaGreatDoorCards
import Derived.Test.YtfdbipeidmpciaaGreatDoorTie
import Derived.Deep.DeepWitnessRowRef
namespace Go.Proofs.YtfdbipeidmpciaaGreatDoor
open Go.ChangeShapes Go.WideShapes Go.ChangeAt Go.RowKit
set_option maxRecDepth 100000
theorem xD {W:World}(hL:laidMetH Tryz.prog Rows.pathSelectsRow.laid W)(hS:W.ShapedOpen Tryz.prog):yy W:=by
 have h:laidMet Tryz.prog Rows.pathSelectsRow.laid W:=hL;exact Zw hS (Lib.laidMet.reads h (by simp[Rows.pathSelectsRow])) (Lib.laidMet.reads h (by simp[Rows.pathSelectsRow])) (Lib.laidMet.reads h (by simp[Rows.pathSelectsRow]))
theorem yE (H:Type)(enc:TypeId × Value→H)(W:World)(base:Nat)(args:Array Value)(ds gs:List (DataW H))(before:List MemPlace)
 (hval:∀ (j:Nat) t v,Tryz.f3.params[j]?=some t→args[j]?=some v→Value.okWide Tryz.prog W .any base t v)
 (hW:DataW.Whole enc Tryz.prog Tryz.f3.params.toList Rows.pathSelectsSpec.vars false W args.toList ds gs before)
 (hz:(DataW.weightsEach Tryz.prog (Tryz.f3.params.toList++Rows.pathSelectsSpec.plain.varTypes Tryz.prog) (ds++gs)).all (·≤reachBytes)=true) (hE:yy W) :
 Calls Tryz.prog 3 args W fun e W'=>∃ v,e=.returned v∧Rows.pathSelectsSpec.post enc Tryz.prog Tryz.f3 false true false false W args v W':=by
 have hW':=hW;obtain ⟨p,q,hA0,hV,rfl,hfz,hnd⟩:=hW;have hA:DataW.TrodAll enc Tryz.prog W 0 (fun _=>true) true Tryz.f3.params.toList args.toList ds p:=hA0
 rw[Tryz.params3]at hA hval hz
 obtain ⟨v0,vs0,d0,ds0,p0,q0,hargs0,rfl,rfl,h0,r0⟩:=trodAll_cons hA;obtain ⟨v1,vs1,d1,ds1,p1,q1,hargs1,rfl,rfl,h1,r1⟩:=trodAll_cons r0;obtain ⟨rfl,rfl,rfl⟩:=trodAll_nil r1;subst hargs1;obtain rfl:args=#[v0,v1]:=by cases args;simp_all
 obtain ⟨rfl,rfl⟩:=trodVars_none hV;obtain ⟨c0,rfl,hc0⟩:=okWide_struct Tryz.underlying24 (hval 0 24 v0 rfl rfl);rw[docCellsOf]at hc0
 obtain ⟨sa,sl,sc,rfl⟩:=okWide_slice Tryz.underlying25 (hval 1 25 v1 rfl rfl);have h0k:=h0;have h1k:=h1;obtain ⟨f0,hf0⟩:=h0;obtain ⟨f1,hf1⟩:=h1;clear hA0 hA r0 r1 hargs0 hV;simp only[List.append_nil]at hW'
 have hlt0:∀ x∈p0,x.block<W.heap.size:=fun x hx=>by simpa using hW'.lt x (by simp[hx])
 have hlt1:∀ x∈p1,x.block<W.heap.size:=fun x hx=>by simpa using hW'.lt x (by simp[hx])
 obtain ⟨v,ns,hv0,hD,hkf,hnl⟩:=QB (by simpa[Value.cells] using hc0) hf0 (fun y hy=>by
  have:=List.all_eq_true.1 hz y (by simp only[DataW.weightsEach,List.cons_append,List.mem_append];exact Or.inl hy)
  simpa using this)
 have e0:c0=#[v]:=by
  have:c0.toList=[v]:=by simpa[Value.cells] using hv0
  cases c0;simp at this;simp[this]
 subst e0
 obtain ⟨v2,l,hv1,hSt,hNm,hll⟩:=x5 hf1 (fun y hy=>by
  have:=List.all_eq_true.1 hz y (by simp only[DataW.weightsEach,List.cons_append,List.mem_append];exact Or.inr (Or.inl hy))
  simpa using this)
 have e1:v2=.slice sa sl sc:=by
  have:[Value.slice sa sl sc]=[v2]:=by simpa[Value.cells] using hv1
  simp at this
  exact this.symm
 subst e1;refine (yN (fun b=>b<W.heap.size) v _ ns l W hD hkf hnl hSt hNm (by unfold reachBytes at hll;omega) hE).mono ?_
 rintro e W' ⟨rfl,hb⟩;refine ⟨_,rfl,_,_,_,[],p0++(p1++[]),[],hW',?_,?_,rfl,hb.frame _,fun h=>by cases h⟩
 · exact trodAll_mk1 (shut_bool Tryz.underlying4 true)
 · exact trodAll_cons_mk (Below.trod progLaid (by kernel_rfl) (of_decide_eq_true (by kernel_rfl)) h0k hb (fun x hx=>hlt0 x hx)) (trodAll_cons_mk (Below.trod progLaid (by kernel_rfl) (of_decide_eq_true (by kernel_rfl)) h1k hb (fun x hx=>hlt1 x hx)) trodAll_mk0)
noncomputable def zK (os:Os):World:=World.laidAll Tryz.prog os Rows.pathSelectsRow.laid
theorem xE (os:Os):laidMet Tryz.prog Rows.pathSelectsRow.laid ((zK os).forCall (fun _ _=>0) ⟨#[],#[.agg #[.slice none 0 0],.slice none 0 0],[]⟩).memory :=
 laidMet_laidAll _ (by kernel_rfl) (by kernel_rfl)
theorem jx (os:Os){H:Type}(enc:TypeId × Value→H):∃ places,DataW.whole enc Tryz.prog ((zK os).forCall (fun _ _=>0) ⟨#[],#[.agg #[.slice none 0 0],.slice none 0 0],[]⟩).memory Tryz.f3.params.toList Rows.pathSelectsSpec.vars false #[Value.agg #[.slice none 0 0],.slice none 0 0].toList 8 =
 some ([.agg [.nil],.nil],[],places) :=
 ⟨[],by kernel_rfl⟩
theorem jh (os:Os)(started:os.Started)(H:Type)(enc:TypeId × Value→H)(F:Stop.Interp) :
 ReturnsInHanded {} Tryz.checked os 3 .any ((OpenSpec.ofChange Rows.pathSelectsSpec).preRow enc Tryz.prog Tryz.f3 Rows.pathSelectsRow.domain false Rows.pathSelectsRow.laid) (((OpenSpec.ofChange Rows.pathSelectsSpec).at F).post enc Tryz.prog Tryz.f3 false true false false):=by
 obtain ⟨places,hx⟩:=jx os enc
 refine returnsInHanded_of_row (C:=Tryz.checked) (s:=OpenSpec.ofChange Rows.pathSelectsSpec) progOwn started (by kernel_rfl) Tryz.func3
  (witness_row_atRef (enc:=enc) (C:=Tryz.checked) false (zK os) #[.agg #[.slice none 0 0],.slice none 0 0] rfl (by kernel_rfl) (by kernel_rfl) (by kernel_rfl)
   (OpenSpec.preRow_of_cond 8 hx (by kernel_rfl) (fun k hk=>by cases hk) (by kernel_rfl) (xE os))) ?_
 intro W base args ds gs before hval hW _ _ hz hL hS _;exact yE H enc W base args ds gs before hval hW hz (xD hL hS)
theorem selects_said:Rows.PathSelectsSaid :=
 OpenClaim.holds_of_cond 3 Tryz.f3 rfl rfl rfl rfl rfl rfl rfl ⟨rfl,rfl,rfl,rfl,rfl⟩ rfl rfl rfl rfl rfl (by kernel_rfl) Tryz.func3 (by kernel_rfl)
  (of_decide_eq_true (by kernel_rfl)) (by unfold Func.isWrapper;first|(rw[if_pos (by decide +kernel)];kernel_rfl)|(rw[if_neg (by decide +kernel)];exact ⟨rfl,rfl⟩))
  (fun os started H enc _ F=>by rw[OpenClaim.pre_eq_preRow];exact jh os started H enc F)
theorem jw (f : FuncId) (fn : Func) (hf : Tryz.pinned.checked.prog.funcNamed "topiary/topiarylaw.PathSelects" = some f) (hfn : Tryz.pinned.checked.prog.funcs[f]? = some fn) :
 true=Tryz.pinned.checked.prog.looks []∧∀ (j:Nat) t,fn.params[j]?=some t→Tryz.pinned.checked.prog.wantsStandIn t=false:=by
 obtain rfl : f = 3 := Option.some.inj ((show Tryz.prog.funcNamed "topiary/topiarylaw.PathSelects" = some 3 by kernel_rfl).symm.trans hf) |>.symm
 obtain rfl:fn=Tryz.f3:=(Option.some.inj (Tryz.func3.symm.trans hfn)).symm;refine ⟨by kernel_rfl,fun j t ht=>?_⟩
 rw[Tryz.params3]at ht
 have hm:t=24∨t=25:=by simpa using Array.mem_of_getElem? ht
 rcases hm with rfl|rfl
 · exact (show Tryz.prog.wantsStandIn 24=false by kernel_rfl)
 · exact (show Tryz.prog.wantsStandIn 25=false by kernel_rfl)
theorem selects_holds:Rows.PathSelectsCardSaid :=
 Claim7.holds_tied_plain_at .later [] _ _ _ _ selects_said (fun _ h=>by cases h) (by kernel_rfl) (fun _ h=>by cases h) pathSelects_row_tie rfl ⟨rfl,rfl⟩ (by kernel_rfl) rfl jw (by kernel_rfl)
end Go.Proofs.YtfdbipeidmpciaaGreatDoor
