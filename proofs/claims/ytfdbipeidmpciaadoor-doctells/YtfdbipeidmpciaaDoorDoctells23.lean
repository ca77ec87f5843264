/- DocTells: for every document and two nodes, Good, Tree, End, In and String answer as the document says, errors too. No condition beyond the given row's. -/
import Derived.Test.YtfdbipeidmpciaaDoorDoctells21
import Derived.Test.YtfdbipeidmpciaaDoorDoctells22
import Derived.Test.YtfdbipeidmpciaaDoorCards
import Derived.Test.YtfdbipeidmpciaaDoorTie
import Derived.Deep.DeepWitnessRowRef
import Derived.Lay
namespace Go.Proofs.YtfdbipeidmpciaaDoor
open Go.ChangeShapes Go.WideShapes Go.ChangeAt Go.RowKit
set_option maxRecDepth 100000
theorem jJ (H:Type)(enc:TypeId × Value→H)(W:World)(base:Nat)(args:Array Value)(ds gs:List (DataW H))(before:List MemPlace)
 (hval:∀ (j:Nat) t v,Tryd.f8.params[j]?=some t→args[j]?=some v→Value.okWide Tryd.prog W .any base t v)
 (hW:DataW.Whole enc Tryd.prog Tryd.f8.params.toList Rows.docTellsSpec.vars false W args.toList ds gs before)
 (hz:(DataW.weightsEach Tryd.prog (Tryd.f8.params.toList++Rows.docTellsSpec.plain.varTypes Tryd.prog) (ds++gs)).all (·≤reachBytes)=true) :
 Calls Tryd.prog 8 args W fun e W'=>∃ v,e=.returned v∧Rows.docTellsSpec.post enc Tryd.prog Tryd.f8 false true false false W args v W':=by
 have hW':=hW;obtain ⟨p,q,hA0,hV,rfl,hfz,hnd⟩:=hW;have hA:DataW.TrodAll enc Tryd.prog W 0 (fun _=>true) true Tryd.f8.params.toList args.toList ds p:=hA0
 rw[Tryd.params8]at hA hval hz
 obtain ⟨v0,vs0,d0,ds0,p0,q0,hargs0,rfl,rfl,h0,r0⟩:=trodAll_cons hA;obtain ⟨v1,vs1,d1,ds1,p1,q1,hargs1,rfl,rfl,h1,r1⟩:=trodAll_cons r0;obtain ⟨v2,vs2,d2,ds2,p2,q2,hargs2,rfl,rfl,h2,r2⟩:=trodAll_cons r1;obtain ⟨rfl,rfl,rfl⟩:=trodAll_nil r2;subst hargs2 hargs1;obtain rfl:args=#[v0,v1,v2]:=by cases args;simp_all
 obtain ⟨rfl,rfl⟩:=trodVars_none hV;obtain ⟨c0,rfl,hc0⟩:=okWide_struct Tryd.underlying47 (hval 0 47 v0 rfl rfl);rw[docCellsOf]at hc0
 obtain ⟨n,rfl,rfl,rfl,wn⟩:=open_int Tryd.underlying3 (hval 1 3 v1 rfl rfl) h1;obtain ⟨m,rfl,rfl,rfl,wm⟩:=open_int Tryd.underlying3 (hval 2 3 v2 rfl rfl) h2;have h0k:=h0;have h1k:=h1;have h2k:=h2;obtain ⟨f0,hf0⟩:=h0;clear hA0 hA r0 r1 r2 hargs0 hV;simp only[List.append_nil]at hW'
 have hlt:∀ x∈p0,x.block<W.heap.size:=fun x hx=>by simpa using hW'.lt x (by simp[hx])
 obtain ⟨v,ns,hv0,hD,hkf,hnl⟩:=JC (by simpa[Value.cells] using hc0) hf0 (fun y hy=>by
  have:=List.all_eq_true.1 hz y (by simp only[DataW.weightsEach,List.cons_append,List.mem_append];exact Or.inl hy)
  simpa using this)
 have e0:c0=#[v]:=by
  have:c0.toList=[v]:=by simpa[Value.cells] using hv0
  cases c0;simp at this;simp[this]
 subst e0;refine (Q1 (fun b=>b<W.heap.size) v ns n m W hD hkf hnl).mono ?_
 rintro e W' ⟨rfl,hb⟩;refine ⟨_,rfl,_,_,_,[],p0++([]++([]++[])),[],hW',?_,?_,rfl,hb.frame _,fun h=>by cases h⟩
 · exact trodAll_mk1 (shut_bool Tryd.underlying4 true)
 · exact trodAll_cons_mk (Below.trod progLaid (by kernel_rfl) (of_decide_eq_true (by kernel_rfl)) h0k hb (fun x hx=>hlt x hx)) (trodAll_cons_mk (Below.trod progLaid (by kernel_rfl) (of_decide_eq_true (by kernel_rfl)) h1k hb (fun x hx=>by simp at hx)) (trodAll_cons_mk (Below.trod progLaid (by kernel_rfl) (of_decide_eq_true (by kernel_rfl)) h2k hb (fun x hx=>by simp at hx)) trodAll_mk0))
noncomputable def ye (os:Os):World:=World.laidAll Tryd.prog os Rows.docTellsRow.laid
theorem Q2 (os:Os):laidMet Tryd.prog Rows.docTellsRow.laid ((ye os).forCall (fun _ _=>0) ⟨#[],#[.agg #[.slice none 0 0],.int .i64 0,.int .i64 0],[]⟩).memory :=
 laidMet_laidAll _ (by kernel_rfl) (by kernel_rfl)
theorem xK (os:Os){H:Type}(enc:TypeId × Value→H):∃ places,DataW.whole enc Tryd.prog ((ye os).forCall (fun _ _=>0) ⟨#[],#[.agg #[.slice none 0 0],.int .i64 0,.int .i64 0],[]⟩).memory Tryd.f8.params.toList Rows.docTellsSpec.vars false #[Value.agg #[.slice none 0 0],.int .i64 0,.int .i64 0].toList 8 =
 some ([.agg [.nil],.lit (.int .i64 0),.lit (.int .i64 0)],[],places) :=
 ⟨[],by kernel_rfl⟩
theorem xm (os:Os)(started:os.Started)(H:Type)(enc:TypeId × Value→H)(F:Stop.Interp) :
 ReturnsInHanded {} Tryd.checked os 8 .any ((OpenSpec.ofChange Rows.docTellsSpec).preRow enc Tryd.prog Tryd.f8 Rows.docTellsRow.domain false Rows.docTellsRow.laid) (((OpenSpec.ofChange Rows.docTellsSpec).at F).post enc Tryd.prog Tryd.f8 false true false false):=by
 obtain ⟨places,hx⟩:=xK os enc
 refine returnsInHanded_of_row (C:=Tryd.checked) (s:=OpenSpec.ofChange Rows.docTellsSpec) progOwn started (by kernel_rfl) Tryd.func8
  (witness_row_atRef (enc:=enc) (C:=Tryd.checked) false (ye os) #[.agg #[.slice none 0 0],.int .i64 0,.int .i64 0] rfl (by kernel_rfl) (by kernel_rfl) (by kernel_rfl)
   (OpenSpec.preRow_of_cond 8 hx (by kernel_rfl) (fun k hk=>by cases hk) (by kernel_rfl) (Q2 os))) ?_
 intro W base args ds gs before hval hW _ _ hz _ _ _;exact jJ H enc W base args ds gs before hval hW hz
theorem docTells_said:Rows.DocTellsSaid :=
 OpenClaim.holds_of_cond 8 Tryd.f8 rfl rfl rfl rfl rfl rfl rfl ⟨rfl,rfl,rfl,rfl,rfl⟩ rfl rfl rfl rfl rfl (by kernel_rfl) Tryd.func8 (by kernel_rfl)
  (of_decide_eq_true (by kernel_rfl)) (by unfold Func.isWrapper;first|(rw[if_pos (by decide +kernel)];kernel_rfl)|(rw[if_neg (by decide +kernel)];exact ⟨rfl,rfl⟩))
  (fun os started H enc _ F=>by rw[OpenClaim.pre_eq_preRow];exact xm os started H enc F)
theorem xJ (f : FuncId) (fn : Func) (hf : Tryd.pinned.checked.prog.funcNamed "topiary/topiarylaw.DocTells" = some f) (hfn : Tryd.pinned.checked.prog.funcs[f]? = some fn) :
 true=Tryd.pinned.checked.prog.looks []∧∀ (j:Nat) t,fn.params[j]?=some t→Tryd.pinned.checked.prog.wantsStandIn t=false:=by
 obtain rfl : f = 8 := Option.some.inj ((show Tryd.prog.funcNamed "topiary/topiarylaw.DocTells" = some 8 by kernel_rfl).symm.trans hf) |>.symm
 obtain rfl:fn=Tryd.f8:=(Option.some.inj (Tryd.func8.symm.trans hfn)).symm;refine ⟨by kernel_rfl,fun j t ht=>?_⟩
 rw[Tryd.params8]at ht
 have hm:t=47∨t=3:=by simpa using Array.mem_of_getElem? ht
 rcases hm with rfl|rfl
 · exact (show Tryd.prog.wantsStandIn 47=false by kernel_rfl)
 · exact (show Tryd.prog.wantsStandIn 3=false by kernel_rfl)
theorem docTells_holds:Rows.DocTellsCardSaid :=
 Claim7.holds_tied_plain_at .later [] _ _ _ _ docTells_said (fun _ h=>by cases h) (by kernel_rfl) (fun _ h=>by cases h) docTells_row_tie rfl ⟨rfl,rfl⟩ (by kernel_rfl) rfl xJ (by kernel_rfl)
end Go.Proofs.YtfdbipeidmpciaaDoor
