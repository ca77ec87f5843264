/- PathPicks: for every document and path, who asks for the n-th of some is told no others. No condition beyond the given row's. -/
import Derived.Test.YtfdbipeidmpciabDoorPathpicks18
import Derived.Test.YtfdbipeidmpciabDoorBundle16
import Derived.Test.YtfdbipeidmpciabDoorCards
import Derived.Test.YtfdbipeidmpciabDoorTie
import Derived.Deep.DeepWitnessRowRef
namespace Go.Proofs.YtfdbipeidmpciabDoor
open Go.ChangeShapes Go.WideShapes Go.ChangeAt Go.RowKit
set_option maxRecDepth 100000
theorem j7 {W:World}(hL:laidMetH Tryd.prog Rows.pathPicksRow.laid W)(hS:W.ShapedOpen Tryd.prog):ze W:=by
 have h:laidMet Tryd.prog Rows.pathPicksRow.laid W:=hL;exact yR hS (Lib.laidMet.reads h (by simp[Rows.pathPicksRow])) (Lib.laidMet.reads h (by simp[Rows.pathPicksRow])) (Lib.laidMet.reads h (by simp[Rows.pathPicksRow]))
theorem yh (H:Type)(enc:TypeId × Value→H)(W:World)(base:Nat)(args:Array Value)(ds gs:List (DataW H))(before:List MemPlace)
 (hval:∀ (j:Nat) t v,Tryd.f4.params[j]?=some t→args[j]?=some v→Value.okWide Tryd.prog W .any base t v)
 (hW:DataW.Whole enc Tryd.prog Tryd.f4.params.toList Rows.pathPicksSpec.vars false W args.toList ds gs before)
 (hz:(DataW.weightsEach Tryd.prog (Tryd.f4.params.toList++Rows.pathPicksSpec.plain.varTypes Tryd.prog) (ds++gs)).all (·≤reachBytes)=true) (hE:ze W) :
 Calls Tryd.prog 4 args W fun e W'=>∃ v,e=.returned v∧Rows.pathPicksSpec.post enc Tryd.prog Tryd.f4 false true false false W args v W':=by
 have hW':=hW;obtain ⟨p,q,hA0,hV,rfl,hfz,hnd⟩:=hW;have hA:DataW.TrodAll enc Tryd.prog W 0 (fun _=>true) true Tryd.f4.params.toList args.toList ds p:=hA0
 rw[Tryd.params4]at hA hval hz
 obtain ⟨v0,vs0,d0,ds0,p0,q0,hargs0,rfl,rfl,h0,r0⟩:=trodAll_cons hA;obtain ⟨v1,vs1,d1,ds1,p1,q1,hargs1,rfl,rfl,h1,r1⟩:=trodAll_cons r0;obtain ⟨v2,vs2,d2,ds2,p2,q2,hargs2,rfl,rfl,h2,r2⟩:=trodAll_cons r1;obtain ⟨v3,vs3,d3,ds3,p3,q3,hargs3,rfl,rfl,h3,r3⟩:=trodAll_cons r2;obtain ⟨rfl,rfl,rfl⟩:=trodAll_nil r3;subst hargs3 hargs2 hargs1;obtain rfl:args=#[v0,v1,v2,v3]:=by cases args;simp_all
 obtain ⟨rfl,rfl⟩:=trodVars_none hV;obtain ⟨c0,rfl,hc0⟩:=okWide_struct Tryd.underlying24 (hval 0 24 v0 rfl rfl);rw[docCellsOf]at hc0
 obtain ⟨sa,sl,sc,rfl⟩:=okWide_slice Tryd.underlying25 (hval 1 25 v1 rfl rfl);obtain ⟨k,rfl,rfl,rfl,_⟩:=open_int Tryd.underlying3 (hval 2 3 v2 rfl rfl) h2;obtain ⟨n,rfl,rfl,rfl,_⟩:=open_int Tryd.underlying3 (hval 3 3 v3 rfl rfl) h3;have h0k:=h0;have h1k:=h1;have h2k:=h2;have h3k:=h3;obtain ⟨f0,hf0⟩:=h0;obtain ⟨f1,hf1⟩:=h1;clear hA0 hA r0 r1 r2 r3 hargs0 hV;simp only[List.append_nil]at hW'
 have hlt0:∀ x∈p0,x.block<W.heap.size:=fun x hx=>by simpa using hW'.lt x (by simp[hx])
 have hlt1:∀ x∈p1,x.block<W.heap.size:=fun x hx=>by simpa using hW'.lt x (by simp[hx])
 obtain ⟨v,ns,hv0,hD⟩:=yd (by simpa[Value.cells] using hc0) hf0 (fun y hy=>by
  have:=List.all_eq_true.1 hz y (by simp only[DataW.weightsEach,List.cons_append,List.mem_append];exact Or.inl hy)
  simpa using this)
 have e0:c0=#[v]:=by
  have:c0.toList=[v]:=by simpa[Value.cells] using hv0
  cases c0;simp at this;simp[this]
 subst e0
 obtain ⟨vs,l,hv1,hSt,hNm,hre⟩:=ye hf1 (fun y hy=>by
  have:=List.all_eq_true.1 hz y (by simp only[DataW.weightsEach,List.cons_append,List.mem_append];exact Or.inr (Or.inl hy))
  simpa using this)
 have e1:vs=.slice sa sl sc:=by
  have:[Value.slice sa sl sc]=[vs]:=by simpa[Value.cells] using hv1
  simp at this
  exact this.symm
 subst e1;refine (yw (fun b=>b<W.heap.size) v _ ns l k n W hD hSt hNm (by unfold reachBytes at hre;exact hre) hE).mono ?_
 rintro e W' ⟨rfl,hb⟩;refine ⟨_,rfl,_,_,_,[],p0++(p1++([]++([]++[]))),[],hW',?_,?_,rfl,hb.frame _,fun h=>by cases h⟩
 · exact trodAll_mk1 (shut_bool Tryd.underlying4 true)
 · exact trodAll_cons_mk (Below.trod progLaid (by kernel_rfl) (of_decide_eq_true (by kernel_rfl)) h0k hb (fun x hx=>hlt0 x hx)) (trodAll_cons_mk (Below.trod progLaid (by kernel_rfl) (of_decide_eq_true (by kernel_rfl)) h1k hb (fun x hx=>hlt1 x hx)) (trodAll_cons_mk (Below.trod progLaid (by kernel_rfl) (of_decide_eq_true (by kernel_rfl)) h2k hb (fun x hx=>by simp at hx)) (trodAll_cons_mk (Below.trod progLaid (by kernel_rfl) (of_decide_eq_true (by kernel_rfl)) h3k hb (fun x hx=>by simp at hx)) trodAll_mk0)))
noncomputable def zu (os:Os):World:=World.laidAll Tryd.prog os Rows.pathPicksRow.laid
theorem j8 (os:Os):laidMet Tryd.prog Rows.pathPicksRow.laid ((zu os).forCall (fun _ _=>0) ⟨#[],#[.agg #[.slice none 0 0],.slice none 0 0,.int .i64 0,.int .i64 0],[]⟩).memory :=
 laidMet_laidAll _ (by kernel_rfl) (by kernel_rfl)
theorem jk (os:Os){H:Type}(enc:TypeId × Value→H):∃ places,DataW.whole enc Tryd.prog ((zu os).forCall (fun _ _=>0) ⟨#[],#[.agg #[.slice none 0 0],.slice none 0 0,.int .i64 0,.int .i64 0],[]⟩).memory Tryd.f4.params.toList Rows.pathPicksSpec.vars false #[Value.agg #[.slice none 0 0],.slice none 0 0,.int .i64 0,.int .i64 0].toList 8 =
 some ([.agg [.nil],.nil,.lit (.int .i64 0),.lit (.int .i64 0)],[],places) :=
 ⟨[],by kernel_rfl⟩
theorem yS (os:Os)(started:os.Started)(H:Type)(enc:TypeId × Value→H)(F:Stop.Interp) :
 ReturnsInHanded {} Tryd.checked os 4 .any ((OpenSpec.ofChange Rows.pathPicksSpec).preRow enc Tryd.prog Tryd.f4 Rows.pathPicksRow.domain false Rows.pathPicksRow.laid) (((OpenSpec.ofChange Rows.pathPicksSpec).at F).post enc Tryd.prog Tryd.f4 false true false false):=by
 obtain ⟨places,hx⟩:=jk os enc
 refine returnsInHanded_of_row (C:=Tryd.checked) (s:=OpenSpec.ofChange Rows.pathPicksSpec) progOwn started (by kernel_rfl) Tryd.func4
  (witness_row_atRef (enc:=enc) (C:=Tryd.checked) false (zu os) #[.agg #[.slice none 0 0],.slice none 0 0,.int .i64 0,.int .i64 0] rfl (by kernel_rfl) (by kernel_rfl) (by kernel_rfl)
   (OpenSpec.preRow_of_cond 8 hx (by kernel_rfl) (fun k hk=>by cases hk) (by kernel_rfl) (j8 os))) ?_
 intro W base args ds gs before hval hW _ _ hz hL hS _;exact yh H enc W base args ds gs before hval hW hz (j7 hL hS)
theorem picks_said:Rows.PathPicksSaid :=
 OpenClaim.holds_of_cond 4 Tryd.f4 rfl rfl rfl rfl rfl rfl rfl ⟨rfl,rfl,rfl,rfl,rfl⟩ rfl rfl rfl rfl rfl (by kernel_rfl) Tryd.func4 (by kernel_rfl)
  (of_decide_eq_true (by kernel_rfl)) (by unfold Func.isWrapper;first|(rw[if_pos (by decide +kernel)];kernel_rfl)|(rw[if_neg (by decide +kernel)];exact ⟨rfl,rfl⟩))
  (fun os started H enc _ F=>by rw[OpenClaim.pre_eq_preRow];exact yS os started H enc F)
theorem ji (f : FuncId) (fn : Func) (hf : Tryd.pinned.checked.prog.funcNamed "topiary/topiarykeep.PathPicks" = some f) (hfn : Tryd.pinned.checked.prog.funcs[f]? = some fn) :
 true=Tryd.pinned.checked.prog.looks []∧∀ (j:Nat) t,fn.params[j]?=some t→Tryd.pinned.checked.prog.wantsStandIn t=false:=by
 obtain rfl : f = 4 := Option.some.inj ((show Tryd.prog.funcNamed "topiary/topiarykeep.PathPicks" = some 4 by kernel_rfl).symm.trans hf) |>.symm
 obtain rfl:fn=Tryd.f4:=(Option.some.inj (Tryd.func4.symm.trans hfn)).symm;refine ⟨by kernel_rfl,fun j t ht=>?_⟩
 rw[Tryd.params4]at ht
 have hm:t=24∨t=25∨t=3:=by simpa using Array.mem_of_getElem? ht
 rcases hm with rfl|rfl|rfl
 · exact (show Tryd.prog.wantsStandIn 24=false by kernel_rfl)
 · exact (show Tryd.prog.wantsStandIn 25=false by kernel_rfl)
 · exact (show Tryd.prog.wantsStandIn 3=false by kernel_rfl)
theorem picks_holds:Rows.PathPicksCardSaid :=
 Claim7.holds_tied_plain_at .later [] _ _ _ _ picks_said (fun _ h=>by cases h) (by kernel_rfl) (fun _ h=>by cases h) pathPicks_row_tie rfl ⟨rfl,rfl⟩ (by kernel_rfl) rfl ji (by kernel_rfl)
end Go.Proofs.YtfdbipeidmpciabDoor
