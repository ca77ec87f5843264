/- TopNames: for every input the law answers true, and its arguments read as they did. No condition beyond the given row's. -/
import Derived.Test.YtecimajafhoibaaGreatDoorBundle40
import Derived.Test.YtecimajafhoibaaGreatDoorBundle47
import Derived.Test.YtecimajafhoibaaGreatDoorCards
import Derived.Test.YtecimajafhoibaaGreatDoorTie
import Derived.Deep.DeepWitnessRowRef
namespace Go.Proofs.YtecimajafhoibaaGreatDoor
open Go.ChangeShapes Go.WideShapes Go.ChangeAt Go.RowKit
set_option maxRecDepth 100000
theorem topNamesOwn:ownKnob Tryz.prog.godebug=none:=by kernel_rfl
theorem topNamesLaid:laidOutB Tryz.prog=true:=by kernel_rfl
theorem Ka {W:World}(hL:laidMetH Tryz.prog Rows.topNamesRow.laid W)(hS:W.ShapedOpen Tryz.prog):jg W:=by
 have h:laidMet Tryz.prog Rows.topNamesRow.laid W:=hL;exact ⟨KZ (Lib.laidMet.reads h (by simp[Rows.topNamesRow])),qeA hS (Lib.laidMet.reads h (by simp[Rows.topNamesRow])) (Lib.laidMet.reads h (by simp[Rows.topNamesRow])) (Lib.laidMet.reads h (by simp[Rows.topNamesRow])),Vw (Lib.laidMet.reads h (by simp[Rows.topNamesRow]))⟩
theorem ZJ (H:Type)(enc:TypeId × Value→H)(W:World)(base:Nat)(args:Array Value)(ds gs:List (DataW H))(before:List MemPlace)
 (hval:∀ (j:Nat) t v,Tryz.f3.params[j]?=some t→args[j]?=some v→Value.okWide Tryz.prog W .any base t v)
 (hW:DataW.Whole enc Tryz.prog Tryz.f3.params.toList Rows.topNamesSpec.vars false W args.toList ds gs before) (hE:jg W) :
 Calls Tryz.prog 3 args W fun e W'=>∃ v,e=.returned v∧Rows.topNamesSpec.post enc Tryz.prog Tryz.f3 false true false false W args v W':=by
 have hW':=hW;obtain ⟨p,q,hA0,hV,rfl,hfz,hnd⟩:=hW;have hA:DataW.TrodAll enc Tryz.prog W 0 (fun _=>true) true Tryz.f3.params.toList args.toList ds p:=hA0
 rw[Tryz.params3]at hA hval
 obtain ⟨v0,vs0,d0,ds0,p0,q0,hargs0,rfl,rfl,h0,r0⟩:=trodAll_cons hA;obtain ⟨v1,vs1,d1,ds1,p1,q1,hargs1,rfl,rfl,h1,r1⟩:=trodAll_cons r0;obtain ⟨v2,vs2,d2,ds2,p2,q2,hargs2,rfl,rfl,h2,r2⟩:=trodAll_cons r1;obtain ⟨rfl,rfl,rfl⟩:=trodAll_nil r2;subst hargs2;subst hargs1;obtain rfl:args=#[v0,v1,v2]:=by cases args;simp_all
 obtain ⟨rfl,rfl⟩:=trodVars_none hV;have h0k:=h0;obtain ⟨f0,hf0⟩:=h0;have h1k:=h1;obtain ⟨f1,hf1⟩:=h1;have h2k:=h2;obtain ⟨f2,hf2⟩:=h2;clear hA0 hA r0 r1 r2 hargs0 hV;simp only[List.append_nil]at hW'
 have hlt0:∀ x∈p0,x.block<W.heap.size:=fun x hx=>by simpa using hW'.lt x (by simp[hx])
 have hlt1:∀ x∈p1,x.block<W.heap.size:=fun x hx=>by simpa using hW'.lt x (by simp[hx])
 have hlt2:∀ x∈p2,x.block<W.heap.size:=fun x hx=>by simpa using hW'.lt x (by simp[hx])
 obtain ⟨sa0,sl0,sc0,rfl⟩:=okWide_slice Tryz.underlying22 (hval 0 22 v0 rfl rfl);obtain ⟨w0,l0,hv0,hL0,hT0⟩:=qbT hf0
 have e0:w0=.slice sa0 sl0 sc0:=by
  have:[Value.slice sa0 sl0 sc0]=[w0]:=by simpa[Value.cells] using hv0
  simp at this
  exact this.symm
 subst e0;obtain ⟨x1,rfl⟩:=okWide_string Tryz.underlying9 (hval 1 9 v1 rfl rfl);obtain ⟨y1,hv1,_,hz1⟩:=DataW.trod_string Tryz.underlying9 hf1;obtain rfl:x1=y1:=by simpa[Value.cells] using hv1
 obtain ⟨x2,rfl⟩:=okWide_string Tryz.underlying9 (hval 2 9 v2 rfl rfl);obtain ⟨y2,hv2,_,hz2⟩:=DataW.trod_string Tryz.underlying9 hf2;obtain rfl:x2=y2:=by simpa[Value.cells] using hv2
 refine (X9 (fun b=>b<W.heap.size) _ l0 x1 x2 W hL0 (fun _ h=>h) hT0 hz1 hz2 hE).mono ?_
 rintro e W' ⟨rfl,hb⟩;refine ⟨_,rfl,_,_,_,[],(p0++(p1++(p2++[]))),[],hW',?_,?_,rfl,hb.frame _,fun h=>by cases h⟩
 · exact trodAll_mk1 (shut_bool Tryz.underlying4 true)
 · exact trodAll_cons_mk (Below.trod topNamesLaid (by kernel_rfl) (of_decide_eq_true (by kernel_rfl)) h0k hb (fun x hx=>hlt0 x hx)) (trodAll_cons_mk (Below.trod topNamesLaid (by kernel_rfl) (of_decide_eq_true (by kernel_rfl)) h1k hb (fun x hx=>hlt1 x hx)) (trodAll_cons_mk (Below.trod topNamesLaid (by kernel_rfl) (of_decide_eq_true (by kernel_rfl)) h2k hb (fun x hx=>hlt2 x hx)) (trodAll_mk0)))
noncomputable def xE (os:Os):World:=World.laidAll Tryz.prog os Rows.topNamesRow.laid
theorem Kb (os:Os):laidMet Tryz.prog Rows.topNamesRow.laid ((xE os).forCall (fun _ _=>0) ⟨#[],#[Value.slice none 0 0,.string ByteArray.empty,.string ByteArray.empty],[]⟩).memory :=
 laidMet_laidAll _ (by kernel_rfl) (by kernel_rfl)
theorem Jp (os:Os){H:Type}(enc:TypeId × Value→H):∃ places,DataW.whole enc Tryz.prog ((xE os).forCall (fun _ _=>0) ⟨#[],#[Value.slice none 0 0,.string ByteArray.empty,.string ByteArray.empty],[]⟩).memory Tryz.f3.params.toList Rows.topNamesSpec.vars false #[Value.slice none 0 0,.string ByteArray.empty,.string ByteArray.empty].toList 8 =
 some ([.nil,.lit (.string []),.lit (.string [])],[],places) :=
 ⟨[],by kernel_rfl⟩
theorem Ym (os:Os)(started:os.Started)(H:Type)(enc:TypeId × Value→H)(F:Stop.Interp) :
 ReturnsInHanded {} Tryz.checked os 3 .any ((OpenSpec.ofChange Rows.topNamesSpec).preRow enc Tryz.prog Tryz.f3 Rows.topNamesRow.domain false Rows.topNamesRow.laid) (((OpenSpec.ofChange Rows.topNamesSpec).at F).post enc Tryz.prog Tryz.f3 false true false false):=by
 obtain ⟨places,hx⟩:=Jp os enc
 refine returnsInHanded_of_row (C:=Tryz.checked) (s:=OpenSpec.ofChange Rows.topNamesSpec) topNamesOwn started (by kernel_rfl) Tryz.func3
  (witness_row_atRef (enc:=enc) (C:=Tryz.checked) false (xE os) #[Value.slice none 0 0,.string ByteArray.empty,.string ByteArray.empty] rfl (by kernel_rfl) (by kernel_rfl) (by kernel_rfl)
   (OpenSpec.preRow_of_cond 8 hx (by kernel_rfl) (fun k hk=>by cases hk) (by kernel_rfl) (Kb os))) ?_
 intro W base args ds gs before hval hW _ _ _ hL hS _;exact ZJ H enc W base args ds gs before hval hW (Ka hL hS)
theorem topNames_said:Rows.TopNamesSaid :=
 OpenClaim.holds_of_cond 3 Tryz.f3 rfl rfl rfl rfl rfl rfl rfl ⟨rfl,rfl,rfl,rfl,rfl⟩ rfl rfl rfl rfl rfl (by kernel_rfl) Tryz.func3 topNames_closed
  (of_decide_eq_true (by kernel_rfl)) (by unfold Func.isWrapper;first|(rw[if_pos (by decide +kernel)];kernel_rfl)|(rw[if_neg (by decide +kernel)];exact ⟨rfl,rfl⟩))
  (fun os started H enc _ F=>by rw[OpenClaim.pre_eq_preRow];exact Ym os started H enc F)
theorem Jo (f : FuncId) (fn : Func) (hf : Tryz.pinned.checked.prog.funcNamed "topiary/topiarytop.TopNames" = some f) (hfn : Tryz.pinned.checked.prog.funcs[f]? = some fn) :
 true=Tryz.pinned.checked.prog.looks []∧∀ (j:Nat) t,fn.params[j]?=some t→Tryz.pinned.checked.prog.wantsStandIn t=false:=by
 obtain rfl : f = 3 := Option.some.inj ((show Tryz.prog.funcNamed "topiary/topiarytop.TopNames" = some 3 by kernel_rfl).symm.trans hf) |>.symm
 obtain rfl:fn=Tryz.f3:=(Option.some.inj (Tryz.func3.symm.trans hfn)).symm;refine ⟨by kernel_rfl,fun j t ht=>?_⟩
 rw[Tryz.params3]at ht
 have hm:t=22∨t=9:=by simpa using Array.mem_of_getElem? ht
 rcases hm with rfl|rfl
 · exact (show Tryz.prog.wantsStandIn 22=false by kernel_rfl)
 · exact (show Tryz.prog.wantsStandIn 9=false by kernel_rfl)
theorem topNames_holds:Rows.TopNamesCardSaid :=
 Claim7.holds_tied_plain_at .later [] _ _ _ _ topNames_said (fun _ h=>by cases h) (by kernel_rfl) (fun _ h=>by cases h) topNames_row_tie rfl ⟨rfl,rfl⟩ (by kernel_rfl) rfl Jo (by kernel_rfl)
end Go.Proofs.YtecimajafhoibaaGreatDoor
