/- MarkBack: for every good tree, what is printed of it is read as it. No condition beyond the given row's. -/
import Derived.Test.YtfdbipeidmpciaaDoorMarkback25
import Derived.Test.YtfdbipeidmpciaaDoorCards
import Derived.Test.YtfdbipeidmpciaaDoorTie
namespace Go.Proofs.YtfdbipeidmpciaaDoor
open Go.ChangeShapes Go.WideShapes Go.ChangeAt Go.RowKit
set_option maxRecDepth 100000
theorem Yh {W:World}(h:laidMetH Tryd.prog Rows.markBackRow.laid W):qx W:=by
 have h':laidMet Tryd.prog Rows.markBackRow.laid W:=h;obtain ⟨ps,⟨_,_,_,_,_,_,_,_,_,_,⟨g,t,cs,fuel,p,q,hg,ht,hv,hd,_,_⟩,_⟩,_⟩:=h';exact yx hg ht hv hd
theorem Qb (H:Type)(enc:TypeId × Value→H)(W:World)(base:Nat)(args:Array Value)(ds gs:List (DataW H))(before:List MemPlace)
 (hval:∀ (j:Nat) t v,Tryd.f4.params[j]?=some t→args[j]?=some v→Value.okWide Tryd.prog W .any base t v)
 (hW:DataW.Whole enc Tryd.prog Tryd.f4.params.toList Rows.markBackSpec.vars false W args.toList ds gs before) (hM:qx W) :
 Calls Tryd.prog 4 args W fun e W'=>∃ v,e=.returned v∧Rows.markBackSpec.post enc Tryd.prog Tryd.f4 false true false false W args v W':=by
 have hW':=hW;obtain ⟨p,q,hA0,hV,rfl,hfz,hnd⟩:=hW;have hA:DataW.TrodAll enc Tryd.prog W 0 (fun _=>true) true Tryd.f4.params.toList args.toList ds p:=hA0
 rw[Tryd.params4]at hA hval
 obtain ⟨v0,vs0,d0,ds0,p0,q0,hargs0,rfl,rfl,h0,r0⟩:=trodAll_cons hA;obtain ⟨rfl,rfl,rfl⟩:=trodAll_nil r0;obtain rfl:args=#[v0]:=by cases args;simp_all
 obtain ⟨rfl,rfl⟩:=trodVars_none hV;obtain ⟨c0,rfl,hc0⟩:=okWide_struct Tryd.underlying25 (hval 0 25 v0 rfl rfl);rw[treeCellsOf]at hc0
 have h0k:=h0;obtain ⟨f0,hf0⟩:=h0;clear hA0 hA r0 hargs0 hV;simp only[List.append_nil]at hW'
 have hlt:∀ x∈p0,x.block<W.heap.size:=fun x hx=>by simpa using hW'.lt x (by simpa using hx)
 obtain ⟨a,va,vk,hv0,hAa,hKa,hTx⟩:=xq (by simpa[Value.cells] using hc0) hf0
 have e0:c0=#[.bool a.text,.string a.s,va,vk]:=by
  have:c0.toList=[.bool a.text,.string a.s,va,vk]:=by simpa[Value.cells] using hv0
  cases c0;simp at this;simp[this]
 subst e0;refine (Q9 (fun b=>b<W.heap.size) f0 va vk a W hAa hKa hM hTx).mono ?_
 rintro e W' ⟨rfl,hb⟩;refine ⟨_,rfl,_,_,_,[],p0++[],[],hW',?_,?_,rfl,hb.frame _,fun h=>by cases h⟩
 · exact trodAll_mk1 (shut_bool Tryd.underlying4 true)
 · exact trodAll_cons_mk (Below.trod progLaid (by kernel_rfl) (of_decide_eq_true (by kernel_rfl)) h0k hb (fun x hx=>hlt x hx)) trodAll_mk0
def noTreeM:Value:=.agg #[.bool false,.string ⟨#[]⟩,.slice none 0 0,.slice none 0 0]
theorem J4 (os:Os):laidMet Tryd.prog Rows.markBackRow.laid ((qZ os).forCall (fun _ _=>0) ⟨#[],#[noTreeM],[]⟩).memory :=
 laidMet_of_run' 8 (by kernel_rfl) (by kernel_rfl)
theorem Yj (os:Os){H:Type}(enc:TypeId × Value→H):∃ places,DataW.whole enc Tryd.prog ((qZ os).forCall (fun _ _=>0) ⟨#[],#[noTreeM],[]⟩).memory Tryd.f4.params.toList Rows.markBackSpec.vars false #[noTreeM].toList 8 =
 some ([.agg [.lit (.bool false),.lit (.string []),.nil,.nil]],[],places) :=
 ⟨[],by kernel_rfl⟩
theorem Zz (os:Os)(started:os.Started)(H:Type)(enc:TypeId × Value→H)(F:Stop.Interp) :
 ReturnsInHanded {} Tryd.checked os 4 .any ((OpenSpec.ofChange Rows.markBackSpec).preRow enc Tryd.prog Tryd.f4 Rows.markBackRow.domain false Rows.markBackRow.laid) (((OpenSpec.ofChange Rows.markBackSpec).at F).post enc Tryd.prog Tryd.f4 false true false false):=by
 obtain ⟨places,hx⟩:=Yj os enc
 refine returnsInHanded_of_row (C:=Tryd.checked) (s:=OpenSpec.ofChange Rows.markBackSpec) progOwn started (by kernel_rfl) Tryd.func4
  (witness_row_at (enc:=enc) (C:=Tryd.checked) false (qZ os) #[noTreeM] rfl (by kernel_rfl) (by kernel_rfl) (by kernel_rfl)
   (OpenSpec.preRow_of_cond 8 hx (by kernel_rfl) (fun k hk=>by cases hk) (by kernel_rfl) (J4 os))) ?_
 intro W base args ds gs before hval hW _ _ _ hL _ _;exact Qb H enc W base args ds gs before hval hW (Yh hL)
theorem back_said:Rows.MarkBackSaid :=
 OpenClaim.holds_of_cond 4 Tryd.f4 rfl rfl rfl rfl rfl rfl rfl ⟨rfl,rfl,rfl,rfl,rfl⟩ rfl rfl rfl rfl rfl (by kernel_rfl) Tryd.func4 (by kernel_rfl)
  (of_decide_eq_true (by kernel_rfl)) (by unfold Func.isWrapper;first|(rw[if_pos (by decide +kernel)];kernel_rfl)|(rw[if_neg (by decide +kernel)];exact ⟨rfl,rfl⟩))
  (fun os started H enc _ F=>by rw[OpenClaim.pre_eq_preRow];exact Zz os started H enc F)
theorem Yi (f : FuncId) (fn : Func) (hf : Tryd.pinned.checked.prog.funcNamed "topiary/topiarykeep.MarkBack" = some f) (hfn : Tryd.pinned.checked.prog.funcs[f]? = some fn) :
 true=Tryd.pinned.checked.prog.looks []∧∀ (j:Nat) t,fn.params[j]?=some t→Tryd.pinned.checked.prog.wantsStandIn t=false:=by
 obtain rfl : f = 4 := Option.some.inj ((show Tryd.prog.funcNamed "topiary/topiarykeep.MarkBack" = some 4 by kernel_rfl).symm.trans hf) |>.symm
 obtain rfl:fn=Tryd.f4:=(Option.some.inj (Tryd.func4.symm.trans hfn)).symm;refine ⟨by kernel_rfl,fun j t ht=>?_⟩
 rw[Tryd.params4]at ht
 have hm:t=25:=by simpa using Array.mem_of_getElem? ht
 subst hm;exact (show Tryd.prog.wantsStandIn 25=false by kernel_rfl)
theorem back_holds:Rows.MarkBackCardSaid :=
 Claim7.holds_tied_plain_at .later [] _ _ _ _ back_said (fun _ h=>by cases h) (by kernel_rfl) (fun _ h=>by cases h) markBack_row_tie rfl ⟨rfl,rfl⟩ (by kernel_rfl) rfl Yi (by kernel_rfl)
end Go.Proofs.YtfdbipeidmpciaaDoor
