/- MarkContent: for every document, what stands in its text between its marks is read as what is in it. No condition beyond the given row's. -/
import Derived.Test.YtfdbipeidmpciaaDoorMarkcontent25
import Derived.Test.YtfdbipeidmpciaaDoorCards
import Derived.Test.YtfdbipeidmpciaaDoorTie
namespace Go.Proofs.YtfdbipeidmpciaaDoor
open Go.ChangeShapes Go.WideShapes Go.ChangeAt Go.RowKit
set_option maxRecDepth 100000
theorem Yl {W:World}(h:laidMetH Tryd.prog Rows.markContentRow.laid W):qx W:=by
 have h':laidMet Tryd.prog Rows.markContentRow.laid W:=h;obtain ⟨ps,⟨_,_,_,_,_,_,_,_,_,_,⟨g,t,cs,fuel,p,q,hg,ht,hv,hd,_,_⟩,_⟩,_⟩:=h';exact yx hg ht hv hd
theorem Qe (H:Type)(enc:TypeId × Value→H)(W:World)(base:Nat)(args:Array Value)(ds gs:List (DataW H))(before:List MemPlace)
 (hval:∀ (j:Nat) t v,Tryd.f6.params[j]?=some t→args[j]?=some v→Value.okWide Tryd.prog W .any base t v)
 (hW:DataW.Whole enc Tryd.prog Tryd.f6.params.toList Rows.markContentSpec.vars false W args.toList ds gs before) (hM:qx W) :
 Calls Tryd.prog 6 args W fun e W'=>∃ v,e=.returned v∧Rows.markContentSpec.post enc Tryd.prog Tryd.f6 false true false false W args v W':=by
 have hW':=hW;obtain ⟨p,q,hA0,hV,rfl,hfz,hnd⟩:=hW;have hA:DataW.TrodAll enc Tryd.prog W 0 (fun _=>true) true Tryd.f6.params.toList args.toList ds p:=hA0
 rw[Tryd.params6]at hA hval
 obtain ⟨v0,vs0,d0,ds0,p0,q0,hargs0,rfl,rfl,h0,r0⟩:=trodAll_cons hA;obtain ⟨rfl,rfl,rfl⟩:=trodAll_nil r0;obtain rfl:args=#[v0]:=by cases args;simp_all
 obtain ⟨rfl,rfl⟩:=trodVars_none hV;obtain ⟨a0,len,cap,rfl⟩:=okWide_slice Tryd.underlying23 (hval 0 23 v0 rfl rfl);have h0k:=h0;obtain ⟨f0,hf0⟩:=h0;clear hA0 hA r0 hargs0 hV;simp only[List.append_nil]at hW'
 have hlt:∀ x∈p0,x.block<W.heap.size:=fun x hx=>by simpa using hW'.lt x (by simpa using hx)
 obtain ⟨v,ts,hv,hT,_,hTx⟩:=open_trees f0 hf0;simp only[Value.cells,List.cons.injEq,and_true]at hv
 subst hv;refine (xo (fun b=>b<W.heap.size) f0 _ ts W hT hM hTx).mono ?_
 rintro e W' ⟨rfl,hb⟩;refine ⟨_,rfl,_,_,_,[],p0++[],[],hW',?_,?_,rfl,hb.frame _,fun h=>by cases h⟩
 · exact trodAll_mk1 (shut_bool Tryd.underlying4 true)
 · exact trodAll_cons_mk (Below.trod progLaid (by kernel_rfl) (of_decide_eq_true (by kernel_rfl)) h0k hb (fun x hx=>hlt x hx)) trodAll_mk0
def noListM:Value:=.slice none 0 0
theorem J6 (os:Os):laidMet Tryd.prog Rows.markContentRow.laid ((qZ os).forCall (fun _ _=>0) ⟨#[],#[noListM],[]⟩).memory :=
 laidMet_of_run' 8 (by kernel_rfl) (by kernel_rfl)
theorem Yn (os:Os){H:Type}(enc:TypeId × Value→H):∃ places,DataW.whole enc Tryd.prog ((qZ os).forCall (fun _ _=>0) ⟨#[],#[noListM],[]⟩).memory Tryd.f6.params.toList Rows.markContentSpec.vars false #[noListM].toList 8 =
 some ([.nil],[],places) :=
 ⟨[],by kernel_rfl⟩
theorem ZC (os:Os)(started:os.Started)(H:Type)(enc:TypeId × Value→H)(F:Stop.Interp) :
 ReturnsInHanded {} Tryd.checked os 6 .any ((OpenSpec.ofChange Rows.markContentSpec).preRow enc Tryd.prog Tryd.f6 Rows.markContentRow.domain false Rows.markContentRow.laid) (((OpenSpec.ofChange Rows.markContentSpec).at F).post enc Tryd.prog Tryd.f6 false true false false):=by
 obtain ⟨places,hx⟩:=Yn os enc
 refine returnsInHanded_of_row (C:=Tryd.checked) (s:=OpenSpec.ofChange Rows.markContentSpec) progOwn started (by kernel_rfl) Tryd.func6
  (witness_row_at (enc:=enc) (C:=Tryd.checked) false (qZ os) #[noListM] rfl (by kernel_rfl) (by kernel_rfl) (by kernel_rfl)
   (OpenSpec.preRow_of_cond 8 hx (by kernel_rfl) (fun k hk=>by cases hk) (by kernel_rfl) (J6 os))) ?_
 intro W base args ds gs before hval hW _ _ _ hL _ _;exact Qe H enc W base args ds gs before hval hW (Yl hL)
theorem cont_said:Rows.MarkContentSaid :=
 OpenClaim.holds_of_cond 6 Tryd.f6 rfl rfl rfl rfl rfl rfl rfl ⟨rfl,rfl,rfl,rfl,rfl⟩ rfl rfl rfl rfl rfl (by kernel_rfl) Tryd.func6 (by kernel_rfl)
  (of_decide_eq_true (by kernel_rfl)) (by unfold Func.isWrapper;first|(rw[if_pos (by decide +kernel)];kernel_rfl)|(rw[if_neg (by decide +kernel)];exact ⟨rfl,rfl⟩))
  (fun os started H enc _ F=>by rw[OpenClaim.pre_eq_preRow];exact ZC os started H enc F)
theorem Ym (f : FuncId) (fn : Func) (hf : Tryd.pinned.checked.prog.funcNamed "topiary/topiarykeep.MarkContent" = some f) (hfn : Tryd.pinned.checked.prog.funcs[f]? = some fn) :
 true=Tryd.pinned.checked.prog.looks []∧∀ (j:Nat) t,fn.params[j]?=some t→Tryd.pinned.checked.prog.wantsStandIn t=false:=by
 obtain rfl : f = 6 := Option.some.inj ((show Tryd.prog.funcNamed "topiary/topiarykeep.MarkContent" = some 6 by kernel_rfl).symm.trans hf) |>.symm
 obtain rfl:fn=Tryd.f6:=(Option.some.inj (Tryd.func6.symm.trans hfn)).symm;refine ⟨by kernel_rfl,fun j t ht=>?_⟩
 rw[Tryd.params6]at ht
 have hm:t=23:=by simpa using Array.mem_of_getElem? ht
 subst hm;exact (show Tryd.prog.wantsStandIn 23=false by kernel_rfl)
theorem cont_holds:Rows.MarkContentCardSaid :=
 Claim7.holds_tied_plain_at .later [] _ _ _ _ cont_said (fun _ h=>by cases h) (by kernel_rfl) (fun _ h=>by cases h) markContent_row_tie rfl ⟨rfl,rfl⟩ (by kernel_rfl) rfl Ym (by kernel_rfl)
end Go.Proofs.YtfdbipeidmpciaaDoor
