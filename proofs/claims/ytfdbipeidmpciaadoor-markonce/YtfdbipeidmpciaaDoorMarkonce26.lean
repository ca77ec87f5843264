/- MarkOnce: for every text that is read, what is printed of it is read as the same. No condition beyond the given row's. -/
import Derived.Test.YtfdbipeidmpciaaDoorMarkonce25
import Derived.Test.YtfdbipeidmpciaaDoorCards
import Derived.Test.YtfdbipeidmpciaaDoorTie
namespace Go.Proofs.YtfdbipeidmpciaaDoor
open Go.ChangeShapes Go.WideShapes Go.ChangeAt Go.RowKit
set_option maxRecDepth 100000
theorem YC {W:World}(h:laidMetH Tryd.prog Rows.markOnceRow.laid W):qx W:=by
 have h':laidMet Tryd.prog Rows.markOnceRow.laid W:=h;obtain ⟨ps,⟨_,_,_,_,_,_,_,_,_,_,⟨g,t,cs,fuel,p,q,hg,ht,hv,hd,_,_⟩,_⟩,_⟩:=h';exact yx hg ht hv hd
theorem Qk (H:Type)(enc:TypeId × Value→H)(W:World)(base:Nat)(args:Array Value)(ds gs:List (DataW H))(before:List MemPlace)
 (hval:∀ (j:Nat) t v,Tryd.f5.params[j]?=some t→args[j]?=some v→Value.okWide Tryd.prog W .any base t v)
 (hW:DataW.Whole enc Tryd.prog Tryd.f5.params.toList Rows.markOnceSpec.vars false W args.toList ds gs before) (hM:qx W) :
 Calls Tryd.prog 5 args W fun e W'=>∃ v,e=.returned v∧Rows.markOnceSpec.post enc Tryd.prog Tryd.f5 false true false false W args v W':=by
 have hW':=hW;obtain ⟨p,q,hA0,hV,rfl,hfz,hnd⟩:=hW;have hA:DataW.TrodAll enc Tryd.prog W 0 (fun _=>true) true Tryd.f5.params.toList args.toList ds p:=hA0
 rw[Tryd.params5]at hA hval
 obtain ⟨v0,vs0,d0,ds0,p0,q0,hargs0,rfl,rfl,h0,r0⟩:=trodAll_cons hA;obtain ⟨rfl,rfl,rfl⟩:=trodAll_nil r0;obtain rfl:args=#[v0]:=by cases args;simp_all
 obtain ⟨rfl,rfl⟩:=trodVars_none hV;obtain ⟨x,rfl⟩:=okWide_string Tryd.underlying9 (hval 0 9 v0 rfl rfl);have h0k:=h0;obtain ⟨f0,hf0⟩:=h0;clear hA0 hA r0 hargs0 hV;simp only[List.append_nil]at hW'
 have hlt:∀ x∈p0,x.block<W.heap.size:=fun x hx=>by simpa using hW'.lt x (by simpa using hx)
 obtain ⟨y,hy,_,hsz⟩:=DataW.trod_string Tryd.underlying9 hf0;obtain rfl:x=y:=by simpa[Value.cells] using hy
 unfold maxLen at hsz
 have hcall:=Za x.data.toList W hM (by rw[zw];omega)
 rw[zN]at hcall
 refine hcall.mono ?_;rintro e W' ⟨rfl,hb⟩;refine ⟨_,rfl,_,_,_,[],p0++[],[],hW',?_,?_,rfl,hb.frame _,fun h=>by cases h⟩
 · exact trodAll_mk1 (shut_bool Tryd.underlying4 true)
 · exact trodAll_cons_mk (Below.trod progLaid (by kernel_rfl) (of_decide_eq_true (by kernel_rfl)) h0k hb (fun x hx=>hlt x hx)) trodAll_mk0
def noTextM:Value:=.string ⟨#[]⟩
theorem Xp (os:Os):laidMet Tryd.prog Rows.markOnceRow.laid ((qZ os).forCall (fun _ _=>0) ⟨#[],#[noTextM],[]⟩).memory :=
 laidMet_of_run' 8 (by kernel_rfl) (by kernel_rfl)
theorem YE (os:Os){H:Type}(enc:TypeId × Value→H):∃ places,DataW.whole enc Tryd.prog ((qZ os).forCall (fun _ _=>0) ⟨#[],#[noTextM],[]⟩).memory Tryd.f5.params.toList Rows.markOnceSpec.vars false #[noTextM].toList 8 =
 some ([.lit (.string [])],[],places) :=
 ⟨[],by kernel_rfl⟩
theorem ZS (os:Os)(started:os.Started)(H:Type)(enc:TypeId × Value→H)(F:Stop.Interp) :
 ReturnsInHanded {} Tryd.checked os 5 .any ((OpenSpec.ofChange Rows.markOnceSpec).preRow enc Tryd.prog Tryd.f5 Rows.markOnceRow.domain false Rows.markOnceRow.laid) (((OpenSpec.ofChange Rows.markOnceSpec).at F).post enc Tryd.prog Tryd.f5 false true false false):=by
 obtain ⟨places,hx⟩:=YE os enc
 refine returnsInHanded_of_row (C:=Tryd.checked) (s:=OpenSpec.ofChange Rows.markOnceSpec) progOwn started (by kernel_rfl) Tryd.func5
  (witness_row_at (enc:=enc) (C:=Tryd.checked) false (qZ os) #[noTextM] rfl (by kernel_rfl) (by kernel_rfl) (by kernel_rfl)
   (OpenSpec.preRow_of_cond 8 hx (by kernel_rfl) (fun k hk=>by cases hk) (by kernel_rfl) (Xp os))) ?_
 intro W base args ds gs before hval hW _ _ _ hL _ _;exact Qk H enc W base args ds gs before hval hW (YC hL)
theorem once_said:Rows.MarkOnceSaid :=
 OpenClaim.holds_of_cond 5 Tryd.f5 rfl rfl rfl rfl rfl rfl rfl ⟨rfl,rfl,rfl,rfl,rfl⟩ rfl rfl rfl rfl rfl (by kernel_rfl) Tryd.func5 (by kernel_rfl)
  (of_decide_eq_true (by kernel_rfl)) (by unfold Func.isWrapper;first|(rw[if_pos (by decide +kernel)];kernel_rfl)|(rw[if_neg (by decide +kernel)];exact ⟨rfl,rfl⟩))
  (fun os started H enc _ F=>by rw[OpenClaim.pre_eq_preRow];exact ZS os started H enc F)
theorem YD (f : FuncId) (fn : Func) (hf : Tryd.pinned.checked.prog.funcNamed "topiary/topiarykeep.MarkOnce" = some f) (hfn : Tryd.pinned.checked.prog.funcs[f]? = some fn) :
 true=Tryd.pinned.checked.prog.looks []∧∀ (j:Nat) t,fn.params[j]?=some t→Tryd.pinned.checked.prog.wantsStandIn t=false:=by
 obtain rfl : f = 5 := Option.some.inj ((show Tryd.prog.funcNamed "topiary/topiarykeep.MarkOnce" = some 5 by kernel_rfl).symm.trans hf) |>.symm
 obtain rfl:fn=Tryd.f5:=(Option.some.inj (Tryd.func5.symm.trans hfn)).symm;refine ⟨by kernel_rfl,fun j t ht=>?_⟩
 rw[Tryd.params5]at ht
 have hm:t=9:=by simpa using Array.mem_of_getElem? ht
 subst hm;exact (show Tryd.prog.wantsStandIn 9=false by kernel_rfl)
theorem once_holds:Rows.MarkOnceCardSaid :=
 Claim7.holds_tied_plain_at .later [] _ _ _ _ once_said (fun _ h=>by cases h) (by kernel_rfl) (fun _ h=>by cases h) markOnce_row_tie rfl ⟨rfl,rfl⟩ (by kernel_rfl) rfl YD (by kernel_rfl)
end Go.Proofs.YtfdbipeidmpciaaDoor
