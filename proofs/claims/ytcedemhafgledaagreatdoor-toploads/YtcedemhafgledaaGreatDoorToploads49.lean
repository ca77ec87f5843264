/- TopLoads: for every input the law answers true, and its arguments read as they did. No condition beyond the given row's. -/
import Derived.Test.YtcedemhafgledaaGreatDoorToploads47
import Derived.Test.YtcedemhafgledaaGreatDoorToploads48
import Derived.Test.YtcedemhafgledaaGreatDoorBundle46
import Derived.Test.YtcedemhafgledaaGreatDoorCards
import Derived.Test.YtcedemhafgledaaGreatDoorTie
import Derived.Deep.DeepWitnessRowRef
namespace Go.Proofs.YtcedemhafgledaaGreatDoor
open Go.ChangeShapes Go.WideShapes Go.ChangeAt Go.RowKit
set_option maxRecDepth 100000
theorem topLoadsOwn:ownKnob Tryz.prog.godebug=none:=by kernel_rfl
theorem topLoadsLaid:laidOutB Tryz.prog=true:=by kernel_rfl
theorem Ke {W:World}(hL:laidMetH Tryz.prog Rows.topLoadsRow.laid W)(hS:W.ShapedOpen Tryz.prog):yz W:=by
 have h:laidMet Tryz.prog Rows.topLoadsRow.laid W:=hL;exact ⟨Qp (Lib.laidMet.reads h (by simp[Rows.topLoadsRow])),XZ hS (Lib.laidMet.reads h (by simp[Rows.topLoadsRow])) (Lib.laidMet.reads h (by simp[Rows.topLoadsRow])) (Lib.laidMet.reads h (by simp[Rows.topLoadsRow])),Qx (Lib.laidMet.reads h (by simp[Rows.topLoadsRow]))⟩
theorem ZD (H:Type)(enc:TypeId × Value→H)(W:World)(base:Nat)(args:Array Value)(ds gs:List (DataW H))(before:List MemPlace)
 (hval:∀ (j:Nat) t v,Tryz.f4.params[j]?=some t→args[j]?=some v→Value.okWide Tryz.prog W .any base t v)
 (hW:DataW.Whole enc Tryz.prog Tryz.f4.params.toList Rows.topLoadsSpec.vars false W args.toList ds gs before) (hE:yz W) :
 Calls Tryz.prog 4 args W fun e W'=>∃ v,e=.returned v∧Rows.topLoadsSpec.post enc Tryz.prog Tryz.f4 false true false false W args v W':=by
 have hW':=hW;obtain ⟨p,q,hA0,hV,rfl,hfz,hnd⟩:=hW;have hA:DataW.TrodAll enc Tryz.prog W 0 (fun _=>true) true Tryz.f4.params.toList args.toList ds p:=hA0
 rw[Tryz.params4]at hA hval
 obtain ⟨v0,vs0,d0,ds0,p0,q0,hargs0,rfl,rfl,h0,r0⟩:=trodAll_cons hA;obtain ⟨v1,vs1,d1,ds1,p1,q1,hargs1,rfl,rfl,h1,r1⟩:=trodAll_cons r0;obtain ⟨rfl,rfl,rfl⟩:=trodAll_nil r1;subst hargs1;obtain rfl:args=#[v0,v1]:=by cases args;simp_all
 obtain ⟨rfl,rfl⟩:=trodVars_none hV;have h0k:=h0;obtain ⟨f0,hf0⟩:=h0;have h1k:=h1;obtain ⟨f1,hf1⟩:=h1;clear hA0 hA r0 r1 hargs0 hV;simp only[List.append_nil]at hW'
 have hlt0:∀ x∈p0,x.block<W.heap.size:=fun x hx=>by simpa using hW'.lt x (by simp[hx])
 have hlt1:∀ x∈p1,x.block<W.heap.size:=fun x hx=>by simpa using hW'.lt x (by simp[hx])
 obtain ⟨sa0,sl0,sc0,rfl⟩:=okWide_slice Tryz.underlying22 (hval 0 22 v0 rfl rfl);obtain ⟨w0,l0,hv0,hL0,hT0⟩:=ZS hf0
 have e0:w0=.slice sa0 sl0 sc0:=by
  have:[Value.slice sa0 sl0 sc0]=[w0]:=by simpa[Value.cells] using hv0
  simp at this
  exact this.symm
 subst e0;obtain ⟨x1,rfl⟩:=okWide_string Tryz.underlying9 (hval 1 9 v1 rfl rfl);obtain ⟨y1,hv1,_,hz1⟩:=DataW.trod_string Tryz.underlying9 hf1;obtain rfl:x1=y1:=by simpa[Value.cells] using hv1
 refine (Kd (fun b=>b<W.heap.size) _ l0 x1 W hL0 (fun _ h=>h) hT0 hz1 hE).mono ?_
 rintro e W' ⟨rfl,hb⟩;refine ⟨_,rfl,_,_,_,[],(p0++(p1++[])),[],hW',?_,?_,rfl,hb.frame _,fun h=>by cases h⟩
 · exact trodAll_mk1 (shut_bool Tryz.underlying4 true)
 · exact trodAll_cons_mk (Below.trod topLoadsLaid (by kernel_rfl) (of_decide_eq_true (by kernel_rfl)) h0k hb (fun x hx=>hlt0 x hx)) (trodAll_cons_mk (Below.trod topLoadsLaid (by kernel_rfl) (of_decide_eq_true (by kernel_rfl)) h1k hb (fun x hx=>hlt1 x hx)) (trodAll_mk0))
noncomputable def xj (os:Os):World:=World.laidAll Tryz.prog os Rows.topLoadsRow.laid
theorem Kf (os:Os):laidMet Tryz.prog Rows.topLoadsRow.laid ((xj os).forCall (fun _ _=>0) ⟨#[],#[Value.slice none 0 0,.string ByteArray.empty],[]⟩).memory :=
 laidMet_laidAll _ (by kernel_rfl) (by kernel_rfl)
theorem Jm (os:Os){H:Type}(enc:TypeId × Value→H):∃ places,DataW.whole enc Tryz.prog ((xj os).forCall (fun _ _=>0) ⟨#[],#[Value.slice none 0 0,.string ByteArray.empty],[]⟩).memory Tryz.f4.params.toList Rows.topLoadsSpec.vars false #[Value.slice none 0 0,.string ByteArray.empty].toList 8 =
 some ([.nil,.lit (.string [])],[],places) :=
 ⟨[],by kernel_rfl⟩
theorem Yl (os:Os)(started:os.Started)(H:Type)(enc:TypeId × Value→H)(F:Stop.Interp) :
 ReturnsInHanded {} Tryz.checked os 4 .any ((OpenSpec.ofChange Rows.topLoadsSpec).preRow enc Tryz.prog Tryz.f4 Rows.topLoadsRow.domain false Rows.topLoadsRow.laid) (((OpenSpec.ofChange Rows.topLoadsSpec).at F).post enc Tryz.prog Tryz.f4 false true false false):=by
 obtain ⟨places,hx⟩:=Jm os enc
 refine returnsInHanded_of_row (C:=Tryz.checked) (s:=OpenSpec.ofChange Rows.topLoadsSpec) topLoadsOwn started (by kernel_rfl) Tryz.func4
  (witness_row_atRef (enc:=enc) (C:=Tryz.checked) false (xj os) #[Value.slice none 0 0,.string ByteArray.empty] rfl (by kernel_rfl) (by kernel_rfl) (by kernel_rfl)
   (OpenSpec.preRow_of_cond 8 hx (by kernel_rfl) (fun k hk=>by cases hk) (by kernel_rfl) (Kf os))) ?_
 intro W base args ds gs before hval hW _ _ _ hL hS _;exact ZD H enc W base args ds gs before hval hW (Ke hL hS)
theorem topLoads_said:Rows.TopLoadsSaid :=
 OpenClaim.holds_of_cond 4 Tryz.f4 rfl rfl rfl rfl rfl rfl rfl ⟨rfl,rfl,rfl,rfl,rfl⟩ rfl rfl rfl rfl rfl (by kernel_rfl) Tryz.func4 topLoads_closed
  (of_decide_eq_true (by kernel_rfl)) (by unfold Func.isWrapper;first|(rw[if_pos (by decide +kernel)];kernel_rfl)|(rw[if_neg (by decide +kernel)];exact ⟨rfl,rfl⟩))
  (fun os started H enc _ F=>by rw[OpenClaim.pre_eq_preRow];exact Yl os started H enc F)
theorem Jl (f : FuncId) (fn : Func) (hf : Tryz.pinned.checked.prog.funcNamed "topiary/topiarytop.TopLoads" = some f) (hfn : Tryz.pinned.checked.prog.funcs[f]? = some fn) :
 true=Tryz.pinned.checked.prog.looks []∧∀ (j:Nat) t,fn.params[j]?=some t→Tryz.pinned.checked.prog.wantsStandIn t=false:=by
 obtain rfl : f = 4 := Option.some.inj ((show Tryz.prog.funcNamed "topiary/topiarytop.TopLoads" = some 4 by kernel_rfl).symm.trans hf) |>.symm
 obtain rfl:fn=Tryz.f4:=(Option.some.inj (Tryz.func4.symm.trans hfn)).symm;refine ⟨by kernel_rfl,fun j t ht=>?_⟩
 rw[Tryz.params4]at ht
 have hm:t=22∨t=9:=by simpa using Array.mem_of_getElem? ht
 rcases hm with rfl|rfl
 · exact (show Tryz.prog.wantsStandIn 22=false by kernel_rfl)
 · exact (show Tryz.prog.wantsStandIn 9=false by kernel_rfl)
theorem topLoads_holds:Rows.TopLoadsCardSaid :=
 Claim7.holds_tied_plain_at .later [] _ _ _ _ topLoads_said (fun _ h=>by cases h) (by kernel_rfl) (fun _ h=>by cases h) topLoads_row_tie rfl ⟨rfl,rfl⟩ (by kernel_rfl) rfl Jl (by kernel_rfl)
end Go.Proofs.YtcedemhafgledaaGreatDoor
