/- StoreLines: for every input the law answers true, and its arguments read as they did. No condition beyond the given row's. -/
import Derived.Test.YtfplhcicbbhljaaGreatDoorBundle41
import Derived.Test.YtfplhcicbbhljaaGreatDoorBundle42
import Derived.Test.YtfplhcicbbhljaaGreatDoorBundle45
import Derived.Test.YtfplhcicbbhljaaGreatDoorCards
import Derived.Test.YtfplhcicbbhljaaGreatDoorTie
import Derived.Deep.DeepWitnessRowRef
namespace Go.Proofs.YtfplhcicbbhljaaGreatDoor
open Go.ChangeShapes Go.WideShapes Go.ChangeAt Go.RowKit
set_option maxRecDepth 100000
theorem storeLinesOwn:ownKnob Tryz.prog.godebug=none:=by kernel_rfl
theorem storeLinesLaid:laidOutB Tryz.prog=true:=by kernel_rfl
theorem Jt {W:World}(hL:laidMetH Tryz.prog Rows.storeLinesUptoRow.laid W)(hS:W.ShapedOpen Tryz.prog):jp W:=by
 have h:laidMet Tryz.prog Rows.storeLinesUptoRow.laid W:=hL;exact ⟨Vi (Lib.laidMet.reads h (by simp[Rows.storeLinesUptoRow])),qe2 hS (Lib.laidMet.reads h (by simp[Rows.storeLinesUptoRow])) (Lib.laidMet.reads h (by simp[Rows.storeLinesUptoRow])) (Lib.laidMet.reads h (by simp[Rows.storeLinesUptoRow])),VY (Lib.laidMet.reads h (by simp[Rows.storeLinesUptoRow]))⟩
theorem QV (H:Type)(enc:TypeId × Value→H)(W:World)(base:Nat)(args:Array Value)(ds gs:List (DataW H))(before:List MemPlace)
 (hval:∀ (j:Nat) t v,Tryz.f3.params[j]?=some t→args[j]?=some v→Value.okWide Tryz.prog W .any base t v)
 (hW:DataW.Whole enc Tryz.prog Tryz.f3.params.toList Rows.storeLinesSpec.vars false W args.toList ds gs before) (hk:Rows.uptoSmall H (ds++gs)=true) (hE:jp W) :
 Calls Tryz.prog 3 args W fun e W'=>∃ v,e=.returned v∧Rows.storeLinesSpec.post enc Tryz.prog Tryz.f3 false true false false W args v W':=by
 have hW':=hW;obtain ⟨p,q,hA0,hV,rfl,hfz,hnd⟩:=hW;have hA:DataW.TrodAll enc Tryz.prog W 0 (fun _=>true) true Tryz.f3.params.toList args.toList ds p:=hA0
 rw[Tryz.params3]at hA hval
 obtain ⟨v0,vs0,d0,ds0,p0,q0,hargs0,rfl,rfl,h0,r0⟩:=trodAll_cons hA;obtain ⟨rfl,rfl,rfl⟩:=trodAll_nil r0;obtain rfl:args=#[v0]:=by cases args;simp_all
 obtain ⟨rfl,rfl⟩:=trodVars_none hV;have h0k:=h0;obtain ⟨f0,hf0⟩:=h0;clear hA0 hA r0 hargs0 hV;simp only[List.append_nil]at hW' hk
 have hlt0:∀ x∈p0,x.block<W.heap.size:=fun x hx=>by simpa using hW'.lt x (by simp[hx])
 obtain ⟨x0,rfl⟩:=okWide_string Tryz.underlying9 (hval 0 9 v0 rfl rfl);obtain ⟨y0,hv0,hd0,hz0⟩:=DataW.trod_string Tryz.underlying9 hf0;obtain rfl:x0=y0:=by simpa[Value.cells] using hv0
 refine (Js x0 W hE (by have hd:=congrArg Prod.fst hd0;simp only at hd;rw[hd]at hk;have hb:Rows.uptoBulkAll [(.lit (.string x0.data.toList):DataW H)]≤1048576:=of_decide_eq_true hk;simp only[Rows.uptoBulkAll,Rows.uptoBulk,Array.length_toList]at hb;have:x0.data.size=x0.size:=rfl;omega)).mono ?_
 rintro e W' ⟨rfl,hb⟩;refine ⟨_,rfl,_,_,_,[],(p0++[]),[],hW',?_,?_,rfl,hb.frame _,fun h=>by cases h⟩
 · exact trodAll_mk1 (shut_bool Tryz.underlying4 true)
 · exact trodAll_cons_mk (Below.trod storeLinesLaid (by kernel_rfl) (of_decide_eq_true (by kernel_rfl)) h0k hb (fun x hx=>hlt0 x hx)) (trodAll_mk0)
noncomputable def jO (os:Os):World:=World.laidAll Tryz.prog os Rows.storeLinesUptoRow.laid
theorem Ju (os:Os):laidMet Tryz.prog Rows.storeLinesUptoRow.laid ((jO os).forCall (fun _ _=>0) ⟨#[],#[Value.string ByteArray.empty],[]⟩).memory :=
 laidMet_laidAll _ (by kernel_rfl) (by kernel_rfl)
theorem Ya (os:Os){H:Type}(enc:TypeId × Value→H):∃ places,DataW.whole enc Tryz.prog ((jO os).forCall (fun _ _=>0) ⟨#[],#[Value.string ByteArray.empty],[]⟩).memory Tryz.f3.params.toList Rows.storeLinesSpec.vars false #[Value.string ByteArray.empty].toList 8 =
 some ([.lit (.string [])],[],places) :=
 ⟨[],by kernel_rfl⟩
theorem ZP (os:Os)(started:os.Started)(H:Type)(enc:TypeId × Value→H)(F:Stop.Interp) :
 ReturnsInHanded {} Tryz.checked os 3 .any ((Rows.OpenSpec.upto Rows.storeLinesSpec).preRow enc Tryz.prog Tryz.f3 Rows.storeLinesUptoRow.domain false Rows.storeLinesUptoRow.laid) (((Rows.OpenSpec.upto Rows.storeLinesSpec).at F).post enc Tryz.prog Tryz.f3 false true false false):=by
 obtain ⟨places,hx⟩:=Ya os enc
 refine returnsInHanded_of_row (C:=Tryz.checked) (s:=Rows.OpenSpec.upto Rows.storeLinesSpec) storeLinesOwn started (by kernel_rfl) Tryz.func3
  (witness_row_atRef (enc:=enc) (C:=Tryz.checked) false (jO os) #[Value.string ByteArray.empty] rfl (by kernel_rfl) (by kernel_rfl) (by kernel_rfl)
   (OpenSpec.preRow_of_cond 8 hx (by kernel_rfl) (fun k hk=>by cases hk;kernel_rfl) (by kernel_rfl) (Ju os))) ?_
 intro W base args ds gs before hval hW _ hcond _ hL hS _;exact QV H enc W base args ds gs before hval hW (hcond _ rfl) (Jt hL hS)
theorem storeLines_said:Rows.StoreLinesUptoSaid :=
 OpenClaim.holds_of_cond 3 Tryz.f3 rfl rfl rfl rfl rfl rfl rfl ⟨rfl,rfl,rfl,rfl,rfl⟩ rfl rfl rfl rfl rfl (by kernel_rfl) Tryz.func3 storeLines_closed
  (of_decide_eq_true (by kernel_rfl)) (by unfold Func.isWrapper;first|(rw[if_pos (by decide +kernel)];kernel_rfl)|(rw[if_neg (by decide +kernel)];exact ⟨rfl,rfl⟩))
  (fun os started H enc _ F=>by rw[OpenClaim.pre_eq_preRow];exact ZP os started H enc F)
theorem Z9 (f : FuncId) (fn : Func) (hf : Tryz.pinned.checked.prog.funcNamed "topiary/topiarylaw.StoreLines" = some f) (hfn : Tryz.pinned.checked.prog.funcs[f]? = some fn) :
 true=Tryz.pinned.checked.prog.looks []∧∀ (j:Nat) t,fn.params[j]?=some t→Tryz.pinned.checked.prog.wantsStandIn t=false:=by
 obtain rfl : f = 3 := Option.some.inj ((show Tryz.prog.funcNamed "topiary/topiarylaw.StoreLines" = some 3 by kernel_rfl).symm.trans hf) |>.symm
 obtain rfl:fn=Tryz.f3:=(Option.some.inj (Tryz.func3.symm.trans hfn)).symm;refine ⟨by kernel_rfl,fun j t ht=>?_⟩
 rw[Tryz.params3]at ht
 have hm:t=9:=by simpa using Array.mem_of_getElem? ht
 rcases hm with rfl
 · exact (show Tryz.prog.wantsStandIn 9=false by kernel_rfl)
theorem storeLines_holds:Rows.StoreLinesUptoCardSaid :=
 Claim7.holds_tied_plain_at .later [] _ _ _ _ storeLines_said (fun _ h=>by cases h) (by kernel_rfl) (fun _ h=>by cases h) storeLinesUpto_row_tie rfl ⟨rfl,rfl⟩ (by kernel_rfl) rfl Z9 (by kernel_rfl)
end Go.Proofs.YtfplhcicbbhljaaGreatDoor
