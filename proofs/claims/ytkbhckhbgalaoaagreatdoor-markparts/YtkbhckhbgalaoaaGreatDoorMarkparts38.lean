/- MarkParts: for every input the law answers true, and its arguments read as they did. No condition beyond the given row's. -/
import Derived.Test.YtkbhckhbgalaoaaGreatDoorBundle31
import Derived.Test.YtkbhckhbgalaoaaGreatDoorMarkparts37
import Derived.Test.YtkbhckhbgalaoaaGreatDoorBundle35
import Derived.Test.YtkbhckhbgalaoaaGreatDoorBundle36
import Derived.Test.YtkbhckhbgalaoaaGreatDoorCards
import Derived.Test.YtkbhckhbgalaoaaGreatDoorTie
import Derived.Deep.DeepWitnessRowRef
import Derived.Lay
import Derived.Lib.LaidU8
namespace Go.Proofs.YtkbhckhbgalaoaaGreatDoor
open Go.ChangeShapes Go.WideShapes Go.ChangeAt Go.RowKit
set_option maxRecDepth 100000
theorem markPartsOwn:ownKnob Tryz.prog.godebug=none:=by kernel_rfl
theorem markPartsLaid:laidOutB Tryz.prog=true:=by kernel_rfl
theorem Qe {W:World}(hL:laidMetH Tryz.prog Rows.markPartsRow.laid W)(hS:W.ShapedOpen Tryz.prog):qu W∧yh W:=by
 have h:laidMet Tryz.prog Rows.markPartsRow.laid W:=hL;obtain ⟨g, t, cs, fuel, p, hg, ht, hv, hd⟩ : Lib.VarReads Tryz.prog W "topiary/mark.marks" Rows.laid_topiary_mark_marks := Lib.laidMet.reads h (by simp [Rows.markPartsRow])
 exact ⟨jH hg ht hv hd,Tryz.laysM145.s1_3 W hS⟩
theorem jq (H:Type)(enc:TypeId × Value→H)(W:World)(base:Nat)(args:Array Value)(ds gs:List (DataW H))(before:List MemPlace)
 (hval:∀ (j:Nat) t v,Tryz.f4.params[j]?=some t→args[j]?=some v→Value.okWide Tryz.prog W .any base t v)
 (hW:DataW.Whole enc Tryz.prog Tryz.f4.params.toList Rows.markPartsSpec.vars false W args.toList ds gs before) (hE:qu W∧yh W) :
 Calls Tryz.prog 4 args W fun e W'=>∃ v,e=.returned v∧Rows.markPartsSpec.post enc Tryz.prog Tryz.f4 false true false false W args v W':=by
 have hW':=hW;obtain ⟨p,q,hA0,hV,rfl,hfz,hnd⟩:=hW;have hA:DataW.TrodAll enc Tryz.prog W 0 (fun _=>true) true Tryz.f4.params.toList args.toList ds p:=hA0
 rw[Tryz.params4]at hA hval
 obtain ⟨v0,vs0,d0,ds0,p0,q0,hargs0,rfl,rfl,h0,r0⟩:=trodAll_cons hA;obtain ⟨rfl,rfl,rfl⟩:=trodAll_nil r0;obtain rfl:args=#[v0]:=by cases args;simp_all
 obtain ⟨rfl,rfl⟩:=trodVars_none hV;have h0k:=h0;obtain ⟨f0,hf0⟩:=h0;clear hA0 hA r0 hargs0 hV;simp only[List.append_nil]at hW'
 have hlt0:∀ x∈p0,x.block<W.heap.size:=fun x hx=>by simpa using hW'.lt x (by simp[hx])
 obtain ⟨x0,rfl⟩:=okWide_string Tryz.underlying9 (hval 0 9 v0 rfl rfl);obtain ⟨y0,hv0,_,hz0⟩:=DataW.trod_string Tryz.underlying9 hf0;obtain rfl:x0=y0:=by simpa[Value.cells] using hv0
 refine (Qc x0 W hE hz0).mono ?_;rintro e W' ⟨rfl,hb⟩;refine ⟨_,rfl,_,_,_,[],(p0++[]),[],hW',?_,?_,rfl,hb.frame _,fun h=>by cases h⟩
 · exact trodAll_mk1 (shut_bool Tryz.underlying4 true)
 · exact trodAll_cons_mk (Below.trod markPartsLaid (by kernel_rfl) (of_decide_eq_true (by kernel_rfl)) h0k hb (fun x hx=>hlt0 x hx)) (trodAll_mk0)
noncomputable def ym (os:Os):World:=World.laidAll Tryz.prog os Rows.markPartsRow.laid
theorem Qf (os:Os):laidMet Tryz.prog Rows.markPartsRow.laid ((ym os).forCall (fun _ _=>0) ⟨#[],#[Value.string ByteArray.empty],[]⟩).memory :=
 laidMet_laidAll _ (by kernel_rfl) (by kernel_rfl)
theorem xg (os:Os){H:Type}(enc:TypeId × Value→H):∃ places,DataW.whole enc Tryz.prog ((ym os).forCall (fun _ _=>0) ⟨#[],#[Value.string ByteArray.empty],[]⟩).memory Tryz.f4.params.toList Rows.markPartsSpec.vars false #[Value.string ByteArray.empty].toList 8 =
 some ([.lit (.string [])],[],places) :=
 ⟨[],by kernel_rfl⟩
theorem jZ (os:Os)(started:os.Started)(H:Type)(enc:TypeId × Value→H)(F:Stop.Interp) :
 ReturnsInHanded {} Tryz.checked os 4 .any ((OpenSpec.ofChange Rows.markPartsSpec).preRow enc Tryz.prog Tryz.f4 Rows.markPartsRow.domain false Rows.markPartsRow.laid) (((OpenSpec.ofChange Rows.markPartsSpec).at F).post enc Tryz.prog Tryz.f4 false true false false):=by
 obtain ⟨places,hx⟩:=xg os enc
 refine returnsInHanded_of_row (C:=Tryz.checked) (s:=OpenSpec.ofChange Rows.markPartsSpec) markPartsOwn started (by kernel_rfl) Tryz.func4
  (witness_row_atRef (enc:=enc) (C:=Tryz.checked) false (ym os) #[Value.string ByteArray.empty] rfl (by kernel_rfl) (by kernel_rfl) (by kernel_rfl)
   (OpenSpec.preRow_of_cond 8 hx (by kernel_rfl) (fun k hk=>by cases hk) (by kernel_rfl) (Qf os))) ?_
 intro W base args ds gs before hval hW _ _ _ hL hS _;exact jq H enc W base args ds gs before hval hW (Qe hL hS)
theorem markParts_said:Rows.MarkPartsSaid :=
 OpenClaim.holds_of_cond 4 Tryz.f4 rfl rfl rfl rfl rfl rfl rfl ⟨rfl,rfl,rfl,rfl,rfl⟩ rfl rfl rfl rfl rfl (by kernel_rfl) Tryz.func4 markParts_closed
  (of_decide_eq_true (by kernel_rfl)) (by unfold Func.isWrapper;first|(rw[if_pos (by decide +kernel)];kernel_rfl)|(rw[if_neg (by decide +kernel)];exact ⟨rfl,rfl⟩))
  (fun os started H enc _ F=>by rw[OpenClaim.pre_eq_preRow];exact jZ os started H enc F)
theorem xf (f : FuncId) (fn : Func) (hf : Tryz.pinned.checked.prog.funcNamed "topiary/topiarylaw.MarkParts" = some f) (hfn : Tryz.pinned.checked.prog.funcs[f]? = some fn) :
 false=Tryz.pinned.checked.prog.looks []∧∀ (j:Nat) t,fn.params[j]?=some t→Tryz.pinned.checked.prog.wantsStandIn t=false:=by
 obtain rfl : f = 4 := Option.some.inj ((show Tryz.prog.funcNamed "topiary/topiarylaw.MarkParts" = some 4 by kernel_rfl).symm.trans hf) |>.symm
 obtain rfl:fn=Tryz.f4:=(Option.some.inj (Tryz.func4.symm.trans hfn)).symm;refine ⟨by kernel_rfl,fun j t ht=>?_⟩
 rw[Tryz.params4]at ht
 have hm:t=9:=by simpa using Array.mem_of_getElem? ht
 rcases hm with rfl
 · exact (show Tryz.prog.wantsStandIn 9=false by kernel_rfl)
theorem markParts_holds:Rows.MarkPartsCardSaid :=
 Claim7.holds_tied_plain_at .later [] _ _ _ _ markParts_said (fun _ h=>by cases h) (by kernel_rfl) (fun _ h=>by cases h) markParts_row_tie rfl ⟨rfl,rfl⟩ (by kernel_rfl) rfl xf (by kernel_rfl)
end Go.Proofs.YtkbhckhbgalaoaaGreatDoor
