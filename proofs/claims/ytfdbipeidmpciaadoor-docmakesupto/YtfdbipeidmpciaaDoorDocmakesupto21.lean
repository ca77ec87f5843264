/- DocMakes: for every tree doc.Make answers as the document says, errors too. Condition: what is handed in holds together at most 1048576 values and letters. -/
import Derived.Test.YtfdbipeidmpciaaDoorDocmakesupto20
import Derived.Test.YtfdbipeidmpciaaDoorCards
import Derived.Test.YtfdbipeidmpciaaDoorTie
import Derived.Deep.DeepWitnessRowRef
import Derived.Lay
namespace Go.Proofs.YtfdbipeidmpciaaDoor
open Go.ChangeShapes Go.WideShapes Go.ChangeAt Go.RowKit
set_option maxRecDepth 100000
theorem tex_texts:∀ (n:Nat) {ts:List Tr},TexN n ts→TextsN n ts
 | 0,_,_=>trivial
 | n+1,_,h=>fun t ht=>⟨⟨(h t ht).1,(h t ht).2.1⟩,tex_texts n (h t ht).2.2⟩
theorem xQ (H:Type)(enc:TypeId × Value→H)(W:World)(base:Nat)(args:Array Value)(ds gs:List (DataW H))(before:List MemPlace)
 (hval:∀ (j:Nat) t v,Tryd.f7.params[j]?=some t→args[j]?=some v→Value.okWide Tryd.prog W .any base t v)
 (hW:DataW.Whole enc Tryd.prog Tryd.f7.params.toList Rows.docMakesSpec.vars false W args.toList ds gs before) (hk:Rows.uptoSmall H (ds++gs)=true) :
 Calls Tryd.prog 7 args W fun e W'=>∃ v,e=.returned v∧Rows.docMakesSpec.post enc Tryd.prog Tryd.f7 false true false false W args v W':=by
 have hW':=hW;obtain ⟨p,q,hA0,hV,rfl,hfz,hnd⟩:=hW;have hA:DataW.TrodAll enc Tryd.prog W 0 (fun _=>true) true Tryd.f7.params.toList args.toList ds p:=hA0
 rw[Tryd.params7]at hA hval
 obtain ⟨v0,vs0,d0,ds0,p0,q0,hargs0,rfl,rfl,h0,r0⟩:=trodAll_cons hA;obtain ⟨rfl,rfl,rfl⟩:=trodAll_nil r0;obtain rfl:args=#[v0]:=by cases args;simp_all
 obtain ⟨rfl,rfl⟩:=trodVars_none hV;obtain ⟨c0,rfl,hc0⟩:=okWide_struct Tryd.underlying25 (hval 0 25 v0 rfl rfl);rw[treeCellsOf]at hc0
 have h0k:=h0;obtain ⟨f0,hf0⟩:=h0;clear hA0 hA r0 hargs0 hV;simp only[List.append_nil]at hW' hk
 have hlt:∀ x∈p0,x.block<W.heap.size:=fun x hx=>by simpa using hW'.lt x (by simpa using hx)
 obtain ⟨a,va,vk,hv0,hAa,hKa,hwa⟩:=JE (by simpa[Value.cells] using hc0) hf0
 have e0:c0=#[.bool a.text,.string a.s,va,vk]:=by
  have:c0.toList=[.bool a.text,.string a.s,va,vk]:=by simpa[Value.cells] using hv0
  cases c0;simp at this;simp[this]
 subst e0;have hbulk:Rows.uptoBulkAll [d0]≤1048576:=of_decide_eq_true hk;simp only[Rows.uptoBulkAll]at hbulk
 simp only at hwa
 have w1:wt (f0+1) [a]≤1048576:=by omega
 obtain ⟨_,_,hs2⟩:=wt_small _ _ w1;obtain ⟨hal,_,hsk⟩:=hs2 a List.mem_cons_self;refine (Q0 (fun b=>b<W.heap.size) f0 va vk a W hAa hKa (tex_texts _ (wt_tex _ _ w1)) (Nat.le_trans (wt_cnt _ _) w1) hal hsk (fun b hb=>hb)).mono ?_
 rintro e W' ⟨rfl,hb⟩;refine ⟨_,rfl,_,_,_,[],p0++[],[],hW',?_,?_,rfl,hb.frame _,fun h=>by cases h⟩
 · exact trodAll_mk1 (shut_bool Tryd.underlying4 true)
 · exact trodAll_cons_mk (Below.trod progLaid (by kernel_rfl) (of_decide_eq_true (by kernel_rfl)) h0k hb (fun x hx=>hlt x (by simp[hx]))) trodAll_mk0
noncomputable def jx (os:Os):World:=World.laidAll Tryd.prog os Rows.docMakesUptoRow.laid
def noTreeD:Value:=.agg #[.bool false,.string ⟨#[]⟩,.slice none 0 0,.slice none 0 0]
theorem Jx (os:Os):laidMet Tryd.prog Rows.docMakesUptoRow.laid ((jx os).forCall (fun _ _=>0) ⟨#[],#[noTreeD],[]⟩).memory :=
 laidMet_laidAll _ (by kernel_rfl) (by kernel_rfl)
theorem ZQ (os:Os){H:Type}(enc:TypeId × Value→H):∃ places,DataW.whole enc Tryd.prog ((jx os).forCall (fun _ _=>0) ⟨#[],#[noTreeD],[]⟩).memory Tryd.f7.params.toList Rows.docMakesSpec.vars false #[noTreeD].toList 8 =
 some ([.agg [.lit (.bool false),.lit (.string []),.nil,.nil]],[],places) :=
 ⟨[],by kernel_rfl⟩
theorem Q8 (os:Os)(started:os.Started)(H:Type)(enc:TypeId × Value→H)(F:Stop.Interp) :
 ReturnsInHanded {} Tryd.checked os 7 .any ((Rows.OpenSpec.upto Rows.docMakesSpec).preRow enc Tryd.prog Tryd.f7 Rows.docMakesUptoRow.domain false Rows.docMakesUptoRow.laid) (((Rows.OpenSpec.upto Rows.docMakesSpec).at F).post enc Tryd.prog Tryd.f7 false true false false):=by
 obtain ⟨places,hx⟩:=ZQ os enc
 refine returnsInHanded_of_row (C:=Tryd.checked) (s:=Rows.OpenSpec.upto Rows.docMakesSpec) progOwn started (by kernel_rfl) Tryd.func7
  (witness_row_atRef (enc:=enc) (C:=Tryd.checked) false (jx os) #[noTreeD] rfl (by kernel_rfl) (by kernel_rfl) (by kernel_rfl)
   (OpenSpec.preRow_of_cond 8 hx (by kernel_rfl) (fun k hk=>by cases hk;kernel_rfl) (by kernel_rfl) (Jx os))) ?_
 intro W base args ds gs before hval hW _ hcond _ _ _ _;exact xQ H enc W base args ds gs before hval hW (hcond _ rfl)
theorem makes_said:Rows.DocMakesUptoSaid :=
 OpenClaim.holds_of_cond 7 Tryd.f7 rfl rfl rfl rfl rfl rfl rfl ⟨rfl,rfl,rfl,rfl,rfl⟩ rfl rfl rfl rfl rfl (by kernel_rfl) Tryd.func7 (by kernel_rfl)
  (of_decide_eq_true (by kernel_rfl)) (by unfold Func.isWrapper;first|(rw[if_pos (by decide +kernel)];kernel_rfl)|(rw[if_neg (by decide +kernel)];exact ⟨rfl,rfl⟩))
  (fun os started H enc _ F=>by rw[OpenClaim.pre_eq_preRow];exact Q8 os started H enc F)
theorem ZP (f : FuncId) (fn : Func) (hf : Tryd.pinned.checked.prog.funcNamed "topiary/topiarylaw.DocMakes" = some f) (hfn : Tryd.pinned.checked.prog.funcs[f]? = some fn) :
 true=Tryd.pinned.checked.prog.looks []∧∀ (j:Nat) t,fn.params[j]?=some t→Tryd.pinned.checked.prog.wantsStandIn t=false:=by
 obtain rfl : f = 7 := Option.some.inj ((show Tryd.prog.funcNamed "topiary/topiarylaw.DocMakes" = some 7 by kernel_rfl).symm.trans hf) |>.symm
 obtain rfl:fn=Tryd.f7:=(Option.some.inj (Tryd.func7.symm.trans hfn)).symm;refine ⟨by kernel_rfl,fun j t ht=>?_⟩
 rw[Tryd.params7]at ht
 have hm:t=25:=by simpa using Array.mem_of_getElem? ht
 subst hm;exact (show Tryd.prog.wantsStandIn 25=false by kernel_rfl)
theorem makes_holds:Rows.DocMakesUptoCardSaid :=
 Claim7.holds_tied_plain_at .later [] _ _ _ _ makes_said (fun _ h=>by cases h) (by kernel_rfl) (fun _ h=>by cases h) docMakesUpto_row_tie rfl ⟨rfl,rfl⟩ (by kernel_rfl) rfl ZP (by kernel_rfl)
end Go.Proofs.YtfdbipeidmpciaaDoor
