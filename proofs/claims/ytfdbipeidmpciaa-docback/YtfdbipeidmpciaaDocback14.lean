/- DocBack: for every tree, the document made of it is good, its node 0's tree is it, and its end and its text are its size and its text. No condition beyond the given row's. -/
import Derived.Test.YtfdbipeidmpciaaDocback13
namespace Go.Proofs.Ytfdbipeidmpciaa
open Go.ChangeShapes Go.WideShapes Go.ChangeAt Go.RowKit
set_option maxRecDepth 100000
theorem zW (H:Type)(enc:TypeId × Value→H)(W:World)(base:Nat)(args:Array Value)(ds gs:List (DataW H))(before:List MemPlace)
 (hval:∀ (j:Nat) t v,Try.f5.params[j]?=some t→args[j]?=some v→Value.okWide Try.prog W .any base t v)
 (hW:DataW.Whole enc Try.prog Try.f5.params.toList Rows.docBackSpec.vars false W args.toList ds gs before) :
 Calls Try.prog 5 args W fun e W'=>∃ v,e=.returned v∧Rows.docBackSpec.post enc Try.prog Try.f5 false true false false W args v W':=by
 have hW':=hW;obtain ⟨p,q,hA0,hV,rfl,hfz,hnd⟩:=hW;have hA:DataW.TrodAll enc Try.prog W 0 (fun _=>true) true Try.f5.params.toList args.toList ds p:=hA0
 rw[Try.params5]at hA hval
 obtain ⟨v0,vs0,d0,ds0,p0,q0,hargs0,rfl,rfl,h0,r0⟩:=trodAll_cons hA;obtain ⟨rfl,rfl,rfl⟩:=trodAll_nil r0;obtain rfl:args=#[v0]:=by cases args;simp_all
 obtain ⟨rfl,rfl⟩:=trodVars_none hV;obtain ⟨c0,rfl,hc0⟩:=okWide_struct Try.underlying29 (hval 0 29 v0 rfl rfl);rw[treeCellsOf]at hc0
 have h0k:=h0;obtain ⟨f0,hf0⟩:=h0;clear hA0 hA r0 hargs0 hV;simp only[List.append_nil]at hW'
 have hlt:∀ x∈p0,x.block<W.heap.size:=fun x hx=>by simpa using hW'.lt x (by simpa using hx)
 obtain ⟨a,va,vk,hv0,hAa,hKa,hTx⟩:=yf (by simpa[Value.cells] using hc0) hf0
 have e0:c0=#[.bool a.text,.string a.s,va,vk]:=by
  have:c0.toList=[.bool a.text,.string a.s,va,vk]:=by simpa[Value.cells] using hv0
  cases c0;simp at this;simp[this]
 subst e0;refine (jG (fun b=>b<W.heap.size) f0 va vk a W hAa hKa hTx (fun b hb=>hb)).mono ?_
 rintro e W' ⟨rfl,hb⟩;refine ⟨_,rfl,_,_,_,[],p0++[],[],hW',?_,?_,rfl,hb.frame _,fun h=>by cases h⟩
 · exact trodAll_mk1 (shut_bool Try.underlying4 true)
 · exact trodAll_cons_mk (Below.trod progLaid (by kernel_rfl) (of_decide_eq_true (by kernel_rfl)) h0k hb (fun x hx=>hlt x hx)) trodAll_mk0
theorem yw (os:Os)(started:os.Started)(H:Type)(enc:TypeId × Value→H) :
 ReturnsInHanded {} Try.checked os 5 .any (Rows.docBackSpec.pre6 enc Try.prog Try.f5 Rows.docBackRow.domain false) (Rows.docBackSpec.post enc Try.prog Try.f5 false true false false):=by
 refine returnsInHanded_of_change (C:=Try.checked) progOwn started (by kernel_rfl) Try.func5
  (ChangeSpec.witness6 (enc:=enc) (C:=Try.checked) false ⟨#[],#[.agg #[.bool false,.string ⟨#[]⟩,.slice none 0 0,.slice none 0 0]],[]⟩ 8 (by kernel_rfl) (by kernel_rfl) (by kernel_rfl) (by kernel_rfl)) ?_
 intro W base args ds gs before hval hW _ _;exact zW H enc W base args ds gs before hval hW
theorem docBack_holds:Rows.DocBackSaid :=
 OpenClaim.holds_of_wide 5 Try.f5 rfl rfl rfl rfl rfl rfl rfl ⟨rfl,rfl,rfl,rfl,rfl⟩ rfl rfl rfl rfl rfl (by kernel_rfl) Try.func5 (by kernel_rfl)
  (of_decide_eq_true (by kernel_rfl)) (by unfold Func.isWrapper;first|(rw[if_pos (by decide +kernel)];kernel_rfl)|(rw[if_neg (by decide +kernel)];exact ⟨rfl,rfl⟩))
  (fun os started H enc _=>yw os started H enc)
end Go.Proofs.Ytfdbipeidmpciaa
