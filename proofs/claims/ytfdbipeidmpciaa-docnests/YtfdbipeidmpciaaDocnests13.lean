/- DocNests: for every document and two nodes, one is in the other, or they stand beside one another; what is in a node is one run of numbers. No condition beyond the given row's. -/
import Derived.Test.YtfdbipeidmpciaaDocnests12
namespace Go.Proofs.Ytfdbipeidmpciaa
open Go.ChangeShapes Go.WideShapes Go.ChangeAt Go.RowKit
set_option maxRecDepth 100000
theorem zL (H:Type)(enc:TypeId × Value→H)(W:World)(base:Nat)(args:Array Value)(ds gs:List (DataW H))(before:List MemPlace)
 (hval:∀ (j:Nat) t v,Try.f6.params[j]?=some t→args[j]?=some v→Value.okWide Try.prog W .any base t v)
 (hW:DataW.Whole enc Try.prog Try.f6.params.toList Rows.docNestsSpec.vars false W args.toList ds gs before)
 (hz:(DataW.weightsEach Try.prog (Try.f6.params.toList++Rows.docNestsSpec.plain.varTypes Try.prog) (ds++gs)).all (·≤reachBytes)=true) :
 Calls Try.prog 6 args W fun e W'=>∃ v,e=.returned v∧Rows.docNestsSpec.post enc Try.prog Try.f6 false true false false W args v W':=by
 have hW':=hW;obtain ⟨p,q,hA0,hV,rfl,hfz,hnd⟩:=hW;have hA:DataW.TrodAll enc Try.prog W 0 (fun _=>true) true Try.f6.params.toList args.toList ds p:=hA0
 rw[Try.params6]at hA hval hz
 obtain ⟨v0,vs0,d0,ds0,p0,q0,hargs0,rfl,rfl,h0,r0⟩:=trodAll_cons hA;obtain ⟨v1,vs1,d1,ds1,p1,q1,hargs1,rfl,rfl,h1,r1⟩:=trodAll_cons r0;obtain ⟨v2,vs2,d2,ds2,p2,q2,hargs2,rfl,rfl,h2,r2⟩:=trodAll_cons r1;obtain ⟨rfl,rfl,rfl⟩:=trodAll_nil r2;subst hargs2 hargs1;obtain rfl:args=#[v0,v1,v2]:=by cases args;simp_all
 obtain ⟨rfl,rfl⟩:=trodVars_none hV;obtain ⟨c0,rfl,hc0⟩:=okWide_struct Try.underlying33 (hval 0 33 v0 rfl rfl);rw[docCellsOf]at hc0
 obtain ⟨n,rfl,rfl,rfl,wn⟩:=open_int Try.underlying3 (hval 1 3 v1 rfl rfl) h1;obtain ⟨m,rfl,rfl,rfl,wm⟩:=open_int Try.underlying3 (hval 2 3 v2 rfl rfl) h2;have h0k:=h0;have h1k:=h1;have h2k:=h2;obtain ⟨f0,hf0⟩:=h0;clear hA0 hA r0 r1 r2 hargs0 hV;simp only[List.append_nil]at hW'
 have hlt:∀ x∈p0,x.block<W.heap.size:=fun x hx=>by simpa using hW'.lt x (by simp[hx])
 obtain ⟨v,ns,hv0,hD⟩:=Ql (by simpa[Value.cells] using hc0) hf0 (fun y hy=>by
  have:=List.all_eq_true.1 hz y (by simp only[DataW.weightsEach,List.cons_append,List.mem_append];exact Or.inl hy)
  simpa using this)
 have e0:c0=#[v]:=by
  have:c0.toList=[v]:=by simpa[Value.cells] using hv0
  cases c0;simp at this;simp[this]
 subst e0;refine (jj (fun b=>b<W.heap.size) v ns n m W hD).mono ?_
 rintro e W' ⟨rfl,hb⟩;refine ⟨_,rfl,_,_,_,[],p0++([]++([]++[])),[],hW',?_,?_,rfl,hb.frame _,fun h=>by cases h⟩
 · exact trodAll_mk1 (shut_bool Try.underlying4 true)
 · exact trodAll_cons_mk (Below.trod progLaid (by kernel_rfl) (of_decide_eq_true (by kernel_rfl)) h0k hb (fun x hx=>hlt x hx)) (trodAll_cons_mk (Below.trod progLaid (by kernel_rfl) (of_decide_eq_true (by kernel_rfl)) h1k hb (fun x hx=>by simp at hx)) (trodAll_cons_mk (Below.trod progLaid (by kernel_rfl) (of_decide_eq_true (by kernel_rfl)) h2k hb (fun x hx=>by simp at hx)) trodAll_mk0))
theorem ye (os:Os)(started:os.Started)(H:Type)(enc:TypeId × Value→H) :
 ReturnsInHanded {} Try.checked os 6 .any (Rows.docNestsSpec.pre6 enc Try.prog Try.f6 Rows.docNestsRow.domain false) (Rows.docNestsSpec.post enc Try.prog Try.f6 false true false false):=by
 refine returnsInHanded_of_change_sized (C:=Try.checked) progOwn started (by kernel_rfl) Try.func6
  (ChangeSpec.witness6 (enc:=enc) (C:=Try.checked) false ⟨#[],#[.agg #[.slice none 0 0],.int .i64 0,.int .i64 0],[]⟩ 8 (by kernel_rfl) (by kernel_rfl) (by kernel_rfl) (by kernel_rfl)) ?_
 intro W base args ds gs before hval hW _ hz _;exact zL H enc W base args ds gs before hval hW hz
theorem docNests_holds:Rows.DocNestsSaid :=
 OpenClaim.holds_of_wide 6 Try.f6 rfl rfl rfl rfl rfl rfl rfl ⟨rfl,rfl,rfl,rfl,rfl⟩ rfl rfl rfl rfl rfl (by kernel_rfl) Try.func6 (by kernel_rfl)
  (of_decide_eq_true (by kernel_rfl)) (by unfold Func.isWrapper;first|(rw[if_pos (by decide +kernel)];kernel_rfl)|(rw[if_neg (by decide +kernel)];exact ⟨rfl,rfl⟩))
  (fun os started H enc _=>ye os started H enc)
end Go.Proofs.Ytfdbipeidmpciaa
