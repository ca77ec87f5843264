/- TreeTells: for all trees Named, Plain, GoodAttrs, Size, Good, Content and Same answer as the document does. Condition: what is handed in holds together at most 1048576 values and letters. -/
import Derived.Test.YtfdbipeidmpciaaDoorTreetellsupto19
import Derived.Test.YtfdbipeidmpciaaDoorTreetellsupto20
import Derived.Test.YtfdbipeidmpciaaDoorCards
import Derived.Test.YtfdbipeidmpciaaDoorTie
import Derived.Deep.DeepHandedRow
namespace Go.Proofs.YtfdbipeidmpciaaDoor
open Go.ChangeShapes Go.WideShapes Go.ChangeAt Go.RowKit
set_option maxRecDepth 100000
theorem ZB (H:Type)(enc:TypeId × Value→H)(W:World)(base:Nat)(args:Array Value)(ds gs:List (DataW H))(before:List MemPlace)
 (hval:∀ (j:Nat) t v,Tryd.f3.params[j]?=some t→args[j]?=some v→Value.okWide Tryd.prog W .any base t v)
 (hW:DataW.Whole enc Tryd.prog Tryd.f3.params.toList Rows.treeTellsSpec.vars false W args.toList ds gs before) (hk:Rows.uptoSmall H (ds++gs)=true) :
 Calls Tryd.prog 3 args W fun e W'=>∃ v,e=.returned v∧Rows.treeTellsSpec.post enc Tryd.prog Tryd.f3 false true false false W args v W':=by
 have hW':=hW;obtain ⟨p,q,hA0,hV,rfl,hfz,hnd⟩:=hW;have hA:DataW.TrodAll enc Tryd.prog W 0 (fun _=>true) true Tryd.f3.params.toList args.toList ds p:=hA0
 rw[Tryd.params3]at hA hval
 obtain ⟨v0,vs0,d0,ds0,p0,q0,hargs0,rfl,rfl,h0,r0⟩:=trodAll_cons hA;obtain ⟨v1,vs1,d1,ds1,p1,q1,hargs1,rfl,rfl,h1,r1⟩:=trodAll_cons r0;obtain ⟨v2,vs2,d2,ds2,p2,q2,hargs2,rfl,rfl,h2,r2⟩:=trodAll_cons r1;obtain ⟨rfl,rfl,rfl⟩:=trodAll_nil r2;obtain rfl:args=#[v0,v1,v2]:=by cases args;simp_all
 obtain ⟨rfl,rfl⟩:=trodVars_none hV;obtain ⟨c0,rfl,hc0⟩:=okWide_struct Tryd.underlying25 (hval 0 25 v0 rfl rfl);obtain ⟨c1,rfl,hc1⟩:=okWide_struct Tryd.underlying25 (hval 1 25 v1 rfl rfl);obtain ⟨a0,len,cap,rfl⟩:=okWide_slice Tryd.underlying23 (hval 2 23 v2 rfl rfl);rw[treeCellsOf]at hc0 hc1
 have h0k:=h0;have h1k:=h1;have h2k:=h2;obtain ⟨f0,hf0⟩:=h0;obtain ⟨f1,hf1⟩:=h1;obtain ⟨f2,hf2⟩:=h2;clear hA0 hA r0 r1 r2 hargs0 hargs1 hargs2 hV;simp only[List.append_nil]at hW' hk
 have hlt:∀ x∈p0++(p1++p2),x.block<W.heap.size:=fun x hx=>by simpa using hW'.lt x (by simpa using hx)
 obtain ⟨a,va,vk,hv0,hAa,hKa,hwa⟩:=Qu (by simpa[Value.cells] using hc0) hf0
 obtain ⟨b,vb,vj,hv1,hAb,hKb,hwb⟩:=Qu (by simpa[Value.cells] using hc1) hf1
 obtain ⟨v,ts,hv,hT,hwt,_⟩:=open_trees f2 hf2;simp only[Value.cells,List.cons.injEq,and_true]at hv
 subst hv
 have e0:c0=#[.bool a.text,.string a.s,va,vk]:=by
  have:c0.toList=[.bool a.text,.string a.s,va,vk]:=by simpa[Value.cells] using hv0
  cases c0;simp at this;simp[this]
 have e1:c1=#[.bool b.text,.string b.s,vb,vj]:=by
  have:c1.toList=[.bool b.text,.string b.s,vb,vj]:=by simpa[Value.cells] using hv1
  cases c1;simp at this;simp[this]
 subst e0 e1;have hbulk:Rows.uptoBulkAll [d0,d1,d2]≤1048576:=of_decide_eq_true hk;simp only[Rows.uptoBulkAll]at hbulk
 simp only at hwa hwb hwt
 obtain ⟨N,hN0,hN1,hN2⟩:∃ N,f0≤N∧f1≤N∧f2≤N+1:=⟨f0+f1+f2,by omega,by omega,by omega⟩
 have w1:wt (N+1) [a]≤1048576:=by
  rw[Qk]at hwa ⊢
  rw[K7 hKa hN0];have e:wt (N+1) []=wt (f0+1) []:=by simp[wt]
  rw[e];omega
 have w2:wt (N+1) ts≤1048576:=by rw[K7 hT hN2];omega
 refine (V8 (fun b=>b<W.heap.size) N va vk vb vj _ a b ts W hAa (hKa.more hN0) hAb (hKb.more hN1) (hT.more hN2) (Nat.le_trans (wt_cnt _ _) w1) (wt_tex _ _ w1) (wt_small _ _ w1) (Nat.le_trans (wt_cnt _ _) w2) (wt_tex _ _ w2) (wt_small _ _ w2)).mono ?_
 rintro e W' ⟨rfl,hb⟩;refine ⟨_,rfl,_,_,_,[],p0++(p1++(p2++[])),[],hW',?_,?_,rfl,hb.frame _,fun h=>by cases h⟩
 · exact trodAll_mk1 (shut_bool Tryd.underlying4 true)
 · exact trodAll_cons_mk (Below.trod progLaid (by kernel_rfl) (of_decide_eq_true (by kernel_rfl)) h0k hb (fun x hx=>hlt x (by simp[hx]))) (trodAll_cons_mk (Below.trod progLaid (by kernel_rfl) (of_decide_eq_true (by kernel_rfl)) h1k hb (fun x hx=>hlt x (by simp[hx]))) (trodAll_cons_mk (Below.trod progLaid (by kernel_rfl) (of_decide_eq_true (by kernel_rfl)) h2k hb (fun x hx=>hlt x (by simp[hx]))) trodAll_mk0))
def litVals:DataW Unit→List Value
 | .lit (.int k n)=>[.int k n]
 | _=>[]
def flatVals:DataW Unit→List Value
 | .agg l => l.flatMap fun d => match d with
   | .agg m=>m.flatMap litVals
   | d=>litVals d
 | _=>[]
def yN (vs:List Value):Obj→Obj
 | .cells _ t frozen=>.cells vs.toArray t frozen
 | o=>o
noncomputable def QA (os:Os):World :=
 { World.holding Tryd.prog os ⟨#[],#[],[]⟩ with heap:=((World.holding Tryd.prog os ⟨#[],#[],[]⟩).heap.modify 1 (yN (flatVals Rows.laid_unicode_utf8_first))).modify 2 (yN (flatVals Rows.laid_unicode_utf8_acceptRanges)) }
def noTree:Value:=.agg #[.bool false,.string ⟨#[]⟩,.slice none 0 0,.slice none 0 0]
theorem V9 (os:Os):laidMet Tryd.prog Rows.treeTellsUptoRow.laid ((QA os).forCall (fun _ _=>0) ⟨#[],#[noTree,noTree,.slice none 0 0],[]⟩).memory :=
 laidMet_of_run' 8 (by kernel_rfl) (by kernel_rfl)
theorem Xv (os:Os){H:Type}(enc:TypeId × Value→H):∃ places,DataW.whole enc Tryd.prog ((QA os).forCall (fun _ _=>0) ⟨#[],#[noTree,noTree,.slice none 0 0],[]⟩).memory Tryd.f3.params.toList Rows.treeTellsSpec.vars false #[noTree,noTree,Value.slice none 0 0].toList 8 =
 some ([.agg [.lit (.bool false),.lit (.string []),.nil,.nil],.agg [.lit (.bool false),.lit (.string []),.nil,.nil],.nil],[],places) :=
 ⟨[],by kernel_rfl⟩
theorem Jl (os:Os)(started:os.Started)(H:Type)(enc:TypeId × Value→H)(F:Stop.Interp) :
 ReturnsInHanded {} Tryd.checked os 3 .any ((Rows.OpenSpec.upto Rows.treeTellsSpec).preRow enc Tryd.prog Tryd.f3 Rows.treeTellsUptoRow.domain false Rows.treeTellsUptoRow.laid) (((Rows.OpenSpec.upto Rows.treeTellsSpec).at F).post enc Tryd.prog Tryd.f3 false true false false):=by
 obtain ⟨places,hx⟩:=Xv os enc
 refine returnsInHanded_of_row (C:=Tryd.checked) (s:=Rows.OpenSpec.upto Rows.treeTellsSpec) progOwn started (by kernel_rfl) Tryd.func3
  (witness_row_at (enc:=enc) (C:=Tryd.checked) false (QA os) #[noTree,noTree,.slice none 0 0] rfl (by kernel_rfl) (by kernel_rfl) (by kernel_rfl)
   (OpenSpec.preRow_of_cond 8 hx (by kernel_rfl) (fun k hk=>by cases hk;kernel_rfl) (by kernel_rfl) (V9 os))) ?_
 intro W base args ds gs before hval hW _ hcond _ _ _ _;exact ZB H enc W base args ds gs before hval hW (hcond _ rfl)
theorem tells_said:Rows.TreeTellsUptoSaid :=
 OpenClaim.holds_of_cond 3 Tryd.f3 rfl rfl rfl rfl rfl rfl rfl ⟨rfl,rfl,rfl,rfl,rfl⟩ rfl rfl rfl rfl rfl (by kernel_rfl) Tryd.func3 (by kernel_rfl)
  (of_decide_eq_true (by kernel_rfl)) (by unfold Func.isWrapper;first|(rw[if_pos (by decide +kernel)];kernel_rfl)|(rw[if_neg (by decide +kernel)];exact ⟨rfl,rfl⟩))
  (fun os started H enc _ F=>by rw[OpenClaim.pre_eq_preRow];exact Jl os started H enc F)
theorem Xu (f : FuncId) (fn : Func) (hf : Tryd.pinned.checked.prog.funcNamed "topiary/topiarylaw.TreeTells" = some f) (hfn : Tryd.pinned.checked.prog.funcs[f]? = some fn) :
 true=Tryd.pinned.checked.prog.looks []∧∀ (j:Nat) t,fn.params[j]?=some t→Tryd.pinned.checked.prog.wantsStandIn t=false:=by
 obtain rfl : f = 3 := Option.some.inj ((show Tryd.prog.funcNamed "topiary/topiarylaw.TreeTells" = some 3 by kernel_rfl).symm.trans hf) |>.symm
 obtain rfl:fn=Tryd.f3:=(Option.some.inj (Tryd.func3.symm.trans hfn)).symm;refine ⟨by kernel_rfl,fun j t ht=>?_⟩
 rw[Tryd.params3]at ht
 have hm:t=25∨t=23:=by simpa using Array.mem_of_getElem? ht
 rcases hm with rfl|rfl
 · exact (show Tryd.prog.wantsStandIn 25=false by kernel_rfl)
 · exact (show Tryd.prog.wantsStandIn 23=false by kernel_rfl)
theorem tells_holds:Rows.TreeTellsUptoCardSaid :=
 Claim7.holds_tied_plain_at .later [] _ _ _ _ tells_said (fun _ h=>by cases h) (by kernel_rfl) (fun _ h=>by cases h) treeTellsUpto_row_tie rfl ⟨rfl,rfl⟩ (by kernel_rfl) rfl Xu (by kernel_rfl)
end Go.Proofs.YtfdbipeidmpciaaDoor
