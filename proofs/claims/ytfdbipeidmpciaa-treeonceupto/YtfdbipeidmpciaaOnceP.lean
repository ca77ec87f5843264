/- TreeOnce: for every list of trees, what is joined is joined, no texts stand beside one another there, none is empty, and what is good is as it was. Condition: what came in is of bulk at most 1048576. -/
import Derived.Test.YtfdbipeidmpciaaOpen
import Derived.Test.YtfdbipeidmpciaaOnce
import Derived.OpenShut
import Derived.JoinedCond
import Derived.Carry
namespace Go.Proofs.Ytfdbipeidmpciaa
open Go.ChangeShapes Go.WideShapes Go.ChangeAt Go.RowKit
set_option maxRecDepth 100000
theorem wt_tell:∀ (n:Nat)(ts:List Tr),(tell n ts).length≤wt n ts:=by
 intro n
 induction n with
 | zero=>intro ts;simp[tell]
 | succ n ih =>
   intro ts
   induction ts with
   | nil=>simp[tell]
   | cons t r ihr =>
     rw[zS];have h1:=ih t.kids;have e:tell (n+1) (t::r)=((if t.text then t.s.data.toList else [])++tell n t.kids)++tell (n+1) r:=by simp[tell]
     rw[e];simp only[List.length_append,qG]
     split
     · omega
     · simp only[List.length_nil];omega
theorem yK (H:Type)(enc:TypeId × Value→H)(W:World)(base:Nat)(args:Array Value)(ds gs:List (DataW H))(before:List MemPlace)
 (hval:∀ (j:Nat) t v,Try.f4.params[j]?=some t→args[j]?=some v→Value.okWide Try.prog W .any base t v)
 (hW:DataW.Whole enc Try.prog Try.f4.params.toList Rows.treeOnceSpec.vars false W args.toList ds gs before) (hk:Rows.uptoSmall H (ds++gs)=true) :
 Calls Try.prog 4 args W fun e W'=>∃ v,e=.returned v∧Rows.treeOnceSpec.post enc Try.prog Try.f4 false true false false W args v W':=by
 have hW':=hW;obtain ⟨p,q,hA0,hV,rfl,hfz,hnd⟩:=hW;have hA:DataW.TrodAll enc Try.prog W 0 (fun _=>true) true Try.f4.params.toList args.toList ds p:=hA0
 rw[Try.params4]at hA hval
 obtain ⟨v0,d0,rfl,rfl,h0⟩:=trodAll_one hA;obtain ⟨rfl,rfl⟩:=trodVars_none hV;obtain ⟨a0,len,cap,rfl⟩:=okWide_slice Try.underlying22 (hval 0 22 v0 rfl rfl);have h0k:=h0;obtain ⟨fuel,hf⟩:=h0;clear hA0;simp only[List.append_nil]at hW' hk
 have hlt:∀ x∈p,x.block<W.heap.size:=fun x hx=>by simpa using hW'.lt x hx
 obtain ⟨v,ts,hv,hT,hwt,hxt⟩:=open_trees fuel hf;simp only[Value.cells,List.cons.injEq,and_true]at hv
 subst hv;have hbulk:Rows.uptoBulkAll [d0]≤1048576:=of_decide_eq_true hk;simp only[Rows.uptoBulkAll]at hbulk
 have hdp:=qa.deep fuel hT;have hw1:wt (fuel+1) ts≤1048576:=by rw[wt_more fuel ts hdp];simp only at hwt;omega
 refine (Qk (fun b=>b<W.heap.size) fuel _ ts W (qa.deeper fuel hT) (wt_small _ ts hw1) (fun b hb=>hb) (Nat.le_trans (wt_cnt _ ts) hw1) (texts_more fuel ts hdp hxt) (Nat.le_trans (wt_tell _ ts) hw1)).mono ?_
 rintro e W' ⟨rfl,hb⟩;refine ⟨_,rfl,_,_,_,[],p,[],hW',?_,?_,rfl,hb.frame _,fun h=>by cases h⟩
 · exact trodAll_mk1 (shut_bool Try.underlying4 true)
 · exact trodAll_mk1 (Below.trod progLaid (by kernel_rfl) (of_decide_eq_true (by kernel_rfl)) h0k hb hlt)
set_option maxRecDepth 100000 in
theorem jO (os:Os)(started:os.Started)(H:Type)(enc:TypeId × Value→H)(F:Stop.Interp) :
 ReturnsInHanded {} Try.checked os 4 .any ((Rows.OpenSpec.upto Rows.treeOnceSpec).pre6 enc Try.prog Try.f4 Rows.treeOnceUptoRow.domain false) (((Rows.OpenSpec.upto Rows.treeOnceSpec).at F).post enc Try.prog Try.f4 false true false false):=by
 refine returnsInHanded_of_cond (C:=Try.checked) (s:=Rows.OpenSpec.upto Rows.treeOnceSpec) (k:=Rows.uptoSmall) rfl progOwn started (by kernel_rfl) Try.func4
  (OpenSpec.witness (enc:=enc) (C:=Try.checked) (s:=Rows.OpenSpec.upto Rows.treeOnceSpec) (k:=Rows.uptoSmall) rfl false ⟨#[],#[.slice none 0 0],[]⟩ 8 (by kernel_rfl) (by kernel_rfl) (by kernel_rfl)
   (x:=([.nil],[],[])) (by kernel_rfl) rfl (by kernel_rfl)) ?_
 intro W base args ds gs before hval hW _ hk _;exact yK H enc W base args ds gs before hval hW hk
theorem once_holds:Rows.TreeOnceUptoSaid :=
 OpenClaim.holds_of_cond 4 Try.f4 rfl rfl rfl rfl rfl rfl rfl ⟨rfl,rfl,rfl,rfl,rfl⟩ rfl rfl rfl rfl rfl (by kernel_rfl) Try.func4 (by kernel_rfl)
  (of_decide_eq_true (by kernel_rfl)) (by unfold Func.isWrapper;first|(rw[if_pos (by decide +kernel)];kernel_rfl)|(rw[if_neg (by decide +kernel)];exact ⟨rfl,rfl⟩))
  (fun os started H enc _ F=>jO os started H enc F)
end Go.Proofs.Ytfdbipeidmpciaa
