/- TreeJoins: for every list of trees, Joined answers exactly what P1.5 says. Condition: what came in is of bulk at most 1048576. -/
import Derived.Test.YtfdbipeidmpciaaJoinR
import Derived.Test.YtfdbipeidmpciaaSameR
import Derived.Test.YtfdbipeidmpciaaTreesL
import Derived.Test.YtfdbipeidmpciaaOpen
import Derived.OpenShut
import Derived.JoinedCond
import Derived.Carry
namespace Go.Proofs.Ytfdbipeidmpciaa
open Go.ChangeShapes Go.WideShapes Go.ChangeAt Go.RowKit
set_option maxRecDepth 100000
theorem xG (S:Nat→Prop)(n:Nat)(v:Value)(ts:List Tr)(w:World)(h:qa S w (n+1) v ts)(hsm:Small (n+1) ts)(hS:∀ b,S b→b<w.heap.size)(hcnt:cnt (n+1) ts≤1048576) :
 Calls Try.prog 3 #[v] w fun e w'=>e=.returned (.bool true)∧Below w.heap.size w w':=by
 obtain ⟨va,vc,rfl,_,_⟩:=qa.shape _ h
 go_enter Try.func3,Try.ntmps3
 go_wp2_with fail;refine (x7 (n+1) S _ ts _ h hsm).mono ?_;rintro e w1 ⟨c1,rfl,hT1,hb1⟩;obtain ⟨ca,cc,rfl,_,_⟩:=qa.shape _ hT1;go_wp2_with fail;refine (qZ _ n _ ts _ (qa.bounded (n+1) hT1) hsm (fun b hb=>hb.2) hcnt).mono ?_
 rintro e w2 ⟨a2,rfl,hT2,hb2⟩;obtain ⟨us,hus⟩:∃ us,(jt ts).map (jk n)=us:=⟨_,rfl⟩;have HU:Hid (jn (n+1) ts=us):=hus;rw[hus]at hT2
 clear hus;obtain ⟨aa,ac,rfl,_,_⟩:=qa.shape _ hT2;have hB2:Below w.heap.size w w2:=hb1.trans (hb2.mono hb1.size);go_wp2_with fail;refine (xF (n+1) S _ ts _ (qa.later hB2 (n+1) h) hsm (fun b hb=>Nat.lt_of_lt_of_le (hS b hb) hB2.size)).mono ?_
 rintro e w3 ⟨a3,rfl,hT3,hb3⟩;rw[HU.out]at hT3
 obtain ⟨ba,bc,rfl,_,_⟩:=qa.shape _ hT3;have hB3:Below w.heap.size w w3:=hB2.trans (hb3.mono hB2.size);go_wp2_with fail;refine (zC (n+1) _ _ _ _ us _ (qa.later hb3 (n+1) hT2) hT3).mono ?_;rintro e w4 ⟨rfl,hb4⟩;have hB4:Below w.heap.size w w4:=hB3.trans (hb4.mono hB3.size);go_wp2_with fail;refine (zC (n+1) _ S _ _ ts _ (qa.later (hb2.trans ((hb3.mono hb2.size).trans (hb4.mono (Nat.le_trans hb2.size hb3.size)))) (n+1) hT1) (qa.later hB4 (n+1) h)).mono ?_;rintro e w5 ⟨rfl,hb5⟩;have hB5:Below w.heap.size w w5:=hB4.trans (hb5.mono hB4.size);go_wp2_with fail;refine (xi _).mono ?_;rintro e w6 ⟨rfl,hb6⟩;go_wp2_with fail;go_ret;exact ⟨rfl,hB5.trans (hb6.mono hB5.size)⟩
theorem yA (H:Type)(enc:TypeId × Value→H)(W:World)(base:Nat)(args:Array Value)(ds gs:List (DataW H))(before:List MemPlace)
 (hval:∀ (j:Nat) t v,Try.f3.params[j]?=some t→args[j]?=some v→Value.okWide Try.prog W .any base t v)
 (hW:DataW.Whole enc Try.prog Try.f3.params.toList Rows.treeJoinsSpec.vars false W args.toList ds gs before) (hk:Rows.uptoSmall H (ds++gs)=true) :
 Calls Try.prog 3 args W fun e W'=>∃ v,e=.returned v∧Rows.treeJoinsSpec.post enc Try.prog Try.f3 false true false false W args v W':=by
 have hW':=hW;obtain ⟨p,q,hA0,hV,rfl,hfz,hnd⟩:=hW;have hA:DataW.TrodAll enc Try.prog W 0 (fun _=>true) true Try.f3.params.toList args.toList ds p:=hA0
 rw[Try.params3]at hA hval
 obtain ⟨v0,d0,rfl,rfl,h0⟩:=trodAll_one hA;obtain ⟨rfl,rfl⟩:=trodVars_none hV;obtain ⟨a0,len,cap,rfl⟩:=okWide_slice Try.underlying22 (hval 0 22 v0 rfl rfl);have h0k:=h0;obtain ⟨fuel,hf⟩:=h0;clear hA0;simp only[List.append_nil]at hW' hk
 have hlt:∀ x∈p,x.block<W.heap.size:=fun x hx=>by simpa using hW'.lt x hx
 obtain ⟨v,ts,hv,hT,hwt,_⟩:=open_trees fuel hf;simp only[Value.cells,List.cons.injEq,and_true]at hv
 subst hv;have hbulk:Rows.uptoBulkAll [d0]≤1048576:=of_decide_eq_true hk;simp only[Rows.uptoBulkAll]at hbulk
 have hdp:=qa.deep fuel hT;have hw1:wt (fuel+1) ts≤1048576:=by rw[wt_more fuel ts hdp];simp only at hwt;omega
 refine (xG (fun b=>b<W.heap.size) fuel _ ts W (qa.deeper fuel hT) (wt_small _ ts hw1) (fun b hb=>hb) (Nat.le_trans (wt_cnt _ ts) hw1)).mono ?_
 rintro e W' ⟨rfl,hb⟩;refine ⟨_,rfl,_,_,_,[],p,[],hW',?_,?_,rfl,hb.frame _,fun h=>by cases h⟩
 · exact trodAll_mk1 (shut_bool Try.underlying4 true)
 · exact trodAll_mk1 (Below.trod progLaid (by kernel_rfl) (of_decide_eq_true (by kernel_rfl)) h0k hb hlt)
set_option maxRecDepth 100000 in
theorem jp (os:Os)(started:os.Started)(H:Type)(enc:TypeId × Value→H)(F:Stop.Interp) :
 ReturnsInHanded {} Try.checked os 3 .any ((Rows.OpenSpec.upto Rows.treeJoinsSpec).pre6 enc Try.prog Try.f3 Rows.treeJoinsUptoRow.domain false) (((Rows.OpenSpec.upto Rows.treeJoinsSpec).at F).post enc Try.prog Try.f3 false true false false):=by
 refine returnsInHanded_of_cond (C:=Try.checked) (s:=Rows.OpenSpec.upto Rows.treeJoinsSpec) (k:=Rows.uptoSmall) rfl progOwn started (by kernel_rfl) Try.func3
  (OpenSpec.witness (enc:=enc) (C:=Try.checked) (s:=Rows.OpenSpec.upto Rows.treeJoinsSpec) (k:=Rows.uptoSmall) rfl false ⟨#[],#[.slice none 0 0],[]⟩ 8 (by kernel_rfl) (by kernel_rfl) (by kernel_rfl)
   (x:=([.nil],[],[])) (by kernel_rfl) rfl (by kernel_rfl)) ?_
 intro W base args ds gs before hval hW _ hk _;exact yA H enc W base args ds gs before hval hW hk
theorem joins_holds:Rows.TreeJoinsUptoSaid :=
 OpenClaim.holds_of_cond 3 Try.f3 rfl rfl rfl rfl rfl rfl rfl ⟨rfl,rfl,rfl,rfl,rfl⟩ rfl rfl rfl rfl rfl (by kernel_rfl) Try.func3 (by kernel_rfl)
  (of_decide_eq_true (by kernel_rfl)) (by unfold Func.isWrapper;first|(rw[if_pos (by decide +kernel)];kernel_rfl)|(rw[if_neg (by decide +kernel)];exact ⟨rfl,rfl⟩))
  (fun os started H enc _ F=>jp os started H enc F)
end Go.Proofs.Ytfdbipeidmpciaa
