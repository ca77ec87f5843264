/- An argument of type api.Tree opened; depths brought to one; what the bound gives. No condition. -/
import Derived.Test.YtfdbipeidmpciaaBundle07
import Derived.Test.YtfdbipeidmpciaaDocback12
namespace Go.Proofs.Ytfdbipeidmpciaa
open Go.ChangeShapes Go.WideShapes Go.ChangeAt Go.RowKit
set_option maxRecDepth 100000
section
section
variable {H : Type} {enc : TypeId × Value → H} {W : World}
theorem QQ {fuel:Nat}{cs:List Value}{x:DataW H × List MemPlace}(hl:cs.length=4)(h:DataW.trod enc Try.prog W 0 (fun _=>true) true fuel 29 cs=some x) :
 ∃ (t:Tr) (va vk:Value),cs=[.bool t.text,.string t.s,va,vk]∧qc (fun b=>b<W.heap.size) W va t.attrs∧qa (fun b=>b<W.heap.size) W fuel vk t.kids∧wt (fuel+1) [t]≤Rows.uptoBulk x.1:=by
 match cs,hl with
 | [c0, c1, c2, c3], _ =>
   obtain ⟨xs,k,hnk,hx,_,hxl,hf⟩:=DataW.trod_struct Try.underlying29 h
   match xs,hxl with
   | [y0, y1, y2, y3], _ =>
     have u0:=hf 0 _ rfl;have u1:=hf 1 _ rfl;have u2:=hf 2 _ rfl;have u3:=hf 3 _ rfl;simp[boolCellsOf,strCellsOf,attrsCellsOf,treesCellsOf]at u0 u1 u2 u3
     obtain ⟨tx,hc0,hy0⟩:=DataW.trod_bool Try.underlying4 u0;obtain ⟨s,hc1,hy1,hs⟩:=DataW.trod_string Try.underlying9 u1;obtain ⟨va,l,hc2,hA,hAb,hAt⟩:=zk u2;obtain ⟨vk,ks,hc3,hK,hKb,hKt⟩:=open_trees k u3;simp only[List.cons.injEq,and_true]at hc0 hc1 hc2 hc3
     subst hc0 hc1 hc2 hc3;have hdp:=qa.deep k hK;subst hnk;refine ⟨⟨tx,s,l,ks⟩,c2,c3,rfl,hA,qa.deeper k hK,?_⟩;rw[zS];rw[hx,hy0,hy1];simp only[List.map_cons,List.map_nil,Rows.uptoBulk,Rows.uptoBulkAll,qG,wt_more k ks hdp];simp only[wt,List.map_nil,List.sum_nil];omega
theorem yf {fuel:Nat}{cs:List Value}{x:DataW H × List MemPlace}(hl:cs.length=4)(h:DataW.trod enc Try.prog W 0 (fun _=>true) true fuel 29 cs=some x) :
 ∃ (t:Tr) (va vk:Value),cs=[.bool t.text,.string t.s,va,vk]∧qc (fun b=>b<W.heap.size) W va t.attrs∧qa (fun b=>b<W.heap.size) W fuel vk t.kids∧TextsN (fuel+1) [t]:=by
 match cs,hl with
 | [c0, c1, c2, c3], _ =>
   obtain ⟨xs,k,hnk,_,_,hxl,hf⟩:=DataW.trod_struct Try.underlying29 h
   match xs,hxl with
   | [y0, y1, y2, y3], _ =>
     have u0:=hf 0 _ rfl;have u1:=hf 1 _ rfl;have u2:=hf 2 _ rfl;have u3:=hf 3 _ rfl;simp[boolCellsOf,strCellsOf,attrsCellsOf,treesCellsOf]at u0 u1 u2 u3
     obtain ⟨tx,hc0,_⟩:=DataW.trod_bool Try.underlying4 u0;obtain ⟨s,hc1,_,hs⟩:=DataW.trod_string Try.underlying9 u1;obtain ⟨va,l,hc2,hA,_,hAt⟩:=zk u2;obtain ⟨vk,ks,hc3,hK,_,hKt⟩:=open_trees k u3;simp only[List.cons.injEq,and_true]at hc0 hc1 hc2 hc3
     subst hc0 hc1 hc2 hc3;have hdp:=qa.deep k hK;subst hnk;refine ⟨⟨tx,s,l,ks⟩,c2,c3,rfl,hA,qa.deeper k hK,?_⟩;intro u hu;simp only[List.mem_singleton]at hu
     subst hu;exact ⟨⟨hs,hAt⟩,texts_more k ks hdp hKt⟩
end
end
end Go.Proofs.Ytfdbipeidmpciaa
