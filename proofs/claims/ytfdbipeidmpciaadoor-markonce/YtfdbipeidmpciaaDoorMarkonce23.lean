/- An argument of type api.Tree opened; depths brought to one; what the bound gives. No condition. -/
import Derived.Test.YtfdbipeidmpciaaDoorFive11
import Derived.Test.YtfdbipeidmpciaaDoorFive10
namespace Go.Proofs.YtfdbipeidmpciaaDoor
open Go.ChangeShapes Go.WideShapes Go.ChangeAt Go.RowKit
set_option maxRecDepth 100000
section
section
variable {H : Type} {enc : TypeId × Value → H} {W : World}
theorem JE {fuel:Nat}{cs:List Value}{x:DataW H × List MemPlace}(hl:cs.length=4)(h:DataW.trod enc Tryd.prog W 0 (fun _=>true) true fuel 25 cs=some x) :
 ∃ (t:Tr) (va vk:Value),cs=[.bool t.text,.string t.s,va,vk]∧qe (fun b=>b<W.heap.size) W va t.attrs∧qb (fun b=>b<W.heap.size) W fuel vk t.kids∧wt (fuel+1) [t]≤Rows.uptoBulk x.1:=by
 match cs,hl with
 | [c0, c1, c2, c3], _ =>
   obtain ⟨xs,k,hnk,hx,_,hxl,hf⟩:=DataW.trod_struct Tryd.underlying25 h
   match xs,hxl with
   | [y0, y1, y2, y3], _ =>
     have u0:=hf 0 _ rfl;have u1:=hf 1 _ rfl;have u2:=hf 2 _ rfl;have u3:=hf 3 _ rfl;simp[boolCellsOf,strCellsOf,attrsCellsOf,treesCellsOf]at u0 u1 u2 u3
     obtain ⟨tx,hc0,hy0⟩:=DataW.trod_bool Tryd.underlying4 u0;obtain ⟨s,hc1,hy1,hs⟩:=DataW.trod_string Tryd.underlying9 u1;obtain ⟨va,l,hc2,hA,hAb,hAt⟩:=yA u2;obtain ⟨vk,ks,hc3,hK,hKb,hKt⟩:=open_trees k u3;simp only[List.cons.injEq,and_true]at hc0 hc1 hc2 hc3
     subst hc0 hc1 hc2 hc3;have hdp:=qb.deep k hK;subst hnk;refine ⟨⟨tx,s,l,ks⟩,c2,c3,rfl,hA,qb.deeper k hK,?_⟩;rw[xA];rw[hx,hy0,hy1];simp only[List.map_cons,List.map_nil,Rows.uptoBulk,Rows.uptoBulkAll,jh,wt_more k ks hdp];simp only[wt,List.map_nil,List.sum_nil];omega
theorem xq {fuel:Nat}{cs:List Value}{x:DataW H × List MemPlace}(hl:cs.length=4)(h:DataW.trod enc Tryd.prog W 0 (fun _=>true) true fuel 25 cs=some x) :
 ∃ (t:Tr) (va vk:Value),cs=[.bool t.text,.string t.s,va,vk]∧qe (fun b=>b<W.heap.size) W va t.attrs∧qb (fun b=>b<W.heap.size) W fuel vk t.kids∧TextsN (fuel+1) [t]:=by
 match cs,hl with
 | [c0, c1, c2, c3], _ =>
   obtain ⟨xs,k,hnk,_,_,hxl,hf⟩:=DataW.trod_struct Tryd.underlying25 h
   match xs,hxl with
   | [y0, y1, y2, y3], _ =>
     have u0:=hf 0 _ rfl;have u1:=hf 1 _ rfl;have u2:=hf 2 _ rfl;have u3:=hf 3 _ rfl;simp[boolCellsOf,strCellsOf,attrsCellsOf,treesCellsOf]at u0 u1 u2 u3
     obtain ⟨tx,hc0,_⟩:=DataW.trod_bool Tryd.underlying4 u0;obtain ⟨s,hc1,_,hs⟩:=DataW.trod_string Tryd.underlying9 u1;obtain ⟨va,l,hc2,hA,_,hAt⟩:=yA u2;obtain ⟨vk,ks,hc3,hK,_,hKt⟩:=open_trees k u3;simp only[List.cons.injEq,and_true]at hc0 hc1 hc2 hc3
     subst hc0 hc1 hc2 hc3;have hdp:=qb.deep k hK;subst hnk;refine ⟨⟨tx,s,l,ks⟩,c2,c3,rfl,hA,qb.deeper k hK,?_⟩;intro u hu;simp only[List.mem_singleton]at hu
     subst hu;exact ⟨⟨hs,hAt⟩,texts_more k ks hdp hKt⟩
end
theorem qb.more {S:Nat→Prop}{w:World}{n m:Nat}{v:Value}{ts:List Tr}(h:qb S w n v ts)(hnm:n≤m):qb S w m v ts:=by
 obtain ⟨k,rfl⟩:=Nat.exists_eq_add_of_le hnm;clear hnm
 induction k with
 | zero=>exact h
 | succ k ih=>exact qb.deeper (n+k) ih
theorem wt_tex:∀ (n:Nat) (ts:List Tr),wt n ts≤1048576→TexN n ts:=by
 intro n
 induction n with
 | zero=>intro ts _;trivial
 | succ n ih =>
   intro ts h t ht;have h1:1+t.s.size+(t.attrs.map awt).sum+wt n t.kids≤wt (n+1) ts:=Zl (fun t:Tr=>1+t.s.size+(t.attrs.map awt).sum+wt n t.kids) ht
   refine ⟨by unfold maxLen;omega,fun x hx=>?_,ih t.kids (by omega)⟩
   have h2:=Zl awt hx;have h3:x.1.size+x.2.size≤awt x:=by unfold awt;omega
   constructor<;>(unfold maxLen;omega)
end
end Go.Proofs.YtfdbipeidmpciaaDoor
