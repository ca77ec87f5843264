/- Bundled: One Math JoinT. What each says stands ahead of it. -/
import Derived.Test.YtfdbipeidmpciaaDoorFive03
import Derived.Test.YtfdbipeidmpciaaDoorFive02
import Derived.Test.YtfdbipeidmpciaaDoorFive01
namespace Go.Proofs.YtfdbipeidmpciaaDoor
open Go.ChangeShapes Go.WideShapes Go.ChangeAt Go.RowKit
set_option maxRecDepth 100000
section
def catL:List Tr→List UInt8
 | []=>[]
 | t::r=>t.s.data.toList++catL r
attribute [local go_sem] qg
end
end Go.Proofs.YtfdbipeidmpciaaDoor
/- Joined lists of trees as plain functions, and what holds of them. No condition. -/
namespace Go.Proofs.YtfdbipeidmpciaaDoor
theorem jh (s:ByteArray):s.size=s.data.toList.length:=by rw[Array.length_toList];rfl
def Small:Nat→List Tr→Prop
 | 0,_=>True
 | n+1,ts=>ts.length≤1048576∧(catL ts).length≤1099511627776∧∀ t∈ts,t.attrs.length≤1048576∧t.s.size≤1099511627776∧Small n t.kids
end Go.Proofs.YtfdbipeidmpciaaDoor
namespace Go.Proofs.YtfdbipeidmpciaaDoor
open Go.ChangeShapes Go.WideShapes Go.ChangeAt Go.RowKit
set_option maxRecDepth 100000
section
theorem qq {w w':World}{B:Nat}{e:TypeId}{size:Nat}{v:Value}{k:Nat}{xs:List Value}(h:w.ownsRow B e size v k xs)(hb:Below w.heap.size w w'):w'.ownsRow B e size v k xs:=by
 obtain ⟨h1,h2⟩:=h;refine ⟨h1,?_⟩
 rcases h2 with h2|⟨g,cap,cur,hv,hg,hh,r⟩
 · exact Or.inl h2
 · refine Or.inr ⟨g, cap, cur, hv, hg, ?_, r⟩;rw[hb.block g ?_]
   · exact hh
   · rcases Nat.lt_or_ge g w.heap.size with h' | h'
     · exact h'
     · simp[Array.getElem?_eq_none h']at hh
theorem qo {w w':World}{B:Nat}{e:TypeId}{size:Nat}{v:Value}{k:Nat}{xs:List Value}(h:w.ownsRow B e size v k xs)(hb:∀ g,v.ownBlock=some g→w'.heap[g]?=w.heap[g]?):w'.ownsRow B e size v k xs:=by
 obtain ⟨h1,h2⟩:=h;refine ⟨h1,?_⟩
 rcases h2 with h2|⟨g,cap,cur,rfl,hg,hh,r⟩
 · exact Or.inl h2
 · exact Or.inr ⟨g,cap,cur,rfl,hg,by rw[hb g rfl];exact hh,r⟩
theorem qI {w:World}{B:Nat}{e:TypeId}{size:Nat}{v:Value}{k:Nat}{xs:List Value}(h:w.ownsRow B e size v k xs){g:Nat}(hg:v.ownBlock=some g):qY B e w g:=by
 rcases h.2 with ⟨rfl,_⟩|⟨g',cap,cur,rfl,hb,hh,_⟩
 · cases hg
 · cases hg;exact ⟨hb,_,_,hh⟩
theorem qe.own_later {w w':World}{B:Nat}{e:TypeId}{v:Value}{l:List (ByteArray × ByteArray)}(h:qe (qY B e w) w v l)(hb:Below w.heap.size w w'):qe (qY B e w') w' v l :=
 h.carry fun b hs=>⟨hs.to (nR9 _) (hb.block b hs.lt),hb.block b hs.lt⟩
theorem qv {w:World}{B:Nat}{e e':TypeId}{size:Nat}{v:Value}{k:Nat}{xs:List Value}{b B':Nat}(h:w.ownsRow B e size v k xs)(hs:qY B' e' w b)(hne:e'≠e):some b≠v.ownBlock:=by
 rcases h.2 with ⟨rfl,_⟩|⟨g,cap,cur,rfl,_,hg,_⟩
 · simp[Value.ownBlock]
 · intro hb;simp only[Value.ownBlock,Option.some.injEq]at hb
   subst hb;obtain ⟨_,c,fz,hc⟩:=hs;rw[hg]at hc
   simp only[Option.some.injEq,Obj.cells.injEq]at hc
   exact hne hc.2.1.symm
theorem treeInfo:(Tryd.prog.info? 25).map (fun i=>(i.zero,i.size,i.bytes))=some (some (.agg #[.bool false,.string ⟨#[]⟩,.slice none 0 0,.slice none 0 0]),4,72):=by kernel_rfl
theorem yW (w:World)(a b c d:Value)(e:TypeId):∀ (j:Nat) (u:Value),([a,b,c,d]:List Value)[j]?=some u→(w.alloc (.cells #[a,b,c,d] e)).cell? ((⟨w.heap.size,0,none⟩:Addr).add j)=some u:=by
 intro j u hj
 match j,hj with
 | 0,hj|1,hj|2,hj|3,hj=>simp at hj;subst hj;simp[Addr.add]
attribute [local go_sem] qg
end
end Go.Proofs.YtfdbipeidmpciaaDoor
