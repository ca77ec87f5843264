/- Bundled: Math JoinT. What each says stands ahead of it. -/
import Derived.Test.YtfdbipeidmpciabDoorBundle01
import Derived.Test.YtfdbipeidmpciabDoorBundle03
/- Joined lists of trees as plain functions, and what holds of them. No condition. -/
namespace Go.Proofs.YtfdbipeidmpciabDoor
theorem xl (s:ByteArray):s.size=s.data.toList.length:=by rw[Array.length_toList];rfl
end Go.Proofs.YtfdbipeidmpciabDoor
namespace Go.Proofs.YtfdbipeidmpciabDoor
open Go.ChangeShapes Go.WideShapes Go.ChangeAt Go.RowKit
set_option maxRecDepth 100000
section
theorem qA {w w':World}{B:Nat}{e:TypeId}{size:Nat}{v:Value}{k:Nat}{xs:List Value}(h:w.ownsRow B e size v k xs)(hb:Below w.heap.size w w'):w'.ownsRow B e size v k xs:=by
 obtain ⟨h1,h2⟩:=h;refine ⟨h1,?_⟩
 rcases h2 with h2|⟨g,cap,cur,hv,hg,hh,r⟩
 · exact Or.inl h2
 · refine Or.inr ⟨g, cap, cur, hv, hg, ?_, r⟩;rw[hb.block g ?_]
   · exact hh
   · rcases Nat.lt_or_ge g w.heap.size with h' | h'
     · exact h'
     · simp[Array.getElem?_eq_none h']at hh
theorem yQ {w w':World}{B:Nat}{e:TypeId}{size:Nat}{v:Value}{k:Nat}{xs:List Value}(h:w.ownsRow B e size v k xs)(hb:∀ g,v.ownBlock=some g→w'.heap[g]?=w.heap[g]?):w'.ownsRow B e size v k xs:=by
 obtain ⟨h1,h2⟩:=h;refine ⟨h1,?_⟩
 rcases h2 with h2|⟨g,cap,cur,rfl,hg,hh,r⟩
 · exact Or.inl h2
 · exact Or.inr ⟨g,cap,cur,rfl,hg,by rw[hb g rfl];exact hh,r⟩
theorem treeInfo:(Tryd.prog.info? 50).map (fun i=>(i.zero,i.size,i.bytes))=some (some (.agg #[.bool false,.string ⟨#[]⟩,.slice none 0 0,.slice none 0 0]),4,72):=by kernel_rfl
theorem jf (w:World)(a b c d:Value)(e:TypeId):∀ (j:Nat)(u:Value),([a,b,c,d]:List Value)[j]?=some u→(w.alloc (.cells #[a,b,c,d] e)).cell? ((⟨w.heap.size,0,none⟩:Addr).add j)=some u:=by
 intro j u hj
 match j,hj with
 | 0,hj|1,hj|2,hj|3,hj=>simp at hj;subst hj;simp[Addr.add]
attribute [local go_sem] qc
end
end Go.Proofs.YtfdbipeidmpciabDoor
