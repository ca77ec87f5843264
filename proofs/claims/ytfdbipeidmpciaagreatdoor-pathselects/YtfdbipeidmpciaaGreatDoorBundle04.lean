/- Bundled: Math JoinT. What each says stands ahead of it. -/
import Derived.Test.YtfdbipeidmpciaaGreatDoorBundle01
import Derived.Test.YtfdbipeidmpciaaGreatDoorBundle03
/- Joined lists of trees as plain functions, and what holds of them. No condition. -/
namespace Go.Proofs.YtfdbipeidmpciaaGreatDoor
theorem QM (s:ByteArray):s.size=s.data.toList.length:=by rw[Array.length_toList];rfl
end Go.Proofs.YtfdbipeidmpciaaGreatDoor
namespace Go.Proofs.YtfdbipeidmpciaaGreatDoor
open Go.ChangeShapes Go.WideShapes Go.ChangeAt Go.RowKit
set_option maxRecDepth 100000
section
theorem qA {w w':World}{B:Nat}{e:TypeId}{size:Nat}{v:Value}{k:Nat}{xs:List Value}(h:w.ownsRow B e size v k xs)(hb:Below w.heap.size w w'):w'.ownsRow B e size v k xs:=by
 obtain ⟨h1,h2⟩:=h;refine ⟨h1,?_⟩
 rcases h2 with h2|⟨g,cap,cur,hv,hg,hh,r⟩
 · exact Or.inl h2
 · refine Or.inr ⟨g, cap, cur, hv, hg, ?_, r⟩;rw[hb.block g ?_]
   · exact hh
   · rcases Nat.lt_or_ge g w.heap.size with h' | h'
     · exact h'
     · simp[Array.getElem?_eq_none h']at hh
theorem qN {w w':World}{B:Nat}{e:TypeId}{size:Nat}{v:Value}{k:Nat}{xs:List Value}(h:w.ownsRow B e size v k xs)(hb:∀ g,v.ownBlock=some g→w'.heap[g]?=w.heap[g]?):w'.ownsRow B e size v k xs:=by
 obtain ⟨h1,h2⟩:=h;refine ⟨h1,?_⟩
 rcases h2 with h2|⟨g,cap,cur,rfl,hg,hh,r⟩
 · exact Or.inl h2
 · exact Or.inr ⟨g,cap,cur,rfl,hg,by rw[hb g rfl];exact hh,r⟩
theorem qI {w:World}{B:Nat}{e:TypeId}{size:Nat}{v:Value}{k:Nat}{xs:List Value}(h:w.ownsRow B e size v k xs){g:Nat}(hg:v.ownBlock=some g):qP B e w g:=by
 rcases h.2 with ⟨rfl,_⟩|⟨g',cap,cur,rfl,hb,hh,_⟩
 · cases hg
 · cases hg;exact ⟨hb,_,_,hh⟩
theorem qh.own_later {w w':World}{B:Nat}{e:TypeId}{v:Value}{l:List (ByteArray × ByteArray)}(h:qh (qP B e w) w v l)(hb:Below w.heap.size w w'):qh (qP B e w') w' v l :=
 h.carry fun b hs=>⟨hs.to (nR9 _) (hb.block b hs.lt),hb.block b hs.lt⟩
theorem qm {w:World}{B:Nat}{e e':TypeId}{size:Nat}{v:Value}{k:Nat}{xs:List Value}{b B':Nat}(h:w.ownsRow B e size v k xs)(hs:qP B' e' w b)(hne:e'≠e):some b≠v.ownBlock:=by
 rcases h.2 with ⟨rfl,_⟩|⟨g,cap,cur,rfl,_,hg,_⟩
 · simp[Value.ownBlock]
 · intro hb;simp only[Value.ownBlock,Option.some.injEq]at hb
   subst hb;obtain ⟨_,c,fz,hc⟩:=hs;rw[hg]at hc
   simp only[Option.some.injEq,Obj.cells.injEq]at hc
   exact hne hc.2.1.symm
theorem treeInfo:(Tryz.prog.info? 54).map (fun i=>(i.zero,i.size,i.bytes))=some (some (.agg #[.bool false,.string ⟨#[]⟩,.slice none 0 0,.slice none 0 0]),4,72):=by kernel_rfl
theorem jd (w:World)(a b c d:Value)(e:TypeId):∀ (j:Nat)(u:Value),([a,b,c,d]:List Value)[j]?=some u→(w.alloc (.cells #[a,b,c,d] e)).cell? ((⟨w.heap.size,0,none⟩:Addr).add j)=some u:=by
 intro j u hj
 match j,hj with
 | 0,hj|1,hj|2,hj|3,hj=>simp at hj;subst hj;simp[Addr.add]
attribute [local go_sem] qf
end
end Go.Proofs.YtfdbipeidmpciaaGreatDoor
