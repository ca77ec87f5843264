/- tree.takeLast at the waiting lists of a joiner: the last one, and the rest stays. No condition. -/
import Derived.Test.YtfdbipeidmpciaaJoinT
import Derived.WalkSmall
namespace Go.Proofs.Ytfdbipeidmpciaa
open Go.ChangeShapes Go.WideShapes Go.ChangeAt Go.RowKit
set_option maxRecDepth 100000
structure Jst (B jb:Nat) (w:World) (vs:List Value):Prop where
 base:B≤jb
 held:∃ v,w.heap[jb]?=some (.cells #[v] 53 (0,0))∧w.ownsRow B 22 1 v vs.length vs
 slices:∀ x∈vs,∃ a l c,x=.slice a l c
theorem jw (B jb:Nat)(w:World)(vs:List Value)(x:Value)(h:Jst B jb w (vs++[x])) :
 Calls Try.prog 44 #[.pointer (some ⟨jb,0,none⟩)] w fun e w'=>e=.returned x∧Jst B jb w' vs∧w'.heap.size=w.heap.size∧(∀ b,b≠jb→w'.heap[b]?=w.heap[b]?)∧Below B w w':=by
 obtain ⟨hB,⟨v,hj,hown⟩,hsl⟩:=h;obtain ⟨xa,xl,xc,rfl⟩:=hsl x (by simp)
 rcases hown.2 with ⟨_,h0⟩|⟨g,cap,cur,rfl,hg,hh,hc,hm,hs,ht⟩
 · simp at h0
 have hlen:(vs++[Value.slice xa xl xc]).length=vs.length+1:=by simp
 rw[hlen]at hown hj hc ht
 have c0:w.cell? ⟨jb,0,none⟩=some (.slice (some ⟨g,0,none⟩) (vs.length+1) cap):=by rw[cH9 hj];rfl
 have f0:w.frozen? ⟨jb,0,none⟩=false:=fH9 hj 0
 have cl:w.cell? ⟨g,vs.length,none⟩=some (.slice xa xl xc):=by
  rw[World.ownsRow.cellAt hown vs.length (by omega)];simp
 unfold maxLen at hm
 go_enter Try.func44,Try.ntmps44
 go_wp2_with fail;go_ret
 have hgj:g≠jb:=by
  intro e;subst e;rw[hh]at hj;simp at hj
 have hpop:=ownsRow_pop (by simp) hown
 refine ⟨rfl,⟨hB,⟨_,by simp[World.setCell,Array.getElem?_modify,hj];rfl,?_⟩,fun y hy=>hsl y (by simp[hy])⟩,by simp,fun b hb=>Below.heap_setCell _ _ _ _ hb,(Below.refl B w).setCell hB _⟩
 refine qn hpop fun k hk=>?_
 cases hk;exact Below.heap_setCell _ _ _ _ hgj
end Go.Proofs.Ytfdbipeidmpciaa
