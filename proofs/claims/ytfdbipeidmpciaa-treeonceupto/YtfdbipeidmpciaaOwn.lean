/- tree.withOwnAttrs: the tree with its attributes in new memory. Condition: at most 2^20 attributes. -/
import Derived.Test.YtfdbipeidmpciaaClone
namespace Go.Proofs.Ytfdbipeidmpciaa
open Go.ChangeShapes Go.WideShapes Go.ChangeAt Go.RowKit
set_option maxRecDepth 100000
theorem QK {W w1:World}(hb:Below W.heap.size W w1):(∀ b o,b<W.heap.size→w1.cell? ⟨b,o,none⟩=W.cell? ⟨b,o,none⟩)∧(∀ b o,b<W.heap.size→w1.frozen? ⟨b,o,none⟩=W.frozen? ⟨b,o,none⟩) :=
 ⟨fun b o h=>hb.cell (p:=⟨b,o,none⟩) h,fun b o h=>hb.frozen (p:=⟨b,o,none⟩) h⟩
theorem qc.shape {S:Nat→Prop}{w:World}{v:Value}{l:List (ByteArray × ByteArray)}(h:qc S w v l):∃ a cap,v=.slice a l.length cap :=
 ⟨_,_,h.choose_spec.choose_spec.1⟩
attribute [local go_sem] qe
theorem zQ (S:Nat→Prop)(tx:Bool)(s:ByteArray)(va:Value)(ka:Option Addr)(kl kc:Nat)(l:List (ByteArray × ByteArray))(w:World)(h:qc S w va l)(hl:l.length≤1048576) :
 Calls Try.prog 41 #[.agg #[.bool tx,.string s,va,.slice ka kl kc]] w fun e w'=>∃ va',e=.returned (.agg #[.bool tx,.string s,va',.slice ka kl kc])∧qc (qy w.heap.size 65 w') w' va' l∧Below w.heap.size w w':=by
 obtain ⟨aa,ac,rfl⟩:=h.shape
 go_enter Try.func41,Try.ntmps41
 go_wp2_with fail;refine (zV S _ l _ (h.later ?_) (Nat.le_trans hl (by decide))).mono ?_
 · exact (Below.alloc1 w _).alloc (by simp) _
 rintro e w1 ⟨v',rfl,ha,hb⟩;obtain ⟨hc,hf⟩:=QK hb;have hz:=hb.size;obtain ⟨va,vc,rfl⟩:=ha.shape;simp only[World.size_alloc]at hc hf hz
 have q0:w1.cell? ⟨w.heap.size,0,none⟩=some (.bool tx):=by rw[hc _ _ (by omega)];simp[go_sem]
 have q1:w1.cell? ⟨w.heap.size,1,none⟩=some (.string s):=by rw[hc _ _ (by omega)];simp[go_sem]
 have q2:w1.cell? ⟨w.heap.size,2,none⟩=some (.slice aa l.length ac):=by rw[hc _ _ (by omega)];simp[go_sem]
 have q3:w1.cell? ⟨w.heap.size,3,none⟩=some (.slice ka kl kc):=by rw[hc _ _ (by omega)];simp[go_sem]
 have q4:w1.frozen? ⟨w.heap.size,2,none⟩=false:=by rw[hf _ _ (by omega)];simp[go_sem]
 have r0:w1.cell? ⟨w.heap.size+1,0,none⟩=some (.bool false):=by rw[hc _ _ (by omega)];simp[go_sem]
 have r1:w1.cell? ⟨w.heap.size+1,1,none⟩=some (.string ⟨#[]⟩):=by rw[hc _ _ (by omega)];simp[go_sem]
 have r2:w1.cell? ⟨w.heap.size+1,2,none⟩=some (.slice none 0 0):=by rw[hc _ _ (by omega)];simp[go_sem]
 have r3:w1.cell? ⟨w.heap.size+1,3,none⟩=some (.slice none 0 0):=by rw[hc _ _ (by omega)];simp[go_sem]
 clear hc;go_wp2;refine bodyPost_ret (v:=.agg #[.bool tx,.string s,.slice va l.length vc,.slice ka kl kc]) (by simp[results,Try.results41,go_sem,qe,r0,r1,r2,r3,World.cell?_setCell_other]) rfl ⟨_,rfl,?_,?_⟩
 · refine ha.carry fun b hb' => ?_
   have hb0:=hb'.1;simp only[World.size_alloc]at hb0
   have e:∀ x y z u t,(((((w1.setCell ⟨w.heap.size,2,none⟩ x).setCell ⟨w.heap.size+1,0,none⟩ y).setCell ⟨w.heap.size+1,1,none⟩ z).setCell ⟨w.heap.size+1,2,none⟩ u).setCell ⟨w.heap.size+1,3,none⟩ t).heap[b]?=w1.heap[b]?:=by
    intro x y z u t
    repeat rw[Below.heap_setCell _ _ _ _ (by simp only;omega)]
   exact ⟨hb'.to (by simp;omega) (e ..),e ..⟩
 · have h0 : Below w.heap.size w w1 := ((Below.alloc1 w _).alloc (by simp) _).trans (hb.mono (by simp;omega))
   repeat' (refine Below.setCell ?_ ?_ _)
   all_goals first|exact h0|(simp only;omega)
end Go.Proofs.Ytfdbipeidmpciaa
