/- Bundled: Clone Own. What each says stands ahead of it. -/
import Derived.Test.YtfplhcicbbhljaaGreatDoorBundle00
import Derived.Test.YtfplhcicbbhljaaGreatDoorChecked
import Derived.Lib.SliceRun
import Derived.Deep.LoopGhost
namespace Go.Proofs.YtfplhcicbbhljaaGreatDoor
open Go.ChangeShapes Go.WideShapes Go.ChangeAt Go.RowKit
set_option maxRecDepth 100000
theorem attrInfo:(Tryz.prog.info? 93).map (fun i=>(i.zero,i.size,i.bytes))=some (some (.agg #[.string ⟨#[]⟩,.string ⟨#[]⟩]),2,32):=by kernel_rfl
theorem ZW (S:Nat→Prop)(v:Value)(l:List (ByteArray × ByteArray))(w:World)(h:qm S w v l)(hl:l.length≤4398046511104) :
 Calls Tryz.prog 46 #[v] w fun e w'=>∃ v',e=.returned v'∧qm (zw w.heap.size 93 w') w' v' l∧Below w.heap.size w w':=by
 obtain ⟨a,cap,rfl,h2,h3,h4⟩:=h;obtain ⟨i0,hi,hz0,hz1,hz2⟩:=info_parts attrInfo;have q27:∀ (w:World) (a:Option Addr) (n c n' c':Nat),(binOp .eql 77 (.slice a n c) (.slice none n' c')).run Tryz.prog w=.ok (.bool a.isNone) w:=fun w a n c n' c'=>Lib.run_eql_slice_nil w _ _ a n c n' c' Tryz.underlying77
 cases a with
 | none =>
   have hn:l=[]:=by
    apply Classical.byContradiction;intro hne
    obtain ⟨b,o,ha,_⟩:=h4 hne;cases ha
   subst hn
   go_enter Tryz.func46,Tryz.ntmps46
   go_wp2;go_ret;exact ⟨_,rfl,⟨none,0,rfl,Nat.le_refl _,Nat.zero_le _,fun hne=>absurd rfl hne⟩,Below.refl _ _⟩
 | some ad =>
   have hcells:∀ j u,(attrCells l)[j]?=some u→w.cell? (ad.add j)=some u:=by
    by_cases hne:l=[]
    · subst hne;intro j u hj;simp[attrCells]at hj
    · obtain ⟨b, o, ha, _, hc⟩ := h4 hne;cases ha;intro j u hj;rw[Addr.add_lit];exact qm.cells hc j u hj
   have A:Hid (∀ j u,(attrCells l)[j]?=some u→w.cell? (ad.add j)=some u):=hcells;clear hcells h4
   go_enter Tryz.func46,Tryz.ntmps46
   go_wp2_with (at_builtin;refine wpList_append_own _ rfl _ _ 77 rfl w.heap.size 93 i0 _ 2 32 Tryz.underlying77 hi hz0 hz1 hz2 rfl (by decide) _ _ _ rfl (World.ownsRow_made w #[] 0 (Nat.le_refl _) (Nat.zero_le _) (by simp)) ad l.length cap (attrCells l) rfl ?qc1 ?qc2 ?qc3 ?qc4 ?qc5 ?qc6 ?_)
   case qc1 => exact zH l
   case qc2 =>
    intro j u hj;exact Lib.cell?_alloc_some _ (A.out j u hj)
   case qc3 => exact QX l
   case qc4 => unfold maxLen;omega
   case qc5 => omega
   case qc6 => simp
   intro v' w1 hown hgrow hnil;go_wp2;go_ret;refine ⟨v',rfl,qm.of_owns (by simpa using hown),?_⟩
   exact ((Below.refl _ w).alloc (Nat.le_refl _) _).grown hgrow (by simp) (by intro k hk;simp[Value.ownBlock]at hk;omega)
section
theorem qfM {W w1:World}(hb:Below W.heap.size W w1):(∀ b o,b<W.heap.size→w1.cell? ⟨b,o,none⟩=W.cell? ⟨b,o,none⟩)∧(∀ b o,b<W.heap.size→w1.frozen? ⟨b,o,none⟩=W.frozen? ⟨b,o,none⟩) :=
 ⟨fun b o h=>hb.cell (p:=⟨b,o,none⟩) h,fun b o h=>hb.frozen (p:=⟨b,o,none⟩) h⟩
theorem qm.shape {S:Nat→Prop}{w:World}{v:Value}{l:List (ByteArray × ByteArray)}(h:qm S w v l):∃ a cap,v=.slice a l.length cap :=
 ⟨_,_,h.choose_spec.choose_spec.1⟩
attribute [local go_sem] qd
theorem ZG (S:Nat→Prop)(tx:Bool)(s:ByteArray)(va:Value)(ka:Option Addr)(kl kc:Nat)(l:List (ByteArray × ByteArray))(w:World)(h:qm S w va l)(hl:l.length≤1048576) :
 Calls Tryz.prog 197 #[.agg #[.bool tx,.string s,va,.slice ka kl kc]] w fun e w'=>∃ va',e=.returned (.agg #[.bool tx,.string s,va',.slice ka kl kc])∧qm (zw w.heap.size 93 w') w' va' l∧Below w.heap.size w w':=by
 obtain ⟨aa,ac,rfl⟩:=h.shape
 go_enter Tryz.func197,Tryz.ntmps197
 go_wp2_with fail;refine (ZW S _ l _ (h.later ?_) (Nat.le_trans hl (by decide))).mono ?_
 · exact (Below.alloc1 w _).alloc (by simp) _
 rintro e w1 ⟨v',rfl,ha,hb⟩;obtain ⟨hc,hf⟩:=qfM hb;have hz:=hb.size;obtain ⟨va,vc,rfl⟩:=ha.shape;simp only[World.size_alloc]at hc hf hz
 have q0:w1.cell? ⟨w.heap.size,0,none⟩=some (.bool tx):=by rw[hc _ _ (by omega)];simp[go_sem]
 have q1:w1.cell? ⟨w.heap.size,1,none⟩=some (.string s):=by rw[hc _ _ (by omega)];simp[go_sem]
 have q2:w1.cell? ⟨w.heap.size,2,none⟩=some (.slice aa l.length ac):=by rw[hc _ _ (by omega)];simp[go_sem]
 have q3:w1.cell? ⟨w.heap.size,3,none⟩=some (.slice ka kl kc):=by rw[hc _ _ (by omega)];simp[go_sem]
 have q4:w1.frozen? ⟨w.heap.size,2,none⟩=false:=by rw[hf _ _ (by omega)];simp[go_sem]
 have r0:w1.cell? ⟨w.heap.size+1,0,none⟩=some (.bool false):=by rw[hc _ _ (by omega)];simp[go_sem]
 have r1:w1.cell? ⟨w.heap.size+1,1,none⟩=some (.string ⟨#[]⟩):=by rw[hc _ _ (by omega)];simp[go_sem]
 have r2:w1.cell? ⟨w.heap.size+1,2,none⟩=some (.slice none 0 0):=by rw[hc _ _ (by omega)];simp[go_sem]
 have r3:w1.cell? ⟨w.heap.size+1,3,none⟩=some (.slice none 0 0):=by rw[hc _ _ (by omega)];simp[go_sem]
 clear hc;go_wp2;refine bodyPost_ret (v:=.agg #[.bool tx,.string s,.slice va l.length vc,.slice ka kl kc]) (by simp[results,Tryz.results197,go_sem,qd,r0,r1,r2,r3,World.cell?_setCell_other]) rfl ⟨_,rfl,?_,?_⟩
 · refine ha.carry fun b hb' => ?_
   have hb0:=hb'.1;simp only[World.size_alloc]at hb0
   have e:∀ x y z u t,(((((w1.setCell ⟨w.heap.size,2,none⟩ x).setCell ⟨w.heap.size+1,0,none⟩ y).setCell ⟨w.heap.size+1,1,none⟩ z).setCell ⟨w.heap.size+1,2,none⟩ u).setCell ⟨w.heap.size+1,3,none⟩ t).heap[b]?=w1.heap[b]?:=by
    intro x y z u t
    repeat rw[Below.heap_setCell _ _ _ _ (by simp only;omega)]
   exact ⟨hb'.to (by simp;omega) (e ..),e ..⟩
 · have h0 : Below w.heap.size w w1 := ((Below.alloc1 w _).alloc (by simp) _).trans (hb.mono (by simp;omega))
   repeat' (refine Below.setCell ?_ ?_ _)
   all_goals first|exact h0|(simp only;omega)
end
end Go.Proofs.YtfplhcicbbhljaaGreatDoor
