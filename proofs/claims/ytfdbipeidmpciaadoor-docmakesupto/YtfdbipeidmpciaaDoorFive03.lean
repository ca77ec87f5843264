/- Bundled: Clone Own. What each says stands ahead of it. -/
import Derived.Test.YtfdbipeidmpciaaDoorFive00
import Derived.Test.YtfdbipeidmpciaaDoorChecked
import Derived.Lib.SliceRun
import Derived.Deep.LoopGhost
namespace Go.Proofs.YtfdbipeidmpciaaDoor
open Go.ChangeShapes Go.WideShapes Go.ChangeAt Go.RowKit
set_option maxRecDepth 100000
theorem attrInfo:(Tryd.prog.info? 69).map (fun i=>(i.zero,i.size,i.bytes))=some (some (.agg #[.string ⟨#[]⟩,.string ⟨#[]⟩]),2,32):=by kernel_rfl
theorem Qv (S:Nat→Prop)(v:Value)(l:List (ByteArray × ByteArray))(w:World)(h:qe S w v l)(hl:l.length≤4398046511104) :
 Calls Tryd.prog 102 #[v] w fun e w'=>∃ v',e=.returned v'∧qe (qY w.heap.size 69 w') w' v' l∧Below w.heap.size w w':=by
 obtain ⟨a,cap,rfl,h2,h3,h4⟩:=h;obtain ⟨i0,hi,hz0,hz1,hz2⟩:=info_parts attrInfo;have q27:∀ (w:World) (a:Option Addr) (n c n' c':Nat),(binOp .eql 22 (.slice a n c) (.slice none n' c')).run Tryd.prog w=.ok (.bool a.isNone) w:=fun w a n c n' c'=>Lib.run_eql_slice_nil w _ _ a n c n' c' Tryd.underlying22
 cases a with
 | none =>
   have hn:l=[]:=by
    apply Classical.byContradiction;intro hne
    obtain ⟨b,o,ha,_⟩:=h4 hne;cases ha
   subst hn
   go_enter Tryd.func102,Tryd.ntmps102
   go_wp2;go_ret;exact ⟨_,rfl,⟨none,0,rfl,Nat.le_refl _,Nat.zero_le _,fun hne=>absurd rfl hne⟩,Below.refl _ _⟩
 | some ad =>
   have hcells:∀ j u,(attrCells l)[j]?=some u→w.cell? (ad.add j)=some u:=by
    by_cases hne:l=[]
    · subst hne;intro j u hj;simp[attrCells]at hj
    · obtain ⟨b, o, ha, _, hc⟩ := h4 hne;cases ha;intro j u hj;rw[Addr.add_lit];exact qe.cells hc j u hj
   have A:Hid (∀ j u,(attrCells l)[j]?=some u→w.cell? (ad.add j)=some u):=hcells;clear hcells h4
   go_enter Tryd.func102,Tryd.ntmps102
   go_wp2_with (at_builtin;refine wpList_append_own _ rfl _ _ 22 rfl w.heap.size 69 i0 _ 2 32 Tryd.underlying22 hi hz0 hz1 hz2 rfl (by decide) _ _ _ rfl (World.ownsRow_made w #[] 0 (Nat.le_refl _) (Nat.zero_le _) (by simp)) ad l.length cap (attrCells l) rfl ?qc1 ?qc2 ?qc3 ?qc4 ?qc5 ?qc6 ?_)
   case qc1 => exact qL l
   case qc2 =>
    intro j u hj;exact Lib.cell?_alloc_some _ (A.out j u hj)
   case qc3 => exact yb l
   case qc4 => unfold maxLen;omega
   case qc5 => omega
   case qc6 => simp
   intro v' w1 hown hgrow hnil;go_wp2;go_ret;refine ⟨v',rfl,qe.of_owns (by simpa using hown),?_⟩
   exact ((Below.refl _ w).alloc (Nat.le_refl _) _).grown hgrow (by simp) (by intro k hk;simp[Value.ownBlock]at hk;omega)
section
theorem qe.shape {S:Nat→Prop}{w:World}{v:Value}{l:List (ByteArray × ByteArray)}(h:qe S w v l):∃ a cap,v=.slice a l.length cap :=
 ⟨_,_,h.choose_spec.choose_spec.1⟩
attribute [local go_sem] qg
end
end Go.Proofs.YtfdbipeidmpciaaDoor
