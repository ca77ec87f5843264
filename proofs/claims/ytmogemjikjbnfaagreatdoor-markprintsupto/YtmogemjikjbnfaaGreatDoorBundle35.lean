/- MarkPrints: for every tree mark.Print answers as the document says, errors too. Condition: what is handed in holds together at most 1048576 values and letters. -/
import Derived.Test.YtmogemjikjbnfaaGreatDoorBundle28
import Derived.Test.YtmogemjikjbnfaaGreatDoorBundle29
import Derived.Test.YtmogemjikjbnfaaGreatDoorBundle30
import Derived.Test.YtmogemjikjbnfaaGreatDoorBundle32
import Derived.Test.YtmogemjikjbnfaaGreatDoorBundle34
import Derived.Test.YtmogemjikjbnfaaGreatDoorCards
import Derived.Test.YtmogemjikjbnfaaGreatDoorTie
import Derived.OpenShut
import Derived.JoinedOf
import Derived.JoinedAt
import Derived.RowKit3
import Derived.SizedLaws
import Derived.Handed
import Derived.Carry
import Derived.Deep.DeepHandedRow
import Derived.Deep.DeepWitnessRowRef
import Derived.Lay
import Derived.Lib.LaidU8
namespace Go.Proofs.YtmogemjikjbnfaaGreatDoor
open Go.ChangeShapes Go.WideShapes Go.ChangeAt Go.RowKit
set_option maxRecDepth 100000

theorem markPrintsOwn : ownKnob Tryz.prog.godebug = none := by kernel_rfl
theorem markPrintsLaid : laidOutB Tryz.prog = true := by kernel_rfl

theorem markPrints_marks {W : World} (hL : laidMetH Tryz.prog Rows.markPrintsUptoRow.laid W) : Marks W := by
  have h : laidMet Tryz.prog Rows.markPrintsUptoRow.laid W := hL
  obtain ⟨g, t, cs, fuel, p, hg, ht, hv, hd⟩ : Lib.VarReads Tryz.prog W "topiary/mark.marks" Rows.laid_topiary_mark_marks := Lib.laidMet.reads h (by simp [Rows.markPrintsUptoRow])
  exact marks_of_var hg ht hv hd

theorem markPrints_contract (H : Type) (enc : TypeId × Value → H) (W : World) (base : Nat) (args : Array Value) (ds gs : List (DataW H)) (before : List MemPlace)
    (hval : ∀ (j : Nat) t v, Tryz.f3.params[j]? = some t → args[j]? = some v → Value.okWide Tryz.prog W .any base t v)
    (hW : DataW.Whole enc Tryz.prog Tryz.f3.params.toList Rows.markPrintsSpec.vars false W args.toList ds gs before) (hk : Rows.uptoSmall H (ds ++ gs) = true) (hM : Marks W) (hm : MaxL W) :
    Calls Tryz.prog 3 args W fun e W' => ∃ v, e = .returned v ∧ Rows.markPrintsSpec.post enc Tryz.prog Tryz.f3 false true false false W args v W' := by
  have hW' := hW
  obtain ⟨p, q, hA0, hV, rfl, hfz, hnd⟩ := hW
  have hA : DataW.TrodAll enc Tryz.prog W 0 (fun _ => true) true Tryz.f3.params.toList args.toList ds p := hA0
  rw [Tryz.params3] at hA hval
  obtain ⟨v0, vs0, d0, ds0, p0, q0, hargs0, rfl, rfl, h0, r0⟩ := trodAll_cons hA
  obtain ⟨rfl, rfl, rfl⟩ := trodAll_nil r0
  obtain rfl : args = #[v0] := by cases args; simp_all
  obtain ⟨rfl, rfl⟩ := trodVars_none hV
  obtain ⟨c0, rfl, hc0⟩ := okWide_struct Tryz.underlying25 (hval 0 25 v0 rfl rfl)
  rw [treeCellsOf] at hc0
  have h0k := h0
  obtain ⟨f0, hf0⟩ := h0
  clear hA0 hA r0 hargs0 hV
  simp only [List.append_nil] at hW' hk
  have hlt : ∀ x ∈ p0, x.block < W.heap.size := fun x hx => by simpa using hW'.lt x (by simpa using hx)
  obtain ⟨a, va, vk, hv0, hAa, hKa, hwa⟩ := open_tree (by simpa [Value.cells] using hc0) hf0
  have e0 : c0 = #[.bool a.text, .string a.s, va, vk] := by
    have : c0.toList = [.bool a.text, .string a.s, va, vk] := by simpa [Value.cells] using hv0
    cases c0; simp at this; simp [this]
  subst e0
  have hbulk : Rows.uptoBulkAll [d0] ≤ 1048576 := of_decide_eq_true hk
  simp only [Rows.uptoBulkAll] at hbulk
  simp only at hwa
  have w1 : wt (f0 + 1) [a] ≤ 1048576 := by omega
  obtain ⟨_, _, hs2⟩ := wt_small _ _ w1
  obtain ⟨hal, _, hsk⟩ := hs2 a List.mem_cons_self
  refine (markPrints_any (fun b => b < W.heap.size) f0 va vk a W hAa hKa hM hm (wt_tex _ _ w1) (Nat.le_trans (wt_cnt _ _) w1) hal hsk).mono ?_
  rintro e W' ⟨rfl, hb⟩
  refine ⟨_, rfl, _, _, _, [], p0 ++ [], [], hW', ?_, ?_, rfl, hb.frame _, fun h => by cases h⟩
  · exact trodAll_mk1 (shut_bool Tryz.underlying4 true)
  · exact trodAll_cons_mk (Below.trod markPrintsLaid (by kernel_rfl) (of_decide_eq_true (by kernel_rfl)) h0k hb (fun x hx => hlt x (by simp [hx]))) trodAll_mk0

noncomputable def markPrintsWorld (os : Os) : World := World.laidAll Tryz.prog os Rows.markPrintsUptoRow.laid

def noTreeM : Value := .agg #[.bool false, .string ⟨#[]⟩, .slice none 0 0, .slice none 0 0]

theorem markPrints_met (os : Os) : laidMet Tryz.prog Rows.markPrintsUptoRow.laid ((markPrintsWorld os).forCall (fun _ _ => 0) ⟨#[], #[noTreeM], []⟩).memory :=
  laidMet_laidAll _ (by kernel_rfl) (by kernel_rfl)
theorem markPrints_reads (os : Os) {H : Type} (enc : TypeId × Value → H) : ∃ places, DataW.whole enc Tryz.prog ((markPrintsWorld os).forCall (fun _ _ => 0) ⟨#[], #[noTreeM], []⟩).memory Tryz.f3.params.toList Rows.markPrintsSpec.vars false #[noTreeM].toList 8 =
    some ([.agg [.lit (.bool false), .lit (.string []), .nil, .nil]], [], places) :=
  ⟨[], by kernel_rfl⟩

theorem markPrints_lifted (os : Os) (started : os.Started) (H : Type) (enc : TypeId × Value → H) (F : Stop.Interp) :
    ReturnsInHanded {} Tryz.checked os 3 .any ((Rows.OpenSpec.upto Rows.markPrintsSpec).preRow enc Tryz.prog Tryz.f3 Rows.markPrintsUptoRow.domain false Rows.markPrintsUptoRow.laid) (((Rows.OpenSpec.upto Rows.markPrintsSpec).at F).post enc Tryz.prog Tryz.f3 false true false false) := by
  obtain ⟨places, hx⟩ := markPrints_reads os enc
  refine returnsInHanded_of_row (C := Tryz.checked) (s := Rows.OpenSpec.upto Rows.markPrintsSpec) markPrintsOwn started (by kernel_rfl) Tryz.func3
    (witness_row_atRef (enc := enc) (C := Tryz.checked) false (markPrintsWorld os) #[noTreeM] rfl (by kernel_rfl) (by kernel_rfl) (by kernel_rfl)
      (OpenSpec.preRow_of_cond 8 hx (by kernel_rfl) (fun k hk => by cases hk; kernel_rfl) (by kernel_rfl) (markPrints_met os))) ?_
  intro W base args ds gs before hval hW _ hcond _ hL hS _
  exact markPrints_contract H enc W base args ds gs before hval hW (hcond _ rfl) (markPrints_marks hL) (Tryz.laysM155.s1_3 W hS)

theorem markPrints_said : Rows.MarkPrintsUptoSaid :=
  OpenClaim.holds_of_cond 3 Tryz.f3 rfl rfl rfl rfl rfl rfl rfl ⟨rfl, rfl, rfl, rfl, rfl⟩ rfl rfl rfl rfl rfl (by kernel_rfl) Tryz.func3 markPrints_closed
    (of_decide_eq_true (by kernel_rfl)) (by unfold Func.isWrapper; first | (rw [if_pos (by decide +kernel)]; kernel_rfl) | (rw [if_neg (by decide +kernel)]; exact ⟨rfl, rfl⟩))
    (fun os started H enc _ F => by rw [OpenClaim.pre_eq_preRow]; exact markPrints_lifted os started H enc F)

theorem markPrints_plain (f : FuncId) (fn : Func) (hf : Tryz.pinned.checked.prog.funcNamed "topiary/topiarylaw.MarkPrints" = some f) (hfn : Tryz.pinned.checked.prog.funcs[f]? = some fn) :
    false = Tryz.pinned.checked.prog.looks [] ∧ ∀ (j : Nat) t, fn.params[j]? = some t → Tryz.pinned.checked.prog.wantsStandIn t = false := by
  obtain rfl : f = 3 := Option.some.inj ((show Tryz.prog.funcNamed "topiary/topiarylaw.MarkPrints" = some 3 by kernel_rfl).symm.trans hf) |>.symm
  obtain rfl : fn = Tryz.f3 := (Option.some.inj (Tryz.func3.symm.trans hfn)).symm
  refine ⟨by kernel_rfl, fun j t ht => ?_⟩
  rw [Tryz.params3] at ht
  have hm : t = 25 := by simpa using Array.mem_of_getElem? ht
  subst hm
  exact (show Tryz.prog.wantsStandIn 25 = false by kernel_rfl)

theorem markPrints_holds : Rows.MarkPrintsUptoCardSaid :=
  Claim7.holds_tied_plain_at .later [] _ _ _ _ markPrints_said (fun _ h => by cases h) (by kernel_rfl) (fun _ h => by cases h) markPrintsUpto_row_tie rfl ⟨rfl, rfl⟩ (by kernel_rfl) rfl markPrints_plain (by kernel_rfl)
end Go.Proofs.YtmogemjikjbnfaaGreatDoor

