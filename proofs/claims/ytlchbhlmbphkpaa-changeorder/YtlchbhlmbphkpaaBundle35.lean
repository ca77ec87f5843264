/- ChangeOrder: all at once: for every document and changes, two that stand beside one another may change places, but for two of one kind at one node. No condition beyond the given row's. -/
import Derived.Test.YtlchbhlmbphkpaaBundle31
import Derived.Test.YtlchbhlmbphkpaaBundle33
import Derived.Test.YtlchbhlmbphkpaaBundle34
import Derived.OpenShut
import Derived.JoinedOf
import Derived.JoinedAt
import Derived.RowKit3
import Derived.SizedLaws
import Derived.Handed
import Derived.Carry
namespace Go.Proofs.Ytlchbhlmbphkpaa
open Go.ChangeShapes Go.WideShapes Go.ChangeAt Go.RowKit
set_option maxRecDepth 100000

theorem opBytesOf : Try.prog.bytesOf 30 = 72 := by kernel_rfl

theorem ops_reach {H : Type} {enc : TypeId × Value → H} {W : World} {fuel : Nat} {a : Option Addr} {n c : Nat} {x : DataW H × List MemPlace} (h : DataW.trod enc Try.prog W 0 (fun _ => true) true fuel 25 [.slice a n c] = some x) (hw : ∀ y ∈ x.1.weights Try.prog 25, y ≤ reachBytes) : n * 72 ≤ reachBytes := by
  rcases DataW.trod_slice Try.underlying25 h with ⟨hc, _⟩ | ⟨a', len, cap, elems, rest, k, _, hc, rfl, _, _, _, hlen, _, _⟩
  · simp at hc; omega
  · simp only [List.cons.injEq, and_true, Value.slice.injEq] at hc
    have := hw ((elems.length + rest.length) * 72) (by
      simp only [DataW.weights, Try.underlying25, opBytesOf, List.length_map]
      exact List.mem_cons_self)
    omega

theorem changeOrder_contract (H : Type) (enc : TypeId × Value → H) (W : World) (base : Nat) (args : Array Value) (ds gs : List (DataW H)) (before : List MemPlace)
    (hval : ∀ (j : Nat) t v, Try.f3.params[j]? = some t → args[j]? = some v → Value.okWide Try.prog W .any base t v)
    (hW : DataW.Whole enc Try.prog Try.f3.params.toList Rows.changeOrderSpec.vars false W args.toList ds gs before)
    (hz : (DataW.weightsEach Try.prog (Try.f3.params.toList ++ Rows.changeOrderSpec.plain.varTypes Try.prog) (ds ++ gs)).all (· ≤ reachBytes) = true) :
    Calls Try.prog 3 args W fun e W' => ∃ v, e = .returned v ∧ Rows.changeOrderSpec.post enc Try.prog Try.f3 false true false false W args v W' := by
  have hW' := hW
  obtain ⟨p, q, hA0, hV, rfl, hfz, hnd⟩ := hW
  have hA : DataW.TrodAll enc Try.prog W 0 (fun _ => true) true Try.f3.params.toList args.toList ds p := hA0
  rw [Try.params3] at hA hval hz
  obtain ⟨v0, vs0, d0, ds0, p0, q0, hargs0, rfl, rfl, h0, r0⟩ := trodAll_cons hA
  obtain ⟨v1, vs1, d1, ds1, p1, q1, hargs1, rfl, rfl, h1, r1⟩ := trodAll_cons r0
  obtain ⟨v2, vs2, d2, ds2, p2, q2, hargs2, rfl, rfl, h2, r2⟩ := trodAll_cons r1
  obtain ⟨rfl, rfl, rfl⟩ := trodAll_nil r2
  subst hargs2 hargs1
  obtain rfl : args = #[v0, v1, v2] := by cases args; simp_all
  obtain ⟨rfl, rfl⟩ := trodVars_none hV
  obtain ⟨c0, rfl, hc0⟩ := okWide_struct Try.underlying24 (hval 0 24 v0 rfl rfl)
  rw [docCellsOf] at hc0
  obtain ⟨a1, len1, cap1, rfl⟩ := okWide_slice Try.underlying25 (hval 1 25 v1 rfl rfl)
  obtain ⟨n2, rfl, rfl, rfl, _⟩ := open_int Try.underlying3 (hval 2 3 v2 rfl rfl) h2
  have h0k := h0
  have h1k := h1
  have h2k := h2
  obtain ⟨f0, hf0⟩ := h0
  obtain ⟨f1, hf1⟩ := h1
  clear hA0 hA r0 r1 r2 hargs0 hV
  simp only [List.append_nil] at hW'
  have hlt0 : ∀ x ∈ p0, x.block < W.heap.size := fun x hx => by simpa using hW'.lt x (by simp [hx])
  have hlt1 : ∀ x ∈ p1, x.block < W.heap.size := fun x hx => by simpa using hW'.lt x (by simp [hx])
  obtain ⟨w0, ns0, hv0, hD0⟩ := open_doc (by simpa [Value.cells] using hc0) hf0 (fun y hy => by
    have := List.all_eq_true.1 hz y (by simp only [DataW.weightsEach, List.cons_append, List.mem_append]; exact Or.inl hy)
    simpa using this)
  have e0 : c0 = #[w0] := by
    have : c0.toList = [w0] := by simpa [Value.cells] using hv0
    cases c0; simp at this; simp [this]
  subst e0
  have hw1 : len1 * 72 ≤ reachBytes := ops_reach (by simpa [Value.cells] using hf1) (fun y hy => by
    have := List.all_eq_true.1 hz y (by simp only [DataW.weightsEach, List.cons_append, List.mem_append]; exact Or.inr (Or.inl hy))
    simpa using this)
  obtain ⟨w1, l1, hv1, hO1, ht1, _⟩ := open_ops hf1
  simp only [Value.cells, List.cons.injEq, and_true] at hv1
  subst hv1
  have hl1 : l1.length = len1 := by
    obtain ⟨_, _, h, _⟩ := hO1.shape
    injection h with _ h _
    exact h.symm
  have hr1 : l1.length * 72 ≤ 140737488351232 := by unfold reachBytes at hw1; omega
  refine (changeOrder_any (fun b => b < W.heap.size) f1 w0 _ ns0 l1 n2 W hD0 hO1 ht1 hr1).mono ?_
  rintro e W' ⟨rfl, hb⟩
  refine ⟨_, rfl, _, _, _, [], p0 ++ (p1 ++ ([] ++ [])), [], hW', ?_, ?_, rfl, hb.frame _, fun h => by cases h⟩
  · exact trodAll_mk1 (shut_bool Try.underlying4 true)
  · exact trodAll_cons_mk (Below.trod progLaid (by kernel_rfl) (of_decide_eq_true (by kernel_rfl)) h0k hb (fun x hx => hlt0 x hx)) (trodAll_cons_mk (Below.trod progLaid (by kernel_rfl) (of_decide_eq_true (by kernel_rfl)) h1k hb (fun x hx => hlt1 x hx)) (trodAll_cons_mk (Below.trod progLaid (by kernel_rfl) (of_decide_eq_true (by kernel_rfl)) h2k hb (fun x hx => by simp at hx)) trodAll_mk0))

theorem changeOrder_lifted (os : Os) (started : os.Started) (H : Type) (enc : TypeId × Value → H) :
    ReturnsInHanded {} Try.checked os 3 .any (Rows.changeOrderSpec.pre6 enc Try.prog Try.f3 Rows.changeOrderRow.domain false) (Rows.changeOrderSpec.post enc Try.prog Try.f3 false true false false) := by
  refine returnsInHanded_of_change_sized (C := Try.checked) progOwn started (by kernel_rfl) Try.func3
    (ChangeSpec.witness6 (enc := enc) (C := Try.checked) false ⟨#[], #[.agg #[.slice none 0 0], .slice none 0 0, .int .i64 0], []⟩ 8 (by kernel_rfl) (by kernel_rfl) (by kernel_rfl) (by kernel_rfl)) ?_
  intro W base args ds gs before hval hW _ hz _
  exact changeOrder_contract H enc W base args ds gs before hval hW hz

theorem changeOrder_holds : Rows.ChangeOrderSaid :=
  OpenClaim.holds_of_wide 3 Try.f3 rfl rfl rfl rfl rfl rfl rfl ⟨rfl, rfl, rfl, rfl, rfl⟩ rfl rfl rfl rfl rfl (by kernel_rfl) Try.func3 (by kernel_rfl)
    (of_decide_eq_true (by kernel_rfl)) (by unfold Func.isWrapper; first | (rw [if_pos (by decide +kernel)]; kernel_rfl) | (rw [if_neg (by decide +kernel)]; exact ⟨rfl, rfl⟩))
    (fun os started H enc _ => changeOrder_lifted os started H enc)
end Go.Proofs.Ytlchbhlmbphkpaa

