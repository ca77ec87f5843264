/- Bundled: RefPrint MarkPrL. What each says stands ahead of it. -/
import Derived.Test.YtmogemjikjbnfaaGreatDoorBundle14
import Derived.Test.YtmogemjikjbnfaaGreatDoorBundle20
import Derived.Test.YtmogemjikjbnfaaGreatDoorBundle27
import Derived.Test.YtmogemjikjbnfaaGreatDoorBundle06
/- topiaryref.PrintTree and topiarylaw.marks. Condition: at most 2^20 trees, texts of at most 2^20 letters; the variables hold what they are laid with. -/
namespace Go.Proofs.YtmogemjikjbnfaaGreatDoor
open Go.ChangeShapes Go.WideShapes Go.ChangeAt Go.RowKit
set_option maxRecDepth 100000

set_option maxHeartbeats 1000000 in
theorem printTreeR_any (S : Nat → Prop) (n : Nat) (va vk : Value) (t : Tr) (w : World) (hA : Attrs S w va t.attrs) (hK : Trees S w n vk t.kids) (hm : MaxL w) (hc : cnt (n + 1) [t] ≤ 1048576) (hx : TexN (n + 1) [t]) :
    Calls Tryz.prog 6 #[.agg #[.bool t.text, .string t.s, va, vk]] w fun e w' => e = .returned (.tuple #[.string (printR n t).1, .int .i64 (printR n t).2]) ∧ Below w.heap.size w w' := by
  obtain ⟨aa, ac, rfl⟩ := hA.shape
  obtain ⟨ka, kc, rfl, _, _⟩ := Trees.shape n hK
  have hX1 := Box4.start w (.bool t.text) (.string t.s) (.slice aa t.attrs.length ac) (.slice ka t.kids.length kc) 25
  have hb1 := Below.alloc1 w (.cells #[.bool t.text, .string t.s, .slice aa t.attrs.length ac, .slice ka t.kids.length kc] 25)
  have HG : Hid (∀ W, Below w.heap.size w W → Calls Tryz.prog 11 #[.agg #[.bool t.text, .string t.s, .slice aa t.attrs.length ac, .slice ka t.kids.length kc]] W fun e w' => e = .returned (.bool (goodB t)) ∧ Below W.heap.size W w') :=
    fun W hW => isTree_any S n _ _ t W (hA.later hW) (Trees.later hW n hK) hc hx
  have HP : Hid (goodB t = true → ∀ W, Below w.heap.size w W → Calls Tryz.prog 12 #[.agg #[.bool t.text, .string t.s, .slice aa t.attrs.length ac, .slice ka t.kids.length kc]] W fun e w' => e = .returned (.string ⟨(oneP (showL n t.kids) t).toArray⟩) ∧ Below W.heap.size W w') :=
    fun hg W hW => shownR_any n S _ _ t W (hA.later hW) (Trees.later hW n hK) (hm.later hW) (good_short (Trees.deep n hK) hg)
  have HSH : Hid (goodB t = true → (oneP (showL n t.kids) t).length ≤ 88000) := fun hg => good_short (Trees.deep n hK) hg
  have HR : Hid (printR n t = if goodB t then (if 2500 < (oneP (showL n t.kids) t).length then (⟨#[]⟩, 2) else (⟨(oneP (showL n t.kids) t).toArray⟩, 0)) else (⟨#[]⟩, 1)) := rfl
  clear hA hK hm hx hc
  obtain ⟨L, hL⟩ : ∃ L, oneP (showL n t.kids) t = L := ⟨_, rfl⟩
  obtain ⟨q, hq⟩ : ∃ q, goodB t = q := ⟨_, rfl⟩
  rw [hL] at HP HSH HR
  rw [hq] at HG HP HSH HR
  clear hL hq
  go_enter Tryz.func6, Tryz.ntmps6
  go_wp2_with fail
  generalize w.alloc (.cells #[.bool t.text, .string t.s, .slice aa t.attrs.length ac, .slice ka t.kids.length kc] 25) = W1 at hb1 hX1 ⊢
  refine (Calls.mono (HG.out _ hb1) ?_)
  rintro e w2 ⟨rfl, hb2⟩
  have hX2 := hX1.later hb2 hX1.lt
  have hB2 : Below w.heap.size w w2 := hb1.trans (hb2.mono hb1.size)
  have f0 := hX2.at0
  have f1 := hX2.at1
  have f2 := hX2.at2
  have f3 := hX2.at3
  clear hX1 hX2 hb1 hb2 HG
  cases q with
  | false =>
    go_wp2_with fail
    go_ret2
    exact ⟨by rw [HR.out]; rfl, hB2⟩
  | true =>
    have HP2 := HP.out rfl
    have HP3 : Hid _ := HP2
    have hl88 : L.length ≤ 88000 := HSH.out rfl
    clear HP HP2 HSH
    go_wp2_with fail
    refine (Calls.mono (HP3.out _ hB2) ?_)
    rintro e w3 ⟨rfl, hb3⟩
    have hB3 : Below w.heap.size w w3 := hB2.trans (hb3.mono hB2.size)
    have hsz : (ByteArray.mk L.toArray).size = L.length := by simp [ByteArray.size]
    by_cases hlong : 2500 < L.length
    · have HE : Hid (printR n t = (⟨#[]⟩, 2)) := by show _ = _; rw [HR.out]; simp [hlong]
      have hi : (2500 : Int) < (L.length : Int) := by omega
      clear HR
      go_wp2_with fail
      go_ret2
      exact ⟨by rw [HE.out]; rfl, hB3⟩
    · have HE : Hid (printR n t = (⟨L.toArray⟩, 0)) := by show _ = _; rw [HR.out]; simp [hlong]
      have hi : ¬ (2500 : Int) < (L.length : Int) := by omega
      clear HR hlong
      go_wp2_with fail
      go_ret2
      exact ⟨by rw [HE.out]; rfl, hB3⟩
end Go.Proofs.YtmogemjikjbnfaaGreatDoor

/- MarkPrints: for every tree mark.Print answers as the document's own PrintTree does: the walk. Condition: at most 2^20 trees, letters, attributes; the variables hold what they are laid with. -/
namespace Go.Proofs.YtmogemjikjbnfaaGreatDoor
open Go.ChangeShapes Go.WideShapes Go.ChangeAt Go.RowKit
set_option maxRecDepth 100000

attribute [local go_sem] cell_set

theorem tex_textsM : ∀ (n : Nat) {ts : List Tr}, TexN n ts → TextsN n ts
  | 0, _, _ => trivial
  | n + 1, _, h => fun t ht => ⟨⟨(h t ht).1, (h t ht).2.1⟩, tex_textsM n (h t ht).2.2⟩

set_option maxHeartbeats 2000000 in
theorem markPrints_any (S : Nat → Prop) (n : Nat) (va vk : Value) (t : Tr) (w : World) (hA : Attrs S w va t.attrs) (hK : Trees S w n vk t.kids) (hM : Marks w) (hm : MaxL w) (hx : TexN (n + 1) [t]) (hc : cnt (n + 1) [t] ≤ 1048576) (hal : t.attrs.length ≤ 1048576) (hsk : Small n t.kids) :
    Calls Tryz.prog 3 #[.agg #[.bool t.text, .string t.s, va, vk]] w fun e w' => e = .returned (.bool true) ∧ Below w.heap.size w w' := by
  obtain ⟨aa, ac, rfl⟩ := hA.shape
  obtain ⟨ka, kc, rfl, _, _⟩ := Trees.shape n hK
  have hb1 := Below.alloc1 w (.cells #[.bool t.text, .string t.s, .slice aa t.attrs.length ac, .slice ka t.kids.length kc] 25)
  have HX1 : Hid _ := heap_alloc_new w (.cells #[.bool t.text, .string t.s, .slice aa t.attrs.length ac, .slice ka t.kids.length kc] 25)
  have HCT : Hid _ := copyTree_of n (copy_any n) S _ _ t _ (hA.later hb1) (Trees.later hb1 n hK) hal hsk
  have HP2 : Hid (∀ W, Below w.heap.size w W → Calls Tryz.prog 6 #[.agg #[.bool t.text, .string t.s, .slice aa t.attrs.length ac, .slice ka t.kids.length kc]] W fun e w' => e = .returned (.tuple #[.string (printR n t).1, .int .i64 (printR n t).2]) ∧ Below W.heap.size W w') :=
    fun W hW => printTreeR_any S n _ _ t W (hA.later hW) (Trees.later hW n hK) (hm.later hW) hc hx
  have HP1 : Hid (∀ S' va' vk' W, Below w.heap.size w W → Attrs S' W va' t.attrs → Trees S' W n vk' t.kids → Calls Tryz.prog 4 #[.agg #[.bool t.text, .string t.s, va', vk']] W fun e w' => e = .returned (.tuple #[.string (printR n t).1, .int .i64 (printR n t).2]) ∧ Below W.heap.size W w') :=
    fun S' va' vk' W hW h1 h2 => printOf_any S' n va' vk' t W h1 h2 (hM.later hW hM.lt) (tex_textsM _ hx)
  have HMK : Hid (∀ W, Below w.heap.size w W → Calls Tryz.prog 7 #[] W fun e w' => e = .returned (.bool true) ∧ Below W.heap.size W w') := fun W hW => marksR_any W (hM.later hW hM.lt)
  obtain ⟨ps, hps⟩ : ∃ ps, (printR n t).1 = ps := ⟨_, rfl⟩
  obtain ⟨pe, hpe⟩ : ∃ pe, (printR n t).2 = pe := ⟨_, rfl⟩
  rw [hps, hpe] at HP1 HP2
  clear hA hK hM hm hx hc hal hsk hps hpe
  go_enter Tryz.func3, Tryz.ntmps3
  go_wp2_with fail
  generalize w.alloc (.cells #[.bool t.text, .string t.s, .slice aa t.attrs.length ac, .slice ka t.kids.length kc] 25) = W1 at *
  refine Calls.mono HCT.out ?_
  rintro e w2 ⟨va2, vk2, rfl, hA2, hK2, hb2⟩
  obtain ⟨a2, c2, rfl⟩ := hA2.shape
  obtain ⟨k2, d2, rfl, _, _⟩ := Trees.shape n hK2
  have hB2 : Below w.heap.size w w2 := hb1.trans (hb2.mono hb1.size)
  have HC1 : Hid _ := HP1.out _ _ _ w2 hB2 hA2 hK2
  have HX2 : Hid _ := (hb2.block _ (blk_ltS HX1.out)).trans HX1.out
  clear HCT hA2 hK2 HP1
  go_wp2_with fail
  refine Calls.mono HC1.out ?_
  rintro e w3 ⟨rfl, hb3⟩
  have hB3 : Below w.heap.size w w3 := hB2.trans (hb3.mono hB2.size)
  have HX3 : Hid _ := (hb3.block _ (blk_ltS HX2.out)).trans HX2.out
  have p0 : w3.cell? ⟨w.heap.size, 0, none⟩ = some (.bool t.text) := by rw [Lib.cell_of_heap HX3.out]; rfl
  have p1 : w3.cell? ⟨w.heap.size, 1, none⟩ = some (.string t.s) := by rw [Lib.cell_of_heap HX3.out]; rfl
  have p2 : w3.cell? ⟨w.heap.size, 2, none⟩ = some (.slice aa t.attrs.length ac) := by rw [Lib.cell_of_heap HX3.out]; rfl
  have p3 : w3.cell? ⟨w.heap.size, 3, none⟩ = some (.slice ka t.kids.length kc) := by rw [Lib.cell_of_heap HX3.out]; rfl
  clear HC1 HX1 HX2 hb2
  go_wp2_with fail
  refine Calls.mono (HP2.out w3 hB3) ?_
  rintro e w4 ⟨rfl, hb4⟩
  have hB4 : Below w.heap.size w w4 := hB3.trans (hb4.mono hB3.size)
  clear HP2 p0 p1 p2 p3
  go_wp2_with fail
  refine Calls.mono (HMK.out w4 hB4) ?_
  rintro e w5 ⟨rfl, hb5⟩
  go_wp2_with fail
  go_ret
  exact ⟨rfl, hB4.trans (hb5.mono hB4.size)⟩
end Go.Proofs.YtmogemjikjbnfaaGreatDoor

