/- topiaryref.shown: a tree as it is printed, in the document's own way. Condition: at most 88000 letters; the variable that strings.ReplaceAll may read holds a number. -/
import Derived.Test.YtmogemjikjbnfaaGreatDoorBundle13
import Derived.Test.YtmogemjikjbnfaaGreatDoorBundle06
import Derived.Deep.RegionHeld3
namespace Go.Proofs.YtmogemjikjbnfaaGreatDoor
open Go.ChangeShapes Go.WideShapes Go.ChangeAt Go.RowKit
set_option maxRecDepth 100000

attribute [local go_sem] cell_set

def ShownOk (n : Nat) : Prop := ∀ (S : Nat → Prop) (va vk : Value) (t : Tr) (w : World), Attrs S w va t.attrs → Trees S w n vk t.kids → MaxL w → (oneP (showL n t.kids) t).length ≤ 88000 →
  Calls Tryz.prog 12 #[.agg #[.bool t.text, .string t.s, va, vk]] w fun e w' => e = .returned (.string (sOf (oneP (showL n t.kids) t))) ∧ Below w.heap.size w w'

theorem blk_ltS {w : World} {b : Nat} {o : Obj} (hx : w.heap[b]? = some o) : b < w.heap.size := by
  rcases Nat.lt_or_ge b w.heap.size with h | h
  · exact h
  · rw [Array.getElem?_eq_none h] at hx; cases hx

theorem cons_str (c : UInt8) (s : ByteArray) : (⟨#[c]⟩ : ByteArray) ++ s = sOf (c :: s.data.toList) := by
  rw [show (⟨#[c]⟩ : ByteArray) = sOf [c] from rfl]
  conv => lhs; rw [← sOf_toList s]
  rw [sOf_append]; rfl

theorem sOf_str (l : List UInt8) (s : ByteArray) : sOf l ++ s = sOf (l ++ s.data.toList) := by
  conv => lhs; rw [← sOf_toList s]
  rw [sOf_append]

theorem shownR_text (n : Nat) (S : Nat → Prop) (va vk : Value) (s : ByteArray) (l : List (ByteArray × ByteArray)) (ks : List Tr) (w : World) (hA : Attrs S w va l) (hK : Trees S w n vk ks) (hm : MaxL w) (hlen : (markL false s.data.toList).length ≤ 88000) :
    Calls Tryz.prog 12 #[.agg #[.bool true, .string s, va, vk]] w fun e w' => e = .returned (.string (sOf (markL false s.data.toList))) ∧ Below w.heap.size w w' := by
  obtain ⟨aa, ac, rfl⟩ := hA.shape
  obtain ⟨ka, kc, rfl, _, _⟩ := Trees.shape n hK
  have hsz : s.size ≤ 1048576 := by have := markL_more false s.data.toList; rw [size_data] at this; omega
  have hb1 := Below.alloc1 w (.cells #[.bool true, .string s, .slice aa l.length ac, .slice ka ks.length kc] 25)
  have HT : Hid _ := toldR_any s false _ (hm.later hb1) hsz
  clear hA hK hm hlen hsz
  go_enter Tryz.func12, Tryz.ntmps12
  go_wp2_with fail
  refine Calls.mono HT.out ?_
  rintro e w2 ⟨rfl, hb2⟩
  go_wp2_with fail
  go_ret
  exact ⟨rfl, hb1.trans (hb2.mono hb1.size)⟩

theorem attrP_str (L : List UInt8) (x : ByteArray × ByteArray) :
    sOf L ++ ((((⟨#[32]⟩ : ByteArray) ++ x.1) ++ (⟨#[61, 34]⟩ : ByteArray) ++ sOf (markL true x.2.data.toList)) ++ (⟨#[34]⟩ : ByteArray)) = sOf (L ++ attrP x) := by
  rw [cons_str, show (⟨#[61, 34]⟩ : ByteArray) = sOf [61, 34] from rfl, show (⟨#[34]⟩ : ByteArray) = sOf [34] from rfl, sOf_append, sOf_append, sOf_append, sOf_append]
  congr 1

set_option maxHeartbeats 4000000 in
theorem shownR_elem (n : Nat) (ih : ∀ m, n = m + 1 → ShownOk m) (S : Nat → Prop) (va vk : Value) (s : ByteArray) (l : List (ByteArray × ByteArray)) (ks : List Tr) (w : World) (hA : Attrs S w va l) (hK : Trees S w n vk ks) (hm : MaxL w)
    (hlen : (oneP (showL n ks) ⟨false, s, l, ks⟩).length ≤ 88000) :
    Calls Tryz.prog 12 #[.agg #[.bool false, .string s, va, vk]] w fun e w' => e = .returned (.string (sOf (oneP (showL n ks) ⟨false, s, l, ks⟩))) ∧ Below w.heap.size w w' := by
  have HIH : Hid (∀ m, n = m + 1 → ShownOk m) := ih
  have HK : Hid (Trees S w n vk ks) := hK
  have HM : Hid (MaxL w) := hm
  have HL0 : Hid (oneP (showL n ks) ⟨false, s, l, ks⟩ = 60 :: s.data.toList ++ l.flatMap attrP ++ (if ks.isEmpty then [47, 62] else 62 :: showL n ks ++ [60, 47] ++ s.data.toList ++ [62])) := rfl
  have hL1 : 1 + s.size + (l.flatMap attrP).length + 2 ≤ 88000 := by
    have : 1 + s.size + (l.flatMap attrP).length + 2 ≤ (oneP (showL n ks) ⟨false, s, l, ks⟩).length := by
      simp only [oneP, Bool.false_eq_true, if_false, List.length_append, List.length_cons, size_data]
      cases ks with
      | nil => simp; omega
      | cons k r => simp; omega
    omega
  have hL2 : ks ≠ [] → 1 + s.size + (l.flatMap attrP).length + 1 + (showL n ks).length + 2 + s.size + 1 ≤ 88000 := by
    intro hne
    have : 1 + s.size + (l.flatMap attrP).length + 1 + (showL n ks).length + 2 + s.size + 1 ≤ (oneP (showL n ks) ⟨false, s, l, ks⟩).length := by
      simp only [oneP, Bool.false_eq_true, if_false, List.length_append, List.length_cons, size_data]
      cases ks with
      | nil => exact absurd rfl hne
      | cons k r => simp; omega
    omega
  obtain ⟨aa, ac, rfl⟩ := hA.shape
  obtain ⟨ka, kc, rfl, _, hkm⟩ := Trees.shape n hK
  obtain ⟨_, _, hae, _, ham, hacells⟩ := hA
  injection hae with hae1 _ hac
  subst hac
  subst hae1
  have HAC : Hid (l ≠ [] → ∃ b o, aa = some ⟨b, o, none⟩ ∧ S b ∧ ∀ i x, l[i]? = some x → w.cell? ⟨b, o + i * 2, none⟩ = some (.string x.1) ∧ w.cell? ⟨b, o + i * 2 + 1, none⟩ = some (.string x.2)) := hacells
  unfold maxLen at hkm ham
  have hb1 := Below.alloc1 w (.cells #[.bool false, .string s, .slice aa l.length ac, .slice ka ks.length kc] 25)
  have HX1 : Hid _ := heap_alloc_new w (.cells #[.bool false, .string s, .slice aa l.length ac, .slice ka ks.length kc] 25)
  have hsz1 : (w.alloc (.cells #[.bool false, .string s, .slice aa l.length ac, .slice ka ks.length kc] 25)).heap.size = w.heap.size + 1 := by simp
  have hs40 : s.size ≤ 88000 := by omega
  clear ih hK hm hacells hlen
  go_enter Tryz.func12, Tryz.ntmps12
  go_wp2_with fail
  generalize w.alloc (.cells #[.bool false, .string s, .slice aa l.length ac, .slice ka ks.length kc] 25) = W1 at hb1 HX1 hsz1 ⊢
  go_loopg [19, 3] l.length (fun g i u wr => ∃ k : Nat, k + g = l.length ∧ i = .int .i64 k ∧ u = .string (sOf (60 :: s.data.toList ++ (l.take k).flatMap attrP)) ∧ Below W1.heap.size W1 wr)
  case atStart => exact ⟨0, by omega, rfl, by rw [cons_str]; simp, Below.refl _ _⟩
  case round =>
    obtain ⟨k, hk, rfl, rfl, hB⟩ := hrel
    have HX : Hid _ := (hB.block _ (blk_ltS HX1.out)).trans HX1.out
    have hBw : Below w.heap.size w wr := hb1.trans (hB.mono hb1.size)
    have p1 : wr.cell? ⟨w.heap.size, 1, none⟩ = some (.string s) := by rw [Lib.cell_of_heap HX.out]; rfl
    have p3 : wr.cell? ⟨w.heap.size, 3, none⟩ = some (.slice ka ks.length kc) := by rw [Lib.cell_of_heap HX.out]; rfl
    by_cases hlt : k < l.length
    · have hne : l ≠ [] := by intro e; subst e; simp at hlt
      obtain ⟨b, o, rfl, hSb, hcc⟩ := HAC.out hne
      obtain ⟨x, hx⟩ : ∃ x, l[k]? = some x := ⟨l[k], by simp [hlt]⟩
      obtain ⟨c0, c1⟩ := hcc k x hx
      have hbl : b < w.heap.size := World.block_lt_of_cell? w _ c0
      rw [← hBw.cell (p := ⟨b, o + k * 2, none⟩) hbl] at c0
      rw [← hBw.cell (p := ⟨b, o + k * 2 + 1, none⟩) hbl] at c1
      have hsn : l.take (k + 1) = l.take k ++ [x] := by
        rw [List.take_succ_eq_append_getElem hlt]; congr 2; simpa [hlt] using hx
      have HSN : Hid ((l.take (k + 1)).flatMap attrP = (l.take k).flatMap attrP ++ attrP x) := by show _ = _; rw [hsn, flat_snoc]
      have hall : ((l.take (k + 1)).flatMap attrP).length ≤ (l.flatMap attrP).length := flat_le
      rw [HSN.out, List.length_append, attrP_len] at hall
      have hmm := markL_more true x.2.data.toList
      rw [size_data] at hmm
      obtain ⟨L, hL⟩ : ∃ L, 60 :: s.data.toList ++ (l.take k).flatMap attrP = L := ⟨_, rfl⟩
      have hLs : (sOf L).size = 1 + s.size + ((l.take k).flatMap attrP).length := by rw [sOf_size, ← hL]; simp; omega
      have HLL : Hid (60 :: s.data.toList ++ (l.take k).flatMap attrP = L) := hL
      have hMs : (sOf (markL true x.2.data.toList)).size = (markL true x.2.data.toList).length := sOf_size _
      obtain ⟨M, hM⟩ : ∃ M, sOf (markL true x.2.data.toList) = M := ⟨_, rfl⟩
      have HTL : Hid (∀ W, Below w.heap.size w W → Calls Tryz.prog 19 #[.string x.2, .bool true] W fun e w' => ∃ r, e = .returned r ∧ (r = .string M ∧ Below W.heap.size W w')) := fun W hW => by
        have := toldR_any x.2 true W (HM.out.later hW) (by omega)
        rw [hM] at this
        exact this.mono fun e w' h => ⟨_, h.1, rfl, h.2⟩
      have HAP : Hid (sOf L ++ ((((⟨#[32]⟩ : ByteArray) ++ x.1) ++ (⟨#[61, 34]⟩ : ByteArray) ++ M) ++ (⟨#[34]⟩ : ByteArray)) = sOf (L ++ attrP x)) := by show _ = _; rw [← hM, attrP_str]
      rw [hM] at hMs
      rw [hL]
      have z1 : x.1.size ≤ 88000 := by omega
      have z3 : (sOf L).size + (1 + x.1.size + 2 + M.size + 1) ≤ 88000 := by omega
      clear hsn hall hmm hL hLs hM hMs hcc hx HX
      have hb2 := Below.alloc1 wr (.cells #[.string x.1, .string x.2] 47)
      have HX2 : Hid _ := heap_alloc_new wr (.cells #[.string x.1, .string x.2] 47)
      have HC : Hid (∀ W, Below (wr.alloc (.cells #[.string x.1, .string x.2] 47)).heap.size (wr.alloc (.cells #[.string x.1, .string x.2] 47)) W → Below (wr.alloc (.cells #[.string x.1, .string x.2] 47)).heap.size (wr.alloc (.cells #[.string x.1, .string x.2] 47)) W ∧ W.cell? ⟨wr.heap.size, 0, none⟩ = some (.string x.1) ∧ W.cell? ⟨wr.heap.size, 1, none⟩ = some (.string x.2)) := by
        intro W hW
        have h1 := (hW.block _ (blk_ltS HX2.out)).trans HX2.out
        exact ⟨hW, by rw [Lib.cell_of_heap h1]; rfl, by rw [Lib.cell_of_heap h1]; rfl⟩
      go_wp2_with fail
      generalize wr.alloc (.cells #[.string x.1, .string x.2] 47) = W2 at *
      have hbn : Below W2.heap.size W2 W2.drew := (Below.refl _ W2).drew
      refine wp_region_held_drew (S := fun W : World => Below W2.heap.size W2 W ∧ W.cell? ⟨wr.heap.size, 0, none⟩ = some (.string x.1) ∧ W.cell? ⟨wr.heap.size, 1, none⟩ = some (.string x.2)) (by kernel_rfl) (HC.out _ hbn) (fun hHeld => ?_)
      refine wqi [0, 1, 2, 3, 4, 5, 6] ?_
      repeat (refine wqt (v := ?_) rfl (by kernel_rfl) (fun _ _ _ h => h) (by rfl) (by assumption) ?_ ?_; rotate_left; (· (intro w hSw; (try dsimp only at hSw); go_simp; (try rw [if_neg (by omega)]); try with_reducible rfl)); try simp only [Act.put, List.getElem_toArray, List.getElem_cons_succ, List.getElem_cons_zero, List.setIfInBounds_toArray, List.set_cons_zero, List.set_cons_succ])
      refine wqn ?_
      refine wpAnyH_ready (rs := [7]) (by kernel_rfl) (by simp) ?_
      refine AllReadyH.cons rfl (fun K hK => ?_) AllReadyH.nil
      have hbw : Below w.heap.size w W2.drew := hBw.trans ((hb2.trans (hbn.mono hb2.size)).mono hBw.size)
      refine step_enter (by rfl) 19 #[.string x.2, .bool true] (by go_simp) _ (HTL.out _ hbw) ?_
      rintro v7 W7 ⟨rfl, hb7⟩
      have hbn := hbn.trans (hb7.mono hbn.size)
      refine hK.out _ _ (HC.out W7 hbn) (fun hHeld => ?_)
      clear hK K
      try simp only [Act.put, List.getElem_toArray, List.getElem_cons_succ, List.getElem_cons_zero, List.setIfInBounds_toArray, List.set_cons_zero, List.set_cons_succ]
      refine wqi [8, 9, 10, 11] ?_
      repeat (refine wqt (v := ?_) rfl (by kernel_rfl) (fun _ _ _ h => h) (by rfl) (by assumption) ?_ ?_; rotate_left; (· (intro w hSw; (try dsimp only at hSw); go_simp; (try rw [if_neg (by omega)]); try with_reducible rfl)); try simp only [Act.put, List.getElem_toArray, List.getElem_cons_succ, List.getElem_cons_zero, List.setIfInBounds_toArray, List.set_cons_zero, List.set_cons_succ])
      refine wqn ?_
      refine wpAnyH_done (by kernel_rfl) ?_ _
      have hBn := hB.trans ((hb2.trans (hbn.mono hb2.size)).mono hB.size)
      rw [HAP.out]
      clear hHeld HC hbn hb7 HTL HAP
      go_wp2_with fail
      go_roundg (l.length - (k + 1))
      case measure => omega
      case rel => exact ⟨k + 1, by omega, by go_num, by rw [HSN.out, ← List.append_assoc, HLL.out], hBn⟩
    · have hkk : k = l.length := by omega
      subst hkk
      rw [List.take_length]
      obtain ⟨L, hL⟩ : ∃ L, 60 :: s.data.toList ++ l.flatMap attrP = L := ⟨_, rfl⟩
      have hLs : (sOf L).size = 1 + s.size + (l.flatMap attrP).length := by rw [sOf_size, ← hL]; simp; omega
      rw [hL] at HL0 ⊢
      have z5 : (sOf L).size + 2 ≤ 88000 := by omega
      have z55 : (sOf L).size + 1 ≤ 88000 := by omega
      clear hL HAC
      by_cases hke : ks = []
      · subst hke
        clear hL2 hLs hL1
        go_wp2_with fail
        go_ret
        exact ⟨by rw [HL0.out, show (⟨#[47, 62]⟩ : ByteArray) = sOf [47, 62] from rfl, sOf_append]; rfl, hBw⟩
      · obtain ⟨m, rfl⟩ : ∃ m, n = m + 1 := by
          cases n with
          | zero => exact absurd HK.out.1 hke
          | succ m => exact ⟨m, rfl⟩
        have HI : Hid (ShownOk m) := HIH.out m rfl
        have hL3 := hL2 hke
        have hpos : 0 < ks.length := List.length_pos_iff.2 hke
        obtain ⟨a1, c1, he1, _, _, h4⟩ := HK.out
        injection he1 with he2 _ he3
        subst he2 he3
        obtain ⟨b, o, rfl, hSb, hcc⟩ := h4 hke
        have HCC : Hid _ := hcc
        have HE : Hid (ks.isEmpty = false) := by show _ = _; cases ks with
          | nil => exact absurd rfl hke
          | cons a r => rfl
        have z9 : (sOf L).size + 1 + (showL (m + 1) ks).length + 2 + s.size + 1 ≤ 88000 := by omega
        clear h4 hcc hL2 HIH hLs hL1 hL3
        go_wp2_with fail
        rw [show sOf L ++ (⟨#[62]⟩ : ByteArray) = sOf (L ++ [62]) from by rw [show (⟨#[62]⟩ : ByteArray) = sOf [62] from rfl, sOf_append]]
        generalize wr = W9 at *
        go_loopg [46, 3] ks.length (fun g i u wz => ∃ k : Nat, k + g = ks.length ∧ i = .int .i64 k ∧ u = .string (sOf (L ++ [62] ++ showL (m + 1) (ks.take k))) ∧ Below W9.heap.size W9 wz)
        case atStart => exact ⟨0, by omega, rfl, by simp [showL], Below.refl _ _⟩
        case round =>
          obtain ⟨k, hk, rfl, rfl, hZ⟩ := hrel
          have hBz : Below w.heap.size w wr := hBw.trans (hZ.mono hBw.size)
          have HXz : Hid _ := (hZ.block _ (blk_ltS HX.out)).trans HX.out
          have q1 : wr.cell? ⟨w.heap.size, 1, none⟩ = some (.string s) := by rw [Lib.cell_of_heap HXz.out]; rfl
          have z6 : (sOf (L ++ [62] ++ showL (m + 1) (ks.take k))).size = (sOf L).size + 1 + (showL (m + 1) (ks.take k)).length := by rw [sOf_size, sOf_size]; simp; omega
          have z7 : (showL (m + 1) (ks.take k)).length ≤ (showL (m + 1) ks).length := show_le
          by_cases hlt : k < ks.length
          · obtain ⟨t, ht⟩ : ∃ t, ks[k]? = some t := ⟨ks[k], by simp [hlt]⟩
            obtain ⟨va, vk, c0, c1, c2, c3, hat, hkt⟩ := HCC.out k t ht
            obtain ⟨ta, tc, rfl⟩ := hat.shape
            obtain ⟨ua, uc, rfl, _, _⟩ := Trees.shape m hkt
            have hbl : b < w.heap.size := World.block_lt_of_cell? w _ c0
            rw [← hBz.cell (p := ⟨b, o + k * 4, none⟩) hbl] at c0
            rw [← hBz.cell (p := ⟨b, o + k * 4 + 1, none⟩) hbl] at c1
            rw [← hBz.cell (p := ⟨b, o + k * 4 + 2, none⟩) hbl] at c2
            rw [← hBz.cell (p := ⟨b, o + k * 4 + 3, none⟩) hbl] at c3
            have hsn : ks.take (k + 1) = ks.take k ++ [t] := by
              rw [List.take_succ_eq_append_getElem hlt]; congr 2; simpa [hlt] using ht
            have HSN : Hid (showL (m + 1) (ks.take (k + 1)) = showL (m + 1) (ks.take k) ++ oneP (showL m t.kids) t) := by show _ = _; rw [hsn, showL_snoc]
            have hall : (showL (m + 1) (ks.take (k + 1))).length ≤ (showL (m + 1) ks).length := show_le
            rw [HSN.out, List.length_append] at hall
            have hb2 := Below.alloc1 wr (.cells #[.bool t.text, .string t.s, .slice ta t.attrs.length tc, .slice ua t.kids.length uc] 25)
            have hB2 := hBz.trans (hb2.mono hBz.size)
            have HCL : Hid _ := HI.out S _ _ t _ (hat.later hB2) (Trees.later hB2 m hkt) (HM.out.later hB2) (by omega)
            obtain ⟨G, hG⟩ : ∃ G, L ++ [62] ++ showL (m + 1) (ks.take k) = G := ⟨_, rfl⟩
            have HG : Hid (L ++ [62] ++ showL (m + 1) (ks.take k) = G) := hG
            obtain ⟨O, hO⟩ : ∃ O, oneP (showL m t.kids) t = O := ⟨_, rfl⟩
            rw [hO] at HCL HSN hall
            rw [hG] at z6 ⊢
            have z8 : (sOf G).size + (sOf O).size ≤ 88000 := by rw [sOf_size O]; omega
            clear z6 z7 z9 hall z5 z55
            clear hat hkt HXz q1 hsn hG hO HX p1 p3 ht
            go_wp2_with fail
            refine Calls.mono HCL.out ?_
            rintro e w3 ⟨rfl, hb3⟩
            clear HCL
            go_wp2_with fail
            go_roundg (ks.length - (k + 1))
            case measure => omega
            case rel => exact ⟨k + 1, by omega, by go_num, by rw [HSN.out, ← List.append_assoc, HG.out, sOf_append], hZ.trans ((hb2.trans (hb3.mono hb2.size)).mono hZ.size)⟩
          · have hkk : k = ks.length := by omega
            subst hkk
            rw [List.take_length] at z6 ⊢
            obtain ⟨G, hG⟩ : ∃ G, L ++ [62] ++ showL (m + 1) ks = G := ⟨_, rfl⟩
            rw [hG] at z6 ⊢
            have z8 : (sOf G).size + 2 ≤ 88000 := by omega
            have z81 : (sOf G).size + 2 + s.size ≤ 88000 := by omega
            have z82 : (sOf G).size + 2 + s.size + 1 ≤ 88000 := by omega
            have HR : Hid (sOf G ++ (⟨#[60, 47]⟩ : ByteArray) ++ s ++ (⟨#[62]⟩ : ByteArray) = sOf (oneP (showL (m + 1) ks) ⟨false, s, l, ks⟩)) := by
              show _ = _
              rw [HL0.out, HE.out, ← hG, show (⟨#[60, 47]⟩ : ByteArray) = sOf [60, 47] from rfl, show (⟨#[62]⟩ : ByteArray) = sOf [62] from rfl, sOf_append, sOf_str, sOf_append]
              simp
            clear hG HL0 z7 z6 z9 z5 z55
            go_wp2_with fail
            go_ret
            exact ⟨by rw [← HR.out]; rfl, hBz⟩

theorem shownR_of (n : Nat) (ih : ∀ m, n = m + 1 → ShownOk m) : ShownOk n := by
  intro S va vk t w hA hK hm hlen
  obtain ⟨tx, s, l, ks⟩ := t
  cases tx with
  | true =>
    have e : oneP (showL n ks) ⟨true, s, l, ks⟩ = markL false s.data.toList := rfl
    simp only at hlen ⊢
    rw [e] at hlen ⊢
    exact shownR_text n S va vk s l ks w hA hK hm hlen
  | false => exact shownR_elem n ih S va vk s l ks w hA hK hm hlen

theorem shownR_any (n : Nat) : ShownOk n := by
  induction n with
  | zero => exact shownR_of 0 (fun m h => by omega)
  | succ n ih =>
    refine shownR_of (n + 1) (fun m h => ?_)
    obtain rfl : n = m := by omega
    exact ih
end Go.Proofs.YtmogemjikjbnfaaGreatDoor

