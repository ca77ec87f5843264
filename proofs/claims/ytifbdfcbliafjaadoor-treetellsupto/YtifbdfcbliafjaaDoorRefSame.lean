/- topiaryref.SameTrees, SameTree and sameAttrs, exactly: true where two are alike, else false. No condition. -/
import Derived.Test.YtifbdfcbliafjaaDoorSameR
import Derived.Test.YtifbdfcbliafjaaDoorLikeM
namespace Go.Proofs.YtifbdfcbliafjaaDoor
open Go.ChangeShapes Go.WideShapes Go.ChangeAt Go.RowKit
set_option maxRecDepth 100000

theorem take_ext {α : Type} {l m : List α} (hl : l.length = m.length) (h : l.take l.length = m.take l.length) : l = m := by
  rw [List.take_length, hl, List.take_length] at h; exact h

theorem sameAttrs_ex (S S' : Nat → Prop) (v v' : Value) (l m : List (ByteArray × ByteArray)) (w : World) (h1 : Attrs S w v l) (h2 : Attrs S' w v' m) :
    Calls Tryd.prog 36 #[v, v'] w fun e w' => e = .returned (.bool (decide (l = m))) ∧ Below w.heap.size w w' := by
  obtain ⟨a, cap, rfl, _, hm, h5⟩ := h1
  obtain ⟨a', cap', rfl, _, _, h5'⟩ := h2
  unfold maxLen at hm
  by_cases hlen : l.length = m.length
  · have hne : ((l.length : Int) != m.length) = false := by simp [hlen]
    have HL : Hid (l.length = m.length) := hlen
    clear hlen
    go_enter Tryd.func36, Tryd.ntmps36
    go_wp2_with fail
    go_loopg [13] l.length (fun g i wr => ∃ k : Nat, k + g = l.length ∧ i = .int .i64 k ∧ Below w.heap.size w wr ∧ l.take k = m.take k)
    case atStart => exact ⟨0, by omega, rfl, Below.refl _ _, by simp⟩
    case round =>
      obtain ⟨k, hk, rfl, hB, htk⟩ := hrel
      have HTK : Hid (l.take k = m.take k) := htk
      clear htk
      by_cases hlt : k < l.length
      · have hne1 : l ≠ [] := by intro e; subst e; simp at hlt
        have hlt' : k < m.length := by have := HL.out; omega
        have hne2 : m ≠ [] := by intro e; subst e; simp at hlt'
        obtain ⟨b, o, rfl, hs, hcc⟩ := h5 hne1
        obtain ⟨b', o', rfl, hs', hcc'⟩ := h5' hne2
        obtain ⟨x, hx⟩ : ∃ x, l[k]? = some x := ⟨l[k], by simp [hlt]⟩
        obtain ⟨y, hy⟩ : ∃ y, m[k]? = some y := ⟨m[k], by simp [hlt']⟩
        obtain ⟨c0, c1⟩ := hcc k x hx
        obtain ⟨c0', c1'⟩ := hcc' k y hy
        have hbl : b < w.heap.size := World.block_lt_of_cell? w _ c0
        have hbl' : b' < w.heap.size := World.block_lt_of_cell? w _ c0'
        rw [← hB.cell (p := ⟨b, o + k * 2, none⟩) hbl] at c0
        rw [← hB.cell (p := ⟨b, o + k * 2 + 1, none⟩) hbl] at c1
        rw [← hB.cell (p := ⟨b', o' + k * 2, none⟩) hbl'] at c0'
        rw [← hB.cell (p := ⟨b', o' + k * 2 + 1, none⟩) hbl'] at c1'
        have hlti : (k : Int) < (l.length : Int) := by omega
        have hlti' : (k : Int) < (m.length : Int) := by omega
        have hstep : x = y → l.take (k + 1) = m.take (k + 1) := by
          intro e
          have e1 : l.take (k + 1) = l.take k ++ [x] := by rw [List.take_succ_eq_append_getElem hlt]; congr 2; simpa [hlt] using hx
          have e2 : m.take (k + 1) = m.take k ++ [y] := by rw [List.take_succ_eq_append_getElem hlt']; congr 2; simpa [hlt'] using hy
          rw [e1, e2, HTK.out, e]
        have hno : x ≠ y → decide (l = m) = false := by
          intro e
          simp only [decide_eq_false_iff_not]
          rintro rfl
          rw [hx] at hy; exact e (by cases hy; rfl)
        have HSTEP : Hid (x = y → l.take (k + 1) = m.take (k + 1)) := hstep
        have HNO : Hid (x ≠ y → decide (l = m) = false) := hno
        clear hcc hcc' h5 h5' hx hy hstep hno
        obtain ⟨x1, x2⟩ := x
        obtain ⟨y1, y2⟩ := y
        simp only at c0 c1 c0' c1'
        by_cases he : x1 = y1
        · by_cases he2 : x2 = y2
          · subst he; subst he2
            have HS2 : Hid (l.take (k + 1) = m.take (k + 1)) := HSTEP.out rfl
            clear HSTEP HNO
            go_wp2_with fail
            go_quiet (fail)
            go_wp2_with fail
            go_roundg (l.length - (k + 1))
            case measure => omega
            case rel => exact ⟨k + 1, by omega, by go_num, below_drewN hB nq, HS2.out⟩
          · have hb : (x2.toList == y2.toList) = false := bytes_ne he2
            have HQ : Hid (decide (l = m) = false) := HNO.out (by intro e; cases e; exact he2 rfl)
            subst he
            clear HSTEP HNO he2
            go_wp2_with fail
            go_quiet (fail)
            go_wp2_with fail
            go_ret
            exact ⟨by rw [HQ.out]; rfl, below_drewN hB nq⟩
        · have hb : (x1.toList == y1.toList) = false := bytes_ne he
          have HQ : Hid (decide (l = m) = false) := HNO.out (by intro e; cases e; exact he rfl)
          clear HSTEP HNO he
          go_wp2_with fail
          go_quiet (fail)
          go_wp2_with fail
          go_ret
          exact ⟨by rw [HQ.out]; rfl, below_drewN hB nq⟩
      · have hkk : k = l.length := by omega
        subst hkk
        have HQ : Hid (decide (l = m) = true) := decide_eq_true (take_ext HL.out HTK.out)
        go_wp2_with fail
        go_ret
        exact ⟨by rw [HQ.out]; rfl, hB⟩
  · have hne : ((l.length : Int) != m.length) = true := by
      have : (l.length : Int) ≠ m.length := by omega
      simpa using this
    have hq : decide (l = m) = false := by
      simp only [decide_eq_false_iff_not]
      rintro rfl; exact hlen rfl
    rw [hq]
    go_enter Tryd.func36, Tryd.ntmps36
    go_wp2_with fail
    go_ret
    exact ⟨rfl, Below.refl _ _⟩

def LikesOk (n : Nat) : Prop := ∀ (S S' : Nat → Prop) (v v' : Value) (ts us : List Tr) (w : World), Trees S w n v ts → Trees S' w n v' us →
  Calls Tryd.prog 37 #[v, v'] w fun e w' => e = .returned (.bool (likeB n ts us)) ∧ Below w.heap.size w w'

def LikeOk (n : Nat) : Prop := ∀ (S S' : Nat → Prop) (va va' vk vk' : Value) (t u : Tr) (w : World), Attrs S w va t.attrs → Attrs S' w va' u.attrs → Trees S w n vk t.kids → Trees S' w n vk' u.kids →
  Calls Tryd.prog 22 #[.agg #[.bool t.text, .string t.s, va, vk], .agg #[.bool u.text, .string u.s, va', vk']] w fun e w' => e = .returned (.bool (aloneB t u && likeB n t.kids u.kids)) ∧ Below w.heap.size w w'

theorem likes_of (n : Nat) (h : LikeOk n) : LikesOk (n + 1) := by
  intro S S' v v' ts us w h1 h2
  obtain ⟨a, cap, rfl, _, hm, h4⟩ := h1
  obtain ⟨a', cap', rfl, _, _, h4'⟩ := h2
  unfold maxLen at hm
  have H : Hid (LikeOk n) := h
  clear h
  by_cases hlen : ts.length = us.length
  · have hne : ((ts.length : Int) != us.length) = false := by simp [hlen]
    have HL : Hid (ts.length = us.length) := hlen
    clear hlen
    go_enter Tryd.func37, Tryd.ntmps37
    go_wp2_with fail
    go_loopg [13] ts.length (fun g i wr => ∃ k : Nat, k + g = ts.length ∧ i = .int .i64 k ∧ Below w.heap.size w wr ∧ preB n ts us k = true)
    case atStart => exact ⟨0, by omega, rfl, Below.refl _ _, preB_zero n ts us⟩
    case round =>
      obtain ⟨k, hk, rfl, hB, htk⟩ := hrel
      have HTK : Hid (preB n ts us k = true) := htk
      clear htk
      by_cases hlt : k < ts.length
      · have hlt' : k < us.length := by have := HL.out; omega
        have hne1 : ts ≠ [] := by intro e; subst e; simp at hlt
        have hne2 : us ≠ [] := by intro e; subst e; simp at hlt'
        obtain ⟨b, o, rfl, hs, hcc⟩ := h4 hne1
        obtain ⟨b', o', rfl, hs', hcc'⟩ := h4' hne2
        obtain ⟨t, ht⟩ : ∃ t, ts[k]? = some t := ⟨ts[k], by simp [hlt]⟩
        obtain ⟨u, hu⟩ : ∃ u, us[k]? = some u := ⟨us[k], by simp [hlt']⟩
        obtain ⟨va, vk, c0, c1, c2, c3, hat, hkt⟩ := hcc k t ht
        obtain ⟨va', vk', c0', c1', c2', c3', hat', hkt'⟩ := hcc' k u hu
        have hbl : b < w.heap.size := World.block_lt_of_cell? w _ c0
        have hbl' : b' < w.heap.size := World.block_lt_of_cell? w _ c0'
        rw [← hB.cell (p := ⟨b, o + k * 4, none⟩) hbl] at c0
        rw [← hB.cell (p := ⟨b, o + k * 4 + 1, none⟩) hbl] at c1
        rw [← hB.cell (p := ⟨b, o + k * 4 + 2, none⟩) hbl] at c2
        rw [← hB.cell (p := ⟨b, o + k * 4 + 3, none⟩) hbl] at c3
        rw [← hB.cell (p := ⟨b', o' + k * 4, none⟩) hbl'] at c0'
        rw [← hB.cell (p := ⟨b', o' + k * 4 + 1, none⟩) hbl'] at c1'
        rw [← hB.cell (p := ⟨b', o' + k * 4 + 2, none⟩) hbl'] at c2'
        rw [← hB.cell (p := ⟨b', o' + k * 4 + 3, none⟩) hbl'] at c3'
        have hlti : (k : Int) < (ts.length : Int) := by omega
        have hlti' : (k : Int) < (us.length : Int) := by omega
        have HSTEP : Hid (preB n ts us (k + 1) = (preB n ts us k && (aloneB t u && likeB n t.kids u.kids))) := preB_succ ht hu
        have HNO : Hid ((aloneB t u && likeB n t.kids u.kids) = false → likeB (n + 1) ts us = false) := likeB_no ht hu
        have HC : Hid _ := H.out S S' va va' vk vk' t u wr.drew (hat.later hB.drew) (hat'.later hB.drew) (Trees.later hB.drew n hkt) (Trees.later hB.drew n hkt')
        clear hcc hcc' h4 h4' ht hu hat hat' hkt hkt'
        obtain ⟨q, hq⟩ : ∃ q, (aloneB t u && likeB n t.kids u.kids) = q := ⟨_, rfl⟩
        rw [hq] at HC HNO HSTEP
        clear hq
        cases q with
        | true =>
          go_wp2_with fail
          go_region_with (go_at_call 22; refine (Calls.mono HC.out ?_); rintro e w1 ⟨rfl, hb1⟩)
          all_goals
            go_wp2_with fail
            go_roundg (ts.length - (k + 1))
            case measure => omega
            case rel => exact ⟨k + 1, by omega, by go_num, hB.drew.trans (hb1.mono hB.size), by rw [HSTEP.out, HTK.out]; rfl⟩
        | false =>
          have HQ : Hid (likeB (n + 1) ts us = false) := HNO.out rfl
          clear HNO HSTEP
          go_wp2_with fail
          go_region_with (go_at_call 22; refine (Calls.mono HC.out ?_); rintro e w1 ⟨rfl, hb1⟩)
          all_goals
            go_wp2_with fail
            go_ret
            exact ⟨by rw [HQ.out]; rfl, hB.drew.trans (hb1.mono hB.size)⟩
      · have hkk : k = ts.length := by omega
        subst hkk
        have HQ : Hid (likeB (n + 1) ts us = true) := by show _ = _; rw [likeB_pre HL.out]; exact HTK.out
        go_wp2_with fail
        go_ret
        exact ⟨by rw [HQ.out]; rfl, hB⟩
  · have hne : ((ts.length : Int) != us.length) = true := by
      have : (ts.length : Int) ≠ us.length := by omega
      simpa using this
    rw [likeB_len hlen]
    clear h4 h4'
    go_enter Tryd.func37, Tryd.ntmps37
    go_wp2_with fail
    go_ret
    exact ⟨rfl, Below.refl _ _⟩

theorem like_of (n : Nat) (h : LikesOk n) : LikeOk n := by
  intro S S' va va' vk vk' t u w h1 h2 h3 h4
  have H : Hid (LikesOk n) := h
  clear h
  obtain ⟨ka, kc, rfl, _, _⟩ := Trees.shape n h3
  obtain ⟨ka', kc', rfl, _, _⟩ := Trees.shape n h4
  obtain ⟨aa, ac, rfl⟩ := h1.shape
  obtain ⟨aa', ac', rfl⟩ := h2.shape
  obtain ⟨tx, s, l, ts⟩ := t
  obtain ⟨tx', s', l', ts'⟩ := u
  simp only at h1 h2 h3 h4 ⊢
  unfold aloneB
  simp only
  rw [bytes_dec s]
  have hb0 : ∀ X Y, Below w.heap.size w ((w.alloc X).alloc Y) := fun X Y => (Below.alloc1 w X).alloc (by simp) Y
  cases htx : (tx == tx') with
  | false =>
    simp only [Bool.false_and]
    go_enter Tryd.func22, Tryd.ntmps22
    go_wp2_with fail
    go_ret
    exact ⟨rfl, hb0 _ _⟩
  | true =>
    cases hs : (s.toList == s'.toList) with
    | false =>
      simp only [Bool.true_and, Bool.false_and]
      go_enter Tryd.func22, Tryd.ntmps22
      go_wp2_with fail
      go_ret
      exact ⟨rfl, hb0 _ _⟩
    | true =>
      simp only [Bool.true_and]
      have HA : Hid (∀ X Y, Calls Tryd.prog 36 #[.slice aa l.length ac, .slice aa' l'.length ac'] ((w.alloc X).alloc Y) fun e w' => e = .returned (.bool (decide (l = l'))) ∧ Below ((w.alloc X).alloc Y).heap.size ((w.alloc X).alloc Y) w') := fun X Y => sameAttrs_ex S S' _ _ l l' _ (h1.later (hb0 _ _)) (h2.later (hb0 _ _))
      have HT : Hid (∀ W, Below w.heap.size w W → Calls Tryd.prog 37 #[.slice ka ts.length kc, .slice ka' ts'.length kc'] W fun e w' => e = .returned (.bool (likeB n ts ts')) ∧ Below W.heap.size W w') := fun W hW => H.out S S' _ _ ts ts' W (Trees.later hW n h3) (Trees.later hW n h4)
      clear h1 h2 h3 h4 H
      obtain ⟨q1, hq1⟩ : ∃ q, decide (l = l') = q := ⟨_, rfl⟩
      obtain ⟨q2, hq2⟩ : ∃ q, likeB n ts ts' = q := ⟨_, rfl⟩
      rw [hq1] at HA ⊢
      rw [hq2] at HT ⊢
      clear hq1 hq2
      go_enter Tryd.func22, Tryd.ntmps22
      go_wp2_with fail
      refine (Calls.mono (HA.out _ _) ?_)
      rintro e w1 ⟨rfl, hb1⟩
      have q3 : w1.cell? ⟨w.heap.size, 3, none⟩ = some (.slice ka ts.length kc) := by
        rw [hb1.cell (p := ⟨w.heap.size, 3, none⟩) (by simp; omega)]; simp [go_sem]
      have q3' : w1.cell? ⟨w.heap.size + 1, 3, none⟩ = some (.slice ka' ts'.length kc') := by
        rw [hb1.cell (p := ⟨w.heap.size + 1, 3, none⟩) (by simp)]; simp [go_sem]
      have hB1 : Below w.heap.size w w1 := (hb0 _ _).trans (hb1.mono (by simp; omega))
      cases q1 with
      | false =>
        go_wp2_with fail
        go_ret
        exact ⟨rfl, hB1⟩
      | true =>
        go_wp2_with fail
        refine (Calls.mono (HT.out _ hB1) ?_)
        rintro e w2 ⟨rfl, hb2⟩
        go_wp2_with fail
        go_ret
        exact ⟨by rw [Bool.true_and]; rfl, hB1.trans (hb2.mono hB1.size)⟩

theorem likes_zero : LikesOk 0 := by
  intro S S' v v' ts us w h1 h2
  obtain ⟨rfl, a, cap, rfl, _⟩ := h1
  obtain ⟨rfl, a', cap', rfl, _⟩ := h2
  rw [likeB_nil]
  go_enter Tryd.func37, Tryd.ntmps37
  go_wp2_with fail
  go_rounds 1
  go_ret
  exact ⟨rfl, Below.refl _ _⟩

theorem likes_any (n : Nat) : LikesOk n := by
  induction n with
  | zero => exact likes_zero
  | succ n ih => exact likes_of n (like_of n ih)

theorem like_any (n : Nat) : LikeOk n := like_of n (likes_any n)
end Go.Proofs.YtifbdfcbliafjaaDoor
