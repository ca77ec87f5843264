/- slices.Equal at attributes, and tree.alikeAlone, exactly. No condition. -/
import Derived.Test.YtifbdfcbliafjaaDoorRefSame
namespace Go.Proofs.YtifbdfcbliafjaaDoor
open Go.ChangeShapes Go.WideShapes Go.ChangeAt Go.RowKit
set_option maxRecDepth 100000

theorem equal_any (S S' : Nat → Prop) (v v' : Value) (l m : List (ByteArray × ByteArray)) (w : World) (h1 : Attrs S w v l) (h2 : Attrs S' w v' m) :
    Calls Tryd.prog 92 #[v, v'] w fun e w' => e = .returned (.bool (decide (l = m))) ∧ Below w.heap.size w w' := by
  obtain ⟨a, cap, rfl, _, hm, h5⟩ := h1
  obtain ⟨a', cap', rfl, _, _, h5'⟩ := h2
  unfold maxLen at hm
  by_cases hlen : l.length = m.length
  · have hne : ((l.length : Int) != m.length) = false := by simp [hlen]
    have HL : Hid (l.length = m.length) := hlen
    clear hlen
    go_enter Tryd.func92, Tryd.ntmps92
    go_wp2_with fail
    go_loopg [13] l.length (fun g i wr => ∃ k : Nat, k + g = l.length ∧ i = .int .i64 k ∧ Below w.heap.size w wr ∧ l.take k = m.take k)
    case atStart => exact ⟨0, by omega, rfl, Below.refl _ _, by simp⟩
    case round =>
      obtain ⟨k, hk, rfl, hB, htk⟩ := hrel
      have HTK : Hid (l.take k = m.take k) := htk
      clear htk
      by_cases hlt : k < l.length
      · have hne1 : l ≠ [] := by intro e; subst e; simp at hlt
        have hlt' : k < m.length := by have := HL.out; omega
        have hne2 : m ≠ [] := by intro e; subst e; simp at hlt'
        obtain ⟨b, o, rfl, hs, hcc⟩ := h5 hne1
        obtain ⟨b', o', rfl, hs', hcc'⟩ := h5' hne2
        obtain ⟨x, hx⟩ : ∃ x, l[k]? = some x := ⟨l[k], by simp [hlt]⟩
        obtain ⟨y, hy⟩ : ∃ y, m[k]? = some y := ⟨m[k], by simp [hlt']⟩
        obtain ⟨c0, c1⟩ := hcc k x hx
        obtain ⟨c0', c1'⟩ := hcc' k y hy
        have hbl : b < w.heap.size := World.block_lt_of_cell? w _ c0
        have hbl' : b' < w.heap.size := World.block_lt_of_cell? w _ c0'
        rw [← hB.cell (p := ⟨b, o + k * 2, none⟩) hbl] at c0
        rw [← hB.cell (p := ⟨b, o + k * 2 + 1, none⟩) hbl] at c1
        rw [← hB.cell (p := ⟨b', o' + k * 2, none⟩) hbl'] at c0'
        rw [← hB.cell (p := ⟨b', o' + k * 2 + 1, none⟩) hbl'] at c1'
        have hlti : (k : Int) < (l.length : Int) := by omega
        have hlti' : (k : Int) < (m.length : Int) := by omega
        have hstep : x = y → l.take (k + 1) = m.take (k + 1) := by
          intro e
          have e1 : l.take (k + 1) = l.take k ++ [x] := by rw [List.take_succ_eq_append_getElem hlt]; congr 2; simpa [hlt] using hx
          have e2 : m.take (k + 1) = m.take k ++ [y] := by rw [List.take_succ_eq_append_getElem hlt']; congr 2; simpa [hlt'] using hy
          rw [e1, e2, HTK.out, e]
        have hno : x ≠ y → decide (l = m) = false := by
          intro e
          simp only [decide_eq_false_iff_not]
          rintro rfl
          rw [hx] at hy; exact e (by cases hy; rfl)
        have HSTEP : Hid (x = y → l.take (k + 1) = m.take (k + 1)) := hstep
        have HNO : Hid (x ≠ y → decide (l = m) = false) := hno
        clear hcc hcc' h5 h5' hx hy hstep hno
        obtain ⟨x1, x2⟩ := x
        obtain ⟨y1, y2⟩ := y
        simp only at c0 c1 c0' c1'
        by_cases he : x1 = y1
        · by_cases he2 : x2 = y2
          · subst he; subst he2
            have HS2 : Hid (l.take (k + 1) = m.take (k + 1)) := HSTEP.out rfl
            clear HSTEP HNO
            go_wp2_with fail
            go_quiet (fail)
            go_wp2_with fail
            go_roundg (l.length - (k + 1))
            case measure => omega
            case rel => exact ⟨k + 1, by omega, by go_num, below_drewN hB nq, HS2.out⟩
          · have hb : (x2.toList == y2.toList) = false := bytes_ne he2
            have HQ : Hid (decide (l = m) = false) := HNO.out (by intro e; cases e; exact he2 rfl)
            subst he
            clear HSTEP HNO he2
            go_wp2_with fail
            go_quiet (fail)
            go_wp2_with fail
            go_ret
            exact ⟨by rw [HQ.out]; rfl, below_drewN hB nq⟩
        · have hb : (x1.toList == y1.toList) = false := bytes_ne he
          have HQ : Hid (decide (l = m) = false) := HNO.out (by intro e; cases e; exact he rfl)
          clear HSTEP HNO he
          go_wp2_with fail
          go_quiet (fail)
          go_wp2_with fail
          go_ret
          exact ⟨by rw [HQ.out]; rfl, below_drewN hB nq⟩
      · have hkk : k = l.length := by omega
        subst hkk
        have HQ : Hid (decide (l = m) = true) := decide_eq_true (take_ext HL.out HTK.out)
        go_wp2_with fail
        go_ret
        exact ⟨by rw [HQ.out]; rfl, hB⟩
  · have hne : ((l.length : Int) != m.length) = true := by
      have : (l.length : Int) ≠ m.length := by omega
      simpa using this
    have hq : decide (l = m) = false := by
      simp only [decide_eq_false_iff_not]
      rintro rfl; exact hlen rfl
    rw [hq]
    go_enter Tryd.func92, Tryd.ntmps92
    go_wp2_with fail
    go_ret
    exact ⟨rfl, Below.refl _ _⟩

theorem alone_any (S S' : Nat → Prop) (va va' vk vk' : Value) (t u : Tr) (w : World) (h1 : Attrs S w va t.attrs) (h2 : Attrs S' w va' u.attrs) (hk : ∃ a l c, vk = .slice a l c) (hk' : ∃ a l c, vk' = .slice a l c) :
    Calls Tryd.prog 69 #[.agg #[.bool t.text, .string t.s, va, vk], .agg #[.bool u.text, .string u.s, va', vk']] w fun e w' => e = .returned (.bool (aloneB t u)) ∧ Below w.heap.size w w' := by
  obtain ⟨ka, kl, kc, rfl⟩ := hk
  obtain ⟨ka', kl', kc', rfl⟩ := hk'
  obtain ⟨aa, ac, rfl⟩ := h1.shape
  obtain ⟨aa', ac', rfl⟩ := h2.shape
  obtain ⟨tx, s, l, ts⟩ := t
  obtain ⟨tx', s', l', ts'⟩ := u
  simp only at h1 h2 ⊢
  unfold aloneB
  simp only
  rw [bytes_dec s]
  have hb0 : ∀ X Y, Below w.heap.size w ((w.alloc X).alloc Y) := fun X Y => (Below.alloc1 w X).alloc (by simp) Y
  cases htx : (tx == tx') with
  | false =>
    simp only [Bool.false_and]
    go_enter Tryd.func69, Tryd.ntmps69
    go_wp2_with fail
    go_ret
    exact ⟨rfl, hb0 _ _⟩
  | true =>
    cases hs : (s.toList == s'.toList) with
    | false =>
      simp only [Bool.true_and, Bool.false_and]
      go_enter Tryd.func69, Tryd.ntmps69
      go_wp2_with fail
      go_ret
      exact ⟨rfl, hb0 _ _⟩
    | true =>
      simp only [Bool.true_and]
      have HA : Hid (∀ X Y, Calls Tryd.prog 92 #[.slice aa l.length ac, .slice aa' l'.length ac'] ((w.alloc X).alloc Y) fun e w' => e = .returned (.bool (decide (l = l'))) ∧ Below ((w.alloc X).alloc Y).heap.size ((w.alloc X).alloc Y) w') := fun X Y => equal_any S S' _ _ l l' _ (h1.later (hb0 _ _)) (h2.later (hb0 _ _))
      clear h1 h2
      obtain ⟨q1, hq1⟩ : ∃ q, decide (l = l') = q := ⟨_, rfl⟩
      rw [hq1] at HA ⊢
      clear hq1
      go_enter Tryd.func69, Tryd.ntmps69
      go_wp2_with fail
      refine (Calls.mono (HA.out _ _) ?_)
      rintro e w1 ⟨rfl, hb1⟩
      have hB1 : Below w.heap.size w w1 := (hb0 _ _).trans (hb1.mono (by simp; omega))
      go_wp2_with fail
      go_ret
      exact ⟨rfl, hB1⟩
end Go.Proofs.YtifbdfcbliafjaaDoor
