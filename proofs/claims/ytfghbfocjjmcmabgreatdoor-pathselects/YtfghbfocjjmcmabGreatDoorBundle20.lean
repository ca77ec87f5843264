/- Bundled: SameD IsDocR SelectP. What each says stands ahead of it. -/
import Derived.Test.YtfghbfocjjmcmabGreatDoorBundle12
import Derived.Test.YtfghbfocjjmcmabGreatDoorBundle09
import Derived.Test.YtfghbfocjjmcmabGreatDoorBundle13
/- The document's own SameDoc, for every two documents. No condition. -/
namespace Go.Proofs.YtfghbfocjjmcmabGreatDoor
open Go.ChangeShapes Go.WideShapes Go.ChangeAt Go.RowKit
set_option maxRecDepth 100000

attribute [local go_sem] cell_set

theorem ndsB_len : ∀ {a b : List Nd}, a.length ≠ b.length → ndsB a b = false := by
  intro a b h
  cases hq : ndsB a b with
  | false => rfl
  | true => exact absurd (by rw [ndsB_iff.1 hq]) h
theorem ndsB_drop {a b : List Nd} {i : Nat} {x y : Nd} (hx : a[i]? = some x) (hy : b[i]? = some y) : ndsB (a.drop i) (b.drop i) = (ndB x y && ndsB (a.drop (i + 1)) (b.drop (i + 1))) := by
  have ha : i < a.length := by
    rcases Nat.lt_or_ge i a.length with h' | h'
    · exact h'
    · rw [List.getElem?_eq_none h'] at hx; cases hx
  have hb : i < b.length := by
    rcases Nat.lt_or_ge i b.length with h' | h'
    · exact h'
    · rw [List.getElem?_eq_none h'] at hy; cases hy
  have e1 : a.drop i = x :: a.drop (i + 1) := by rw [List.drop_eq_getElem_cons ha]; congr 1; simpa [ha] using hx
  have e2 : b.drop i = y :: b.drop (i + 1) := by rw [List.drop_eq_getElem_cons hb]; congr 1; simpa [hb] using hy
  rw [e1, e2, ndsB]

set_option maxHeartbeats 4000000 in
theorem sameDoc_ex (S T : Nat → Prop) (va vb : Value) (ns ms : List Nd) (w : World) (h1 : Nodes S w va ns) (h2 : Nodes T w vb ms) :
    Calls Tryz.prog 12 #[.agg #[va], .agg #[vb]] w fun e w' => e = .returned (.bool (ndsB ns ms)) ∧ Below w.heap.size w w' := by
  have H1 : Hid (Nodes S w va ns) := h1
  have H2 : Hid (Nodes T w vb ms) := h2
  obtain ⟨a, ca, rfl, _, hcm⟩ := h1.shape
  obtain ⟨b, cb, rfl, _, hcm2⟩ := h2.shape
  unfold maxLen at hcm hcm2
  have hb0 : Below w.heap.size w ((w.alloc (.cells #[.slice a ns.length ca] 24)).alloc (.cells #[.slice b ms.length cb] 24)) := (Below.alloc1 w _).alloc (by simp) _
  have hx0 : ((w.alloc (.cells #[.slice a ns.length ca] 24)).alloc (.cells #[.slice b ms.length cb] 24)).heap[w.heap.size]? = some (.cells #[.slice a ns.length ca] 24 (0, 0)) := by
    rw [Lib.alloc_old _ _ _ (by simp)]; exact heap_alloc_new _ _
  have hy0 : ((w.alloc (.cells #[.slice a ns.length ca] 24)).alloc (.cells #[.slice b ms.length cb] 24)).heap[w.heap.size + 1]? = some (.cells #[.slice b ms.length cb] 24 (0, 0)) := by
    have e := heap_alloc_new (w.alloc (.cells #[.slice a ns.length ca] 24)) (.cells #[.slice b ms.length cb] 24)
    rw [World.size_alloc] at e
    exact e
  clear h1 h2
  by_cases hlm : ns.length = ms.length
  · have hne : ((ns.length : Int) != (ms.length : Int)) = false := by simp [hlm]
    have HLM : Hid (ns.length = ms.length) := hlm
    clear hlm
    go_enter Tryz.func12, Tryz.ntmps12
    go_wp2_with fail
    generalize ((w.alloc (.cells #[.slice a ns.length ca] 24)).alloc (.cells #[.slice b ms.length cb] 24)) = W1 at *
    go_loopg [18] ns.length (fun g j wr => ∃ (i : Nat), i + g = ns.length ∧ j = .int .i64 (i : Int) ∧ Below W1.heap.size W1 wr ∧ ndsB ns ms = ndsB (ns.drop i) (ms.drop i))
    case atStart => exact ⟨0, by omega, rfl, Below.refl _ _, rfl⟩
    case round =>
      obtain ⟨i, hi, rfl, hB, hT⟩ := hrel
      have HT : Hid (ndsB ns ms = ndsB (ns.drop i) (ms.drop i)) := hT
      clear hT
      have hBw : Below w.heap.size w wr := hb0.trans (hB.mono hb0.size)
      have hxr := (hB.block _ (blk_lt hx0)).trans hx0
      have hyr := (hB.block _ (blk_lt hy0)).trans hy0
      have dx : wr.cell? ⟨w.heap.size, 0, none⟩ = some (.slice a ns.length ca) := by rw [Lib.cell_of_heap hxr]; rfl
      have dy : wr.cell? ⟨w.heap.size + 1, 0, none⟩ = some (.slice b ms.length cb) := by rw [Lib.cell_of_heap hyr]; rfl
      by_cases hil : i < ns.length
      · have him : i < ms.length := by have := HLM.out; omega
        obtain ⟨x, hx⟩ : ∃ x, ns[i]? = some x := ⟨ns[i], by simp [hil]⟩
        obtain ⟨y, hy⟩ : ∃ y, ms[i]? = some y := ⟨ms[i], by simp [him]⟩
        obtain ⟨b1, o1, c1, xva, xvk, hv1, _, _, _, hbw1, p0, p1, p2, p3, p4, hxA, hxK⟩ := (H1.out.later hBw).at hx
        injection hv1 with hv1 hvl hv2
        subst hv1 hv2
        clear hvl
        obtain ⟨b2, o2, c2, yva, yvk, hv3, _, _, _, hbw2, q0, q1, q2, q3, q4, hyA, hyK⟩ := (H2.out.later hBw).at hy
        injection hv3 with hv3 hvl hv4
        subst hv3 hv4
        clear hvl
        obtain ⟨xaa, xac, rfl⟩ := hxA.shape
        obtain ⟨xka, xkc, rfl, _, _⟩ := hxK.shape
        obtain ⟨yaa, yac, rfl⟩ := hyA.shape
        obtain ⟨yka, ykc, rfl, _, _⟩ := hyK.shape
        have HTD : Hid _ := ndsB_drop hx hy
        have hili : (i : Int) < (ns.length : Int) := by omega
        have himi : (i : Int) < (ms.length : Int) := by omega
        have hlt0 : w.heap.size < wr.heap.size := blk_lt hxr
        have hlt1 : w.heap.size + 1 < wr.heap.size := blk_lt hyr
        have hne0 : wr.heap.size ≠ w.heap.size := by omega
        have hne1 : wr.heap.size ≠ w.heap.size + 1 := by omega
        have hne2 : wr.heap.size ≠ b1 := by omega
        have hne3 : wr.heap.size ≠ b2 := by omega
        clear hx hy hxr hyr
        go_wp2_with fail
        go_region
        · have hW2 : Below wr.heap.size wr ((wr.alloc (.cells #[.bool x.text, .string x.s, .slice xaa x.attrs.length xac, .int .i64 x.parent, .slice xka x.kids.length xkc] 49)).alloc (.cells #[.bool y.text, .string y.s, .slice yaa y.attrs.length yac, .int .i64 y.parent, .slice yka y.kids.length ykc] 49)).drew := (((Below.refl _ wr).alloc (Nat.le_refl _) _).alloc (by simp) _).drew
          have hF : (((wr.alloc (.cells #[.bool x.text, .string x.s, .slice xaa x.attrs.length xac, .int .i64 x.parent, .slice xka x.kids.length xkc] 49)).alloc (.cells #[.bool y.text, .string y.s, .slice yaa y.attrs.length yac, .int .i64 y.parent, .slice yka y.kids.length ykc] 49)).drew).heap[wr.heap.size]? = some (.cells #[.bool x.text, .string x.s, .slice xaa x.attrs.length xac, .int .i64 x.parent, .slice xka x.kids.length xkc] 49 (0, 0)) := by
            show ((wr.alloc (.cells #[.bool x.text, .string x.s, .slice xaa x.attrs.length xac, .int .i64 x.parent, .slice xka x.kids.length xkc] 49)).alloc (.cells #[.bool y.text, .string y.s, .slice yaa y.attrs.length yac, .int .i64 y.parent, .slice yka y.kids.length ykc] 49)).heap[wr.heap.size]? = _
            rw [Lib.alloc_old _ _ _ (by simp)]; exact heap_alloc_new _ _
          have hG : (((wr.alloc (.cells #[.bool x.text, .string x.s, .slice xaa x.attrs.length xac, .int .i64 x.parent, .slice xka x.kids.length xkc] 49)).alloc (.cells #[.bool y.text, .string y.s, .slice yaa y.attrs.length yac, .int .i64 y.parent, .slice yka y.kids.length ykc] 49)).drew).heap[wr.heap.size + 1]? = some (.cells #[.bool y.text, .string y.s, .slice yaa y.attrs.length yac, .int .i64 y.parent, .slice yka y.kids.length ykc] 49 (0, 0)) := by
            show ((wr.alloc (.cells #[.bool x.text, .string x.s, .slice xaa x.attrs.length xac, .int .i64 x.parent, .slice xka x.kids.length xkc] 49)).alloc (.cells #[.bool y.text, .string y.s, .slice yaa y.attrs.length yac, .int .i64 y.parent, .slice yka y.kids.length ykc] 49)).heap[wr.heap.size + 1]? = _
            have e := heap_alloc_new (wr.alloc (.cells #[.bool x.text, .string x.s, .slice xaa x.attrs.length xac, .int .i64 x.parent, .slice xka x.kids.length xkc] 49)) (.cells #[.bool y.text, .string y.s, .slice yaa y.attrs.length yac, .int .i64 y.parent, .slice yka y.kids.length ykc] 49)
            rw [World.size_alloc] at e
            exact e
          generalize ((wr.alloc (.cells #[.bool x.text, .string x.s, .slice xaa x.attrs.length xac, .int .i64 x.parent, .slice xka x.kids.length xkc] 49)).alloc (.cells #[.bool y.text, .string y.s, .slice yaa y.attrs.length yac, .int .i64 y.parent, .slice yka y.kids.length ykc] 49)).drew = W2 at *
          have x0 : W2.cell? ⟨wr.heap.size, 0, none⟩ = some (.bool x.text) := by rw [Lib.cell_of_heap hF]; rfl
          have x1 : W2.cell? ⟨wr.heap.size, 1, none⟩ = some (.string x.s) := by rw [Lib.cell_of_heap hF]; rfl
          have x2 : W2.cell? ⟨wr.heap.size, 2, none⟩ = some (.slice xaa x.attrs.length xac) := by rw [Lib.cell_of_heap hF]; rfl
          have x3 : W2.cell? ⟨wr.heap.size, 3, none⟩ = some (.int .i64 x.parent) := by rw [Lib.cell_of_heap hF]; rfl
          have x4 : W2.cell? ⟨wr.heap.size, 4, none⟩ = some (.slice xka x.kids.length xkc) := by rw [Lib.cell_of_heap hF]; rfl
          have y0 : W2.cell? ⟨wr.heap.size + 1, 0, none⟩ = some (.bool y.text) := by rw [Lib.cell_of_heap hG]; rfl
          have y1 : W2.cell? ⟨wr.heap.size + 1, 1, none⟩ = some (.string y.s) := by rw [Lib.cell_of_heap hG]; rfl
          have y2 : W2.cell? ⟨wr.heap.size + 1, 2, none⟩ = some (.slice yaa y.attrs.length yac) := by rw [Lib.cell_of_heap hG]; rfl
          have y3 : W2.cell? ⟨wr.heap.size + 1, 3, none⟩ = some (.int .i64 y.parent) := by rw [Lib.cell_of_heap hG]; rfl
          have y4 : W2.cell? ⟨wr.heap.size + 1, 4, none⟩ = some (.slice yka y.kids.length ykc) := by rw [Lib.cell_of_heap hG]; rfl
          have HAT : Hid (∀ W, Below W2.heap.size W2 W → Calls Tryz.prog 31 #[.slice xaa x.attrs.length xac, .slice yaa y.attrs.length yac] W fun e w' => e = .returned (.bool (decide (x.attrs = y.attrs))) ∧ Below W.heap.size W w') := fun W h => sameAttrs_ex _ _ _ _ x.attrs y.attrs W ((hxA.later hW2).later h) ((hyA.later hW2).later h)
          have HKN : Hid (∀ W, Below W2.heap.size W2 W → Calls Tryz.prog 9 #[.slice xka x.kids.length xkc, .slice yka y.kids.length ykc] W fun e w' => e = .returned (.bool (decide (x.kids = y.kids))) ∧ Below W.heap.size W w') := fun W h => sameNumbers_ex _ _ _ _ x.kids y.kids W ((hxK.later hW2).later h) ((hyK.later hW2).later h)
          have hBW2 : Below w.heap.size w W2 := hBw.trans (hW2.mono hBw.size)
          have hB12 : Below W1.heap.size W1 W2 := hB.trans (hW2.mono hB.size)
          have KF : ndB x y = false → Hid (ndsB ns ms = false) := by
            intro hq
            show _ = _
            rw [HT.out, HTD.out, hq]; rfl
          clear p0 p1 p2 p3 p4 q0 q1 q2 q3 q4 dx dy hne0 hne1 hne2 hne3 hlt0 hlt1
          by_cases k1 : x.text = y.text
          · have k1b : (x.text == y.text) = true := by simp [k1]
            by_cases k2 : x.s = y.s
            · have k2b : (x.s.toList == y.s.toList) = true := by rw [k2]; simp
              by_cases k3 : x.parent = y.parent
              · have k3b : (x.parent != y.parent) = false := by simp [k3]
                have k3c : (x.parent == y.parent) = true := by simp [k3]
                by_cases k4 : x.attrs = y.attrs
                · have HAT2 : Hid (∀ W, Below W2.heap.size W2 W → Calls Tryz.prog 31 #[.slice xaa x.attrs.length xac, .slice yaa y.attrs.length yac] W fun e w' => e = .returned (.bool true) ∧ Below W.heap.size W w') := by
                    intro W h; have := HAT.out W h; rw [decide_eq_true k4] at this; exact this
                  by_cases k5 : x.kids = y.kids
                  · have HKN2 : Hid (∀ W, Below W2.heap.size W2 W → Calls Tryz.prog 9 #[.slice xka x.kids.length xkc, .slice yka y.kids.length ykc] W fun e w' => e = .returned (.bool true) ∧ Below W.heap.size W w') := by
                      intro W h; have := HKN.out W h; rw [decide_eq_true k5] at this; exact this
                    have HN : Hid (ndsB ns ms = ndsB (ns.drop (i + 1)) (ms.drop (i + 1))) := by
                      show _ = _
                      rw [HT.out, HTD.out, show ndB x y = true by unfold ndB; simp [k1, k2, k3, k4, k5]]; rfl
                    clear KF k1 k2 k3 k4 k5 HAT HKN
                    go_wp2_with fail
                    refine (Calls.mono (HAT2.out _ (Below.refl _ _)) ?_)
                    rintro e w3 ⟨rfl, hb3⟩
                    have hX3 := (hb3.block _ (blk_lt hF)).trans hF
                    have hY3 := (hb3.block _ (blk_lt hG)).trans hG
                    have hu4 : w3.cell? ⟨wr.heap.size, 4, none⟩ = some (.slice xka x.kids.length xkc) := by rw [Lib.cell_of_heap hX3]; rfl
                    have hv4 : w3.cell? ⟨wr.heap.size + 1, 4, none⟩ = some (.slice yka y.kids.length ykc) := by rw [Lib.cell_of_heap hY3]; rfl
                    go_wp2_with fail
                    refine (Calls.mono (HKN2.out _ hb3) ?_)
                    rintro e w4 ⟨rfl, hb4⟩
                    go_wp2_with fail
                    go_roundg (ns.length - (i + 1))
                    case measure => omega
                    case rel => exact ⟨i + 1, by omega, by go_num, hB12.trans ((hb3.trans (hb4.mono hb3.size)).mono hB12.size), HN.out⟩
                  · have HKN2 : Hid (∀ W, Below W2.heap.size W2 W → Calls Tryz.prog 9 #[.slice xka x.kids.length xkc, .slice yka y.kids.length ykc] W fun e w' => e = .returned (.bool false) ∧ Below W.heap.size W w') := by
                      intro W h; have := HKN.out W h; rw [decide_eq_false k5] at this; exact this
                    have HE := KF (by unfold ndB; simp [k5])
                    clear KF k1 k2 k3 k4 k5 HAT HKN
                    go_wp2_with fail
                    refine (Calls.mono (HAT2.out _ (Below.refl _ _)) ?_)
                    rintro e w3 ⟨rfl, hb3⟩
                    have hX3 := (hb3.block _ (blk_lt hF)).trans hF
                    have hY3 := (hb3.block _ (blk_lt hG)).trans hG
                    have hu4 : w3.cell? ⟨wr.heap.size, 4, none⟩ = some (.slice xka x.kids.length xkc) := by rw [Lib.cell_of_heap hX3]; rfl
                    have hv4 : w3.cell? ⟨wr.heap.size + 1, 4, none⟩ = some (.slice yka y.kids.length ykc) := by rw [Lib.cell_of_heap hY3]; rfl
                    go_wp2_with fail
                    refine (Calls.mono (HKN2.out _ hb3) ?_)
                    rintro e w4 ⟨rfl, hb4⟩
                    go_wp2_with fail
                    go_ret
                    exact ⟨by rw [HE.out]; rfl, hBW2.trans ((hb3.trans (hb4.mono hb3.size)).mono hBW2.size)⟩
                · have HAT2 : Hid (∀ W, Below W2.heap.size W2 W → Calls Tryz.prog 31 #[.slice xaa x.attrs.length xac, .slice yaa y.attrs.length yac] W fun e w' => e = .returned (.bool false) ∧ Below W.heap.size W w') := by
                    intro W h; have := HAT.out W h; rw [decide_eq_false k4] at this; exact this
                  have HE := KF (by unfold ndB; simp [k4])
                  clear KF k1 k2 k3 k4 HAT HKN
                  go_wp2_with fail
                  refine (Calls.mono (HAT2.out _ (Below.refl _ _)) ?_)
                  rintro e w3 ⟨rfl, hb3⟩
                  go_wp2_with fail
                  go_ret
                  exact ⟨by rw [HE.out]; rfl, hBW2.trans (hb3.mono hBW2.size)⟩
              · have k3b : (x.parent != y.parent) = true := by simpa using k3
                have k3c : (x.parent == y.parent) = false := by simpa using k3
                have HE := KF (by unfold ndB; simp [k3])
                clear KF k1 k2 k3 HAT HKN
                go_wp2_with fail
                go_ret
                exact ⟨by rw [HE.out]; rfl, hBW2⟩
            · have k2b : (x.s.toList == y.s.toList) = false := bytes_ne k2
              have HE := KF (by unfold ndB; simp [k2])
              clear KF k1 k2 HAT HKN
              go_wp2_with fail
              go_ret
              exact ⟨by rw [HE.out]; rfl, hBW2⟩
          · have k1b : (x.text == y.text) = false := by simpa using k1
            have HE := KF (by unfold ndB; simp [k1])
            clear KF k1 HAT HKN
            go_wp2_with fail
            go_ret
            exact ⟨by rw [HE.out]; rfl, hBW2⟩
        · have hW2 : Below wr.heap.size wr ((wr.alloc (.cells #[.bool y.text, .string y.s, .slice yaa y.attrs.length yac, .int .i64 y.parent, .slice yka y.kids.length ykc] 49)).alloc (.cells #[.bool x.text, .string x.s, .slice xaa x.attrs.length xac, .int .i64 x.parent, .slice xka x.kids.length xkc] 49)).drew := (((Below.refl _ wr).alloc (Nat.le_refl _) _).alloc (by simp) _).drew
          have hF : (((wr.alloc (.cells #[.bool y.text, .string y.s, .slice yaa y.attrs.length yac, .int .i64 y.parent, .slice yka y.kids.length ykc] 49)).alloc (.cells #[.bool x.text, .string x.s, .slice xaa x.attrs.length xac, .int .i64 x.parent, .slice xka x.kids.length xkc] 49)).drew).heap[wr.heap.size]? = some (.cells #[.bool y.text, .string y.s, .slice yaa y.attrs.length yac, .int .i64 y.parent, .slice yka y.kids.length ykc] 49 (0, 0)) := by
            show ((wr.alloc (.cells #[.bool y.text, .string y.s, .slice yaa y.attrs.length yac, .int .i64 y.parent, .slice yka y.kids.length ykc] 49)).alloc (.cells #[.bool x.text, .string x.s, .slice xaa x.attrs.length xac, .int .i64 x.parent, .slice xka x.kids.length xkc] 49)).heap[wr.heap.size]? = _
            rw [Lib.alloc_old _ _ _ (by simp)]; exact heap_alloc_new _ _
          have hG : (((wr.alloc (.cells #[.bool y.text, .string y.s, .slice yaa y.attrs.length yac, .int .i64 y.parent, .slice yka y.kids.length ykc] 49)).alloc (.cells #[.bool x.text, .string x.s, .slice xaa x.attrs.length xac, .int .i64 x.parent, .slice xka x.kids.length xkc] 49)).drew).heap[wr.heap.size + 1]? = some (.cells #[.bool x.text, .string x.s, .slice xaa x.attrs.length xac, .int .i64 x.parent, .slice xka x.kids.length xkc] 49 (0, 0)) := by
            show ((wr.alloc (.cells #[.bool y.text, .string y.s, .slice yaa y.attrs.length yac, .int .i64 y.parent, .slice yka y.kids.length ykc] 49)).alloc (.cells #[.bool x.text, .string x.s, .slice xaa x.attrs.length xac, .int .i64 x.parent, .slice xka x.kids.length xkc] 49)).heap[wr.heap.size + 1]? = _
            have e := heap_alloc_new (wr.alloc (.cells #[.bool y.text, .string y.s, .slice yaa y.attrs.length yac, .int .i64 y.parent, .slice yka y.kids.length ykc] 49)) (.cells #[.bool x.text, .string x.s, .slice xaa x.attrs.length xac, .int .i64 x.parent, .slice xka x.kids.length xkc] 49)
            rw [World.size_alloc] at e
            exact e
          generalize ((wr.alloc (.cells #[.bool y.text, .string y.s, .slice yaa y.attrs.length yac, .int .i64 y.parent, .slice yka y.kids.length ykc] 49)).alloc (.cells #[.bool x.text, .string x.s, .slice xaa x.attrs.length xac, .int .i64 x.parent, .slice xka x.kids.length xkc] 49)).drew = W2 at *
          have x0 : W2.cell? ⟨wr.heap.size + 1, 0, none⟩ = some (.bool x.text) := by rw [Lib.cell_of_heap hG]; rfl
          have x1 : W2.cell? ⟨wr.heap.size + 1, 1, none⟩ = some (.string x.s) := by rw [Lib.cell_of_heap hG]; rfl
          have x2 : W2.cell? ⟨wr.heap.size + 1, 2, none⟩ = some (.slice xaa x.attrs.length xac) := by rw [Lib.cell_of_heap hG]; rfl
          have x3 : W2.cell? ⟨wr.heap.size + 1, 3, none⟩ = some (.int .i64 x.parent) := by rw [Lib.cell_of_heap hG]; rfl
          have x4 : W2.cell? ⟨wr.heap.size + 1, 4, none⟩ = some (.slice xka x.kids.length xkc) := by rw [Lib.cell_of_heap hG]; rfl
          have y0 : W2.cell? ⟨wr.heap.size, 0, none⟩ = some (.bool y.text) := by rw [Lib.cell_of_heap hF]; rfl
          have y1 : W2.cell? ⟨wr.heap.size, 1, none⟩ = some (.string y.s) := by rw [Lib.cell_of_heap hF]; rfl
          have y2 : W2.cell? ⟨wr.heap.size, 2, none⟩ = some (.slice yaa y.attrs.length yac) := by rw [Lib.cell_of_heap hF]; rfl
          have y3 : W2.cell? ⟨wr.heap.size, 3, none⟩ = some (.int .i64 y.parent) := by rw [Lib.cell_of_heap hF]; rfl
          have y4 : W2.cell? ⟨wr.heap.size, 4, none⟩ = some (.slice yka y.kids.length ykc) := by rw [Lib.cell_of_heap hF]; rfl
          have HAT : Hid (∀ W, Below W2.heap.size W2 W → Calls Tryz.prog 31 #[.slice xaa x.attrs.length xac, .slice yaa y.attrs.length yac] W fun e w' => e = .returned (.bool (decide (x.attrs = y.attrs))) ∧ Below W.heap.size W w') := fun W h => sameAttrs_ex _ _ _ _ x.attrs y.attrs W ((hxA.later hW2).later h) ((hyA.later hW2).later h)
          have HKN : Hid (∀ W, Below W2.heap.size W2 W → Calls Tryz.prog 9 #[.slice xka x.kids.length xkc, .slice yka y.kids.length ykc] W fun e w' => e = .returned (.bool (decide (x.kids = y.kids))) ∧ Below W.heap.size W w') := fun W h => sameNumbers_ex _ _ _ _ x.kids y.kids W ((hxK.later hW2).later h) ((hyK.later hW2).later h)
          have hBW2 : Below w.heap.size w W2 := hBw.trans (hW2.mono hBw.size)
          have hB12 : Below W1.heap.size W1 W2 := hB.trans (hW2.mono hB.size)
          have KF : ndB x y = false → Hid (ndsB ns ms = false) := by
            intro hq
            show _ = _
            rw [HT.out, HTD.out, hq]; rfl
          clear p0 p1 p2 p3 p4 q0 q1 q2 q3 q4 dx dy hne0 hne1 hne2 hne3 hlt0 hlt1
          by_cases k1 : x.text = y.text
          · have k1b : (x.text == y.text) = true := by simp [k1]
            by_cases k2 : x.s = y.s
            · have k2b : (x.s.toList == y.s.toList) = true := by rw [k2]; simp
              by_cases k3 : x.parent = y.parent
              · have k3b : (x.parent != y.parent) = false := by simp [k3]
                have k3c : (x.parent == y.parent) = true := by simp [k3]
                by_cases k4 : x.attrs = y.attrs
                · have HAT2 : Hid (∀ W, Below W2.heap.size W2 W → Calls Tryz.prog 31 #[.slice xaa x.attrs.length xac, .slice yaa y.attrs.length yac] W fun e w' => e = .returned (.bool true) ∧ Below W.heap.size W w') := by
                    intro W h; have := HAT.out W h; rw [decide_eq_true k4] at this; exact this
                  by_cases k5 : x.kids = y.kids
                  · have HKN2 : Hid (∀ W, Below W2.heap.size W2 W → Calls Tryz.prog 9 #[.slice xka x.kids.length xkc, .slice yka y.kids.length ykc] W fun e w' => e = .returned (.bool true) ∧ Below W.heap.size W w') := by
                      intro W h; have := HKN.out W h; rw [decide_eq_true k5] at this; exact this
                    have HN : Hid (ndsB ns ms = ndsB (ns.drop (i + 1)) (ms.drop (i + 1))) := by
                      show _ = _
                      rw [HT.out, HTD.out, show ndB x y = true by unfold ndB; simp [k1, k2, k3, k4, k5]]; rfl
                    clear KF k1 k2 k3 k4 k5 HAT HKN
                    go_wp2_with fail
                    refine (Calls.mono (HAT2.out _ (Below.refl _ _)) ?_)
                    rintro e w3 ⟨rfl, hb3⟩
                    have hX3 := (hb3.block _ (blk_lt hG)).trans hG
                    have hY3 := (hb3.block _ (blk_lt hF)).trans hF
                    have hu4 : w3.cell? ⟨wr.heap.size + 1, 4, none⟩ = some (.slice xka x.kids.length xkc) := by rw [Lib.cell_of_heap hX3]; rfl
                    have hv4 : w3.cell? ⟨wr.heap.size, 4, none⟩ = some (.slice yka y.kids.length ykc) := by rw [Lib.cell_of_heap hY3]; rfl
                    go_wp2_with fail
                    refine (Calls.mono (HKN2.out _ hb3) ?_)
                    rintro e w4 ⟨rfl, hb4⟩
                    go_wp2_with fail
                    go_roundg (ns.length - (i + 1))
                    case measure => omega
                    case rel => exact ⟨i + 1, by omega, by go_num, hB12.trans ((hb3.trans (hb4.mono hb3.size)).mono hB12.size), HN.out⟩
                  · have HKN2 : Hid (∀ W, Below W2.heap.size W2 W → Calls Tryz.prog 9 #[.slice xka x.kids.length xkc, .slice yka y.kids.length ykc] W fun e w' => e = .returned (.bool false) ∧ Below W.heap.size W w') := by
                      intro W h; have := HKN.out W h; rw [decide_eq_false k5] at this; exact this
                    have HE := KF (by unfold ndB; simp [k5])
                    clear KF k1 k2 k3 k4 k5 HAT HKN
                    go_wp2_with fail
                    refine (Calls.mono (HAT2.out _ (Below.refl _ _)) ?_)
                    rintro e w3 ⟨rfl, hb3⟩
                    have hX3 := (hb3.block _ (blk_lt hG)).trans hG
                    have hY3 := (hb3.block _ (blk_lt hF)).trans hF
                    have hu4 : w3.cell? ⟨wr.heap.size + 1, 4, none⟩ = some (.slice xka x.kids.length xkc) := by rw [Lib.cell_of_heap hX3]; rfl
                    have hv4 : w3.cell? ⟨wr.heap.size, 4, none⟩ = some (.slice yka y.kids.length ykc) := by rw [Lib.cell_of_heap hY3]; rfl
                    go_wp2_with fail
                    refine (Calls.mono (HKN2.out _ hb3) ?_)
                    rintro e w4 ⟨rfl, hb4⟩
                    go_wp2_with fail
                    go_ret
                    exact ⟨by rw [HE.out]; rfl, hBW2.trans ((hb3.trans (hb4.mono hb3.size)).mono hBW2.size)⟩
                · have HAT2 : Hid (∀ W, Below W2.heap.size W2 W → Calls Tryz.prog 31 #[.slice xaa x.attrs.length xac, .slice yaa y.attrs.length yac] W fun e w' => e = .returned (.bool false) ∧ Below W.heap.size W w') := by
                    intro W h; have := HAT.out W h; rw [decide_eq_false k4] at this; exact this
                  have HE := KF (by unfold ndB; simp [k4])
                  clear KF k1 k2 k3 k4 HAT HKN
                  go_wp2_with fail
                  refine (Calls.mono (HAT2.out _ (Below.refl _ _)) ?_)
                  rintro e w3 ⟨rfl, hb3⟩
                  go_wp2_with fail
                  go_ret
                  exact ⟨by rw [HE.out]; rfl, hBW2.trans (hb3.mono hBW2.size)⟩
              · have k3b : (x.parent != y.parent) = true := by simpa using k3
                have k3c : (x.parent == y.parent) = false := by simpa using k3
                have HE := KF (by unfold ndB; simp [k3])
                clear KF k1 k2 k3 HAT HKN
                go_wp2_with fail
                go_ret
                exact ⟨by rw [HE.out]; rfl, hBW2⟩
            · have k2b : (x.s.toList == y.s.toList) = false := bytes_ne k2
              have HE := KF (by unfold ndB; simp [k2])
              clear KF k1 k2 HAT HKN
              go_wp2_with fail
              go_ret
              exact ⟨by rw [HE.out]; rfl, hBW2⟩
          · have k1b : (x.text == y.text) = false := by simpa using k1
            have HE := KF (by unfold ndB; simp [k1])
            clear KF k1 HAT HKN
            go_wp2_with fail
            go_ret
            exact ⟨by rw [HE.out]; rfl, hBW2⟩
      · have hili : ¬ ((i : Int) < (ns.length : Int)) := by omega
        have HE : Hid (ndsB ns ms = true) := by
          show _ = _
          rw [HT.out, List.drop_of_length_le (by omega), List.drop_of_length_le (by have := HLM.out; omega)]
          rfl
        go_wp2_with fail
        go_ret
        exact ⟨by rw [HE.out]; rfl, hBw⟩
  · have hne : ((ns.length : Int) != (ms.length : Int)) = true := by simp; omega
    have HE : Hid (ndsB ns ms = false) := ndsB_len hlm
    clear hlm
    go_enter Tryz.func12, Tryz.ntmps12
    go_wp2_with fail
    go_ret
    exact ⟨by rw [HE.out]; rfl, hb0⟩
end Go.Proofs.YtfghbfocjjmcmabGreatDoor

/- The document's own IsDoc and TreeAt, from what MakeDoc answers. Condition: texts and attributes of a size that can be read. -/
namespace Go.Proofs.YtfghbfocjjmcmabGreatDoor
open Go.ChangeShapes Go.WideShapes Go.ChangeAt Go.RowKit
set_option maxRecDepth 100000

attribute [local go_sem] cell_set

/-- What MakeDoc must answer. -/
def MakeDocOk : Prop := ∀ (S : Nat → Prop) (n : Nat) (va vk : Value) (t : Tr) (w : World), Attrs S w va t.attrs → Trees S w n vk t.kids → TextsN (n + 1) [t] → cnt (n + 1) [t] ≤ 1048576 → (∀ b, S b → b < w.heap.size) →
    Calls Tryz.prog 46 #[.agg #[.bool t.text, .string t.s, va, vk]] w fun e w' => ∃ v, e = .returned (.tuple #[.agg #[v], .int .i64 (makeE t)]) ∧ Nodes (fun b => w.heap.size ≤ b) w' v (makeD n t) ∧ Below w.heap.size w w'

theorem tree_texts {ns : List Nd} (h : TextsD ns) : ∀ (f n : Nat), Texts (treeF f ns n) ∧ TextsN f (treeF f ns n).kids := by
  intro f
  induction f with
  | zero => intro n; exact ⟨⟨Nat.zero_le _, by intro y hy; simp [treeF] at hy⟩, trivial⟩
  | succ f ih =>
    intro n
    rw [treeF]
    cases hx : ns[n]? with
    | none => exact ⟨⟨Nat.zero_le _, by intro y hy; simp at hy⟩, by intro t ht; simp at ht⟩
    | some x =>
      refine ⟨h x (List.mem_of_getElem? hx), fun t ht => ?_⟩
      simp only [List.mem_map] at ht
      obtain ⟨k, _, rfl⟩ := ht
      exact ih _

theorem cnt_depR : ∀ (d e : Nat) (ks : List Tr), Deep d ks → Deep e ks → cnt d ks = cnt e ks := by
  intro d
  induction d with
  | zero => intro e ks h _; have h : ks = [] := h; subst h; rw [cnt_nil, cnt_nil]
  | succ d ih =>
    intro e ks h1 h2
    cases e with
    | zero => have h : ks = [] := h2; subst h; rw [cnt_nil, cnt_nil]
    | succ e =>
      induction ks with
      | nil => rw [cnt_nil, cnt_nil]
      | cons k r ihr =>
        rw [cnt_cons, cnt_cons, ih e k.kids (h1 k List.mem_cons_self) (h2 k List.mem_cons_self), ihr (fun t ht => h1 t (List.mem_cons_of_mem _ ht)) (fun t ht => h2 t (List.mem_cons_of_mem _ ht))]

theorem starts_dep (d e : Nat) : ∀ (ks : List Tr) (a : Nat), (∀ k ∈ ks, Deep d k.kids ∧ Deep e k.kids) → startsOf d a ks = startsOf e a ks := by
  intro ks
  induction ks with
  | nil => intro a _; rfl
  | cons k r ih =>
    intro a h
    have hk := h k List.mem_cons_self
    rw [startsOf, startsOf, cnt_one, cnt_one, cnt_depR d e _ hk.1 hk.2, ih _ (fun t ht => h t (List.mem_cons_of_mem _ ht))]

theorem lays_dep (d e : Nat) (f g : Tr → Int → Nat → List Nd) (par : Nat) : ∀ (ks : List Tr) (a : Nat), (∀ k ∈ ks, Deep d k.kids ∧ Deep e k.kids) → (∀ k ∈ ks, ∀ p a, f k p a = g k p a) → laysOf d f par a ks = laysOf e g par a ks := by
  intro ks
  induction ks with
  | nil => intro a _ _; rfl
  | cons k r ih =>
    intro a h hfg
    have hk := h k List.mem_cons_self
    rw [laysOf, laysOf, cnt_one, cnt_one, cnt_depR d e _ hk.1 hk.2, hfg k List.mem_cons_self, ih _ (fun t ht => h t (List.mem_cons_of_mem _ ht)) (fun t ht => hfg t (List.mem_cons_of_mem _ ht))]

theorem lay_dep : ∀ (d e : Nat) (t : Tr) (par : Int) (a : Nat), Deep d t.kids → Deep e t.kids → layF d t par a = layF e t par a := by
  intro d
  induction d with
  | zero =>
    intro e t par a h1 h2
    have h : t.kids = [] := h1
    cases e with
    | zero => rfl
    | succ e => rw [layF, layF, h]; rfl
  | succ d ih =>
    intro e t par a h1 h2
    cases e with
    | zero =>
      have h : t.kids = [] := h2
      rw [layF, layF, h]; rfl
    | succ e =>
      rw [layF, layF, starts_dep d e _ _ (fun k hk => ⟨h1 k hk, h2 k hk⟩), lays_dep d e (layF d) (layF e) a _ _ (fun k hk => ⟨h1 k hk, h2 k hk⟩) (fun k hk p q => ih e k p q (h1 k hk) (h2 k hk))]

/-- IsDoc, part by part. -/
theorem isDoc_parts {ns : List Nd} {x : Nd} {t : Tr} {n : Nat} (hx : ns[0]? = some x) (h80 : ns.length ≤ 80) (hp : x.parent = -1) (hps : parsB ns ns.length = true) (ht : treeF ns.length ns 0 = t) (hd : Deep n t.kids) :
    goodD ns = (goodB t && ndsB (layF n t (-1) 0) ns) := by
  have hpos : 0 < ns.length := lt_of_some hx
  rw [Bool.eq_iff_iff, isDoc_iff, Bool.and_eq_true, ndsB_iff, ht]
  constructor
  · rintro ⟨_, _, _, _, hg, d, hd2, hl⟩
    exact ⟨hg, by rw [lay_dep n d t (-1) 0 hd hd2]; exact hl⟩
  · rintro ⟨hg, hl⟩
    exact ⟨hpos, h80, ⟨x, hx, hp⟩, hps, hg, n, hd, hl⟩

theorem goodD_false {ns : List Nd} (h : ¬ (0 < ns.length ∧ ns.length ≤ 80 ∧ (∃ x, ns[0]? = some x ∧ x.parent = -1) ∧ parsB ns ns.length = true)) : goodD ns = false := by
  cases hg : goodD ns with
  | false => rfl
  | true =>
    have := isDoc_iff.1 hg
    exact absurd ⟨this.1, this.2.1, this.2.2.1, this.2.2.2.1⟩ h

theorem parsB_mono {ns : List Nd} {k : Nat} (h : parsB ns k = false) : ∀ m, k ≤ m → parsB ns m = false := by
  intro m
  induction m with
  | zero => intro hm; have : k = 0 := by omega
            subst this; exact h
  | succ m ih =>
    intro hm
    by_cases hk : k = m + 1
    · rw [← hk]; exact h
    · rw [parsB, ih (by omega)]; rfl

set_option maxHeartbeats 2000000 in
theorem isDoc_any (hM : MakeDocOk) : IsDocOk := by
  intro S v ns w hD
  have hb1 := Below.alloc1 w (.cells #[v] 24)
  have hx1 := heap_alloc_new w (.cells #[v] 24)
  have HD : Hid (DocV S w v ns) := hD
  have HM : Hid MakeDocOk := hM
  have HN1 : Hid (Nodes S (w.alloc (.cells #[v] 24)) v ns) := hD.nodes.later hb1
  obtain ⟨a, cap, rfl, hlc, hcm⟩ := hD.nodes.shape
  unfold maxLen at hcm
  clear hD hM
  by_cases h0 : ns.length = 0
  · have hn : ns = [] := List.eq_nil_of_length_eq_zero h0
    subst hn
    have HE : Hid (goodD [] = false) := goodD_false (by simp)
    clear hx1
    go_enter Tryz.func27, Tryz.ntmps27
    go_wp2_with fail
    go_ret
    exact ⟨by rw [HE.out]; rfl, hb1⟩
  obtain ⟨x0, hx0⟩ : ∃ x, ns[0]? = some x := ⟨ns[0]'(by omega), by simp [show 0 < ns.length by omega]⟩
  obtain ⟨b, o, cap2, xva, xvk, hv, _, _, hSb, hbw, _, _, _, c3, _, _, _⟩ := HN1.out.at hx0
  injection hv with hv1 hvl hv2
  subst hv1 hv2
  clear hvl
  have h0b : ((ns.length : Int) == 0) = false := by simpa using h0
  have hpos : (0 : Int) < (ns.length : Int) := by omega
  have c3z : (w.alloc (.cells #[.slice (some ⟨b, o, none⟩) ns.length cap] 24)).cell? ⟨b, o + 3, none⟩ = some (.int .i64 x0.parent) := by simpa using c3
  clear c3
  go_enter Tryz.func27, Tryz.ntmps27
  by_cases h80 : ns.length ≤ 80
  · have h80i : ¬ (80 : Int) < (ns.length : Int) := by omega
    by_cases hp0 : x0.parent = -1
    · rw [hp0] at c3z
      go_wp2_with fail
      have HN2 : Hid (Nodes S (w.alloc (.cells #[.slice (some ⟨b, o, none⟩) ns.length cap] 24)) (.slice (some ⟨b, o, none⟩) ns.length cap) ns) := HN1.out
      generalize w.alloc (.cells #[.slice (some ⟨b, o, none⟩) ns.length cap] 24) = W1 at hb1 hx1 HN2 ⊢
      have hz1 := blk_lt hx1
      clear c3z HN1
      go_loopg [28] ns.length (fun g j wr => ∃ (k : Nat), k + g = ns.length ∧ j = .int .i64 (k : Int) ∧ Below W1.heap.size W1 wr ∧ parsB ns k = true)
      case atStart => exact ⟨0, by omega, rfl, Below.refl _ _, rfl⟩
      case round =>
        obtain ⟨k, hk, rfl, hB, hpk⟩ := hrel
        have HPK : Hid (parsB ns k = true) := hpk
        clear hpk
        have hxr := (hB.block _ hz1).trans hx1
        have hBw : Below w.heap.size w wr := hb1.trans (hB.mono hb1.size)
        have dr : wr.cell? ⟨w.heap.size, 0, none⟩ = some (.slice (some ⟨b, o, none⟩) ns.length cap) := by rw [Lib.cell_of_heap hxr]; rfl
        by_cases hkl : k < ns.length
        · have hkli : (k : Int) < (ns.length : Int) := by omega
          obtain ⟨y, hy⟩ : ∃ y, ns[k]? = some y := ⟨ns[k], by simp [hkl]⟩
          have HPS : Hid (parsB ns (k + 1) = (decide (k = 0) || (decide (0 ≤ y.parent) && decide (y.parent < (k : Int))))) := by show _ = _; rw [parsB, HPK.out, hy]; rfl
          obtain ⟨b', o', cap3, yva, yvk, hv, _, _, _, hbw2, c0, c1, c2, c3, c4, hAt, hKi⟩ := (HN2.out.later hB).at hy
          cases hv
          obtain ⟨aa, ac, rfl⟩ := hAt.shape
          obtain ⟨ka, kc, rfl, _, _⟩ := hKi.shape
          have hBa : ∀ X, Below W1.heap.size W1 (wr.alloc X) := fun X => hB.alloc hB.size X
          have hBwa : ∀ X, Below w.heap.size w (wr.alloc X) := fun X => hBw.alloc hBw.size X
          clear hAt hKi hy hxr
          by_cases hk0 : k = 0
          · have HP2 : Hid (parsB ns (k + 1) = true) := by show _ = _; rw [HPS.out]; simp [hk0]
            have hk0i : ¬ (0 : Int) < (k : Int) := by omega
            clear hk0 HPS
            go_wp2_with fail
            go_roundg (ns.length - (k + 1))
            case measure => omega
            case rel => exact ⟨k + 1, by omega, by go_num, hBa _, HP2.out⟩
          · have hk0i : (0 : Int) < (k : Int) := by omega
            by_cases hneg : y.parent < 0
            · have HE : Hid (goodD ns = false) := goodD_false (fun h => by
                have h1 : parsB ns (k + 1) = false := by rw [HPS.out]; simp [hk0]; omega
                have h2 := parsB_mono h1 ns.length (by omega)
                rw [h2] at h; exact absurd h.2.2.2 (by simp))
              clear hk0 HPS
              go_wp2_with fail
              go_ret
              exact ⟨by rw [HE.out]; rfl, hBwa _⟩
            · by_cases hge : (k : Int) ≤ y.parent
              · have HE : Hid (goodD ns = false) := goodD_false (fun h => by
                  have h1 : parsB ns (k + 1) = false := by rw [HPS.out]; simp [hk0]; omega
                  have h2 := parsB_mono h1 ns.length (by omega)
                  rw [h2] at h; exact absurd h.2.2.2 (by simp))
                clear hk0 HPS
                go_wp2_with fail
                go_ret
                exact ⟨by rw [HE.out]; rfl, hBwa _⟩
              · have HP2 : Hid (parsB ns (k + 1) = true) := by show _ = _; rw [HPS.out]; simp [hk0]; omega
                clear hk0 HPS
                go_wp2_with fail
                go_roundg (ns.length - (k + 1))
                case measure => omega
                case rel => exact ⟨k + 1, by omega, by go_num, hBa _, HP2.out⟩
        · have hkli : ¬ ((k : Int) < (ns.length : Int)) := by omega
          have hkk : k = ns.length := by omega
          have HPA : Hid (parsB ns ns.length = true) := by show _ = _; rw [← hkk]; exact HPK.out
          have HT : Hid _ := treeOf_any ns.length S _ ns 0 wr (HD.out.later hBw).nodes HD.out.few h80 (by omega) (by omega)
          rw [show ((0 : Nat) : Int) = 0 from rfl] at HT
          obtain ⟨t, ht⟩ : ∃ t, treeF ns.length ns 0 = t := ⟨_, rfl⟩
          have HX : Hid (TextsN (ns.length + 1) [t]) := by
            show TextsN (ns.length + 1) [t]
            intro u hu
            rw [List.mem_singleton] at hu
            rw [hu, ← ht]
            exact tree_texts HD.out.short _ _
          have HCT : Hid (cnt (ns.length + 1) [t] ≤ 1048576) := by show cnt (ns.length + 1) [t] ≤ 1048576; rw [← ht]; exact tree_few (by omega) h80 h80
          rw [ht] at HT
          have HPT : Hid (∀ n, Deep n t.kids → goodD ns = (goodB t && ndsB (layF n t (-1) 0) ns)) := fun n hd => isDoc_parts hx0 h80 hp0 HPA.out ht hd
          clear hkk ht hx0
          go_wp2_with fail
          refine (Calls.mono HT.out ?_)
          rintro e w3 ⟨va, vk, rfl, hA, hK, hb3⟩
          have HTD : Hid _ := HPT.out _ (Trees.deep _ hK)
          have HMM : Hid _ := HM.out _ _ _ _ t w3 hA.bounded (Trees.bounded _ hK) HX.out HCT.out (fun b hb => hb.2)
          obtain ⟨aa, ac, rfl⟩ := hA.shape
          obtain ⟨ka, kc, rfl, _, _⟩ := Trees.shape _ hK
          have hB3 : Below w.heap.size w w3 := hBw.trans (hb3.mono hBw.size)
          have hx3 := (hb3.block _ (blk_lt hxr)).trans hxr
          have d3 : w3.cell? ⟨w.heap.size, 0, none⟩ = some (.slice (some ⟨b, o, none⟩) ns.length cap) := by rw [Lib.cell_of_heap hx3]; rfl
          clear hA hK HT
          go_wp2_with fail
          refine (Calls.mono HMM.out ?_)
          rintro e w4 ⟨v4, rfl, hN4, hb4⟩
          have hB4 : Below w.heap.size w w4 := hB3.trans (hb4.mono hB3.size)
          have hx4 := (hb4.block _ (blk_lt hx3)).trans hx3
          have d4 : w4.cell? ⟨w.heap.size, 0, none⟩ = some (.slice (some ⟨b, o, none⟩) ns.length cap) := by rw [Lib.cell_of_heap hx4]; rfl
          have hb5 := Below.alloc1 w4 (.cells #[v4] 24)
          have HSD : Hid _ := sameDoc_ex _ S _ _ _ ns _ (hN4.later hb5) (HD.out.later (hB4.alloc hB4.size (.cells #[v4] 24))).nodes
          have hx5 := (hb5.block _ (blk_lt hx4)).trans hx4
          have d5 : (w4.alloc (.cells #[v4] 24)).cell? ⟨w.heap.size, 0, none⟩ = some (.slice (some ⟨b, o, none⟩) ns.length cap) := by rw [Lib.cell_of_heap hx5]; rfl
          have hB5 : Below w.heap.size w (w4.alloc (.cells #[v4] 24)) := hB4.alloc hB4.size _
          obtain ⟨a4, cap4, rfl, _, _⟩ := hN4.shape
          obtain ⟨g, hg⟩ : ∃ g, goodB t = g := ⟨_, rfl⟩
          obtain ⟨q, hq⟩ : ∃ q, (makeD ns.length t).length = q := ⟨_, rfl⟩
          rw [hq] at HSD hB5 d5 ⊢
          unfold makeE
          unfold makeD at HSD
          rw [hg] at HTD HSD ⊢
          clear hN4 HMM hg hxr hx3 hx4 hx5 hb5 hq
          cases g with
          | false =>
            have HE : Hid (goodD ns = false) := by show _ = _; rw [HTD.out]; rfl
            clear HTD HSD
            go_wp2_with fail
            go_ret
            exact ⟨by rw [HE.out]; rfl, hB5⟩
          | true =>
            have HE : Hid (goodD ns = ndsB (layF ns.length t (-1) 0) ns) := by show _ = _; rw [HTD.out]; rfl
            clear HTD
            simp only [if_true] at HSD
            go_wp2_with fail
            refine (Calls.mono HSD.out ?_)
            rintro e w6 ⟨rfl, hb6⟩
            go_wp2_with fail
            go_ret
            exact ⟨by rw [HE.out]; rfl, hB5.trans (hb6.mono hB5.size)⟩
    · have hpb : (x0.parent == -1) = false := by simpa using hp0
      have HE : Hid (goodD ns = false) := goodD_false (fun h => by obtain ⟨_, _, ⟨x, hx, hp⟩, _⟩ := h; rw [hx0] at hx; cases hx; exact hp0 hp)
      clear hp0 hx0 HN1
      go_wp2_with fail
      go_ret
      exact ⟨by rw [HE.out]; rfl, hb1⟩
  · have h80i : (80 : Int) < (ns.length : Int) := by omega
    have HE : Hid (goodD ns = false) := goodD_false (fun h => h80 h.2.1)
    clear h80 hx0 HN1
    go_wp2_with fail
    go_ret
    exact ⟨by rw [HE.out]; rfl, hb1⟩

end Go.Proofs.YtfghbfocjjmcmabGreatDoor

/- path.Select, for every document and steps. Condition: texts of a size that can be read. -/
namespace Go.Proofs.YtfghbfocjjmcmabGreatDoor
open Go.ChangeShapes Go.WideShapes Go.ChangeAt Go.RowKit
set_option maxRecDepth 100000

attribute [local go_sem] cell_set

theorem run_append_none0 {P : Program} {w : World} (base : Nat) (t ty e : TypeId) (i : TypeInfo) (size c : Nat) (ht : P.underlying t = some (.slice e)) (hi : P.info? e = some i)
    (v : Value) (n : Nat) (xs : List Value) (hown : w.ownsRow base e size v n xs) :
    (Builtin.append_ #[t, t] ty #[v, .slice none 0 c]).run P w = .ok v w := by
  rcases hown.2 with ⟨rfl, rfl⟩ | ⟨g, cap, cur, rfl, _, _, hnc, _⟩
  · simp [Builtin.append_, run_underlying ht, sizeOf, typeInfo, hi, Builtin.lenOf, Builtin.firstCells]
  · simp [Builtin.append_, run_underlying ht, sizeOf, typeInfo, hi, Builtin.lenOf, Builtin.firstCells, hnc, storeCells]

/-- A list of numbers appended onto a list of the call's own, as a step of a region that draws. -/
theorem step_ints {ops : Array Oper} {o : Oper} {a : Act} {w : World} {K : Act → World → Prop} {Q : Exit → Act → World → Prop} {E : Prop}
    (hg : o.guard = none) (s x : Operand) (hop : o.op = Op.call { callee := Callee.builtin Builtin.append, args := #[s, x], argTypes := #[27, 27] })
    (B : Nat) (v : Value) (l : List Int) (hs : a.eval s = v) (hown : IRow B w v l) (S : Nat → Prop) (u : Value) (m : List Int) (hx : a.eval x = u) (hm : Ints S w u m) (hn : l.length + m.length ≤ 1048576) (hB : B ≤ w.heap.size)
    (hK : ∀ v' w', IRow B w' v' (l ++ m) → w.grownBy w' v.ownBlock → K (a.put o.dst v') w') :
    if Region.wanted o (yielded ops a.tmps) = true then Oper.wp Tryz.prog o a w K Q else E := by
  have hw : Region.wanted o (yielded ops a.tmps) = true := by simp [Region.wanted, hg]
  rw [if_pos hw]
  obtain ⟨i0, hi, hz0, hz1, hz2⟩ := info_parts intInfoR
  obtain ⟨ua, uc, rfl, _, _⟩ := hm.shape
  cases ua with
  | none =>
    have hm0 : m = [] := by
      obtain ⟨a', cap, h1, _, _, h4⟩ := hm
      apply Classical.byContradiction
      intro hne
      obtain ⟨b, o, ha, _⟩ := h4 hne
      rw [ha] at h1
      cases h1
    subst hm0
    have hr := run_append_none0 (P := Tryz.prog) (w := w) B 27 o.type 3 i0 1 uc Tryz.underlying27 hi v l.length (intCells l) hown
    unfold Oper.wp
    simp [execOp, hop, resolve, invoke, builtin, hs, hx, hr, Result.andThen]
    exact hK v w (by rw [List.append_nil]; exact hown) (World.grownBy.refl _ _)
  | some ad =>
    obtain ⟨v', w', hr, h2, h3, _, h5⟩ := run_append_own_at (P := Tryz.prog) w B 27 o.type 3 i0 _ 1 8 Tryz.underlying27 hi hz0 hz1 hz2 rfl (by decide) v l.length (intCells l) hown ad m.length uc (intCells m) (by rw [intCells_length]; omega) hm.cells (intCells_one m) (by unfold maxLen; omega) (by omega) hB
    unfold Oper.wp
    simp [execOp, hop, resolve, invoke, builtin, hs, hx, hr, Result.andThen]
    refine hK v' w' ?_ h3
    unfold IRow
    rw [intCells_append, List.length_append]
    exact h2

theorem nextF_snoc {ns : List Nd} {here : List Int} {k : Nat} {u : Int} (hk : here[k]? = some u) (s : St) : nextF ns (here.take (k + 1)) s = nextF ns (here.take k) s ++ meantF ns (kidsAt ns u) s := by
  have hl := lt_of_some hk
  have e : here[k] = u := by simpa [hl] using hk
  unfold nextF
  rw [List.take_succ_eq_append_getElem hl, List.flatMap_append, e]
  simp

theorem lev_len {ns : List Nd} (hg : goodD ns = true) {d : Nat} {l : List Int} (h : Lev ns d l) : l.length ≤ ns.length := by
  have hr := h.rises hg
  have hm : ∀ u ∈ l, 0 ≤ u ∧ u < ns.length := fun u hu => by
    obtain ⟨k, x, rfl, hx, _⟩ := h.mem u hu
    have := lt_of_some hx
    omega
  clear h
  have key : ∀ (l : List Int) (a : Int), l.Pairwise (fun u v => u < v) → (∀ u ∈ l, a ≤ u ∧ u < ns.length) → a ≤ ns.length → (l.length : Int) ≤ ns.length - a := by
    intro l
    induction l with
    | nil => intro a _ _ h; simp; omega
    | cons x l ih =>
      intro a hp hm ha
      rw [List.pairwise_cons] at hp
      have hx := hm x List.mem_cons_self
      have := ih (x + 1) hp.2 (fun u hu => ⟨by have := hp.1 u hu; omega, (hm u (List.mem_cons_of_mem _ hu)).2⟩) (by omega)
      simp; omega
  have := key l 0 hr hm (by omega)
  omega

theorem kids_in {ns : List Nd} (hg : goodD ns = true) {m : Nat} {x : Nd} (hx : ns[m]? = some x) : ∀ u ∈ x.kids, 0 ≤ u ∧ u < ns.length := by
  intro u hu
  obtain ⟨k, _, rfl, _, h, _⟩ := (good_fam hg hx).kids u hu
  omega

set_option maxHeartbeats 2000000 in
theorem select_any (S : Nat → Prop) (vd vl : Value) (ns : List Nd) (l : List St) (w : World) (hD : DocV S w vd ns) (hL : Steps S w vl l) (hn : NamesIn l) :
    Calls Tryz.prog 7 #[.agg #[vd], vl] w fun e w' => ∃ v, e = .returned (.tuple #[v, .int .i64 (selE ns l)]) ∧ Ints (fun b => w.heap.size ≤ b) w' v (selD ns l) ∧ Below w.heap.size w w' := by
  have hb1 := Below.alloc1 w (.cells #[vd] 24)
  have hx1 := heap_alloc_new w (.cells #[vd] 24)
  have hz1 : (w.alloc (.cells #[vd] 24)).heap.size = w.heap.size + 1 := by simp
  have HG : Hid _ := (hD.later hb1).good
  have HD : Hid (DocV S w vd ns) := hD
  have HL : Hid (Steps S w vl l) := hL
  have HPG : Hid (∀ W, Below w.heap.size w W → Calls Tryz.prog 10 #[vl] W fun e w' => e = .returned (.bool (pathB l)) ∧ Below W.heap.size W w') := fun W h => goodP_any S vl l W (hL.later h) hn
  have HSD : Hid (selD ns l = if goodD ns && pathB l then selP ns l else []) := rfl
  have HSE : Hid (selE ns l = if goodD ns && pathB l then 0 else 1) := rfl
  obtain ⟨na, nc, rfl, hnl, hnm⟩ := hD.nodes.shape
  obtain ⟨la, lc, rfl, hll, hlm⟩ := hL.shape
  unfold maxLen at hnm hlm
  clear hD hL hn
  go_enter Tryz.func7, Tryz.ntmps7
  go_wp2_with fail
  refine (Calls.mono HG.out ?_)
  rintro e w2 ⟨rfl, hb2⟩
  have hx2 := (hb2.block _ (blk_lt hx1)).trans hx1
  have hB2 : Below w.heap.size w w2 := hb1.trans (hb2.mono hb1.size)
  have hz2 : w.heap.size < w2.heap.size := blk_lt hx2
  have d2 : w2.cell? ⟨w.heap.size, 0, none⟩ = some (.slice na ns.length nc) := by rw [Lib.cell_of_heap hx2]; rfl
  clear HG hb1 hx1 hz1 hb2
  obtain ⟨q, hq⟩ : ∃ q, goodD ns = q := ⟨_, rfl⟩
  rw [hq]
  cases q with
  | false =>
    have HSD2 : Hid (selD ns l = []) := by show _ = _; rw [HSD.out, hq]; rfl
    have HSE2 : Hid (selE ns l = 1) := by show _ = _; rw [HSE.out, hq]; rfl
    clear HSD HSE hq
    go_wp2_with fail
    go_ret2
    exact ⟨_, by rw [HSE2.out]; rfl, by rw [HSD2.out]; exact Ints.nil, hB2⟩
  | true =>
    have HGD : Hid (goodD ns = true) := hq
    have HSD2 : Hid (selD ns l = if pathB l then selP ns l else []) := by show _ = _; rw [HSD.out, hq]; rfl
    have HSE2 : Hid (selE ns l = if pathB l then 0 else 1) := by show _ = _; rw [HSE.out, hq]; rfl
    have h80 : ns.length ≤ 80 := by
      simp only [goodD, Bool.and_eq_true, decide_eq_true_eq] at hq
      exact hq.1.1
    clear HSD HSE hq
    go_wp2_with fail
    refine (Calls.mono (HPG.out _ hB2) ?_)
    rintro e w3 ⟨rfl, hb3⟩
    have hx3 := (hb3.block _ (blk_lt hx2)).trans hx2
    have hB3 : Below w.heap.size w w3 := hB2.trans (hb3.mono hB2.size)
    have hz3 : w.heap.size < w3.heap.size := blk_lt hx3
    have d3 : w3.cell? ⟨w.heap.size, 0, none⟩ = some (.slice na ns.length nc) := by rw [Lib.cell_of_heap hx3]; rfl
    clear hx2 hB2 hz2 d2 hb3
    obtain ⟨q2, hq2⟩ : ∃ q, pathB l = q := ⟨_, rfl⟩
    rw [hq2]
    cases q2 with
    | false =>
      have HSD3 : Hid (selD ns l = []) := by show _ = _; rw [HSD2.out, hq2]; rfl
      have HSE3 : Hid (selE ns l = 1) := by show _ = _; rw [HSE2.out, hq2]; rfl
      clear HSD2 HSE2 hq2
      go_wp2_with fail
      go_ret2
      exact ⟨_, by rw [HSE3.out]; rfl, by rw [HSD3.out]; exact Ints.nil, hB3⟩
    | true =>
      have HSD3 : Hid (selD ns l = selP ns l) := by show _ = _; rw [HSD2.out, hq2]; rfl
      have HSE3 : Hid (selE ns l = 0) := by show _ = _; rw [HSE2.out, hq2]; rfl
      have hpl := hq2
      simp only [pathB, Bool.and_eq_true, decide_eq_true_eq] at hpl
      have HST : Hid (∀ s ∈ l, 0 ≤ s.n) := by
        intro s hs
        have := List.all_eq_true.1 hpl.2 s hs
        simp only [stepB, Bool.and_eq_true, decide_eq_true_eq] at this
        exact this.1.1
      have hl1 : 1 ≤ l.length := hpl.1.1
      have hl5 : l.length ≤ 5 := hpl.1.2
      clear HSD2 HSE2 hq2 hpl
      obtain ⟨s0, hs0⟩ : ∃ s, l[0]? = some s := ⟨l[0]'(by omega), by simp⟩
      obtain ⟨lb, lo, lc2, hlv, _, hlb, e0, e1⟩ := (HL.out.later hB3).at hs0
      injection hlv with hla _ hlc2
      subst hla hlc2
      have HL0 : Hid (∃ r, l = s0 :: r) := by
        cases l with
        | nil => simp at hs0
        | cons a r => simp at hs0; subst hs0; exact ⟨r, rfl⟩
      have hbn : Below w3.heap.size w3 w3.drew := (Below.refl _ _).drew
      have HC : Hid (∀ W, Below w3.heap.size w3 W → Below w3.heap.size w3 W ∧ W.cell? ⟨w.heap.size, 0, none⟩ = some (.slice na ns.length nc) ∧ W.cell? ⟨lb, lo, none⟩ = some (.string s0.name) ∧ W.cell? ⟨lb, lo + 1, none⟩ = some (.int .i64 s0.n)) := by
        intro W h
        refine ⟨h, ?_, ?_, ?_⟩
        · rw [h.cell (p := ⟨w.heap.size, 0, none⟩) hz3]; exact d3
        · rw [h.cell (p := ⟨lb, lo, none⟩) hlb]; simpa using e0
        · rw [h.cell (p := ⟨lb, lo + 1, none⟩) hlb]; simpa using e1
      have hba : Below w3.heap.size w3 (w3.alloc (.cells #[.int .i64 0] 3)).drew := ((Below.refl _ w3).alloc (Nat.le_refl _) _).drew
      have HM : Hid (Calls Tryz.prog 26 #[.slice na ns.length nc, .slice (some ⟨w3.heap.size, 0, none⟩) 1 1, .agg #[.string s0.name, .int .i64 s0.n]] (w3.alloc (.cells #[.int .i64 0] 3)).drew fun e w' => ∃ v, e = .returned v ∧ Ints (fun b => w.heap.size < b) w' v (meantF ns [0] s0) ∧ Below w3.heap.size w3 w') := by
        have hW : Below w.heap.size w (w3.alloc (.cells #[.int .i64 0] 3)).drew := hB3.trans (hba.mono hB3.size)
        have hN := ((HD.out.nodes.later hW).carry (S' := fun b => S b ∨ b = w3.heap.size) fun b hb => ⟨Or.inl hb, rfl⟩)
        have hI : Ints (fun b => S b ∨ b = w3.heap.size) (w3.alloc (.cells #[.int .i64 0] 3)).drew (.slice (some ⟨w3.heap.size, 0, none⟩) 1 1) [0] := by
          refine ⟨_, 1, rfl, Nat.le_refl _, by unfold maxLen; omega, fun _ => ⟨w3.heap.size, 0, rfl, Or.inr rfl, fun i x hx => ?_⟩⟩
          match i, hx with
          | 0, hx => simp at hx; subst hx; exact (by simp : (w3.alloc (.cells #[.int .i64 0] 3)).cell? ⟨w3.heap.size, 0 + 0, none⟩ = some (.int .i64 0))
        refine (meantP_any _ _ _ ns [0] s0 _ hN hI (fun u hu => ?_) (HST.out s0 (List.mem_of_getElem? hs0)) (by simp)).mono ?_
        · rw [List.mem_singleton] at hu
          obtain ⟨x, hx, _⟩ := good_first HGD.out
          have := lt_of_some hx
          omega
        · rintro e w' ⟨v, rfl, hI', hb'⟩
          have hsz : (w3.alloc (.cells #[.int .i64 0] 3)).drew.heap.size = w3.heap.size + 1 := by show (w3.alloc (.cells #[.int .i64 0] 3)).heap.size = _; simp
          rw [hsz] at hI' hb'
          refine ⟨v, rfl, hI'.carry fun b hb => ⟨by omega, rfl⟩, ?_⟩
          exact hba.trans (hb'.mono (by omega))
      have hl1i : (0 : Int) < (l.length : Int) := by omega
      have hl0 : 0 < l.length := by omega
      have hlne : ¬ l = [] := by intro e; rw [e] at hl0; simp at hl0
      clear e0 e1 hs0
      go_wp2_with fail
      go_region_held3 (fun W : World => Below w3.heap.size w3 W ∧ W.cell? ⟨w.heap.size, 0, none⟩ = some (.slice na ns.length nc) ∧ W.cell? ⟨lb, lo, none⟩ = some (.string s0.name) ∧ W.cell? ⟨lb, lo + 1, none⟩ = some (.int .i64 s0.n))
        (first
          | with_reducible exact HC.out _ hbn
          | with_reducible exact HC.out _ hba)
        (first | (go_at_call 26; refine (Calls.mono HM.out ?_); rintro e w4 ⟨v4, rfl, hI4, hbm⟩; obtain ⟨va4, vc4, rfl, _, _⟩ := hI4.shape; have hbn := hbm))
      have hBw4 : Below w.heap.size w w4 := hB3.trans (hbn.mono hB3.size)
      obtain ⟨H0, hH0⟩ : ∃ H0, meantF ns [0] s0 = H0 := ⟨_, rfl⟩
      have HH0 : Hid (Lev ns 1 H0) := by show Lev ns 1 H0; rw [← hH0]; exact lev_root HGD.out s0
      have HSP : Hid (selP ns l = selF ns (l.drop 1) H0) := by
        obtain ⟨r, rfl⟩ := HL0.out
        show selF ns r (meantF ns [0] s0) = _
        rw [hH0]; rfl
      rw [hH0] at hI4 ⊢
      have HI4 : Hid (Ints (fun b => w.heap.size < b) w4 (.slice va4 H0.length vc4) H0) := hI4
      have hb4 := hbn
      have HLR : Hid ((l.drop 1).length = l.length - 1) := List.length_drop
      have HC4 : Hid (∀ W, Below w3.heap.size w3 W → W.cell? ⟨w.heap.size, 0, none⟩ = some (.slice na ns.length nc)) := fun W h => (HC.out W h).2.1
      clear hH0 HM HC hbm hI4 hba
      go_wp2_with fail
      all_goals
        go_loopg [30, 6] (l.length - 1) (fun g j h wr => ∃ (i : Nat) (X : List Int), i + g = l.length - 1 ∧ j = .int .i64 (i : Int) ∧ X = selF ns ((l.drop 1).take i) H0 ∧ Ints (fun b => w.heap.size < b) wr h X ∧ Below w3.heap.size w3 wr)
        case atStart => exact ⟨0, H0, by omega, rfl, rfl, HI4.out, hb4⟩
        case round =>
          rename World => wo
          obtain ⟨i, X, hi, rfl, hX, hIX, hBX⟩ := hrel
          have hBwr : Below w.heap.size w wo := hB3.trans (hBX.mono hB3.size)
          by_cases hil : i < l.length - 1
          · first
            | (exfalso; omega)
            | (obtain ⟨s, hs⟩ : ∃ s, l[i + 1]? = some s := ⟨l[i + 1]'(by omega), by simp⟩
               have HLev : Hid (Lev ns (1 + i) X) := by
                 have := lev_sel HGD.out ((l.drop 1).take i) 1 H0 HH0.out
                 rw [List.length_take, HLR.out, Nat.min_eq_left (by omega), ← hX] at this
                 exact this
               have HXN : Hid (selF ns ((l.drop 1).take (i + 1)) H0 = nextF ns X s) := by
                 have e : (l.drop 1).take (i + 1) = (l.drop 1).take i ++ [s] := by
                   rw [List.take_succ_eq_append_getElem (by rw [HLR.out]; exact hil)]
                   congr 2
                   have := hs
                   rw [List.getElem?_eq_getElem (by omega)] at this
                   have := Option.some.inj this
                   rw [List.getElem_drop]
                   rw [← this]
                   congr 1
                   omega
                 show _ = _
                 rw [e, selF_snoc, ← hX]
               obtain ⟨lb2, lo2, lc2, hlv, _, hlb2, e0, e1⟩ := (HL.out.later hBwr).at hs
               injection hlv with hla _ hlc2
               injection hla with hla
               injection hla with hla1 hla2
               subst hla1 hla2 hlc2
               have e0' : wo.cell? ⟨lb, lo + 2 + i * 2, none⟩ = some (.string s.name) := by rw [show lo + 2 + i * 2 = lo + (i + 1) * 2 by omega]; exact e0
               have e1' : wo.cell? ⟨lb, lo + 2 + i * 2 + 1, none⟩ = some (.int .i64 s.n) := by rw [show lo + 2 + i * 2 = lo + (i + 1) * 2 by omega]; exact e1
               have hsn := HST.out s (List.mem_of_getElem? hs)
               have hXl : X.length ≤ 80 := Nat.le_trans (lev_len HGD.out HLev.out) h80
               obtain ⟨xa, xc, rfl, hxl, hxm⟩ := hIX.shape
               unfold maxLen at hxm
               have HIX : Hid (Ints (fun b => w.heap.size < b) wo (.slice xa X.length xc) X) := hIX
               have hili : (i : Int) < ((l.length - 1 : Nat) : Int) := by omega
               have hb5 := Below.alloc1 wo (.cells #[.string s.name, .int .i64 s.n] 53)
               have hx5 := heap_alloc_new wo (.cells #[.string s.name, .int .i64 s.n] 53)
               have hz5 : (wo.alloc (.cells #[.string s.name, .int .i64 s.n] 53)).heap.size = wo.heap.size + 1 := by simp
               clear e0 e1 hs hX hIX
               go_wp2_with fail
               generalize wo.alloc (.cells #[.string s.name, .int .i64 s.n] 53) = W5 at *
               have HZ5 : Hid (W5.heap.size = wo.heap.size + 1) := hz5
               have hle5 : wo.heap.size ≤ W5.heap.size := by omega
               clear hz5
               go_loopg [36, 9] X.length (fun g k o wr => ∃ (kk : Nat) (Y : List Int), kk + g = X.length ∧ k = .int .i64 (kk : Int) ∧ Y = nextF ns (X.take kk) s ∧ IRow W5.heap.size wr o Y ∧ Below W5.heap.size W5 wr)
               case atStart => exact ⟨0, [], by omega, rfl, rfl, IRow.nil _ _, Below.refl _ _⟩
               case round =>
                 obtain ⟨kk, Y, hkk, rfl, hY, hIY, hBY⟩ := hrel
                 have hB5 : Below wo.heap.size wo wr := hb5.trans (hBY.mono hle5)
                 have hBwx : Below w.heap.size w wr := hBwr.trans (hB5.mono hBwr.size)
                 have hB3x : Below w3.heap.size w3 wr := hBX.trans (hB5.mono hBX.size)
                 have hszx := hBY.size
                 by_cases hkl : kk < X.length
                 · obtain ⟨u, hu⟩ : ∃ u, X[kk]? = some u := ⟨X[kk], by simp [hkl]⟩
                   obtain ⟨m, x, rfl, hx, _⟩ := HLev.out.mem u (List.mem_of_getElem? hu)
                   have hmn := lt_of_some hx
                   obtain ⟨xb, xo, xc2, hxv, _, hxbw, e2⟩ := (HIX.out.later hB5).at hu
                   injection hxv with hxa _ hxc2
                   subst hxa hxc2
                   obtain ⟨b, o, cap, va, vk, hv, _, _, hSb, hbw, c0, c1, c2, c3, c4, hAt, hKi⟩ := (HD.out.nodes.later hBwx).at hx
                   injection hv with hv1 _ hv2
                   subst hv1 hv2
                   obtain ⟨ka, kc, rfl, hkl2, hkm⟩ := hKi.shape
                   have HYN : Hid (nextF ns (X.take (kk + 1)) s = Y ++ meantF ns x.kids s) := by
                     show _ = _
                     rw [nextF_snoc hu, ← hY, kidsAt_nat hx]
                   have HYL : Hid (Y.length + (meantF ns x.kids s).length ≤ 80) := by
                     show _ ≤ _
                     rw [← List.length_append, ← HYN.out]
                     exact Nat.le_trans (lev_len HGD.out (lev_next HGD.out (HLev.out.sub (List.take_sublist _ _)) s)) h80
                   have hkidl : x.kids.length ≤ 80 := by
                     have := (goodD_kids HD.out HGD.out m x hx).2.1
                     have h1 := kids_in HGD.out hx
                     have h2 : x.kids.length ≤ ns.length := lev_len HGD.out (d := dp ns m + 1) ⟨fun u hu => by
                       obtain ⟨k, y, rfl, hjk, _, _, hy, hp⟩ := (good_fam HGD.out hx).kids u hu
                       exact ⟨k, y, rfl, hy, dp_kid HGD.out hy hp hjk⟩, (good_fam HGD.out hx).row⟩
                     omega
                   have HMC : Hid (∀ W, Below wr.heap.size wr W → Calls Tryz.prog 26 #[.slice (some ⟨b, o, none⟩) ns.length nc, .slice ka x.kids.length kc, .agg #[.string s.name, .int .i64 s.n]] W fun e w' => ∃ v, e = .returned v ∧ Ints (fun b => W.heap.size ≤ b) w' v (meantF ns x.kids s) ∧ Below W.heap.size W w') := by
                     intro W h
                     exact meantP_any S _ _ ns x.kids s W ((HD.out.nodes.later hBwx).later h) (hKi.later h) (kids_in HGD.out hx) hsn (by omega)
                   have hbW5 : b < W5.heap.size := by
                     have h1 := HD.out.here b hSb
                     have h2 := hBwr.size
                     have h3 := hb5.size
                     omega
                   have hB35 : Below w3.heap.size w3 W5 := hBX.trans (hb5.mono hBX.size)
                   have c4' : W5.cell? ⟨b, o + m * 5 + 4, none⟩ = some (.slice ka x.kids.length kc) := by rw [← hBY.cell (p := ⟨b, o + m * 5 + 4, none⟩) hbW5]; exact c4
                   have HC : Hid (∀ W, Below W5.heap.size W5 W → Below W5.heap.size W5 W ∧ W.cell? ⟨w.heap.size, 0, none⟩ = some (.slice (some ⟨b, o, none⟩) ns.length nc) ∧ W.cell? ⟨b, o + m * 5 + 4, none⟩ = some (.slice ka x.kids.length kc) ∧ W.cell? ⟨wo.heap.size, 0, none⟩ = some (.string s.name) ∧ W.cell? ⟨wo.heap.size, 1, none⟩ = some (.int .i64 s.n)) := by
                     intro W h
                     have h5 := (h.block _ (blk_lt hx5)).trans hx5
                     refine ⟨h, HC4.out W (hB35.trans (h.mono hB35.size)), ?_, ?_, ?_⟩
                     · rw [h.cell (p := ⟨b, o + m * 5 + 4, none⟩) hbW5]; exact c4'
                     · rw [Lib.cell_of_heap h5]; rfl
                     · rw [Lib.cell_of_heap h5]; rfl
                   obtain ⟨ya, yc, rfl, _, _⟩ := hIY.shape
                   have HIY : Hid (IRow W5.heap.size wr (.slice ya Y.length yc) Y) := hIY
                   have hkli : (kk : Int) < (X.length : Int) := by omega
                   have hmi : (m : Int) < (ns.length : Int) := by omega
                   have hbx : Below wr.heap.size wr wr.drew := (Below.refl _ _).drew
                   have hbn : Below W5.heap.size W5 wr.drew := hBY.drew
                   obtain ⟨Z, hZ⟩ : ∃ Z, meantF ns x.kids s = Z := ⟨_, rfl⟩
                   rw [hZ] at HMC HYN HYL
                   clear hu hx hY hIY hKi hAt c0 c1 c2 c3 hZ c4'
                   go_wp2_with fail
                   go_region_held3 (fun W : World => Below W5.heap.size W5 W ∧ W.cell? ⟨w.heap.size, 0, none⟩ = some (.slice (some ⟨b, o, none⟩) ns.length nc) ∧ W.cell? ⟨b, o + m * 5 + 4, none⟩ = some (.slice ka x.kids.length kc) ∧ W.cell? ⟨wo.heap.size, 0, none⟩ = some (.string s.name) ∧ W.cell? ⟨wo.heap.size, 1, none⟩ = some (.int .i64 s.n))
                     (with_reducible exact HC.out _ hbn)
                     (first
                       | (go_at_call 26; refine (Calls.mono (HMC.out _ hbx) ?_); rintro e w7 ⟨v7, rfl, hI7, hb7⟩; obtain ⟨va7, vc7, rfl, _, _⟩ := hI7.shape; have hbx := hbx.trans (hb7.mono hbx.size); have hbn := hBY.trans (hbx.mono hszx))
                       | (refine step_ints (by rfl) (.tmp 40) (.tmp 50) (by rfl) W5.heap.size (.slice ya Y.length yc) Y (by simp [Act.eval]) (HIY.out.later hbx) _ (.slice va7 Z.length vc7) Z (by simp [Act.eval]) hI7 (by have := HYL.out; omega) hbn.size ?_; intro v8 w8 hR8 hg8; obtain ⟨va8, vc8, rfl, _, _⟩ := hR8.shape; have hbn := hbn.grown hg8 hbn.size (fun z hz => (HIY.out.lt z hz).1)))
                   clear c4
                   go_wp2_with fail
                   go_roundg (X.length - (kk + 1))
                   case measure => omega
                   case rel => exact ⟨kk + 1, Y ++ Z, by omega, by go_num, HYN.out.symm, by rw [List.length_append] at hR8; exact hR8, hbn⟩
                 · have hkk2 : kk = X.length := by omega
                   subst hkk2
                   rw [List.take_length] at hY
                   have hkli : ¬ ((X.length : Int) < (X.length : Int)) := by omega
                   obtain ⟨ya, yc, rfl, _, _⟩ := hIY.shape
                   have hR := hIY.ints
                   have hY2 : selF ns ((l.drop 1).take (i + 1)) H0 = Y := by rw [HXN.out, hY]
                   have HY2 : Hid (selF ns ((l.drop 1).take (i + 1)) H0 = Y) := hY2
                   have h5w : w.heap.size < W5.heap.size := by
                     have h1 := hBwr.size
                     have h2 := HZ5.out
                     omega
                   clear hIY hY hY2
                   go_wp2_with fail
                   go_roundg (l.length - 1 - (i + 1))
                   case measure => omega
                   case rel => exact ⟨i + 1, Y, by omega, by go_num, HY2.out.symm, hR.carry fun b hb => ⟨by omega, rfl⟩, hB3x⟩)
          · have hili : ¬ ((i : Int) < ((l.length - 1 : Nat) : Int)) := by omega
            obtain ⟨xa, xc, rfl, hxl, hxm⟩ := hIX.shape
            have hXe : selP ns l = X := by
              rw [HSP.out, hX, List.take_of_length_le (by rw [HLR.out]; omega)]
            have HX : Hid (selP ns l = X) := hXe
            clear hX hXe
            go_wp2_with fail
            go_ret2
            exact ⟨_, by rw [HSE3.out]; rfl, by rw [HSD3.out, HX.out]; exact hIX.carry fun b hb => ⟨by omega, rfl⟩, hBwr⟩
end Go.Proofs.YtfghbfocjjmcmabGreatDoor

