/- topiarykeep.ChangeOrder says true. Condition: as many changes as a list can hold (reach). -/
import Derived.Test.YtlchbhlmbphkpaaBundle28
import Derived.Test.YtlchbhlmbphkpaaBundle29
import Derived.Test.YtlchbhlmbphkpaaBundle30
namespace Go.Proofs.Ytlchbhlmbphkpaa
open Go.ChangeShapes Go.WideShapes Go.ChangeAt Go.RowKit
set_option maxRecDepth 100000

attribute [local go_sem] cell_set

theorem two_apart {l : List Opn} {m : Nat} {a b : Opn} (ha : l[m]? = some a) (hb : l[m + 1]? = some b) : l = l.take m ++ a :: b :: l.drop (m + 2) ∧ (l.set m b).set (m + 1) a = l.take m ++ b :: a :: l.drop (m + 2) := by
  have h1 := lt_of_some hb
  have e1 : l[m] = a := by simpa [show m < l.length by omega] using ha
  have e2 : l[m + 1] = b := by simpa [h1] using hb
  have key : l = l.take m ++ a :: b :: l.drop (m + 2) := by
    conv => lhs; rw [← List.take_append_drop m l]
    rw [List.drop_eq_getElem_cons (by omega), e1, List.drop_eq_getElem_cons h1, e2]
  refine ⟨key, ?_⟩
  generalize hA : l.take m = A at key ⊢
  generalize l.drop (m + 2) = C at key ⊢
  have hl : A.length = m := by rw [← hA, List.length_take]; omega
  subst key
  rw [← hl]
  simp

set_option linter.unusedSimpArgs false in
set_option maxHeartbeats 4000000 in
theorem changeOrder_any (S : Nat → Prop) (n : Nat) (vn vl : Value) (ns : List Nd) (l : List Opn) (k : Int) (w : World) (hD : DocV S w vn ns) (hO : Ops S w n vl l) (ht : TextsO n l) (hre : l.length * 72 ≤ 140737488351232) :
    Calls Try.prog 3 #[.agg #[vn], vl, .int .i64 k] w fun e w' => e = .returned (.bool true) ∧ Below w.heap.size w w' := by
  obtain ⟨na, nc, rfl, hnl, hnc⟩ := hD.nodes.shape
  obtain ⟨la, lc, rfl, hll, hlc⟩ := hO.shape
  have HAP : Hid (∀ W, Below w.heap.size w W → Calls Try.prog 10 #[.agg #[.slice na ns.length nc], .slice la l.length lc] W fun e w' => ∃ v', e = .returned (.tuple #[.agg #[v'], .int .i64 (applyE ns l)]) ∧ Nodes (fun b => b < w'.heap.size) w' v' (applyD ns l) ∧ Below W.heap.size W w') := by
    intro W hW
    refine (applyAll_any S n _ _ ns l W (hD.later hW).nodes (hD.later hW).here hD.few hD.short (hO.later hW) ht).mono ?_
    rintro e w' ⟨v', rfl, h1, h2⟩
    exact ⟨v', rfl, h1.bounded.carry fun b hb => ⟨hb.2, rfl⟩, h2⟩
  have HD : Hid _ := hD
  have HO : Hid _ := hO
  have HT : Hid _ := ht
  have HP0 : Hid _ := heap_alloc_new w (.cells #[.slice na ns.length nc] 24)
  have hb0 := Below.alloc1 w (.cells #[.slice na ns.length nc] 24)
  unfold maxLen at hnc hlc
  clear hD hO ht
  by_cases hl2 : l.length < 2
  · have hl2i : (l.length : Int) < 2 := by omega
    go_enter Try.func3, Try.ntmps3
    go_wp2_with fail
    refine (chgsK_any _).mono ?_
    rintro e w3 ⟨rfl, hb3⟩
    go_wp2_with fail
    go_ret
    exact ⟨rfl, hb0.trans (hb3.mono hb0.size)⟩
  · have hl2i : ¬ ((l.length : Int) < 2) := by omega
    have hsub : ((l.length : Int) - 1) = ((l.length - 1 : Nat) : Int) := by omega
    have HPK : Hid (∀ W, Calls Try.prog 9 #[.int .i64 k, .int .i64 ((l.length : Int) - 1)] W fun e w' => ∃ m : Nat, m < l.length - 1 ∧ e = .returned (.int .i64 (m : Int)) ∧ w' = W) := fun W => by
      rw [hsub]
      exact pick_any k (l.length - 1) W (by omega) (by omega)
    clear hsub
    go_enter Try.func3, Try.ntmps3
    go_wp2_with fail
    refine (Calls.mono (HPK.out _) ?_)
    rintro e W1 ⟨m, hm, rfl, rfl⟩
    clear HPK
    obtain ⟨a, ha⟩ : ∃ a, l[m]? = some a := ⟨l[m]'(by omega), by simp⟩
    obtain ⟨b, hb⟩ : ∃ b, l[m + 1]? = some b := ⟨l[m + 1]'(by omega), by simp⟩
    obtain ⟨lb, lo, lc2, ca, cca, hlv, hSb, hlb, a0, a1, a2, a3, a4, hTa⟩ := (Ops.later HO.out hb0).at ha
    obtain ⟨_, _, _, cb, ccb, hlv2, _, _, b0, b1, b2, b3, b4, hTb⟩ := (Ops.later HO.out hb0).at hb
    injection hlv with hla _ hlc2
    subst hla hlc2
    injection hlv2 with hla _ hlc2
    injection hla with hla
    injection hla with hla1 hla2
    subst hla1 hla2 hlc2
    generalize w.alloc (.cells #[.slice na ns.length nc] 24) = W1 at *
    have hmi : (m : Int) < (l.length : Int) := by omega
    obtain ⟨m1, hm1⟩ : ∃ m1, m1 = m + 1 := ⟨_, rfl⟩
    rw [← hm1] at b0 b1 b2 b3 b4 hb
    have hmi1 : (m1 : Int) < (l.length : Int) := by omega
    have hwr : IntKind.i64.wrap ((m : Int) + 1) = (m1 : Int) := by rw [hm1]; exact IntWalk.i64_in _ (by omega)
    have HM1 : Hid _ := hm1
    clear hm1
    have HSS : Hid (∀ W' : World, Below W1.heap.size W1 W' → (W'.cell? ⟨lb, lo + m * 5, none⟩ = some (.int .i64 a.kind) ∧ W'.cell? ⟨lb, lo + m * 5 + 1, none⟩ = some (.int .i64 a.target) ∧ W'.cell? ⟨lb, lo + m * 5 + 2, none⟩ = some (.slice ca a.content.length cca) ∧ W'.cell? ⟨lb, lo + m * 5 + 3, none⟩ = some (.string a.name) ∧ W'.cell? ⟨lb, lo + m * 5 + 4, none⟩ = some (.string a.s)) ∧ (W'.cell? ⟨lb, lo + m1 * 5, none⟩ = some (.int .i64 b.kind) ∧ W'.cell? ⟨lb, lo + m1 * 5 + 1, none⟩ = some (.int .i64 b.target) ∧ W'.cell? ⟨lb, lo + m1 * 5 + 2, none⟩ = some (.slice cb b.content.length ccb) ∧ W'.cell? ⟨lb, lo + m1 * 5 + 3, none⟩ = some (.string b.name) ∧ W'.cell? ⟨lb, lo + m1 * 5 + 4, none⟩ = some (.string b.s))) := by
      intro W' hb'
      refine ⟨⟨?_, ?_, ?_, ?_, ?_⟩, ?_, ?_, ?_, ?_, ?_⟩
      · exact (hb'.cell (p := ⟨lb, _, none⟩) hlb).trans a0
      · exact (hb'.cell (p := ⟨lb, _, none⟩) hlb).trans a1
      · exact (hb'.cell (p := ⟨lb, _, none⟩) hlb).trans a2
      · exact (hb'.cell (p := ⟨lb, _, none⟩) hlb).trans a3
      · exact (hb'.cell (p := ⟨lb, _, none⟩) hlb).trans a4
      · exact (hb'.cell (p := ⟨lb, _, none⟩) hlb).trans b0
      · exact (hb'.cell (p := ⟨lb, _, none⟩) hlb).trans b1
      · exact (hb'.cell (p := ⟨lb, _, none⟩) hlb).trans b2
      · exact (hb'.cell (p := ⟨lb, _, none⟩) hlb).trans b3
      · exact (hb'.cell (p := ⟨lb, _, none⟩) hlb).trans b4
    have HTA : Hid _ := hTa
    have HTB : Hid _ := hTb
    have HHA : Hid _ := ha
    have HHB : Hid _ := hb
    clear hTa hTb ha hb
    go_wp2_with fail
    go_region_held3 (fun W' : World => (W'.cell? ⟨lb, lo + m * 5, none⟩ = some (.int .i64 a.kind) ∧ W'.cell? ⟨lb, lo + m * 5 + 1, none⟩ = some (.int .i64 a.target) ∧ W'.cell? ⟨lb, lo + m * 5 + 2, none⟩ = some (.slice ca a.content.length cca) ∧ W'.cell? ⟨lb, lo + m * 5 + 3, none⟩ = some (.string a.name) ∧ W'.cell? ⟨lb, lo + m * 5 + 4, none⟩ = some (.string a.s)) ∧ (W'.cell? ⟨lb, lo + m1 * 5, none⟩ = some (.int .i64 b.kind) ∧ W'.cell? ⟨lb, lo + m1 * 5 + 1, none⟩ = some (.int .i64 b.target) ∧ W'.cell? ⟨lb, lo + m1 * 5 + 2, none⟩ = some (.slice cb b.content.length ccb) ∧ W'.cell? ⟨lb, lo + m1 * 5 + 3, none⟩ = some (.string b.name) ∧ W'.cell? ⟨lb, lo + m1 * 5 + 4, none⟩ = some (.string b.s)))
      ((refine HSS.out _ ?_; repeat' (first | exact Below.refl _ W1 | refine Below.drew ?_ | refine Below.alloc ?_ ?_ _ | refine Below.setCell ?_ ?_ _ | (simp; done) | (simp; omega))))
      (fail)
    all_goals
      first
        | (change Exit.then _ _ _ _ ((W1.alloc (.cells #[.int .i64 a.kind, .int .i64 a.target, .slice ca a.content.length cca, .string a.name, .string a.s] 30)).alloc (.cells #[.int .i64 b.kind, .int .i64 b.target, .slice cb b.content.length ccb, .string b.name, .string b.s] 30)).drew
           have HH : Hid _ := two_boxes W1 (.cells #[.int .i64 a.kind, .int .i64 a.target, .slice ca a.content.length cca, .string a.name, .string a.s] 30) (.cells #[.int .i64 b.kind, .int .i64 b.target, .slice cb b.content.length ccb, .string b.name, .string b.s] 30)
           generalize ((W1.alloc (.cells #[.int .i64 a.kind, .int .i64 a.target, .slice ca a.content.length cca, .string a.name, .string a.s] 30)).alloc (.cells #[.int .i64 b.kind, .int .i64 b.target, .slice cb b.content.length ccb, .string b.name, .string b.s] 30)).drew = W4 at HH ⊢
           generalize hbY : W1.heap.size + 1 = bY at HH ⊢
           generalize hbX : W1.heap.size = bX at HH ⊢)
        | (change Exit.then _ _ _ _ ((W1.alloc (.cells #[.int .i64 b.kind, .int .i64 b.target, .slice cb b.content.length ccb, .string b.name, .string b.s] 30)).alloc (.cells #[.int .i64 a.kind, .int .i64 a.target, .slice ca a.content.length cca, .string a.name, .string a.s] 30)).drew
           have HH : Hid _ := two_swap (two_boxes W1 (.cells #[.int .i64 b.kind, .int .i64 b.target, .slice cb b.content.length ccb, .string b.name, .string b.s] 30) (.cells #[.int .i64 a.kind, .int .i64 a.target, .slice ca a.content.length cca, .string a.name, .string a.s] 30))
           generalize ((W1.alloc (.cells #[.int .i64 b.kind, .int .i64 b.target, .slice cb b.content.length ccb, .string b.name, .string b.s] 30)).alloc (.cells #[.int .i64 a.kind, .int .i64 a.target, .slice ca a.content.length cca, .string a.name, .string a.s] 30)).drew = W4 at HH ⊢
           generalize hbX : W1.heap.size + 1 = bX at HH ⊢
           generalize hbY : W1.heap.size = bY at HH ⊢)
      have hb4 : Below W1.heap.size W1 W4 := HH.out.1 _ (by omega)
      have hB4 : Below w.heap.size w W4 := hb0.trans (hb4.mono hb0.size)
      clear hbX hbY
      have x0 : W4.cell? ⟨bX, 0, none⟩ = some (.int .i64 a.kind) := by rw [Lib.cell_of_heap HH.out.2.1]; rfl
      have x1 : W4.cell? ⟨bX, 1, none⟩ = some (.int .i64 a.target) := by rw [Lib.cell_of_heap HH.out.2.1]; rfl
      have x2 : W4.cell? ⟨bX, 2, none⟩ = some (.slice ca a.content.length cca) := by rw [Lib.cell_of_heap HH.out.2.1]; rfl
      have x3 : W4.cell? ⟨bX, 3, none⟩ = some (.string a.name) := by rw [Lib.cell_of_heap HH.out.2.1]; rfl
      have x4 : W4.cell? ⟨bX, 4, none⟩ = some (.string a.s) := by rw [Lib.cell_of_heap HH.out.2.1]; rfl
      have y0 : W4.cell? ⟨bY, 0, none⟩ = some (.int .i64 b.kind) := by rw [Lib.cell_of_heap HH.out.2.2]; rfl
      have y1 : W4.cell? ⟨bY, 1, none⟩ = some (.int .i64 b.target) := by rw [Lib.cell_of_heap HH.out.2.2]; rfl
      have y2 : W4.cell? ⟨bY, 2, none⟩ = some (.slice cb b.content.length ccb) := by rw [Lib.cell_of_heap HH.out.2.2]; rfl
      have y3 : W4.cell? ⟨bY, 3, none⟩ = some (.string b.name) := by rw [Lib.cell_of_heap HH.out.2.2]; rfl
      have y4 : W4.cell? ⟨bY, 4, none⟩ = some (.string b.s) := by rw [Lib.cell_of_heap HH.out.2.2]; rfl
      have HX : Hid _ := HH.out.2.1
      have HY : Hid _ := HH.out.2.2
      clear HH HSS a0 a1 a2 a3 a4 b0 b1 b2 b3 b4
      by_cases hkt : a.kind = b.kind ∧ a.target = b.target
      · obtain ⟨hk, htg⟩ := hkt
        rw [hk] at x0
        rw [htg] at x1
        go_wp2_with fail
        refine (chgsK_any _).mono ?_
        rintro e w5 ⟨rfl, hb5⟩
        go_wp2_with fail
        go_ret
        exact ⟨rfl, hB4.trans (hb5.mono hB4.size)⟩
      · have hstep : (a.kind == b.kind) = false ∨ ((a.kind == b.kind) = true ∧ (a.target == b.target) = false) := by
          by_cases h1 : a.kind = b.kind
          · exact Or.inr ⟨by simpa using h1, by simpa using fun h2 => hkt ⟨h1, h2⟩⟩
          · exact Or.inl (by simpa using h1)
        have hzW : W1.heap.size ≤ W4.heap.size := hb4.size
        have HNE : Hid (a.kind ≠ b.kind ∨ a.target ≠ b.target) := by
          rcases Classical.em (a.kind = b.kind) with h | h
          · exact Or.inr (fun h2 => hkt ⟨h, h2⟩)
          · exact Or.inl h
        obtain ⟨rs, hrl, hrr, hcells⟩ := OpsR.raw (Ops.row (Ops.later HO.out hB4))
        have HRC : Hid (∀ j u, (orCells rs)[j]? = some u → W4.cell? ((⟨lb, lo, none⟩ : Addr).add j) = some u) := hcells
        have HRR : Hid _ := hrr
        have HR1 : Hid (∀ u ∈ orCells rs, u.oneCell' = true) := by
          intro u hu
          obtain ⟨r, hr, hu⟩ := List.mem_flatMap.1 hu
          exact encO_one r u hu
        have hcl := orCells_length rs
        obtain ⟨i0, hi, hz0, hz1, hz2⟩ := info_parts opInfo
        clear hcells hrr hkt
        rcases hstep with hk | ⟨hk, htg⟩
        all_goals
          go_wp2_with (at_builtin; refine wpList_append_own_at _ rfl _ _ 25 rfl W4.heap.size 30 i0 _ 5 72 Try.underlying25 hi hz0 hz1 hz2 rfl (by decide) _ _ _ rfl (World.ownsRow_nil _ _ _ _) ⟨lb, lo, none⟩ l.length lc (orCells rs) rfl ?qc1 ?qc2 ?qc3 ?qc4 ?qc5 ?qc6 ?_)
          case qc1 => omega
          case qc2 => exact HRC.out
          case qc3 => exact HR1.out
          case qc4 => unfold maxLen; omega
          case qc5 => omega
          case qc6 => exact Nat.le_refl _
          intro v2 W5 hown hgr _ _
          have hown' : W5.ownsRow W4.heap.size 30 5 v2 l.length (orCells rs) := by simpa using hown
          have hb5 : Below W4.heap.size W4 W5 := (Below.refl _ W4).grown hgr (Nat.le_refl _) (fun z hz => by simp [Value.ownBlock] at hz)
          have hOR : OpsR (fun b => v2.ownBlock = some b) S W5 n v2 l := own_opsR hown' hrl (fun i r x h1 h2 => by
            obtain ⟨e1, e2, e3, e4, q1, q2, e5, hT⟩ := HRR.out i r x h1 h2
            exact ⟨e1, e2, e3, e4, q1, q2, e5, Trees.later hb5 n hT⟩)
          obtain ⟨g, cap, rfl, hg1, hg2, hfz⟩ : ∃ g cap, v2 = .slice (some ⟨g, 0, none⟩) l.length cap ∧ W4.heap.size ≤ g ∧ g < W5.heap.size ∧ ∀ k, W5.frozen? ⟨g, k, none⟩ = false := by
            rcases hown'.2 with ⟨_, h0⟩ | ⟨g, cap, cur, rfl, hg, hh, hc, hm, hs, ht⟩
            · omega
            · exact ⟨g, cap, rfl, hg, blk_lt hh, fun k => Lib.frozen_of_heap hh k⟩
          have hOR2 : OpsR (fun b => b = g) S W5 n (.slice (some ⟨g, 0, none⟩) l.length cap) l := by
            obtain ⟨a', c', h1, h2, h3, h4⟩ := hOR
            refine ⟨a', c', h1, h2, h3, fun hne => ?_⟩
            obtain ⟨b', o', q1, q2, q3⟩ := h4 hne
            exact ⟨b', o', q1, by simpa [Value.ownBlock] using q2.symm, q3⟩
          obtain ⟨gcap, hgcap1, hgcap2, hgc⟩ : ∃ c, c = cap ∧ c ≤ maxLen ∧ ∀ (i : Nat) (x : Opn), l[i]? = some x → ∃ ca cc, W5.cell? ⟨g, i * 5, none⟩ = some (.int .i64 x.kind) ∧ W5.cell? ⟨g, i * 5 + 1, none⟩ = some (.int .i64 x.target) ∧ W5.cell? ⟨g, i * 5 + 2, none⟩ = some (.slice ca x.content.length cc) ∧ W5.cell? ⟨g, i * 5 + 3, none⟩ = some (.string x.name) ∧ W5.cell? ⟨g, i * 5 + 4, none⟩ = some (.string x.s) := by
            obtain ⟨a', c', h1, h2, h3, h4⟩ := hOR2
            injection h1 with h1 _ h1c
            refine ⟨c', h1c.symm, h3, fun i x hx => ?_⟩
            obtain ⟨b', o', q1, q2, q3⟩ := h4 (by intro e; subst e; simp at hx)
            rw [q1] at h1
            injection h1 with h1
            injection h1 with h1a h1b
            subst h1a h1b
            obtain ⟨ca', cc', d0, d1, d2, d3, d4, _⟩ := q3 i x hx
            simp only [Nat.zero_add] at d0 d1 d2 d3 d4
            exact ⟨ca', cc', d0, d1, d2, d3, d4⟩
          subst hgcap1
          obtain ⟨_, _, g0, g1, g2, g3, g4⟩ := hgc m a HHA.out
          obtain ⟨_, _, k0, k1, k2, k3, k4⟩ := hgc m1 b HHB.out
          have f0 := hfz (m * 5)
          have f1 := hfz (m * 5 + 1)
          have f2 := hfz (m * 5 + 2)
          have f3 := hfz (m * 5 + 3)
          have f4 := hfz (m * 5 + 4)
          have j0 := hfz (m1 * 5)
          have j1 := hfz (m1 * 5 + 1)
          have j2 := hfz (m1 * 5 + 2)
          have j3 := hfz (m1 * 5 + 3)
          have j4 := hfz (m1 * 5 + 4)
          have hX5 := (hb5.block _ (blk_lt HX.out)).trans HX.out
          have hY5 := (hb5.block _ (blk_lt HY.out)).trans HY.out
          have hbX : bX < g := Nat.lt_of_lt_of_le (blk_lt HX.out) hg1
          have hbY : bY < g := Nat.lt_of_lt_of_le (blk_lt HY.out) hg1
          have HSS : Hid (∀ W' : World, Below g W5 W' → W'.cell? ⟨bX, 0, none⟩ = some (.int .i64 a.kind) ∧ W'.cell? ⟨bX, 1, none⟩ = some (.int .i64 a.target) ∧ W'.cell? ⟨bX, 2, none⟩ = some (.slice ca a.content.length cca) ∧ W'.cell? ⟨bX, 3, none⟩ = some (.string a.name) ∧ W'.cell? ⟨bX, 4, none⟩ = some (.string a.s) ∧ W'.cell? ⟨bY, 0, none⟩ = some (.int .i64 b.kind) ∧ W'.cell? ⟨bY, 1, none⟩ = some (.int .i64 b.target) ∧ W'.cell? ⟨bY, 2, none⟩ = some (.slice cb b.content.length ccb) ∧ W'.cell? ⟨bY, 3, none⟩ = some (.string b.name) ∧ W'.cell? ⟨bY, 4, none⟩ = some (.string b.s)) := by
            intro W' hb'
            have hx' := (hb'.block _ hbX).trans hX5
            have hy' := (hb'.block _ hbY).trans hY5
            refine ⟨?_, ?_, ?_, ?_, ?_, ?_, ?_, ?_, ?_, ?_⟩
            all_goals first | (rw [Lib.cell_of_heap hx']; rfl) | (rw [Lib.cell_of_heap hy']; rfl)
          have HOR : Hid _ := hOR2
          have HB5 : Hid _ := hb5
          unfold maxLen at hgcap2
          clear hOR hOR2 hown hown' hgr hfz hgc x0 x1 x2 x3 x4 y0 y1 y2 y3 y4 HRC HRR HR1 hi hz0 hz1 hz2 hX5 hY5 hb5
          go_wp2_with fail
          refine wp_region_held_drew (S := fun W' : World => W'.cell? ⟨bX, 0, none⟩ = some (.int .i64 a.kind) ∧ W'.cell? ⟨bX, 1, none⟩ = some (.int .i64 a.target) ∧ W'.cell? ⟨bX, 2, none⟩ = some (.slice ca a.content.length cca) ∧ W'.cell? ⟨bX, 3, none⟩ = some (.string a.name) ∧ W'.cell? ⟨bX, 4, none⟩ = some (.string a.s) ∧ W'.cell? ⟨bY, 0, none⟩ = some (.int .i64 b.kind) ∧ W'.cell? ⟨bY, 1, none⟩ = some (.int .i64 b.target) ∧ W'.cell? ⟨bY, 2, none⟩ = some (.slice cb b.content.length ccb) ∧ W'.cell? ⟨bY, 3, none⟩ = some (.string b.name) ∧ W'.cell? ⟨bY, 4, none⟩ = some (.string b.s)) (by kernel_rfl) (HSS.out _ ((Below.refl _ W5).drew)) (fun hHeld => ?_)
          refine wpAnyH_take (i := 0) (v := ?_) rfl (by kernel_rfl) (by kernel_rfl) (by kernel_rfl) (fun _ _ _ h => h) (Or.inl ⟨by rfl, ?_⟩) (by assumption) ?_
          rotate_left
          · (intro w hSw; (try dsimp only at hSw); go_simp; try with_reducible rfl)
          try simp only [Act.put, List.getElem_toArray, List.getElem_cons_succ, List.getElem_cons_zero, List.setIfInBounds_toArray, List.set_cons_zero, List.set_cons_succ]
          refine wpAnyH_take (i := 1) (v := ?_) rfl (by kernel_rfl) (by kernel_rfl) (by kernel_rfl) (fun _ _ _ h => h) (Or.inl ⟨by rfl, ?_⟩) (by assumption) ?_
          rotate_left
          · (intro w hSw; (try dsimp only at hSw); go_simp; try with_reducible rfl)
          try simp only [Act.put, List.getElem_toArray, List.getElem_cons_succ, List.getElem_cons_zero, List.setIfInBounds_toArray, List.set_cons_zero, List.set_cons_succ]
          refine wpAnyH_take (i := 2) (v := ?_) rfl (by kernel_rfl) (by kernel_rfl) (by kernel_rfl) (fun _ _ _ h => h) (Or.inl ⟨by rfl, ?_⟩) (by assumption) ?_
          rotate_left
          · (intro w hSw; (try dsimp only at hSw); go_simp; try with_reducible rfl)
          try simp only [Act.put, List.getElem_toArray, List.getElem_cons_succ, List.getElem_cons_zero, List.setIfInBounds_toArray, List.set_cons_zero, List.set_cons_succ]
          refine wpAnyH_take (i := 3) (v := ?_) rfl (by kernel_rfl) (by kernel_rfl) (by kernel_rfl) (fun _ _ _ h => h) (Or.inl ⟨by rfl, ?_⟩) (by assumption) ?_
          rotate_left
          · (intro w hSw; (try dsimp only at hSw); go_simp; try with_reducible rfl)
          try simp only [Act.put, List.getElem_toArray, List.getElem_cons_succ, List.getElem_cons_zero, List.setIfInBounds_toArray, List.set_cons_zero, List.set_cons_succ]
          refine wpAnyH_take (i := 4) (v := ?_) rfl (by kernel_rfl) (by kernel_rfl) (by kernel_rfl) (fun _ _ _ h => h) (Or.inl ⟨by rfl, ?_⟩) (by assumption) ?_
          rotate_left
          · (intro w hSw; (try dsimp only at hSw); go_simp; try with_reducible rfl)
          try simp only [Act.put, List.getElem_toArray, List.getElem_cons_succ, List.getElem_cons_zero, List.setIfInBounds_toArray, List.set_cons_zero, List.set_cons_succ]
          refine wpAnyH_take (i := 5) (v := ?_) rfl (by kernel_rfl) (by kernel_rfl) (by kernel_rfl) (fun _ _ _ h => h) (Or.inl ⟨by rfl, ?_⟩) (by assumption) ?_
          rotate_left
          · (intro w hSw; (try dsimp only at hSw); go_simp; try with_reducible rfl)
          try simp only [Act.put, List.getElem_toArray, List.getElem_cons_succ, List.getElem_cons_zero, List.setIfInBounds_toArray, List.set_cons_zero, List.set_cons_succ]
          refine wpAnyH_take (i := 6) (v := ?_) rfl (by kernel_rfl) (by kernel_rfl) (by kernel_rfl) (fun _ _ _ h => h) (Or.inl ⟨by rfl, ?_⟩) (by assumption) ?_
          rotate_left
          · (intro w hSw; (try dsimp only at hSw); go_simp; try with_reducible rfl)
          try simp only [Act.put, List.getElem_toArray, List.getElem_cons_succ, List.getElem_cons_zero, List.setIfInBounds_toArray, List.set_cons_zero, List.set_cons_succ]
          refine wpAnyH_take (i := 7) (v := ?_) rfl (by kernel_rfl) (by kernel_rfl) (by kernel_rfl) (fun _ _ _ h => h) (Or.inl ⟨by rfl, ?_⟩) (by assumption) ?_
          rotate_left
          · (intro w hSw; (try dsimp only at hSw); go_simp; try with_reducible rfl)
          try simp only [Act.put, List.getElem_toArray, List.getElem_cons_succ, List.getElem_cons_zero, List.setIfInBounds_toArray, List.set_cons_zero, List.set_cons_succ]
          refine wpAnyH_ready (rs := [8]) (by kernel_rfl) (by simp) ?_
          refine AllReadyH.cons rfl (fun K hK => ?_) AllReadyH.nil
          have kk0 := (put5_other (w := W5) (b := g) (p := m * 5) (q := m1 * 5) (v0 := .int .i64 b.kind) (v1 := .int .i64 b.target) (v2 := .slice cb b.content.length ccb) (v3 := .string b.name) (v4 := .string b.s) (Or.inr (by have := HM1.out; omega))).trans k0
          have kk1 := (put5_other (w := W5) (b := g) (p := m * 5) (q := m1 * 5 + 1) (v0 := .int .i64 b.kind) (v1 := .int .i64 b.target) (v2 := .slice cb b.content.length ccb) (v3 := .string b.name) (v4 := .string b.s) (Or.inr (by have := HM1.out; omega))).trans k1
          have kk2 := (put5_other (w := W5) (b := g) (p := m * 5) (q := m1 * 5 + 2) (v0 := .int .i64 b.kind) (v1 := .int .i64 b.target) (v2 := .slice cb b.content.length ccb) (v3 := .string b.name) (v4 := .string b.s) (Or.inr (by have := HM1.out; omega))).trans k2
          have kk3 := (put5_other (w := W5) (b := g) (p := m * 5) (q := m1 * 5 + 3) (v0 := .int .i64 b.kind) (v1 := .int .i64 b.target) (v2 := .slice cb b.content.length ccb) (v3 := .string b.name) (v4 := .string b.s) (Or.inr (by have := HM1.out; omega))).trans k3
          have kk4 := (put5_other (w := W5) (b := g) (p := m * 5) (q := m1 * 5 + 4) (v0 := .int .i64 b.kind) (v1 := .int .i64 b.target) (v2 := .slice cb b.content.length ccb) (v3 := .string b.name) (v4 := .string b.s) (Or.inr (by have := HM1.out; omega))).trans k4
          have jj0 := (put5_frozen W5 g (m * 5) (m1 * 5) (.int .i64 b.kind) (.int .i64 b.target) (.slice cb b.content.length ccb) (.string b.name) (.string b.s)).trans j0
          have jj1 := (put5_frozen W5 g (m * 5) (m1 * 5 + 1) (.int .i64 b.kind) (.int .i64 b.target) (.slice cb b.content.length ccb) (.string b.name) (.string b.s)).trans j1
          have jj2 := (put5_frozen W5 g (m * 5) (m1 * 5 + 2) (.int .i64 b.kind) (.int .i64 b.target) (.slice cb b.content.length ccb) (.string b.name) (.string b.s)).trans j2
          have jj3 := (put5_frozen W5 g (m * 5) (m1 * 5 + 3) (.int .i64 b.kind) (.int .i64 b.target) (.slice cb b.content.length ccb) (.string b.name) (.string b.s)).trans j3
          have jj4 := (put5_frozen W5 g (m * 5) (m1 * 5 + 4) (.int .i64 b.kind) (.int .i64 b.target) (.slice cb b.content.length ccb) (.string b.name) (.string b.s)).trans j4
          have HP1 : Hid _ := HSS.out _ (put5_below (p := m * 5) (v0 := .int .i64 b.kind) (v1 := .int .i64 b.target) (v2 := .slice cb b.content.length ccb) (v3 := .string b.name) (v4 := .string b.s) (Below.refl _ W5) (Nat.le_refl g)).drew
          have hPB : Below g W5 (put5 W5 g (m * 5) (.int .i64 b.kind) (.int .i64 b.target) (.slice cb b.content.length ccb) (.string b.name) (.string b.s)).drew := (put5_below (Below.refl _ W5) (Nat.le_refl g)).drew
          have HPO : Hid _ := OpsR.put HOR.out (fun bb hb => by have h1 := HD.out.here bb hb; have h2 := hB4.size; omega) (lt_of_some HHA.out) b (Trees.later (Below.trans hb4 (HB5.out.mono hzW)) n HTB.out)
          go_simp
          change K _ (put5 W5 g (m * 5) (.int .i64 b.kind) (.int .i64 b.target) (.slice cb b.content.length ccb) (.string b.name) (.string b.s)).drew
          refine hK.out _ _ HP1.out (fun hHeld => ?_)
          clear hK K
          try simp only [Act.put, List.setIfInBounds_toArray, List.set_cons_zero, List.set_cons_succ]
          have HPO2 : Hid (OpsR (fun b => b = g) S (put5 W5 g (m * 5) (.int .i64 b.kind) (.int .i64 b.target) (.slice cb b.content.length ccb) (.string b.name) (.string b.s)).drew n (.slice (some ⟨g, 0, none⟩) l.length gcap) (l.set m b)) := by
            have := HPO.out
            simp only [Nat.zero_add] at this
            exact OpsR.carry this (fun b _ => heap_drew _ b) (fun b _ => heap_drew _ b)
          clear HPO k0 k1 k2 k3 k4 j0 j1 j2 j3 j4 g0 g1 g2 g3 g4 f0 f1 f2 f3 f4
          have kq0 := (cell_drew (put5 W5 g (m * 5) (.int .i64 b.kind) (.int .i64 b.target) (.slice cb b.content.length ccb) (.string b.name) (.string b.s)) ⟨g, m1 * 5, none⟩).trans kk0
          have kq1 := (cell_drew (put5 W5 g (m * 5) (.int .i64 b.kind) (.int .i64 b.target) (.slice cb b.content.length ccb) (.string b.name) (.string b.s)) ⟨g, m1 * 5 + 1, none⟩).trans kk1
          have kq2 := (cell_drew (put5 W5 g (m * 5) (.int .i64 b.kind) (.int .i64 b.target) (.slice cb b.content.length ccb) (.string b.name) (.string b.s)) ⟨g, m1 * 5 + 2, none⟩).trans kk2
          have kq3 := (cell_drew (put5 W5 g (m * 5) (.int .i64 b.kind) (.int .i64 b.target) (.slice cb b.content.length ccb) (.string b.name) (.string b.s)) ⟨g, m1 * 5 + 3, none⟩).trans kk3
          have kq4 := (cell_drew (put5 W5 g (m * 5) (.int .i64 b.kind) (.int .i64 b.target) (.slice cb b.content.length ccb) (.string b.name) (.string b.s)) ⟨g, m1 * 5 + 4, none⟩).trans kk4
          have jq0 := (frozen_drew (put5 W5 g (m * 5) (.int .i64 b.kind) (.int .i64 b.target) (.slice cb b.content.length ccb) (.string b.name) (.string b.s)) ⟨g, m1 * 5, none⟩).trans jj0
          have jq1 := (frozen_drew (put5 W5 g (m * 5) (.int .i64 b.kind) (.int .i64 b.target) (.slice cb b.content.length ccb) (.string b.name) (.string b.s)) ⟨g, m1 * 5 + 1, none⟩).trans jj1
          have jq2 := (frozen_drew (put5 W5 g (m * 5) (.int .i64 b.kind) (.int .i64 b.target) (.slice cb b.content.length ccb) (.string b.name) (.string b.s)) ⟨g, m1 * 5 + 2, none⟩).trans jj2
          have jq3 := (frozen_drew (put5 W5 g (m * 5) (.int .i64 b.kind) (.int .i64 b.target) (.slice cb b.content.length ccb) (.string b.name) (.string b.s)) ⟨g, m1 * 5 + 3, none⟩).trans jj3
          have jq4 := (frozen_drew (put5 W5 g (m * 5) (.int .i64 b.kind) (.int .i64 b.target) (.slice cb b.content.length ccb) (.string b.name) (.string b.s)) ⟨g, m1 * 5 + 4, none⟩).trans jj4
          clear kk0 kk1 kk2 kk3 kk4 jj0 jj1 jj2 jj3 jj4
          generalize (put5 W5 g (m * 5) (.int .i64 b.kind) (.int .i64 b.target) (.slice cb b.content.length ccb) (.string b.name) (.string b.s)).drew = W6 at HP1 hPB HPO2 hHeld kq0 kq1 kq2 kq3 kq4 jq0 jq1 jq2 jq3 jq4 ⊢
          refine wpAnyH_take (i := 9) (v := ?_) rfl (by kernel_rfl) (by kernel_rfl) (by kernel_rfl) (fun _ _ _ h => h) (Or.inl ⟨by rfl, ?_⟩) (by assumption) ?_
          rotate_left
          · (intro w hSw; (try dsimp only at hSw); go_simp; try with_reducible rfl)
          try simp only [Act.put, List.getElem_toArray, List.getElem_cons_succ, List.getElem_cons_zero, List.setIfInBounds_toArray, List.set_cons_zero, List.set_cons_succ]
          refine wpAnyH_ready (rs := [10]) (by kernel_rfl) (by simp) ?_
          refine AllReadyH.cons rfl (fun K hK => ?_) AllReadyH.nil
          have hPB2 : Below g W5 (put5 W6 g (m1 * 5) (.int .i64 a.kind) (.int .i64 a.target) (.slice ca a.content.length cca) (.string a.name) (.string a.s)) := put5_below hPB (Nat.le_refl g)
          have HP2 : Hid _ := HSS.out _ hPB2
          have HPO3 : Hid _ := OpsR.put HPO2.out (fun bb hb => by have h1 := HD.out.here bb hb; have h2 := hB4.size; omega) (by rw [List.length_set]; exact lt_of_some HHB.out) a (Trees.later (Below.trans hb4 ((HB5.out.trans (hPB.mono hg1)).mono hzW)) n HTA.out)
          go_simp
          change K _ (put5 W6 g (m1 * 5) (.int .i64 a.kind) (.int .i64 a.target) (.slice ca a.content.length cca) (.string a.name) (.string a.s))
          refine hK.out _ _ HP2.out (fun hHeld => ?_)
          clear hK K
          try simp only [Act.put, List.setIfInBounds_toArray, List.set_cons_zero, List.set_cons_succ]
          refine wpAnyH_done (by kernel_rfl) ?_ _
          clear hHeld
          have HPO4 : Hid (OpsR (fun b => b = g) S (put5 W6 g (m1 * 5) (.int .i64 a.kind) (.int .i64 a.target) (.slice ca a.content.length cca) (.string a.name) (.string a.s)) n (.slice (some ⟨g, 0, none⟩) l.length gcap) ((l.set m b).set m1 a)) := by
            have := HPO3.out
            simp only [Nat.zero_add] at this
            exact this
          have HB7 : Hid (Below W4.heap.size W4 (put5 W6 g (m1 * 5) (.int .i64 a.kind) (.int .i64 a.target) (.slice ca a.content.length cca) (.string a.name) (.string a.s))) := HB5.out.trans (hPB2.mono hg1)
          clear HPO3 HP2 hPB2 HPO2 hPB HP1 kq0 kq1 kq2 kq3 kq4 jq0 jq1 jq2 jq3 jq4 HSS HOR
          generalize put5 W6 g (m1 * 5) (.int .i64 a.kind) (.int .i64 a.target) (.slice ca a.content.length cca) (.string a.name) (.string a.s) = W7 at HPO4 HB7 ⊢
          have hB7 : Below w.heap.size w W7 := hB4.trans (HB7.out.mono hB4.size)
          have HP7 : Hid _ := ((hb4.trans (HB7.out.mono hb4.size)).block _ (blk_lt HP0.out)).trans HP0.out
          have p7 : W7.cell? ⟨w.heap.size, 0, none⟩ = some (.slice na ns.length nc) := by rw [Lib.cell_of_heap HP7.out]; rfl
          have hgW : g < W7.heap.size := by
            obtain ⟨a', c', h1, h2, h3, h4⟩ := HPO4.out
            obtain ⟨b', o', q1, q2, q3⟩ := h4 (by intro e; have := congrArg List.length e; simp only [List.length_set, List.length_nil] at this; omega)
            have hm' : m < ((l.set m b).set m1 a).length := by rw [List.length_set, List.length_set]; omega
            obtain ⟨_, _, d0, _⟩ := q3 m _ (List.getElem?_eq_getElem hm')
            rw [q2] at d0
            exact World.block_lt_of_cell? W7 _ d0
          obtain ⟨hsp1, hsp2⟩ := two_apart (m := m) HHA.out (by rw [← HM1.out]; exact HHB.out)
          have hap := apply_swap (ns := ns) (a := a) (b := b) HNE.out (l.take m) (l.drop (m + 2))
          rw [← hsp1, ← hsp2, ← HM1.out] at hap
          have HAQ : Hid (∀ W, Below W7.heap.size W7 W → Calls Try.prog 10 #[.agg #[.slice na ns.length nc], .slice (some ⟨g, 0, none⟩) l.length gcap] W fun e w' => ∃ v', e = .returned (.tuple #[.agg #[v'], .int .i64 (applyE ns ((l.set m b).set m1 a))]) ∧ Nodes (fun b => b < w'.heap.size) w' v' (applyD ns l) ∧ Below W.heap.size W w') := by
            intro W hW
            have hWw := hB7.trans (hW.mono hB7.size)
            have h3 := HD.out.later hWw
            have hq : Ops (fun b => S b ∨ b = g) W n (.slice (some ⟨g, 0, none⟩) l.length gcap) ((l.set m b).set m1 a) := by
              obtain ⟨a', c', h1, h2, h4, h5⟩ := OpsR.carry HPO4.out (w' := W) (fun bb hb => hW.block bb (by rw [hb]; exact hgW)) (fun bb hb => hW.block bb (Nat.lt_of_lt_of_le (HD.out.here bb hb) hB7.size))
              refine ⟨a', c', h1, h2, h4, fun hne => ?_⟩
              obtain ⟨b', o', q1, q2, q3⟩ := h5 hne
              refine ⟨b', o', q1, Or.inr q2, fun i x hx => ?_⟩
              obtain ⟨ca', cc', d0, d1, d2, d3, d4, dT⟩ := q3 i x hx
              exact ⟨ca', cc', d0, d1, d2, d3, d4, Trees.carry (fun bb hb => ⟨Or.inl hb, rfl⟩) n dT⟩
            have htq : TextsO n ((l.set m b).set m1 a) := by
              intro x hx
              rcases List.mem_or_eq_of_mem_set hx with hx | rfl
              · rcases List.mem_or_eq_of_mem_set hx with hx | rfl
                · exact HT.out x hx
                · exact HT.out _ (List.mem_of_getElem? HHB.out)
              · exact HT.out _ (List.mem_of_getElem? HHA.out)
            refine (applyAll_any (fun b => S b ∨ b = g) n _ _ ns _ W (h3.nodes.carry fun bb hb => ⟨Or.inl hb, rfl⟩) (fun bb hb => by
              rcases hb with hb | rfl
              · exact h3.here bb hb
              · exact Nat.lt_of_lt_of_le hgW hW.size) h3.few h3.short hq htq).mono ?_
            rintro e w' ⟨v', rfl, h1, h2⟩
            rw [← hap.1] at h1
            exact ⟨v', rfl, h1.bounded.carry fun b hb => ⟨hb.2, rfl⟩, h2⟩
          have HEE : Hid ((applyE ns l == 0) = (applyE ns ((l.set m b).set m1 a) == 0)) := by
            show _ = _
            by_cases hq : applyE ns l = 0
            · rw [hq, hap.2.1 hq]
            · have hq2 : ¬ applyE ns ((l.set m b).set m1 a) = 0 := fun h => hq (hap.2.2 h)
              rw [beq_eq_false_iff_ne.2 hq, beq_eq_false_iff_ne.2 hq2]
          clear hap hsp1 hsp2 HPO4
          generalize applyE ns ((l.set m b).set m1 a) = F2 at HAQ HEE
          generalize applyE ns l = F1 at HAP HEE
          generalize applyD ns l = D at HAP HAQ
          go_wp2_with fail
          refine (HAP.out W7 hB7).mono ?_
          rintro e w8 ⟨v8, rfl, hN8, hb8⟩
          obtain ⟨a8, c8, rfl, _, _⟩ := hN8.shape
          have hb9 := Below.alloc1 w8 (.cells #[.slice a8 D.length c8] 24)
          have hb79 := hb8.trans (hb9.mono hb8.size)
          have HZ9 : Hid _ := heap_alloc_new w8 (.cells #[.slice a8 D.length c8] 24)
          have HN9 : Hid _ := Nodes.later hN8 hb9
          have HB9 : Hid _ := hb79
          have HP9 : Hid _ := (hb79.block _ (blk_lt HP7.out)).trans HP7.out
          have p9 : (w8.alloc (.cells #[.slice a8 D.length c8] 24)).cell? ⟨w.heap.size, 0, none⟩ = some (.slice na ns.length nc) := by rw [Lib.cell_of_heap HP9.out]; rfl
          clear hN8 hb8 hb9 hb79 HP7 p7
          go_wp2_with fail
          generalize w8.alloc (.cells #[.slice a8 D.length c8] 24) = W9 at *
          refine (HAQ.out W9 HB9.out).mono ?_
          rintro e w10 ⟨v10, rfl, hN10, hb10⟩
          obtain ⟨a10, c10, rfl, _, _⟩ := hN10.shape
          have hb11 := Below.alloc1 w10 (.cells #[.slice a10 D.length c10] 24)
          have hb911 := hb10.trans (hb11.mono hb10.size)
          have HZ11 : Hid _ := heap_alloc_new w10 (.cells #[.slice a10 D.length c10] 24)
          have HY11 : Hid _ := (hb911.block _ (blk_lt HZ9.out)).trans HZ9.out
          have HN11 : Hid _ := Nodes.later HN9.out hb911
          have HM11 : Hid _ := Nodes.later hN10 hb11
          have hB11 := (hB7.trans (HB9.out.mono hB7.size)).trans (hb911.mono (hB7.trans (HB9.out.mono hB7.size)).size)
          have y11 : (w10.alloc (.cells #[.slice a10 D.length c10] 24)).cell? ⟨w8.heap.size, 0, none⟩ = some (.slice a8 D.length c8) := by rw [Lib.cell_of_heap HY11.out]; rfl
          have hEE := HEE.out
          clear hN10 hb10 hb11 hb911 p9 HAQ HAP HEE HZ9 HN9
          cases hq : (F2 == 0) with
          | true =>
            rw [hq] at hEE
            go_wp2_with fail
            generalize w10.alloc (.cells #[.slice a10 D.length c10] 24) = W11 at *
            refine (sameDoc_any _ _ _ _ D _ HN11.out HM11.out).mono ?_
            rintro e w12 ⟨rfl, hb12⟩
            have hB12 := hB11.trans (hb12.mono hB11.size)
            go_wp2_with fail
            refine (chgsK_any _).mono ?_
            rintro e w13 ⟨rfl, hb13⟩
            go_wp2_with fail
            go_ret
            exact ⟨rfl, hB12.trans (hb13.mono hB12.size)⟩
          | false =>
            rw [hq] at hEE
            go_wp2_with fail
            generalize w10.alloc (.cells #[.slice a10 D.length c10] 24) = W11 at *
            refine (sameDoc_any _ _ _ _ D _ HN11.out HM11.out).mono ?_
            rintro e w12 ⟨rfl, hb12⟩
            have hB12 := hB11.trans (hb12.mono hB11.size)
            go_wp2_with fail
            refine (chgsK_any _).mono ?_
            rintro e w13 ⟨rfl, hb13⟩
            go_wp2_with fail
            go_ret
            exact ⟨rfl, hB12.trans (hb13.mono hB12.size)⟩
end Go.Proofs.Ytlchbhlmbphkpaa

