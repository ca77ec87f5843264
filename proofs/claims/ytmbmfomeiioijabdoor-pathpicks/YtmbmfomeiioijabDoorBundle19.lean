/- Bundled: ParseW ParseX PathsK RisesK StepPut PicksK. What each says stands ahead of it. -/
import Derived.Test.YtmbmfomeiioijabDoorBundle11
import Derived.Test.YtmbmfomeiioijabDoorBundle13
import Derived.Test.YtmbmfomeiioijabDoorBundle14
import Derived.Test.YtmbmfomeiioijabDoorBundle15
import Derived.Test.YtmbmfomeiioijabDoorBundle16
import Derived.Test.YtmbmfomeiioijabDoorBundle17
import Derived.Test.YtmbmfomeiioijabDoorBundle18
import Derived.Lib.AppendIntMem
import Derived.Test.YtmbmfomeiioijabDoorBundle12
import Derived.Test.YtmbmfomeiioijabDoorBundle01
/- path.readIndex, path.readStep and path.Parse, for every text. Condition: the variables of strconv and bytealg hold what their texts lay. -/
namespace Go.Proofs.YtmbmfomeiioijabDoor
open Go.ChangeShapes Go.WideShapes Go.ChangeAt Go.RowKit
set_option maxRecDepth 100000

attribute [local go_sem] cell_set

/-- What the variables on the way hold. -/
structure PEnv (w : World) : Prop where
  max : ∃ m, w.cell? ⟨0, 0, none⟩ = some (.int .i64 m)
  syn : ∃ ev, w.cell? ⟨3, 0, none⟩ = some ev ∧ (ev = .nilIface ∨ ∃ te pe, ev = .iface te pe)
  rng : ∃ ev, w.cell? ⟨4, 0, none⟩ = some ev ∧ (ev = .nilIface ∨ ∃ te pe, ev = .iface te pe)
  tab : Lib.TabIs Tryd.prog w "internal/strconv.uint64pow10" .u64 Lib.pow10Tab

theorem tabIs_below {P : Program} {w w' : World} {name : String} {k : IntKind} {zs : List Int} (h : Lib.TabIs P w name k zs) (hb : Below w.heap.size w w') : Lib.TabIs P w' name k zs := by
  unfold Lib.TabIs World.var? at h ⊢
  cases hg : P.globalNamed name with
  | none => simp [hg] at h
  | some g =>
    simp only [hg, Option.bind_some] at h ⊢
    have hlt : g < w.heap.size := by
      rcases Nat.lt_or_ge g w.heap.size with h' | h'
      · exact h'
      · simp [Array.getElem?_eq_none h'] at h
    rw [hb.block g hlt]
    exact h

theorem PEnv.later {w w' : World} (h : PEnv w) (hb : Below w.heap.size w w') : PEnv w' := by
  obtain ⟨⟨m, hm⟩, ⟨e1, h1, k1⟩, ⟨e2, h2, k2⟩, ht⟩ := h
  refine ⟨⟨m, ?_⟩, ⟨e1, ?_, k1⟩, ⟨e2, ?_, k2⟩, tabIs_below ht hb⟩
  · rw [hb.cell (World.block_lt_of_cell? w _ hm)]; exact hm
  · rw [hb.cell (World.block_lt_of_cell? w _ h1)]; exact h1
  · rw [hb.cell (World.block_lt_of_cell? w _ h2)]; exact h2

theorem bytes_back (s : ByteArray) : (⟨s.data.toList.toArray⟩ : ByteArray) = s := by cases s; simp

set_option maxHeartbeats 2000000 in
theorem readIndex_any (s : ByteArray) (w : World) (hE : PEnv w) (hs : s.size ≤ 2500) :
    Calls Tryd.prog 28 #[.string s] w fun e w' => e = .returned (.tuple #[.int .i64 ((indexR s.data.toList).getD 0), .bool (indexR s.data.toList).isSome]) ∧ Below w.heap.size w w' := by
  obtain ⟨hm, ⟨e1, h1, k1⟩, ⟨e2, h2, k2⟩, ht⟩ := hE
  obtain ⟨D, hD⟩ : ∃ D : List UInt8, Lib.trimSuffix s.data.toList [93] = D := ⟨_, rfl⟩
  obtain ⟨C, hC⟩ : ∃ C, Lib.hasSuffix s.data.toList [93] = C := ⟨_, rfl⟩
  have HIR : Hid (indexR s.data.toList = match Lib.atoiAll D with | .ok n => if C = true ∧ n ≠ 0 ∧ Lib.itoa n = D then some n else none | _ => none) := by
    show _ = _
    unfold indexR
    rw [hD, hC]
    cases Lib.atoiAll D <;> rfl
  have hDl : D.length ≤ 2500 := by
    rw [← hD]
    unfold Lib.trimSuffix
    have : s.data.toList.length = s.size := by rw [Array.length_toList]; rfl
    split
    · rw [List.length_take]; omega
    · omega
  have hDs : (⟨D.toArray⟩ : ByteArray).size ≤ 2500 := by show D.toArray.size ≤ 2500; simpa using hDl
  have HCS : Hid _ := Tryd.strings_CutSuffix s ⟨#[93]⟩ w (by omega)
  rw [show (⟨#[93]⟩ : ByteArray).data.toList = [93] from rfl, hD, hC] at HCS
  have hDd : (⟨D.toArray⟩ : ByteArray).data.toList = D := by simp
  have HIT : Hid (∀ n : Int, -9223372036854775808 ≤ n → n ≤ 9223372036854775807 → ∀ W, Below w.heap.size w W → Calls Tryd.prog 42 #[.int .i64 n] W fun e w' => e = .returned (.string ⟨(Lib.itoa n).toArray⟩) ∧ Below w.heap.size w w') := by
    intro n g0 g1 W hW
    refine (Tryd.strconv_Itoa n g0 g1 W (tabIs_below ht hW)).mono ?_
    rintro e w' ⟨rfl, k, os, rfl⟩
    exact ⟨rfl, hW.trans ((Lib.below_grow _ W (Nat.le_refl _) k os).mono hW.size)⟩
  cases hat : Lib.atoiAll D with
  | ok n =>
    obtain ⟨n0, n1⟩ := Lib.atoiAll_bounds hat
    have HA : Hid (Calls Tryd.prog 41 #[.string ⟨D.toArray⟩] w fun e w' => e = .returned (.tuple #[.int .i64 n, .nilIface]) ∧ Below w.heap.size w w') := by
      refine (Tryd.strconv_Atoi_ok ⟨D.toArray⟩ (by omega) n (by rw [hDd]; exact hat) w).mono ?_
      rintro e w' ⟨rfl, hw⟩
      rcases hw with rfl | ⟨t, rfl⟩
      · exact ⟨rfl, Below.refl _ _⟩
      · exact ⟨rfl, Lib.bytesWorld_below _ _ _⟩
    have HI2 : Hid (∀ W, Below w.heap.size w W → Calls Tryd.prog 42 #[.int .i64 n] W fun e w' => e = .returned (.string ⟨(Lib.itoa n).toArray⟩) ∧ Below w.heap.size w w') := HIT.out n n0 n1
    rw [hat] at HIR
    have HIR2 : Hid (indexR s.data.toList = if C = true ∧ n ≠ 0 ∧ Lib.itoa n = D then some n else none) := HIR.out
    clear HIR hat hD hC hm h1 k1 h2 k2 ht hDl hDs hDd HIT hs
    cases C with
    | false =>
      have HE : Hid (indexR s.data.toList = none) := by show _ = _; rw [HIR2.out]; simp
      clear HIR2
      go_enter Tryd.func28, Tryd.ntmps28
      go_wp2_with fail
      refine (Calls.mono HCS.out ?_)
      rintro e w1 ⟨rfl, rfl⟩
      go_wp2_with fail
      refine (Calls.mono HA.out ?_)
      rintro e w2 ⟨rfl, hb2⟩
      go_wp2_with fail
      go_ret2
      exact ⟨by rw [HE.out]; rfl, hb2⟩
    | true =>
      by_cases hn : n = 0
      · have HE : Hid (indexR s.data.toList = none) := by show _ = _; rw [HIR2.out]; simp [hn]
        clear HIR2
        go_enter Tryd.func28, Tryd.ntmps28
        go_wp2_with fail
        refine (Calls.mono HCS.out ?_)
        rintro e w1 ⟨rfl, rfl⟩
        go_wp2_with fail
        refine (Calls.mono HA.out ?_)
        rintro e w2 ⟨rfl, hb2⟩
        go_wp2_with fail
        go_ret2
        exact ⟨by rw [HE.out]; rfl, hb2⟩
      · by_cases hi : Lib.itoa n = D
        · have HE : Hid (indexR s.data.toList = some n) := by show _ = _; rw [HIR2.out]; simp [hn, hi]
          rw [hi] at HI2
          clear HIR2 hi
          go_enter Tryd.func28, Tryd.ntmps28
          go_wp2_with fail
          refine (Calls.mono HCS.out ?_)
          rintro e w1 ⟨rfl, rfl⟩
          go_wp2_with fail
          refine (Calls.mono HA.out ?_)
          rintro e w2 ⟨rfl, hb2⟩
          go_wp2_with fail
          refine (Calls.mono (HI2.out _ hb2) ?_)
          rintro e w3 ⟨rfl, hb3⟩
          go_wp2_with fail
          go_ret2
          exact ⟨by rw [HE.out]; rfl, hb3⟩
        · have HE : Hid (indexR s.data.toList = none) := by show _ = _; rw [HIR2.out]; simp [hi]
          obtain ⟨I, hI⟩ : ∃ I, Lib.itoa n = I := ⟨_, rfl⟩
          rw [hI] at HI2 hi
          have hid : (I == D) = false := by simpa using hi
          clear HIR2 hI
          go_enter Tryd.func28, Tryd.ntmps28
          go_wp2_with fail
          refine (Calls.mono HCS.out ?_)
          rintro e w1 ⟨rfl, rfl⟩
          go_wp2_with fail
          refine (Calls.mono HA.out ?_)
          rintro e w2 ⟨rfl, hb2⟩
          go_wp2_with fail
          refine (Calls.mono (HI2.out _ hb2) ?_)
          rintro e w3 ⟨rfl, hb3⟩
          go_wp2_with fail
          go_ret2
          exact ⟨by rw [HE.out]; rfl, hb3⟩
  | «syntax» =>
    have HA : Hid (Calls Tryd.prog 41 #[.string ⟨D.toArray⟩] w fun e w' => ∃ N, e = .returned (.tuple #[.int .i64 0, .iface 101 (.pointer (some ⟨N, 0, none⟩))]) ∧ Below w.heap.size w w') := by
      refine (Tryd.strconv_Atoi_syntax ⟨D.toArray⟩ (by omega) (by rw [hDd]; exact hat) e1 w h1 k1).mono ?_
      rintro e w' ⟨N, rfl, _, _, hb⟩
      exact ⟨N, rfl, hb⟩
    have HE : Hid (indexR s.data.toList = none) := by show _ = _; rw [HIR.out, hat]
    clear HIR hat hD hC hm h1 k1 h2 k2 ht hDl hDs hDd HIT hs
    cases C <;>
    · go_enter Tryd.func28, Tryd.ntmps28
      go_wp2_with fail
      refine (Calls.mono HCS.out ?_)
      rintro e w1 ⟨rfl, rfl⟩
      go_wp2_with fail
      refine (Calls.mono HA.out ?_)
      rintro e w2 ⟨N, rfl, hb2⟩
      go_wp2_with fail
      go_ret2
      exact ⟨by rw [HE.out]; rfl, hb2⟩
  | range =>
    have HA : Hid (Calls Tryd.prog 41 #[.string ⟨D.toArray⟩] w fun e w' => ∃ N, e = .returned (.tuple #[.int .i64 (Lib.atoiSat D), .iface 101 (.pointer (some ⟨N, 0, none⟩))]) ∧ Below w.heap.size w w') := by
      refine (Tryd.strconv_Atoi_range ⟨D.toArray⟩ (by omega) (by rw [hDd]; exact hat) e2 w h2 k2).mono ?_
      rintro e w' ⟨N, rfl, _, _, hb⟩
      rw [hDd]
      exact ⟨N, rfl, hb⟩
    have HE : Hid (indexR s.data.toList = none) := by show _ = _; rw [HIR.out, hat]
    clear HIR hat hD hC hm h1 k1 h2 k2 ht hDl hDs hDd HIT hs
    cases C <;>
    · go_enter Tryd.func28, Tryd.ntmps28
      go_wp2_with fail
      refine (Calls.mono HCS.out ?_)
      rintro e w1 ⟨rfl, rfl⟩
      go_wp2_with fail
      refine (Calls.mono HA.out ?_)
      rintro e w2 ⟨N, rfl, hb2⟩
      go_wp2_with fail
      go_ret2
      exact ⟨by rw [HE.out]; rfl, hb2⟩

theorem cut_len {p : List UInt8} {A B : List UInt8} {F : Bool} (h : Lib.cut p [91] = (A, B, F)) : A.length ≤ p.length ∧ B.length ≤ p.length := by
  rcases cut_cases 91 p with ⟨_, hc⟩ | ⟨a, b, rfl, _, hc⟩
  · rw [h] at hc
    simp only [Prod.mk.injEq] at hc
    rw [hc.1, hc.2.1]
    simp
  · rw [h] at hc
    simp only [Prod.mk.injEq] at hc
    rw [hc.1, hc.2.1]
    simp
    omega

theorem drewN_below (w : World) (n : Nat) : Below w.heap.size w (w.drewN n) := by
  induction n with
  | zero => exact Below.refl _ _
  | succ n ih => exact ih.drew

set_option maxHeartbeats 2000000 in
theorem readStep_any (s : ByteArray) (w : World) (hE : PEnv w) (hs : s.size ≤ 2500) :
    Calls Tryd.prog 17 #[.string s] w fun e w' => ∃ nm n, e = .returned (.tuple #[.agg #[.string nm, .int .i64 n], .bool (stepR s.data.toList).isSome]) ∧ (∀ st, stepR s.data.toList = some st → nm = ⟨st.1.toArray⟩ ∧ n = st.2) ∧ Below w.heap.size w w' := by
  have hb1 := Below.alloc1 w (.cells #[.string ⟨#[]⟩, .int .i64 0] 41)
  have hx1 := heap_alloc_new w (.cells #[.string ⟨#[]⟩, .int .i64 0] 41)
  obtain ⟨m, hm⟩ := (hE.later hb1).max
  obtain ⟨A, B, F, hcut⟩ : ∃ A B F, Lib.cut s.data.toList [91] = (A, B, F) := ⟨_, _, _, rfl⟩
  have hlen : s.data.toList.length = s.size := by rw [Array.length_toList]; rfl
  have hAB := cut_len hcut
  have HC : Hid _ := Tryd.strings_Cut s ⟨#[91]⟩ m _ (by omega) hm
  rw [show (⟨#[91]⟩ : ByteArray).data.toList = [91] from rfl, hcut] at HC
  have HS : Hid (stepR s.data.toList = if A = [] then none else if F = false then some (if A = [35] then [] else A, 0) else (indexR B).map fun n => (if A = [35] then [] else A, n)) := by
    show _ = _
    unfold stepR
    rw [hcut]
  have hBs : (⟨B.toArray⟩ : ByteArray).size ≤ 2500 := by show B.toArray.size ≤ 2500; simp; omega
  have hBd : (⟨B.toArray⟩ : ByteArray).data.toList = B := by simp
  have HRI : Hid (∀ W, Below w.heap.size w W → Calls Tryd.prog 28 #[.string ⟨B.toArray⟩] W fun e w' => e = .returned (.tuple #[.int .i64 ((indexR B).getD 0), .bool (indexR B).isSome]) ∧ Below W.heap.size W w') := by
    intro W hW
    have := readIndex_any ⟨B.toArray⟩ W (hE.later hW) hBs
    rw [hBd] at this
    exact this
  have hAl : ∀ c : List UInt8, (⟨A.toArray⟩ : ByteArray).toList = c ↔ A = c := by
    intro c; rw [ByteArray.toList_eq]
  clear hE hm hs hlen hAB hBs hBd hcut
  by_cases hA : A = []
  · have HE : Hid (stepR s.data.toList = none) := by show _ = _; rw [HS.out, if_pos hA]
    clear HS HRI hAl
    subst hA
    go_enter Tryd.func17, Tryd.ntmps17
    go_wp2_with fail
    refine (Calls.mono HC.out ?_)
    rintro e w2 ⟨rfl, k, rfl⟩
    have hb2 := drewN_below (w.alloc (.cells #[.string ⟨#[]⟩, .int .i64 0] 41)) k
    generalize (w.alloc (.cells #[.string ⟨#[]⟩, .int .i64 0] 41)).drewN k = w2 at *
    have hx2 := (hb2.block _ (blk_lt hx1)).trans hx1
    have hB2 : Below w.heap.size w w2 := hb1.trans (hb2.mono hb1.size)
    have p0 : w2.cell? ⟨w.heap.size, 0, none⟩ = some (.string ⟨#[]⟩) := by rw [Lib.cell_of_heap hx2]; rfl
    have p1 : w2.cell? ⟨w.heap.size, 1, none⟩ = some (.int .i64 0) := by rw [Lib.cell_of_heap hx2]; rfl
    have f0 : w2.frozen? ⟨w.heap.size, 0, none⟩ = false := Lib.frozen_of_heap hx2 0
    have f1 : w2.frozen? ⟨w.heap.size, 1, none⟩ = false := Lib.frozen_of_heap hx2 1
    clear hb1 hx1 hb2 HC
    clear hx2
    go_wp2_with fail
    refine bodyPost_ret (v := .tuple #[.agg #[.string ⟨#[]⟩, .int .i64 0], .bool false]) (by simp [results, Tryd.results17, go_sem, cell_set, p0, p1, World.cell?_setCell_other]) rfl ?_
    refine ⟨⟨#[]⟩, 0, by rw [HE.out]; rfl, (by intro st h; rw [HE.out] at h; cases h), ?_⟩
    exact (hB2.setCell (p := ⟨w.heap.size, 0, none⟩) (Nat.le_refl _) _).setCell (p := ⟨w.heap.size, 1, none⟩) (Nat.le_refl _) _
  · obtain ⟨nm, hnm⟩ : ∃ nm, (if A = [35] then [] else A) = nm := ⟨_, rfl⟩
    cases F with
    | false =>
      have HE : Hid (stepR s.data.toList = some (nm, 0)) := by show _ = _; rw [HS.out, if_neg hA, if_pos rfl, hnm]
      clear HS HRI
      by_cases h35 : A = [35]
      · have hN : nm = [] := by rw [← hnm, if_pos h35]
        clear hnm hA hAl
        subst h35 hN
        go_enter Tryd.func17, Tryd.ntmps17
        go_wp2_with fail
        refine (Calls.mono HC.out ?_)
        rintro e w2 ⟨rfl, k, rfl⟩
        have hb2 := drewN_below (w.alloc (.cells #[.string ⟨#[]⟩, .int .i64 0] 41)) k
        generalize (w.alloc (.cells #[.string ⟨#[]⟩, .int .i64 0] 41)).drewN k = w2 at *
        have hx2 := (hb2.block _ (blk_lt hx1)).trans hx1
        have hB2 : Below w.heap.size w w2 := hb1.trans (hb2.mono hb1.size)
        have p0 : w2.cell? ⟨w.heap.size, 0, none⟩ = some (.string ⟨#[]⟩) := by rw [Lib.cell_of_heap hx2]; rfl
        have p1 : w2.cell? ⟨w.heap.size, 1, none⟩ = some (.int .i64 0) := by rw [Lib.cell_of_heap hx2]; rfl
        have f0 : w2.frozen? ⟨w.heap.size, 0, none⟩ = false := Lib.frozen_of_heap hx2 0
        have f1 : w2.frozen? ⟨w.heap.size, 1, none⟩ = false := Lib.frozen_of_heap hx2 1
        clear hb1 hx1 hb2 HC
        clear hx2
        go_wp2_with fail
        refine bodyPost_ret (v := .tuple #[.agg #[.string ⟨#[]⟩, .int .i64 0], .bool true]) (by simp [results, Tryd.results17, go_sem, cell_set, p0, p1, World.cell?_setCell_other]) rfl ?_
        refine ⟨⟨#[]⟩, 0, by rw [HE.out]; rfl, (by intro st h; rw [HE.out] at h; cases h; exact ⟨rfl, rfl⟩), ?_⟩
        exact (hB2.setCell (p := ⟨w.heap.size, 0, none⟩) (Nat.le_refl _) _).setCell (p := ⟨w.heap.size, 1, none⟩) (Nat.le_refl _) _
      · have h351 : (A == [35]) = false := by simpa using h35
        have hAe : A.isEmpty = false := by simpa using hA
        have hN : nm = A := by rw [← hnm, if_neg h35]
        clear hnm hAl
        subst hN
        go_enter Tryd.func17, Tryd.ntmps17
        go_wp2_with fail
        refine (Calls.mono HC.out ?_)
        rintro e w2 ⟨rfl, k, rfl⟩
        have hb2 := drewN_below (w.alloc (.cells #[.string ⟨#[]⟩, .int .i64 0] 41)) k
        generalize (w.alloc (.cells #[.string ⟨#[]⟩, .int .i64 0] 41)).drewN k = w2 at *
        have hx2 := (hb2.block _ (blk_lt hx1)).trans hx1
        have hB2 : Below w.heap.size w w2 := hb1.trans (hb2.mono hb1.size)
        have p0 : w2.cell? ⟨w.heap.size, 0, none⟩ = some (.string ⟨#[]⟩) := by rw [Lib.cell_of_heap hx2]; rfl
        have p1 : w2.cell? ⟨w.heap.size, 1, none⟩ = some (.int .i64 0) := by rw [Lib.cell_of_heap hx2]; rfl
        have f0 : w2.frozen? ⟨w.heap.size, 0, none⟩ = false := Lib.frozen_of_heap hx2 0
        have f1 : w2.frozen? ⟨w.heap.size, 1, none⟩ = false := Lib.frozen_of_heap hx2 1
        clear hb1 hx1 hb2 HC
        clear hx2
        go_wp2_with fail
        refine bodyPost_ret (v := .tuple #[.agg #[.string ⟨nm.toArray⟩, .int .i64 0], .bool true]) (by simp [results, Tryd.results17, go_sem, cell_set, p0, p1, World.cell?_setCell_other]) rfl ?_
        refine ⟨⟨nm.toArray⟩, 0, by rw [HE.out]; rfl, (by intro st h; rw [HE.out] at h; cases h; exact ⟨rfl, rfl⟩), ?_⟩
        exact (hB2.setCell (p := ⟨w.heap.size, 0, none⟩) (Nat.le_refl _) _).setCell (p := ⟨w.heap.size, 1, none⟩) (Nat.le_refl _) _
    | true =>
      have HE : Hid (stepR s.data.toList = (indexR B).map fun n => (nm, n)) := by show _ = _; rw [HS.out, if_neg hA, if_neg (by simp), hnm]
      obtain ⟨q, hq⟩ : ∃ q, indexR B = q := ⟨_, rfl⟩
      rw [hq] at HE HRI
      have HE2 : Hid ((stepR s.data.toList).isSome = q.isSome ∧ ∀ st, stepR s.data.toList = some st → nm = st.1 ∧ q.getD 0 = st.2) := by
        refine ⟨by rw [HE.out]; cases q <;> rfl, fun st h => ?_⟩
        rw [HE.out] at h
        cases q with
        | none => cases h
        | some n => cases h; exact ⟨rfl, rfl⟩
      obtain ⟨n, hn⟩ : ∃ n, q.getD 0 = n := ⟨_, rfl⟩
      obtain ⟨t, ht⟩ : ∃ t, q.isSome = t := ⟨_, rfl⟩
      rw [hn, ht] at HRI HE2
      clear HS HE hq hn ht
      by_cases h35 : A = [35]
      · have hN : nm = [] := by rw [← hnm, if_pos h35]
        clear hnm hA hAl
        subst h35 hN
        go_enter Tryd.func17, Tryd.ntmps17
        go_wp2_with fail
        refine (Calls.mono HC.out ?_)
        rintro e w2 ⟨rfl, k, rfl⟩
        have hb2 := drewN_below (w.alloc (.cells #[.string ⟨#[]⟩, .int .i64 0] 41)) k
        generalize (w.alloc (.cells #[.string ⟨#[]⟩, .int .i64 0] 41)).drewN k = w2 at *
        have hx2 := (hb2.block _ (blk_lt hx1)).trans hx1
        have hB2 : Below w.heap.size w w2 := hb1.trans (hb2.mono hb1.size)
        have p0 : w2.cell? ⟨w.heap.size, 0, none⟩ = some (.string ⟨#[]⟩) := by rw [Lib.cell_of_heap hx2]; rfl
        have p1 : w2.cell? ⟨w.heap.size, 1, none⟩ = some (.int .i64 0) := by rw [Lib.cell_of_heap hx2]; rfl
        have f0 : w2.frozen? ⟨w.heap.size, 0, none⟩ = false := Lib.frozen_of_heap hx2 0
        have f1 : w2.frozen? ⟨w.heap.size, 1, none⟩ = false := Lib.frozen_of_heap hx2 1
        clear hb1 hx1 hb2 HC
        go_wp2_with fail
        refine (Calls.mono (HRI.out _ hB2) ?_)
        rintro e w3 ⟨rfl, hb3⟩
        have hx3 := (hb3.block _ (blk_lt hx2)).trans hx2
        have hB3 : Below w.heap.size w w3 := hB2.trans (hb3.mono hB2.size)
        clear p0 p1 f0 f1
        have p0 : w3.cell? ⟨w.heap.size, 0, none⟩ = some (.string ⟨#[]⟩) := by rw [Lib.cell_of_heap hx3]; rfl
        have p1 : w3.cell? ⟨w.heap.size, 1, none⟩ = some (.int .i64 0) := by rw [Lib.cell_of_heap hx3]; rfl
        have f0 : w3.frozen? ⟨w.heap.size, 0, none⟩ = false := Lib.frozen_of_heap hx3 0
        have f1 : w3.frozen? ⟨w.heap.size, 1, none⟩ = false := Lib.frozen_of_heap hx3 1
        clear hx2 hx3 HRI
        go_wp2_with fail
        refine bodyPost_ret (v := .tuple #[.agg #[.string ⟨#[]⟩, .int .i64 n], .bool t]) (by simp [results, Tryd.results17, go_sem, cell_set, p0, p1, World.cell?_setCell_other]) rfl ?_
        refine ⟨⟨#[]⟩, n, by rw [HE2.out.1], (by intro st h; obtain ⟨g1, g2⟩ := HE2.out.2 st h; exact ⟨by rw [← g1], g2⟩), ?_⟩
        exact (hB3.setCell (p := ⟨w.heap.size, 0, none⟩) (Nat.le_refl _) _).setCell (p := ⟨w.heap.size, 1, none⟩) (Nat.le_refl _) _
      · have h351 : (A == [35]) = false := by simpa using h35
        have hAe : A.isEmpty = false := by simpa using hA
        have hN : nm = A := by rw [← hnm, if_neg h35]
        clear hnm hAl
        subst hN
        go_enter Tryd.func17, Tryd.ntmps17
        go_wp2_with fail
        refine (Calls.mono HC.out ?_)
        rintro e w2 ⟨rfl, k, rfl⟩
        have hb2 := drewN_below (w.alloc (.cells #[.string ⟨#[]⟩, .int .i64 0] 41)) k
        generalize (w.alloc (.cells #[.string ⟨#[]⟩, .int .i64 0] 41)).drewN k = w2 at *
        have hx2 := (hb2.block _ (blk_lt hx1)).trans hx1
        have hB2 : Below w.heap.size w w2 := hb1.trans (hb2.mono hb1.size)
        have p0 : w2.cell? ⟨w.heap.size, 0, none⟩ = some (.string ⟨#[]⟩) := by rw [Lib.cell_of_heap hx2]; rfl
        have p1 : w2.cell? ⟨w.heap.size, 1, none⟩ = some (.int .i64 0) := by rw [Lib.cell_of_heap hx2]; rfl
        have f0 : w2.frozen? ⟨w.heap.size, 0, none⟩ = false := Lib.frozen_of_heap hx2 0
        have f1 : w2.frozen? ⟨w.heap.size, 1, none⟩ = false := Lib.frozen_of_heap hx2 1
        clear hb1 hx1 hb2 HC
        go_wp2_with fail
        refine (Calls.mono (HRI.out _ hB2) ?_)
        rintro e w3 ⟨rfl, hb3⟩
        have hx3 := (hb3.block _ (blk_lt hx2)).trans hx2
        have hB3 : Below w.heap.size w w3 := hB2.trans (hb3.mono hB2.size)
        clear p0 p1 f0 f1
        have p0 : w3.cell? ⟨w.heap.size, 0, none⟩ = some (.string ⟨#[]⟩) := by rw [Lib.cell_of_heap hx3]; rfl
        have p1 : w3.cell? ⟨w.heap.size, 1, none⟩ = some (.int .i64 0) := by rw [Lib.cell_of_heap hx3]; rfl
        have f0 : w3.frozen? ⟨w.heap.size, 0, none⟩ = false := Lib.frozen_of_heap hx3 0
        have f1 : w3.frozen? ⟨w.heap.size, 1, none⟩ = false := Lib.frozen_of_heap hx3 1
        clear hx2 hx3 HRI
        go_wp2_with fail
        refine bodyPost_ret (v := .tuple #[.agg #[.string ⟨nm.toArray⟩, .int .i64 n], .bool t]) (by simp [results, Tryd.results17, go_sem, cell_set, p0, p1, World.cell?_setCell_other]) rfl ?_
        refine ⟨⟨nm.toArray⟩, n, by rw [HE2.out.1], (by intro st h; obtain ⟨g1, g2⟩ := HE2.out.2 st h; exact ⟨by rw [← g1], g2⟩), ?_⟩
        exact (hB3.setCell (p := ⟨w.heap.size, 0, none⟩) (Nat.le_refl _) _).setCell (p := ⟨w.heap.size, 1, none⟩) (Nat.le_refl _) _
end Go.Proofs.YtmbmfomeiioijabDoor

/- path.Parse, for every text. Condition: the variables of strconv and bytealg hold what their texts lay. -/
namespace Go.Proofs.YtmbmfomeiioijabDoor
open Go.ChangeShapes Go.WideShapes Go.ChangeAt Go.RowKit
set_option maxRecDepth 100000

attribute [local go_sem] cell_set

def asS (l : List PStep) : List St := l.map fun p => ⟨⟨p.1.toArray⟩, p.2⟩

theorem asS_length (l : List PStep) : (asS l).length = l.length := List.length_map _

theorem nameB_L (l : List UInt8) : nameB ⟨l.toArray⟩ = nameL l := by
  unfold nameB nameL
  have : (⟨l.toArray⟩ : ByteArray).size = l.length := by show l.toArray.size = _; simp
  rw [this]

theorem bytes_inj (a b : List UInt8) : (⟨a.toArray⟩ : ByteArray) = ⟨b.toArray⟩ ↔ a = b := by
  constructor
  · intro h
    have := congrArg (fun x : ByteArray => x.data.toList) h
    simpa using this
  · intro h; rw [h]

theorem stepB_L (p : PStep) : stepB ⟨⟨p.1.toArray⟩, p.2⟩ = stepL p := by
  unfold stepB stepL
  simp only
  rw [nameB_L]
  have e1 : decide ((⟨p.1.toArray⟩ : ByteArray) = ⟨#[]⟩) = decide (p.1 = []) := by
    rw [decide_eq_decide]; exact bytes_inj p.1 []
  have e2 : decide ((⟨p.1.toArray⟩ : ByteArray) = ⟨#[42]⟩) = decide (p.1 = [42]) := by
    rw [decide_eq_decide]; exact bytes_inj p.1 [42]
  rw [e1, e2]

theorem pathB_L (l : List PStep) : pathB (asS l) = pathL l := by
  unfold pathB pathL
  rw [asS_length]
  congr 1
  unfold asS
  rw [List.all_map]
  congr 1
  funext p
  exact stepB_L p

def stepCells : List St → List Value
  | [] => []
  | s :: l => .string s.name :: .int .i64 s.n :: stepCells l

theorem stepCells_length (l : List St) : (stepCells l).length = l.length * 2 := by
  induction l with
  | nil => rfl
  | cons s l ih => simp [stepCells, ih]; omega
theorem stepCells_append (l m : List St) : stepCells (l ++ m) = stepCells l ++ stepCells m := by
  induction l with
  | nil => rfl
  | cons s l ih => simp [stepCells, ih]
theorem stepCells_get (l : List St) : ∀ i s, l[i]? = some s → (stepCells l)[i * 2]? = some (.string s.name) ∧ (stepCells l)[i * 2 + 1]? = some (.int .i64 s.n) := by
  induction l with
  | nil => intro i s h; simp at h
  | cons y l ih =>
    intro i s h
    cases i with
    | zero => simp at h; subst h; simp [stepCells]
    | succ i =>
      have := ih i s (by simpa using h)
      rw [show (i + 1) * 2 = i * 2 + 2 by omega]
      simpa [stepCells] using this

/-- A row of the call's own that holds these steps. -/
def SRow (B : Nat) (w : World) (v : Value) (l : List St) : Prop := w.ownsRow B 41 2 v l.length (stepCells l)

theorem SRow.shape {B : Nat} {w : World} {v : Value} {l : List St} (h : SRow B w v l) : ∃ a c, v = .slice a l.length c ∧ l.length ≤ c ∧ c ≤ maxLen := by
  rcases h.2 with ⟨rfl, h0⟩ | ⟨g, cap, cur, rfl, hg, hh, hc, hm, hs, ht⟩
  · exact ⟨none, 0, by rw [h0], by omega, Nat.zero_le _⟩
  · exact ⟨_, cap, rfl, hc, hm⟩

theorem SRow.steps {B : Nat} {w : World} {v : Value} {l : List St} (h : SRow B w v l) : Steps (fun b => B ≤ b) w v l := by
  rcases h.2 with ⟨rfl, h0⟩ | ⟨g, cap, cur, rfl, hg, hh, hc, hm, hs, ht⟩
  · have : l = [] := List.eq_nil_of_length_eq_zero h0
    subst this
    exact ⟨none, 0, rfl, Nat.le_refl _, Nat.zero_le _, fun h => absurd rfl h⟩
  · refine ⟨_, cap, rfl, hc, hm, fun _ => ⟨g, 0, rfl, hg, fun i x hx => ?_⟩⟩
    have hi := lt_of_some hx
    obtain ⟨g0, g1⟩ := stepCells_get l i x hx
    rw [Nat.zero_add]
    exact ⟨by rw [World.ownsRow.cellAt h (i * 2) (by omega)]; exact g0, by rw [World.ownsRow.cellAt h (i * 2 + 1) (by omega)]; exact g1⟩

theorem SRow.lt {B : Nat} {w : World} {v : Value} {l : List St} (h : SRow B w v l) : ∀ k, v.ownBlock = some k → B ≤ k ∧ k < w.heap.size := fun k hk => World.ownsRow.lt h k hk
theorem SRow.later {B : Nat} {w w' : World} {v : Value} {l : List St} (h : SRow B w v l) (hb : Below w.heap.size w w') : SRow B w' v l := ownsRow_later h hb

theorem stepInfo : (Tryd.prog.info? 41).map (fun i => (i.zero, i.size, i.bytes)) = some (some (.agg #[.string ⟨#[]⟩, .int .i64 0]), 2, 24) := by kernel_rfl

theorem new_two (w : World) (a b : Value) (e : TypeId) : ∀ (j : Nat) (u : Value), ([a, b] : List Value)[j]? = some u → (w.alloc (.cells #[a, b] e)).cell? ((⟨w.heap.size, 0, none⟩ : Addr).add j) = some u := by
  intro j u hj
  match j, hj with
  | 0, hj | 1, hj => simp at hj; subst hj; simp [Addr.add]

theorem stepR_len {p : List UInt8} {st : PStep} (h : stepR p = some st) : st.1.length ≤ p.length := by
  unfold stepR at h
  obtain ⟨A, B, F, hcut⟩ : ∃ A B F, Lib.cut p [91] = (A, B, F) := ⟨_, _, _, rfl⟩
  have := (cut_len hcut).1
  rw [hcut] at h
  simp only at h
  have key : ∀ n, ((if A = [35] then ([] : List UInt8) else A, (n : Int)) : PStep).1.length ≤ p.length := by
    intro n
    simp only
    split
    · simp
    · exact this
  split at h
  · cases h
  · split at h
    · cases h; exact key 0
    · cases hi : indexR B with
      | none => rw [hi] at h; cases h
      | some n => rw [hi] at h; cases h; exact key n

theorem stepsR_none {ps : List (List UInt8)} {k : Nat} {p : List UInt8} (hk : ps[k]? = some p) (h : stepR p = none) : stepsR (ps.drop k) = none := by
  have hl := lt_of_some hk
  have e : ps.drop k = p :: ps.drop (k + 1) := by
    rw [List.drop_eq_getElem_cons hl]; congr 1; simpa [hl] using hk
  rw [e, stepsR, h]
theorem stepsR_some {ps : List (List UInt8)} {k : Nat} {p : List UInt8} {s : PStep} (hk : ps[k]? = some p) (h : stepR p = some s) : stepsR (ps.drop k) = (stepsR (ps.drop (k + 1))).map (fun l => s :: l) := by
  have hl := lt_of_some hk
  have e : ps.drop k = p :: ps.drop (k + 1) := by
    rw [List.drop_eq_getElem_cons hl]; congr 1; simpa [hl] using hk
  rw [e, stepsR, h]
  cases stepsR (ps.drop (k + 1)) <;> rfl

theorem size_len (s : ByteArray) : s.data.toList.length = s.size := by rw [Array.length_toList]; rfl

def parseE (s : ByteArray) : Int := if (parseL s.data.toList).isSome then 0 else 1
def parseV (s : ByteArray) : List St := asS ((parseL s.data.toList).getD [])

theorem le_sum_mem : ∀ {l : List Nat} {x : Nat}, x ∈ l → x ≤ l.sum := by
  intro l
  induction l with
  | nil => intro x h; simp at h
  | cons y l ih =>
    intro x h
    rw [List.mem_cons] at h
    rw [List.sum_cons]
    rcases h with rfl | h
    · omega
    · have := ih h; omega

theorem piece_len {R p : List UInt8} (h : p ∈ Lib.split R [47]) : p.length ≤ R.length := by
  have := (split_join 47 _ R (Nat.le_refl _)).1
  have h2 := congrArg List.length this
  rw [List.length_flatten, List.map_map] at h2
  have h3 : (47 :: p).length ∈ (Lib.split R [47]).map (List.length ∘ fun p => 47 :: p) := List.mem_map.2 ⟨p, h, rfl⟩
  have h4 := le_sum_mem h3
  rw [h2] at h4
  simp at h4
  exact h4

set_option maxHeartbeats 2000000 in
theorem parseP_any (s : ByteArray) (w : World) (hE : PEnv w) (hs : s.size ≤ maxLen) :
    Calls Tryd.prog 7 #[.string s] w fun e w' => ∃ v, e = .returned (.tuple #[v, .int .i64 (parseE s)]) ∧ Steps (fun b => w.heap.size ≤ b) w' v (parseV s) ∧ Below w.heap.size w w' := by
  unfold maxLen at hs
  have HPL : Hid (parseL s.data.toList = if s.data.toList.length ≤ 2500 ∧ Lib.hasPrefix s.data.toList [47] = true then (match stepsR (Lib.split (Lib.trimPrefix s.data.toList [47]) [47]) with | none => none | some l => if pathL l = true then some l else none) else none) := by
    show _ = _
    unfold parseL
    split <;> rename_i h
    · cases stepsR (Lib.split (Lib.trimPrefix s.data.toList [47]) [47]) <;> rfl
    · rfl
  have HNO : Hid (parseL s.data.toList = none → parseE s = 1 ∧ parseV s = []) := by
    intro h
    unfold parseE parseV
    rw [h]
    exact ⟨rfl, rfl⟩
  have hlen := size_len s
  by_cases h25 : 2500 < s.size
  · have HE2 : Hid (parseE s = 1 ∧ parseV s = []) := HNO.out (by rw [HPL.out, if_neg (by rw [hlen]; omega)])
    have h25i : (2500 : Int) < (s.size : Int) := by omega
    clear HPL HNO
    go_enter Tryd.func7, Tryd.ntmps7
    go_wp2_with fail
    go_ret2
    exact ⟨_, by rw [HE2.out.1]; rfl, by rw [HE2.out.2]; exact ⟨none, 0, rfl, Nat.le_refl _, Nat.zero_le _, fun h => absurd rfl h⟩, Below.refl _ _⟩
  · have h25i : ¬ (2500 : Int) < (s.size : Int) := by omega
    obtain ⟨R, hR⟩ : ∃ R, Lib.trimPrefix s.data.toList [47] = R := ⟨_, rfl⟩
    obtain ⟨C, hC⟩ : ∃ C, Lib.hasPrefix s.data.toList [47] = C := ⟨_, rfl⟩
    have HCP : Hid _ := Tryd.strings_CutPrefix s ⟨#[47]⟩ w
    rw [show (⟨#[47]⟩ : ByteArray).data.toList = [47] from rfl, hR, hC] at HCP
    rw [hR, hC, hlen] at HPL
    have hRl : R.length ≤ 2500 := by
      rw [← hR]
      unfold Lib.trimPrefix
      split
      · rw [List.length_drop]; omega
      · omega
    clear hR hC
    cases C with
    | false =>
      have HE2 : Hid (parseE s = 1 ∧ parseV s = []) := HNO.out (by rw [HPL.out, if_neg (by simp)])
      clear HPL HNO
      go_enter Tryd.func7, Tryd.ntmps7
      go_wp2_with fail
      refine (Calls.mono HCP.out ?_)
      rintro e w1 ⟨rfl, rfl⟩
      go_wp2_with fail
      go_ret2
      exact ⟨_, by rw [HE2.out.1]; rfl, by rw [HE2.out.2]; exact ⟨none, 0, rfl, Nat.le_refl _, Nat.zero_le _, fun h => absurd rfl h⟩, Below.refl _ _⟩
    | true =>
      have HP2 : Hid (parseL s.data.toList = match stepsR (Lib.split R [47]) with | none => none | some l => if pathL l = true then some l else none) := by show _ = _; rw [HPL.out, if_pos ⟨by omega, rfl⟩]
      obtain ⟨m, hm⟩ := hE.max
      have hRs : (⟨R.toArray⟩ : ByteArray).size = R.length := by show R.toArray.size = _; simp
      have HSP : Hid _ := Tryd.strings_Split ⟨R.toArray⟩ ⟨#[47]⟩ m w (by omega) hm (by decide)
      obtain ⟨P, hP⟩ : ∃ P, Lib.splitB ⟨#[47]⟩ 0 (Lib.countB ⟨R.toArray⟩ ⟨#[47]⟩) ⟨R.toArray⟩ = P := ⟨_, rfl⟩
      have hPl : P.length = Lib.countB ⟨R.toArray⟩ ⟨#[47]⟩ + 1 := by rw [← hP]; exact Lib.splitB_all ⟨#[47]⟩ (by decide) 0 _ _ rfl
      have hPd : P.map (·.data.toList) = Lib.split R [47] := by
        rw [← hP, Lib.splitB_data]
        unfold Lib.split
        have e1 : (⟨R.toArray⟩ : ByteArray).data.toList = R := by simp
        have e2 : (⟨#[47]⟩ : ByteArray).data.toList = [47] := rfl
        rw [e1, e2]
      have hcl := Lib.countB_le ⟨#[47]⟩ (by decide) _ ⟨R.toArray⟩ (Nat.le_refl _)
      rw [hP, ← hPl] at HSP
      have HEE : Hid (PEnv w) := hE
      have HPD : Hid (P.map (·.data.toList) = Lib.split R [47]) := hPd
      have HPS : Hid (∀ p ∈ P, p.size ≤ 2500) := by
        intro p hp
        have h1 : p.data.toList ∈ Lib.split R [47] := by rw [← hPd]; exact List.mem_map.2 ⟨p, hp, rfl⟩
        have := piece_len h1
        rw [size_len] at this
        omega
      have hPn : P.length ≤ 2501 := by omega
      obtain ⟨i0, hi, hz0, hzz1, hz2⟩ := info_parts stepInfo
      have hb2 := Below.alloc1 w (.cells (P.map Value.string).toArray 9)
      have hx2 := heap_alloc_new w (.cells (P.map Value.string).toArray 9)
      have hz2w : (w.alloc (.cells (P.map Value.string).toArray 9)).heap.size = w.heap.size + 1 := by simp
      clear hE hm hP hPl hPd hcl HPL hRs
      go_enter Tryd.func7, Tryd.ntmps7
      go_wp2_with fail
      refine (Calls.mono HCP.out ?_)
      rintro e w1 ⟨rfl, rfl⟩
      go_wp2_with fail
      refine (Calls.mono HSP.out ?_)
      rintro e w2 ⟨rfl, rfl⟩
      go_wp2_with fail
      generalize w1.alloc (.cells (P.map Value.string).toArray 9) = W2 at *
      have HZ2 : Hid (W2.heap.size = w1.heap.size + 1) := hz2w
      have hle2 : w1.heap.size ≤ W2.heap.size := by omega
      clear hz2w HCP HSP
      go_loopg [24, 6] P.length (fun g j o wr => ∃ (k : Nat) (acc : List PStep), k + g = P.length ∧ j = .int .i64 (k : Int) ∧ acc.length = k ∧ SRow W2.heap.size wr o (asS acc) ∧ Below W2.heap.size W2 wr ∧ stepsR (Lib.split R [47]) = (stepsR ((Lib.split R [47]).drop k)).map (fun l => acc ++ l) ∧ ∀ x ∈ acc, x.1.length ≤ 2500)
      case atStart => exact ⟨0, [], by omega, rfl, rfl, World.ownsRow_nil _ _ _ _, Below.refl _ _, by rw [List.drop_zero]; cases stepsR (Lib.split R [47]) <;> rfl, by simp⟩
      case round =>
        obtain ⟨k, acc, hk, rfl, hal, hSR, hB, hGot, hshort⟩ := hrel
        have hBw : Below w1.heap.size w1 wr := hb2.trans (hB.mono hle2)
        have hxr := (hB.block _ (blk_lt hx2)).trans hx2
        have hszr := hB.size
        obtain ⟨ra, rc, rfl, hrl, hrm⟩ := hSR.shape
        rw [asS_length, hal] at hSR hrl ⊢
        have HSR : Hid (SRow W2.heap.size wr (.slice ra k rc) (asS acc)) := hSR
        have HGot : Hid _ := hGot
        have HSH : Hid (∀ x ∈ acc, x.1.length ≤ 2500) := hshort
        have HAL : Hid (acc.length = k) := hal
        clear hSR hGot hshort hal
        by_cases hkl : k < P.length
        · obtain ⟨p, hp⟩ : ∃ p, P[k]? = some p := ⟨P[k], by simp [hkl]⟩
          have hpL : (Lib.split R [47])[k]? = some p.data.toList := by rw [← HPD.out, List.getElem?_map, hp]; rfl
          have hps := HPS.out p (List.mem_of_getElem? hp)
          have e1 : wr.cell? ⟨w1.heap.size, k, none⟩ = some (.string p) := by
            rw [Lib.cell_of_heap hxr]
            simp [hp]
          have HRS : Hid _ := readStep_any p wr (HEE.out.later hBw) hps
          have hkli : (k : Int) < (P.length : Int) := by omega
          cases hst : stepR p.data.toList with
          | none =>
            rw [hst] at HRS
            have HE2 : Hid (parseE s = 1 ∧ parseV s = []) := HNO.out (by rw [HP2.out, HGot.out, stepsR_none hpL hst]; rfl)
            clear hst hpL hp hxr
            go_wp2_with fail
            refine (Calls.mono HRS.out ?_)
            rintro e w3 ⟨nm, n, rfl, _, hb3⟩
            go_wp2_with fail
            go_ret2
            refine ⟨_, by rw [HE2.out.1]; rfl, by rw [HE2.out.2]; exact ⟨none, 0, rfl, Nat.le_refl _, Nat.zero_le _, fun h => absurd rfl h⟩, ?_⟩
            exact (hBw.trans (hb3.mono hBw.size)).alloc (Nat.le_trans hBw.size hb3.size) _
          | some st =>
            have hsn := stepR_len hst
            rw [size_len] at hsn
            have HG2 : Hid (stepsR (Lib.split R [47]) = (stepsR ((Lib.split R [47]).drop (k + 1))).map (fun l => (acc ++ [st]) ++ l)) := by
              show _ = _
              rw [HGot.out, stepsR_some hpL hst]
              cases stepsR ((Lib.split R [47]).drop (k + 1)) with
              | none => rfl
              | some l => simp
            have HRS2 : Hid (Calls Tryd.prog 17 #[.string p] wr fun e w' => e = .returned (.tuple #[.agg #[.string ⟨st.1.toArray⟩, .int .i64 st.2], .bool true]) ∧ Below wr.heap.size wr w') := by
              refine (Calls.mono HRS.out ?_)
              rintro e w' ⟨nm, n, rfl, h1, hb⟩
              obtain ⟨rfl, rfl⟩ := h1 st hst
              rw [hst]
              exact ⟨rfl, hb⟩
            clear hst hpL hp hxr HRS
            go_wp2_with fail
            refine (Calls.mono HRS2.out ?_)
            rintro e w3 ⟨rfl, hb3⟩
            have hB3 : Below W2.heap.size W2 w3 := hB.trans (hb3.mono hszr)
            have hB4 : Below W2.heap.size W2 (w3.alloc (.cells #[.string ⟨st.1.toArray⟩, .int .i64 st.2] 41)) := hB3.alloc hB3.size _
            have hS4 : SRow W2.heap.size (w3.alloc (.cells #[.string ⟨st.1.toArray⟩, .int .i64 st.2] 41)) (.slice ra k rc) (asS acc) := (HSR.out.later hb3).later (Below.alloc1 _ _)
            have hown4 : (w3.alloc (.cells #[.string ⟨st.1.toArray⟩, .int .i64 st.2] 41)).ownsRow W2.heap.size 41 2 (.slice ra k rc) k (stepCells (asS acc)) := by
              have := hS4
              unfold SRow at this
              rw [asS_length, HAL.out] at this
              exact this
            have hs4 := hB3.size
            go_wp2_with (at_builtin; refine wpList_append_own_at _ rfl _ _ 22 rfl W2.heap.size 41 i0 _ 2 24 Tryd.underlying22 hi hz0 hzz1 hz2 rfl (by decide) _ _ _ rfl (hown4.alloc _) ⟨w3.heap.size + 1, 0, none⟩ 1 1 [.string ⟨st.1.toArray⟩, .int .i64 st.2] ?qc0 ?qc1 ?qc2 ?qc3 ?qc4 ?qc5 ?qc6 ?_)
            case qc0 => first | rfl | simp [go_sem]
            case qc1 => rfl
            case qc2 => have := new_two (w3.alloc (.cells #[.string ⟨st.1.toArray⟩, .int .i64 st.2] 41)) (.string ⟨st.1.toArray⟩) (.int .i64 st.2) 41; rw [World.size_alloc] at this; exact this
            case qc3 => intro z hz; simp at hz; rcases hz with rfl | rfl <;> rfl
            case qc4 => unfold maxLen; omega
            case qc5 => omega
            case qc6 => simp; omega
            intro v' w6 hown6 hgr6 _ _
            obtain ⟨ja, jl, jc, rfl⟩ := row_slice6 hown6
            have hS6 : SRow W2.heap.size w6 (.slice ja jl jc) (asS (acc ++ [st])) := by
              unfold SRow
              rw [show asS (acc ++ [st]) = asS acc ++ [⟨⟨st.1.toArray⟩, st.2⟩] by simp [asS], stepCells_append, List.length_append, asS_length, HAL.out]
              exact hown6
            have hB6 : Below W2.heap.size W2 w6 := (hB4.alloc hB4.size _).grown hgr6 (by simp; omega) (fun z hz => (hS4.lt z hz).1)
            clear hown6 hown4 hS4
            go_wp2_with fail
            go_roundg (P.length - (k + 1))
            case measure => omega
            case rel =>
              refine ⟨k + 1, acc ++ [st], by omega, by go_num, by rw [List.length_append, HAL.out]; rfl, hS6, hB6, HG2.out, fun x hx => ?_⟩
              rw [List.mem_append, List.mem_singleton] at hx
              rcases hx with hx | rfl
              · exact HSH.out x hx
              · omega
        · have hkk : k = P.length := by omega
          have hkli : ¬ ((k : Int) < (P.length : Int)) := by omega
          have HG2 : Hid (stepsR (Lib.split R [47]) = some acc) := by
            show _ = _
            have hdl : (Lib.split R [47]).length ≤ k := by rw [← HPD.out, List.length_map]; omega
            rw [HGot.out, List.drop_of_length_le hdl]
            simp [stepsR]
          have hSt := HSR.out.steps
          clear hkk
          have HPG : Hid _ := goodP_any _ (.slice ra k rc) (asS acc) wr hSt (by
            intro x hx
            obtain ⟨q, hq, rfl⟩ := List.mem_map.1 hx
            have := HSH.out q hq
            show q.1.toArray.size ≤ maxLen
            unfold maxLen
            simp
            omega)
          rw [pathB_L] at HPG
          cases hpl : pathL acc with
          | false =>
            rw [hpl] at HPG
            have HE2 : Hid (parseE s = 1 ∧ parseV s = []) := HNO.out (by rw [HP2.out, HG2.out]; simp [hpl])
            clear hpl
            go_wp2_with fail
            refine (Calls.mono HPG.out ?_)
            rintro e w3 ⟨rfl, hb3⟩
            go_wp2_with fail
            go_ret2
            exact ⟨_, by rw [HE2.out.1]; rfl, by rw [HE2.out.2]; exact ⟨none, 0, rfl, Nat.le_refl _, Nat.zero_le _, fun h => absurd rfl h⟩, hBw.trans (hb3.mono hBw.size)⟩
          | true =>
            rw [hpl] at HPG
            have HE2 : Hid (parseE s = 0 ∧ parseV s = asS acc) := by
              have : parseL s.data.toList = some acc := by rw [HP2.out, HG2.out]; simp [hpl]
              unfold parseE parseV
              rw [this]
              exact ⟨rfl, rfl⟩
            clear hpl
            go_wp2_with fail
            refine (Calls.mono HPG.out ?_)
            rintro e w3 ⟨rfl, hb3⟩
            go_wp2_with fail
            go_ret2
            exact ⟨_, by rw [HE2.out.1]; rfl, by rw [HE2.out.2]; exact (hSt.later hb3).carry fun b hb => ⟨by omega, rfl⟩, hBw.trans (hb3.mono hBw.size)⟩
end Go.Proofs.YtmbmfomeiioijabDoor

/- The closed sentence 'paths' of the package topiarykeep is true. Condition: the variables of strconv and bytealg hold what their texts lay. -/
namespace Go.Proofs.YtmbmfomeiioijabDoor
open Go.ChangeShapes Go.WideShapes Go.ChangeAt Go.RowKit
set_option maxRecDepth 100000

attribute [local go_sem] cell_set

theorem paths_list : parseL [47, 97, 47, 42, 91, 50, 93, 47, 35] = some [([97], 0), ([42], 2), ([], 0)] := by decide +kernel

theorem paths_parse : parseE ⟨#[47, 97, 47, 42, 91, 50, 93, 47, 35]⟩ = 0 ∧ parseV ⟨#[47, 97, 47, 42, 91, 50, 93, 47, 35]⟩ = [⟨⟨#[97]⟩, 0⟩, ⟨⟨#[42]⟩, 2⟩, ⟨⟨#[]⟩, 0⟩] := by
  have e : (⟨#[47, 97, 47, 42, 91, 50, 93, 47, 35]⟩ : ByteArray).data.toList = [47, 97, 47, 42, 91, 50, 93, 47, 35] := rfl
  unfold parseE parseV
  rw [e, paths_list]
  exact ⟨rfl, rfl⟩

theorem pathsK_any (w : World) (hE : PEnv w) : Calls Tryd.prog 12 #[] w fun e w' => e = .returned (.bool true) ∧ Below w.heap.size w w' := by
  have HP : Hid (Calls Tryd.prog 7 #[.string ⟨#[47, 97, 47, 42, 91, 50, 93, 47, 35]⟩] w fun e w' => ∃ v, e = .returned (.tuple #[v, .int .i64 0]) ∧ Steps (fun b => w.heap.size ≤ b) w' v [⟨⟨#[97]⟩, 0⟩, ⟨⟨#[42]⟩, 2⟩, ⟨⟨#[]⟩, 0⟩] ∧ Below w.heap.size w w') := by
    have := parseP_any ⟨#[47, 97, 47, 42, 91, 50, 93, 47, 35]⟩ w hE (by decide)
    rw [paths_parse.1, paths_parse.2] at this
    exact this
  clear hE
  go_enter Tryd.func12, Tryd.ntmps12
  go_wp2_with fail
  refine (Calls.mono HP.out ?_)
  rintro e w2 ⟨v, rfl, hS, hb⟩
  obtain ⟨b, o, cap, rfl, _, _, e0, e1⟩ := hS.at (i := 1) (x := ⟨⟨#[42]⟩, 2⟩) rfl
  obtain ⟨b', o', cap', hv, _, _, g0, g1⟩ := hS.at (i := 2) (x := ⟨⟨#[]⟩, 0⟩) rfl
  injection hv with hv1 _ hv2
  injection hv1 with hv1
  injection hv1 with hv3 hv4
  subst hv3 hv4 hv2
  clear hS HP
  simp only [List.length_cons, List.length_nil, Nat.one_mul] at *
  go_wp2_with fail
  go_ret
  exact ⟨rfl, hb⟩
end Go.Proofs.YtmbmfomeiioijabDoor

/- topiarykeep.PathRises answers true. Condition: texts of a size that can be read; the variables of strconv and bytealg hold what their texts lay. -/
namespace Go.Proofs.YtmbmfomeiioijabDoor
open Go.ChangeShapes Go.WideShapes Go.ChangeAt Go.RowKit
set_option maxRecDepth 100000

attribute [local go_sem] cell_set

theorem dp_pos {ns : List Nd} {m : Nat} (h : m < ns.length) : 1 ≤ dp ns m := by
  unfold dp
  rw [depF, if_pos (by omega)]
  omega

/-- One step up: a node's parent. -/
theorem dp_up {ns : List Nd} (hg : goodD ns = true) {m : Nat} {x : Nd} (hx : ns[m]? = some x) : (x.parent = -1 ∧ dp ns m = 1) ∨ ∃ q : Nat, x.parent = (q : Int) ∧ q < m ∧ dp ns m = dp ns q + 1 := by
  rcases (good_fam hg hx).par with ⟨rfl, hp⟩ | ⟨q, _, _, hp, hq, _⟩
  · exact Or.inl ⟨hp, dp_root hg hx hp⟩
  · exact Or.inr ⟨q, hp, hq, dp_kid hg hx hp hq⟩

theorem selE_cases (ns : List Nd) (l : List St) : (selE ns l = 1 ∧ selD ns l = []) ∨ (selE ns l = 0 ∧ goodD ns = true ∧ pathB l = true ∧ selD ns l = selP ns l) := by
  unfold selE selD
  cases hg : goodD ns with
  | false => exact Or.inl ⟨rfl, rfl⟩
  | true =>
    cases hp : pathB l with
    | false => exact Or.inl ⟨rfl, rfl⟩
    | true => exact Or.inr ⟨rfl, rfl, rfl, rfl⟩

set_option maxHeartbeats 2000000 in
theorem pathRises_any (S : Nat → Prop) (vd vl : Value) (ns : List Nd) (l : List St) (w : World) (hD : DocV S w vd ns) (hL : Steps S w vl l) (hn : NamesIn l) (hE : PEnv w) :
    Calls Tryd.prog 4 #[.agg #[vd], vl] w fun e w' => e = .returned (.bool true) ∧ Below w.heap.size w w' := by
  have hb1 := Below.alloc1 w (.cells #[vd] 31)
  have hx1 := heap_alloc_new w (.cells #[vd] 31)
  have HS : Hid _ := select_any S vd vl ns l _ (hD.later hb1) (hL.later hb1) hn
  have HPA : Hid (∀ W, Below w.heap.size w W → Calls Tryd.prog 12 #[] W fun e w' => e = .returned (.bool true) ∧ Below W.heap.size W w') := fun W h => pathsK_any W (hE.later h)
  have HD : Hid (DocV S w vd ns) := hD
  obtain ⟨na, nc, rfl, hnl, hnm⟩ := hD.nodes.shape
  obtain ⟨la, lc, rfl, hll, hlm⟩ := hL.shape
  unfold maxLen at hnm hlm
  clear hD hL hn hE
  rcases selE_cases ns l with ⟨h1, h2⟩ | ⟨h1, hg, hp, h2⟩
  · rw [h1, h2] at HS
    clear h1 h2
    go_enter Tryd.func4, Tryd.ntmps4
    go_wp2_with fail
    refine (Calls.mono HS.out ?_)
    rintro e w2 ⟨v, rfl, hI, hb2⟩
    have hB2 : Below w.heap.size w w2 := hb1.trans (hb2.mono hb1.size)
    obtain ⟨va, vc, rfl, _, _⟩ := hI.shape
    clear hI HS
    go_wp2_with fail
    refine (Calls.mono (HPA.out _ hB2) ?_)
    rintro e w3 ⟨rfl, hb3⟩
    go_wp2_with fail
    go_ret
    exact ⟨rfl, hB2.trans (hb3.mono hB2.size)⟩
  · rw [h1, h2] at HS
    have hpl := hp
    simp only [pathB, Bool.and_eq_true, decide_eq_true_eq] at hpl
    have HLev : Hid (Lev ns l.length (selP ns l)) := selP_lev hg (by intro e; rw [e] at hpl; simp at hpl)
    have h80 : ns.length ≤ 80 := by
      have := hg
      simp only [goodD, Bool.and_eq_true, decide_eq_true_eq] at this
      exact this.1.1
    have hl5 : l.length ≤ 5 := hpl.1.2
    have HG : Hid (goodD ns = true) := hg
    obtain ⟨X, hX⟩ : ∃ X, selP ns l = X := ⟨_, rfl⟩
    rw [hX] at HS HLev
    have hXl : X.length ≤ 80 := Nat.le_trans (lev_len hg HLev.out) h80
    have HRise : Hid (X.Pairwise (fun u v => u < v)) := HLev.out.rises hg
    clear h1 h2 hp hpl hg hX
    go_enter Tryd.func4, Tryd.ntmps4
    go_wp2_with fail
    refine (Calls.mono HS.out ?_)
    rintro e w2 ⟨v, rfl, hI, hb2⟩
    have hB2 : Below w.heap.size w w2 := hb1.trans (hb2.mono hb1.size)
    have hx2 := (hb2.block _ (blk_lt hx1)).trans hx1
    obtain ⟨va, vc, rfl, hvl, hvm⟩ := hI.shape
    have HI2 : Hid (Ints (fun b => (w.alloc (.cells #[.slice na ns.length nc] 31)).heap.size ≤ b) w2 (.slice va X.length vc) X) := hI
    clear hI HS hb1 hx1 hb2
    go_wp2_with fail
    refine (Calls.mono (HPA.out _ hB2) ?_)
    rintro e w3 ⟨rfl, hb3⟩
    have hB3 : Below w.heap.size w w3 := hB2.trans (hb3.mono hB2.size)
    have hx3 := (hb3.block _ (blk_lt hx2)).trans hx2
    have HI3 : Hid (Ints (fun b => (w.alloc (.cells #[.slice na ns.length nc] 31)).heap.size ≤ b) w3 (.slice va X.length vc) X) := HI2.out.later hb3
    have d3 : w3.cell? ⟨w.heap.size, 0, none⟩ = some (.slice na ns.length nc) := by rw [Lib.cell_of_heap hx3]; rfl
    unfold maxLen at hvm
    clear HI2 hb3 hx2 hB2 HPA hx3
    go_wp2_with fail
    go_loopg [31] X.length (fun g j wr => ∃ (i : Nat), i + g = X.length ∧ j = .int .i64 (i : Int) ∧ wr = w3)
    case atStart => exact ⟨0, by omega, rfl, rfl⟩
    case round =>
      obtain ⟨i, hi, rfl, hwr⟩ := hrel
      subst hwr
      by_cases hil : i < X.length
      · obtain ⟨u, hu⟩ : ∃ u, X[i]? = some u := ⟨X[i], by simp [hil]⟩
        obtain ⟨m, x, rfl, hx, hdp⟩ := HLev.out.mem u (List.mem_of_getElem? hu)
        have hm := lt_of_some hx
        obtain ⟨xb, xo, xc, hxv, _, hxbw, e1⟩ := HI3.out.at hu
        injection hxv with hxa _ hxc
        subst hxa hxc
        have hili : (i : Int) < (X.length : Int) := by omega
        have hm0 : ¬ ((m : Int) < 0) := by omega
        have hmi : ¬ ((ns.length : Int) ≤ (m : Int)) := by omega
        have HDP : Hid (dp ns m = l.length) := hdp
        have HNN := HD.out.nodes.later hB3
        obtain ⟨nb, no, ncap, _, _, hnv, _, _, _, hnb, _⟩ := HNN.at hx
        injection hnv with hna _ hnc
        subst hna hnc
        have HN3 : Hid (Nodes S wr (.slice (some ⟨nb, no, none⟩) ns.length nc) ns) := HNN
        by_cases hi0 : i = 0
        · have hi0i : ¬ ((0 : Int) < (i : Int)) := by omega
          clear hi0 hu hx
          go_wp2_with fail
          go_loopg [10, 9] (m + 1) (fun g k d wz => ∃ (kk : Int) (dd : Nat), (kk + 1).toNat = g ∧ k = .int .i64 kk ∧ d = .int .i64 (dd : Int) ∧ wz = wr ∧ ((kk = -1 ∧ dd = l.length) ∨ ∃ q : Nat, kk = (q : Int) ∧ q < ns.length ∧ dd + dp ns q = l.length))
          case atStart => exact ⟨(m : Int), 0, by omega, rfl, rfl, rfl, Or.inr ⟨m, rfl, hm, by rw [HDP.out]; omega⟩⟩
          case round =>
            obtain ⟨kk, dd, hg, rfl, rfl, hwz, hor⟩ := hrel
            subst hwz
            rcases hor with ⟨rfl, hdl⟩ | ⟨q, rfl, hq, hdq⟩
            · have hdl2 : ((dd : Int) != (l.length : Int)) = false := by simp [hdl]
              clear hdl hg
              go_wp2_with fail
              go_roundg (X.length - (i + 1))
              case measure => omega
              case rel => exact ⟨i + 1, by omega, by go_num, rfl⟩
            · obtain ⟨y, hy⟩ : ∃ y, ns[q]? = some y := ⟨ns[q], by simp [hq]⟩
              obtain ⟨b, o, cap, yva, yvk, hv, _, _, _, hbw, c0, c1, c2, c3, c4, _, _⟩ := HN3.out.at hy
              injection hv with hv1 _ hv2
              injection hv1 with hv1
              injection hv1 with hv3 hv4
              subst hv3 hv4 hv2
              have hup := dp_up HG.out hy
              have hpos := dp_pos hq
              have hq0 : ¬ ((q : Int) < 0) := by omega
              have hq0' : (0 : Int) ≤ (q : Int) := by omega
              have hqi : (q : Int) < (ns.length : Int) := by omega
              have hdd : (dd : Int) + 1 < 9223372036854775808 := by omega
              clear c0 c1 c2 c4 hy
              go_wp2_with fail
              rcases hup with ⟨hpp, hd1⟩ | ⟨q2, hpp, hq2, hd1⟩
              · rw [hpp]
                go_roundg 0
                case measure => omega
                case rel => exact ⟨-1, dd + 1, by omega, rfl, by go_num, rfl, Or.inl ⟨rfl, by omega⟩⟩
              · rw [hpp]
                go_roundg (q2 + 1)
                case measure => omega
                case rel => exact ⟨(q2 : Int), dd + 1, by omega, rfl, by go_num, rfl, Or.inr ⟨q2, rfl, by omega, by omega⟩⟩
        · have hi0i : (0 : Int) < (i : Int) := by omega
          obtain ⟨u0, hu0⟩ : ∃ u, X[i - 1]? = some u := ⟨X[i - 1]'(by omega), by simp⟩
          have hlt0 : u0 < (m : Int) := by
            have h1 := List.pairwise_iff_getElem.1 HRise.out (i - 1) i (by omega) hil (by omega)
            have h2 := hu0
            have h3 := hu
            rw [List.getElem?_eq_getElem (by omega)] at h2 h3
            rw [← Option.some.inj h2, ← Option.some.inj h3]
            exact h1
          obtain ⟨xb2, xo2, xc2, hxv2, _, _, e2⟩ := HI3.out.at hu0
          injection hxv2 with hxa2 _ hxc2
          injection hxa2 with hxa2
          injection hxa2 with hxa3 hxa4
          subst hxa3 hxa4 hxc2
          have hsub : ((i : Int) - 1).toNat = i - 1 := by omega
          have hsub2 : ¬ ((m : Int) ≤ u0) := by omega
          clear hi0 hu hx hu0
          go_wp2_with fail
          go_loopg [10, 9] (m + 1) (fun g k d wz => ∃ (kk : Int) (dd : Nat), (kk + 1).toNat = g ∧ k = .int .i64 kk ∧ d = .int .i64 (dd : Int) ∧ wz = wr ∧ ((kk = -1 ∧ dd = l.length) ∨ ∃ q : Nat, kk = (q : Int) ∧ q < ns.length ∧ dd + dp ns q = l.length))
          case atStart => exact ⟨(m : Int), 0, by omega, rfl, rfl, rfl, Or.inr ⟨m, rfl, hm, by rw [HDP.out]; omega⟩⟩
          case round =>
            obtain ⟨kk, dd, hg, rfl, rfl, hwz, hor⟩ := hrel
            subst hwz
            rcases hor with ⟨rfl, hdl⟩ | ⟨q, rfl, hq, hdq⟩
            · have hdl2 : ((dd : Int) != (l.length : Int)) = false := by simp [hdl]
              clear hdl hg
              go_wp2_with fail
              go_roundg (X.length - (i + 1))
              case measure => omega
              case rel => exact ⟨i + 1, by omega, by go_num, rfl⟩
            · obtain ⟨y, hy⟩ : ∃ y, ns[q]? = some y := ⟨ns[q], by simp [hq]⟩
              obtain ⟨b, o, cap, yva, yvk, hv, _, _, _, hbw, c0, c1, c2, c3, c4, _, _⟩ := HN3.out.at hy
              injection hv with hv1 _ hv2
              injection hv1 with hv1
              injection hv1 with hv3 hv4
              subst hv3 hv4 hv2
              have hup := dp_up HG.out hy
              have hpos := dp_pos hq
              have hq0 : ¬ ((q : Int) < 0) := by omega
              have hq0' : (0 : Int) ≤ (q : Int) := by omega
              have hqi : (q : Int) < (ns.length : Int) := by omega
              have hdd : (dd : Int) + 1 < 9223372036854775808 := by omega
              clear c0 c1 c2 c4 hy
              go_wp2_with fail
              rcases hup with ⟨hpp, hd1⟩ | ⟨q2, hpp, hq2, hd1⟩
              · rw [hpp]
                go_roundg 0
                case measure => omega
                case rel => exact ⟨-1, dd + 1, by omega, rfl, by go_num, rfl, Or.inl ⟨rfl, by omega⟩⟩
              · rw [hpp]
                go_roundg (q2 + 1)
                case measure => omega
                case rel => exact ⟨(q2 : Int), dd + 1, by omega, rfl, by go_num, rfl, Or.inr ⟨q2, rfl, by omega, by omega⟩⟩
      · have hili : ¬ ((i : Int) < (X.length : Int)) := by omega
        go_wp2_with fail
        go_ret
        exact ⟨rfl, hB3⟩
end Go.Proofs.YtmbmfomeiioijabDoor

/- A step of a list written anew. No condition. -/
namespace Go.Proofs.YtmbmfomeiioijabDoor
open Go.ChangeShapes Go.WideShapes Go.ChangeAt Go.RowKit
set_option maxRecDepth 100000

theorem Steps.putN {S : Nat → Prop} {w : World} {b o len cap : Nat} {l : List St} (h : Steps S w (.slice (some ⟨b, o, none⟩) len cap) l) {i : Nat} {s : St} (hs : l[i]? = some s) (n : Int) :
    Steps S (w.setCell ⟨b, o + i * 2 + 1, none⟩ (.int .i64 n)) (.slice (some ⟨b, o, none⟩) len cap) (l.set i ⟨s.name, n⟩) := by
  have hi := lt_of_some hs
  obtain ⟨b', o', cap', hv, hS, hb, e0, e1⟩ := h.at hs
  obtain ⟨a, c, h1, h2, h3, h4⟩ := h
  injection h1 with h1a h1b h1c
  subst h1a h1b h1c
  injection hv with hv1 _ hv2
  injection hv1 with hv1
  injection hv1 with hv3 hv4
  subst hv3 hv4 hv2
  refine ⟨_, cap, by rw [List.length_set], by rw [List.length_set]; exact h2, h3, fun _ => ⟨b, o, rfl, hS, fun j x hx => ?_⟩⟩
  obtain ⟨b2, o2, hab, _, hc⟩ := h4 (by intro e; rw [e] at hi; simp at hi)
  injection hab with hab
  injection hab with hb2 ho2
  subst hb2 ho2
  by_cases hij : i = j
  · subst hij
    rw [List.getElem?_set_self hi] at hx
    have hx := Option.some.inj hx
    subst hx
    refine ⟨?_, cell_set (by rw [e1]; rfl)⟩
    rw [World.cell?_setCell_other _ _ _ _ (by intro e; injection e with _ e; omega)]
    exact e0
  · rw [List.getElem?_set_ne hij] at hx
    obtain ⟨g0, g1⟩ := hc j x hx
    rw [World.cell?_setCell_other _ _ _ _ (by intro e; injection e with _ e; omega), World.cell?_setCell_other _ _ _ _ (by intro e; injection e with _ e; omega)]
    exact ⟨g0, g1⟩

theorem Steps.put {S : Nat → Prop} {w : World} {b o len cap : Nat} {l : List St} (h : Steps S w (.slice (some ⟨b, o, none⟩) len cap) l) {i : Nat} {s : St} (hs : l[i]? = some s) (t : St) :
    Steps S ((w.setCell ⟨b, o + i * 2, none⟩ (.string t.name)).setCell ⟨b, o + i * 2 + 1, none⟩ (.int .i64 t.n)) (.slice (some ⟨b, o, none⟩) len cap) (l.set i t) := by
  have hi := lt_of_some hs
  obtain ⟨b', o', cap', hv, hS, hb, e0, e1⟩ := h.at hs
  obtain ⟨a, c, h1, h2, h3, h4⟩ := h
  injection h1 with h1a h1b h1c
  subst h1a h1b h1c
  injection hv with hv1 _ hv2
  injection hv1 with hv1
  injection hv1 with hv3 hv4
  subst hv3 hv4 hv2
  refine ⟨_, cap, by rw [List.length_set], by rw [List.length_set]; exact h2, h3, fun _ => ⟨b, o, rfl, hS, fun j x hx => ?_⟩⟩
  obtain ⟨b2, o2, hab, _, hc⟩ := h4 (by intro e; rw [e] at hi; simp at hi)
  injection hab with hab
  injection hab with hb2 ho2
  subst hb2 ho2
  have far : ∀ p q : Nat, p ≠ q → (⟨b, p, none⟩ : Addr) ≠ ⟨b, q, none⟩ := by intro p q hpq e; injection e with _ e; exact hpq e
  by_cases hij : i = j
  · subst hij
    rw [List.getElem?_set_self hi] at hx
    have hx := Option.some.inj hx
    subst hx
    refine ⟨?_, cell_set ?_⟩
    · rw [World.cell?_setCell_other _ _ _ _ (far _ _ (by omega))]
      exact cell_set (by rw [e0]; rfl)
    · rw [World.cell?_setCell_other _ _ _ _ (far _ _ (by omega)), e1]; rfl
  · rw [List.getElem?_set_ne hij] at hx
    obtain ⟨g0, g1⟩ := hc j x hx
    rw [World.cell?_setCell_other _ _ _ _ (far _ _ (by omega)), World.cell?_setCell_other _ _ _ _ (far _ _ (by omega)), World.cell?_setCell_other _ _ _ _ (far _ _ (by omega)), World.cell?_setCell_other _ _ _ _ (far _ _ (by omega))]
    exact ⟨g0, g1⟩

/-- A row that is not empty lies in a block of its own. -/
theorem SRow.block {B : Nat} {w : World} {v : Value} {l : List St} (h : SRow B w v l) (hne : l ≠ []) : ∃ g cap, v = .slice (some ⟨g, 0, none⟩) l.length cap ∧ B ≤ g ∧ g < w.heap.size ∧ ∀ k, w.frozen? ⟨g, k, none⟩ = false := by
  rcases h.2 with ⟨_, h0⟩ | ⟨g, cap, cur, rfl, hg, hh, hc, hm, hs, ht⟩
  · exact absurd (List.eq_nil_of_length_eq_zero h0) hne
  · exact ⟨g, cap, rfl, hg, blk_lt hh, fun k => Lib.frozen_of_heap hh k⟩
end Go.Proofs.YtmbmfomeiioijabDoor

/- topiarykeep.PathPicks answers true. Condition: texts and a list of steps of a size that can be read; the variables of strconv and bytealg hold what their texts lay. -/
namespace Go.Proofs.YtmbmfomeiioijabDoor
open Go.ChangeShapes Go.WideShapes Go.ChangeAt Go.RowKit
set_option maxRecDepth 100000

attribute [local go_sem] cell_set

theorem Steps.cells {S : Nat → Prop} {w : World} {a : Addr} {n c : Nat} {l : List St} (h : Steps S w (.slice (some a) n c) l) : ∀ j u, (stepCells l)[j]? = some u → w.cell? (a.add j) = some u := by
  intro j u hj
  have hlen := stepCells_length l
  have hjl : j < l.length * 2 := by
    rcases Nat.lt_or_ge j (l.length * 2) with h' | h'
    · exact h'
    · rw [List.getElem?_eq_none (by omega)] at hj; cases hj
  obtain ⟨s, hs⟩ : ∃ s, l[j / 2]? = some s := ⟨l[j / 2]'(by omega), by simp⟩
  obtain ⟨g0, g1⟩ := stepCells_get l (j / 2) s hs
  obtain ⟨b, o, cap, hv, _, _, c0, c1⟩ := h.at hs
  injection hv with hv1 _ _
  injection hv1 with hv1
  subst hv1
  rw [Addr.add_lit]
  rcases Nat.mod_two_eq_zero_or_one j with h' | h'
  · rw [show j / 2 * 2 = j by omega] at g0 c0
    rw [g0] at hj
    rw [c0, hj]
  · rw [show j / 2 * 2 + 1 = j by omega] at g1
    rw [show o + j / 2 * 2 + 1 = o + j by omega] at c1
    rw [g1] at hj
    rw [c1, hj]

theorem stepCells_one (l : List St) : ∀ u ∈ stepCells l, u.oneCell' = true := by
  induction l with
  | nil => intro u hu; simp [stepCells] at hu
  | cons s l ih =>
    intro u hu
    simp only [stepCells, List.mem_cons] at hu
    rcases hu with rfl | rfl | hu
    · rfl
    · rfl
    · exact ih u hu

theorem Steps.only {S : Nat → Prop} {w : World} {g o n c : Nat} {l : List St} (h : Steps S w (.slice (some ⟨g, o, none⟩) n c) l) : Steps (fun b => b = g) w (.slice (some ⟨g, o, none⟩) n c) l := by
  obtain ⟨a, cap, h1, h2, h3, h4⟩ := h
  refine ⟨a, cap, h1, h2, h3, fun hne => ?_⟩
  obtain ⟨b, o', ha, _, hc⟩ := h4 hne
  injection h1 with h1
  rw [ha] at h1
  injection h1 with h1
  injection h1 with h1
  exact ⟨b, o', ha, h1.symm, hc⟩

theorem pathB_set {l : List St} {m : Nat} {s : St} (hs : l[m]? = some s) {a : Int} (h0 : 0 ≤ a) (h1 : a ≤ 99) : pathB (l.set m ⟨s.name, a⟩) = pathB (l.set m ⟨s.name, 0⟩) := by
  unfold pathB
  rw [List.length_set, List.length_set]
  congr 1
  have hm := lt_of_some hs
  have key : ∀ x y : St, stepB x = stepB y → (l.set m x).all stepB = (l.set m y).all stepB := by
    intro x y hxy
    rw [List.set_eq_take_append_cons_drop, List.set_eq_take_append_cons_drop, if_pos hm, if_pos hm]
    simp [hxy]
  apply key
  unfold stepB
  simp [h0, h1]

theorem selE_set {ns : List Nd} {l : List St} {m : Nat} {s : St} (hs : l[m]? = some s) {a : Int} (h0 : 0 ≤ a) (h1 : a ≤ 99) : selE ns (l.set m ⟨s.name, a⟩) = selE ns (l.set m ⟨s.name, 0⟩) := by
  unfold selE
  rw [pathB_set hs h0 h1]

theorem selD_set {ns : List Nd} {l : List St} {m : Nat} {s : St} (hs : l[m]? = some s) {a : Int} (h0 : 0 ≤ a) (h1 : a ≤ 99) : selD ns (l.set m ⟨s.name, a⟩) ⊆ selD ns (l.set m ⟨s.name, 0⟩) := by
  unfold selD
  rw [pathB_set hs h0 h1]
  split
  · exact selP_pick l m ⟨s.name, a⟩ ⟨s.name, 0⟩ s hs rfl rfl
  · intro u hu; exact hu

theorem NamesIn.set {l : List St} (h : NamesIn l) {m : Nat} {s : St} (hs : l[m]? = some s) (a : Int) : NamesIn (l.set m ⟨s.name, a⟩) := by
  intro x hx
  rcases List.mem_or_eq_of_mem_set hx with hx | rfl
  · exact h x hx
  · exact h s (List.mem_of_getElem? hs)

set_option maxHeartbeats 4000000 in
theorem pathPicks_any (S : Nat → Prop) (vd vl : Value) (ns : List Nd) (l : List St) (k n : Int) (w : World) (hD : DocV S w vd ns) (hL : Steps S w vl l) (hn : NamesIn l) (hre : l.length * 24 ≤ 140737488351232) (hE : PEnv w) :
    Calls Tryd.prog 5 #[.agg #[vd], vl, .int .i64 k, .int .i64 n] w fun e w' => e = .returned (.bool true) ∧ Below w.heap.size w w' := by
  have hb1 := Below.alloc1 w (.cells #[vd] 31)
  have hx1 := heap_alloc_new w (.cells #[vd] 31)
  have HPA : Hid (∀ W, Below w.heap.size w W → Calls Tryd.prog 12 #[] W fun e w' => e = .returned (.bool true) ∧ Below W.heap.size W w') := fun W h => pathsK_any W (hE.later h)
  have HD : Hid (DocV S w vd ns) := hD
  have HL : Hid (Steps S w vl l) := hL
  have HN : Hid (NamesIn l) := hn
  obtain ⟨na, nc, rfl, hnl, hnm⟩ := hD.nodes.shape
  obtain ⟨la, lc, rfl, hll, hlm⟩ := hL.shape
  unfold maxLen at hnm hlm
  obtain ⟨i0, hi, hz0, hzz1, hzz2⟩ := info_parts stepInfo
  clear hD hL hn hE
  by_cases hl0 : l.length = 0
  · have hl0b : ((l.length : Int) == 0) = true := by simp [hl0]
    clear hi hz0 hzz1 hzz2
    rw [hl0]
    go_enter Tryd.func5, Tryd.ntmps5
    go_wp2_with fail
    refine (Calls.mono (HPA.out _ hb1) ?_)
    rintro e w3 ⟨rfl, hb3⟩
    go_wp2_with fail
    go_ret
    exact ⟨rfl, hb1.trans (hb3.mono hb1.size)⟩
  · have hl0b : ((l.length : Int) == 0) = false := beq_eq_false_iff_ne.2 (by omega)
    have HPK : Hid (∀ W, Calls Tryd.prog 13 #[.int .i64 k, .int .i64 (l.length : Int)] W fun e w' => ∃ m : Nat, m < l.length ∧ e = .returned (.int .i64 (m : Int)) ∧ w' = W) := fun W => pick_any k l.length W (by omega) (by omega)
    have HPN : Hid (∀ W, Calls Tryd.prog 13 #[.int .i64 n, .int .i64 100] W fun e w' => ∃ m : Nat, m < 100 ∧ e = .returned (.int .i64 (m : Int)) ∧ w' = W) := fun W => pick_any n 100 W (by decide) (by decide)
    obtain ⟨s00, hs00⟩ : ∃ s, l[0]? = some s := ⟨l[0]'(by omega), by simp⟩
    obtain ⟨lb, lo, lc2, hlv, _, hlb, _⟩ := HL.out.at hs00
    injection hlv with hla hll2 hlc2
    subst hla hlc2
    clear hll2 hs00 hl0
    go_enter Tryd.func5, Tryd.ntmps5
    go_wp2_with fail
    refine (Calls.mono (HPK.out _) ?_)
    rintro e W1 ⟨m, hm, rfl, rfl⟩
    obtain ⟨s, hs⟩ : ∃ s, l[m]? = some s := ⟨l[m], by simp [hm]⟩
    have HS : Hid (l[m]? = some s) := hs
    clear hs
    generalize w.alloc (.cells #[.slice na ns.length nc] 31) = W1 at *
    have hz1 := blk_lt hx1
    go_wp2_with (at_builtin; refine wpList_append_own_at _ rfl _ _ 22 rfl W1.heap.size 41 i0 _ 2 24 Tryd.underlying22 hi hz0 hzz1 hzz2 rfl (by decide) _ _ _ rfl (World.ownsRow_nil _ _ _ _) ⟨lb, lo, none⟩ l.length lc (stepCells l) rfl ?qc1 ?qc2 ?qc3 ?qc4 ?qc5 ?qc6 ?_)
    case qc1 => exact stepCells_length l
    case qc2 => exact (HL.out.later hb1).cells
    case qc3 => exact stepCells_one l
    case qc4 => unfold maxLen; omega
    case qc5 => omega
    case qc6 => exact Nat.le_refl _
    intro v2 W2 hown2 hgr2 _ _
    have hS2 : SRow W1.heap.size W2 v2 l := by
      unfold SRow
      simpa using hown2
    have hne : l ≠ [] := by intro e; rw [e] at hm; simp at hm
    obtain ⟨g, cap, rfl, hg1, hg2, hfz⟩ := hS2.block hne
    have hb2 : Below W1.heap.size W1 W2 := (Below.refl _ W1).grown hgr2 (Nat.le_refl _) (fun z hz => by simp [Value.ownBlock] at hz)
    have hx2 := (hb2.block _ hz1).trans hx1
    have hB2 : Below w.heap.size w W2 := hb1.trans (hb2.mono hb1.size)
    have hT2 := hS2.steps
    obtain ⟨_, _, _, hv2, _, _, s0, s1⟩ := hT2.at HS.out
    injection hv2 with hv2a hv2l hv2c
    injection hv2a with hv2a
    injection hv2a with hv2b hv2d
    subst hv2b hv2c hv2d
    clear hv2l
    simp only [Nat.zero_add] at s0 s1
    have hf1 := hfz (m * 2 + 1)
    have hmi : (m : Int) < (l.length : Int) := by omega
    have HT2 : Hid (Steps (fun b => W1.heap.size ≤ b) W2 (.slice (some ⟨g, 0, none⟩) l.length cap) l) := hT2
    clear hown2 hgr2 hS2 hT2 hfz hx1 HPK
    go_wp2_with fail
    refine (Calls.mono (HPN.out _) ?_)
    rintro e W2' ⟨a, ha, rfl, rfl⟩
    clear HPN
    have hTP := HT2.out.putN HS.out (a : Int)
    simp only [Nat.zero_add] at hTP
    have hzs : (W2'.setCell ⟨g, m * 2 + 1, none⟩ (.int .i64 (a : Int))).heap.size = W2'.heap.size := by simp
    have hB3 : Below w.heap.size w (W2'.setCell ⟨g, m * 2 + 1, none⟩ (.int .i64 (a : Int))) := hB2.setCell (p := ⟨g, m * 2 + 1, none⟩) (by show w.heap.size ≤ g; omega) _
    have hB3' : Below W1.heap.size W1 (W2'.setCell ⟨g, m * 2 + 1, none⟩ (.int .i64 (a : Int))) := hb2.setCell (p := ⟨g, m * 2 + 1, none⟩) (by show W1.heap.size ≤ g; omega) _
    have hgx : w.heap.size ≠ g := by omega
    have hx3 : (W2'.setCell ⟨g, m * 2 + 1, none⟩ (.int .i64 (a : Int))).heap[w.heap.size]? = some (.cells #[.slice na ns.length nc] 31 (0, 0)) := by rw [blk_set_ne hgx]; exact hx2
    have HTP : Hid (Steps (fun b => W1.heap.size ≤ b) (W2'.setCell ⟨g, m * 2 + 1, none⟩ (.int .i64 (a : Int))) (.slice (some ⟨g, 0, none⟩) l.length cap) (l.set m ⟨s.name, (a : Int)⟩)) := hTP
    have HB3 : Hid _ := hB3
    have HB3' : Hid _ := hB3'
    have HX3 : Hid _ := hx3
    have HZS : Hid _ := hzs
    have HLC : Hid (∀ j u, (stepCells l)[j]? = some u → (W2'.setCell ⟨g, m * 2 + 1, none⟩ (.int .i64 (a : Int))).cell? ((⟨lb, lo, none⟩ : Addr).add j) = some u) := (HL.out.later hB3).cells
    clear hTP hB3 hB3' hx3 hzs hx2 hgx
    go_wp2_with (at_builtin; refine wpList_append_own_at _ rfl _ _ 22 rfl W2'.heap.size 41 i0 _ 2 24 Tryd.underlying22 hi hz0 hzz1 hzz2 rfl (by decide) _ _ _ rfl (World.ownsRow_nil _ _ _ _) ⟨lb, lo, none⟩ l.length lc (stepCells l) rfl ?qc1 ?qc2 ?qc3 ?qc4 ?qc5 ?qc6 ?_)
    case qc1 => exact stepCells_length l
    case qc2 => exact HLC.out
    case qc3 => exact stepCells_one l
    case qc4 => unfold maxLen; omega
    case qc5 => omega
    case qc6 => rw [HZS.out]; exact Nat.le_refl _
    intro v4 W4 hown4 hgr4 _ _
    have hS4 : SRow W2'.heap.size W4 v4 l := by
      unfold SRow
      simpa using hown4
    obtain ⟨g4, cap4, rfl, hg41, hg42, hfz4⟩ := hS4.block hne
    have hb4 : Below W2'.heap.size (W2'.setCell ⟨g, m * 2 + 1, none⟩ (.int .i64 (a : Int))) W4 := (Below.refl _ _).grown hgr4 (by rw [HZS.out]; exact Nat.le_refl _) (fun z hz => by simp [Value.ownBlock] at hz)
    have hb4' : Below (W2'.setCell ⟨g, m * 2 + 1, none⟩ (.int .i64 (a : Int))).heap.size (W2'.setCell ⟨g, m * 2 + 1, none⟩ (.int .i64 (a : Int))) W4 := by rw [HZS.out]; exact hb4
    have hB4 : Below w.heap.size w W4 := HB3.out.trans (hb4.mono hB2.size)
    have hx4 := (hb4'.block _ (blk_lt HX3.out)).trans HX3.out
    have hT4 := hS4.steps
    obtain ⟨_, _, _, hv4, _, _, t0, t1⟩ := hT4.at HS.out
    injection hv4 with hv4a hv4l hv4c
    injection hv4a with hv4a
    injection hv4a with hv4b hv4d
    subst hv4b hv4c hv4d
    clear hv4l
    simp only [Nat.zero_add] at t0 t1
    have hf4 := hfz4 (m * 2 + 1)
    have HTA : Hid (Steps (fun b => W1.heap.size ≤ b) W4 (.slice (some ⟨g, 0, none⟩) l.length cap) (l.set m ⟨s.name, (a : Int)⟩)) := HTP.out.later hb4'
    have HT4 : Hid (Steps (fun b => W2'.heap.size ≤ b) W4 (.slice (some ⟨g4, 0, none⟩) l.length cap4) l) := hT4
    have hgg : g < W2'.heap.size := hg2
    clear hown4 hgr4 hS4 hT4 hfz4 HTP HLC HB3 HB3' HX3 HZS hi hz0 hzz1 hzz2 s0 s1 hf1
    have hTQ := HT4.out.putN HS.out 0
    simp only [Nat.zero_add] at hTQ
    have hB5 : Below w.heap.size w (W4.setCell ⟨g4, m * 2 + 1, none⟩ (.int .i64 0)) := hB4.setCell (p := ⟨g4, m * 2 + 1, none⟩) (by show w.heap.size ≤ g4; omega) _
    have hgx4 : w.heap.size ≠ g4 := by omega
    have hx5 : (W4.setCell ⟨g4, m * 2 + 1, none⟩ (.int .i64 0)).heap[w.heap.size]? = some (.cells #[.slice na ns.length nc] 31 (0, 0)) := by rw [blk_set_ne hgx4]; exact hx4
    have hgg4 : g ≠ g4 := by omega
    have hTA5 : Steps (fun b => b = g) (W4.setCell ⟨g4, m * 2 + 1, none⟩ (.int .i64 0)) (.slice (some ⟨g, 0, none⟩) l.length cap) (l.set m ⟨s.name, (a : Int)⟩) :=
      HTA.out.only.carry fun b hb => ⟨hb, by subst hb; exact blk_set_ne hgg4⟩
    have hTQ5 := hTQ.only
    have hz5 : (W4.setCell ⟨g4, m * 2 + 1, none⟩ (.int .i64 0)).heap.size = W4.heap.size := by simp
    have hgW : g < W4.heap.size := Nat.lt_of_lt_of_le hgg (by have := hb4.size; have := hg42; omega)
    have HSA : Hid (∀ W, Below W4.heap.size (W4.setCell ⟨g4, m * 2 + 1, none⟩ (.int .i64 0)) W → Calls Tryd.prog 11 #[.agg #[.slice na ns.length nc], .slice (some ⟨g, 0, none⟩) l.length cap] W fun e w' => ∃ v, e = .returned (.tuple #[v, .int .i64 (selE ns (l.set m ⟨s.name, 0⟩))]) ∧ Ints (fun b => W.heap.size ≤ b) w' v (selD ns (l.set m ⟨s.name, (a : Int)⟩)) ∧ Below W.heap.size W w') := by
      intro W hW
      have hW' : Below w.heap.size w W := hB5.trans (hW.mono hB4.size)
      have hW2 : Below (W4.setCell ⟨g4, m * 2 + 1, none⟩ (.int .i64 0)).heap.size (W4.setCell ⟨g4, m * 2 + 1, none⟩ (.int .i64 0)) W := by rw [hz5]; exact hW
      have hsz := hW.size
      rw [hz5] at hsz
      have := select_any (fun b => S b ∨ b = g) _ _ ns (l.set m ⟨s.name, (a : Int)⟩) W ⟨(HD.out.later hW').nodes.carry fun b hb => ⟨Or.inl hb, rfl⟩, fun b hb => by
        rcases hb with hb | hb
        · exact Nat.lt_of_lt_of_le (HD.out.here b hb) hW'.size
        · omega, HD.out.few, HD.out.short⟩ ((hTA5.later hW2).carry fun b hb => ⟨Or.inr hb, rfl⟩) (HN.out.set HS.out _)
      rw [selE_set HS.out (by omega) (by omega)] at this
      exact this
    have HSB : Hid (∀ W, Below W4.heap.size (W4.setCell ⟨g4, m * 2 + 1, none⟩ (.int .i64 0)) W → Calls Tryd.prog 11 #[.agg #[.slice na ns.length nc], .slice (some ⟨g4, 0, none⟩) l.length cap4] W fun e w' => ∃ v, e = .returned (.tuple #[v, .int .i64 (selE ns (l.set m ⟨s.name, 0⟩))]) ∧ Ints (fun b => W.heap.size ≤ b) w' v (selD ns (l.set m ⟨s.name, 0⟩)) ∧ Below W.heap.size W w') := by
      intro W hW
      have hW' : Below w.heap.size w W := hB5.trans (hW.mono hB4.size)
      have hW2 : Below (W4.setCell ⟨g4, m * 2 + 1, none⟩ (.int .i64 0)).heap.size (W4.setCell ⟨g4, m * 2 + 1, none⟩ (.int .i64 0)) W := by rw [hz5]; exact hW
      have hsz := hW.size
      rw [hz5] at hsz
      exact select_any (fun b => S b ∨ b = g4) _ _ ns (l.set m ⟨s.name, 0⟩) W ⟨(HD.out.later hW').nodes.carry fun b hb => ⟨Or.inl hb, rfl⟩, fun b hb => by
        rcases hb with hb | hb
        · exact Nat.lt_of_lt_of_le (HD.out.here b hb) hW'.size
        · omega, HD.out.few, HD.out.short⟩ ((hTQ5.later hW2).carry fun b hb => ⟨Or.inr hb, rfl⟩) (HN.out.set HS.out _)
    obtain ⟨E, hEq⟩ : ∃ E, selE ns (l.set m ⟨s.name, 0⟩) = E := ⟨_, rfl⟩
    obtain ⟨A, hA⟩ : ∃ A, selD ns (l.set m ⟨s.name, (a : Int)⟩) = A := ⟨_, rfl⟩
    obtain ⟨B, hBq⟩ : ∃ B, selD ns (l.set m ⟨s.name, 0⟩) = B := ⟨_, rfl⟩
    have HAB : Hid (A ⊆ B) := by show A ⊆ B; rw [← hA, ← hBq]; exact selD_set HS.out (by omega) (by omega)
    rw [hEq, hA] at HSA
    rw [hEq, hBq] at HSB
    have d4 : W4.cell? ⟨w.heap.size, 0, none⟩ = some (.slice na ns.length nc) := by rw [Lib.cell_of_heap hx4]; rfl
    have d5 : (W4.setCell ⟨g4, m * 2 + 1, none⟩ (.int .i64 0)).cell? ⟨w.heap.size, 0, none⟩ = some (.slice na ns.length nc) := by rw [Lib.cell_of_heap hx5]; rfl
    have HB5 : Hid _ := hB5
    have HX5 : Hid _ := hx5
    have hw4 := hB4.size
    clear hTQ hTA5 hTQ5 hB5 hx5 hz5 hEq hA hBq HTA HT4 HT2 hx4
    go_wp2_with fail
    refine (Calls.mono (HSA.out _ (Below.refl _ _)) ?_)
    rintro e W6 ⟨v6, rfl, hI6, hb6⟩
    have hb6' : Below W4.heap.size (W4.setCell ⟨g4, m * 2 + 1, none⟩ (.int .i64 0)) W6 := by have := hb6; simp only [World.size_setCell] at this; exact this
    have hx6 := (hb6.block _ (blk_lt HX5.out)).trans HX5.out
    have hB6 : Below w.heap.size w W6 := HB5.out.trans (hb6'.mono hw4)
    have d6 : W6.cell? ⟨w.heap.size, 0, none⟩ = some (.slice na ns.length nc) := by rw [Lib.cell_of_heap hx6]; rfl
    obtain ⟨xa, xc, rfl, hxl, hxm⟩ := hI6.shape
    have HI6 : Hid (Ints (fun b => (W4.setCell ⟨g4, m * 2 + 1, none⟩ (.int .i64 0)).heap.size ≤ b) W6 (.slice xa A.length xc) A) := hI6
    clear hI6 d5 d4 t0 t1 hf4
    go_wp2_with fail
    refine (Calls.mono (HSB.out _ hb6') ?_)
    rintro e W7 ⟨v7, rfl, hI7, hb7⟩
    have hB7 : Below w.heap.size w W7 := hB6.trans (hb7.mono hB6.size)
    obtain ⟨ya, yc, rfl, hyl, hym⟩ := hI7.shape
    have HI7 : Hid (Ints (fun b => W6.heap.size ≤ b) W7 (.slice ya B.length yc) B) := hI7
    have HI67 : Hid (Ints (fun b => (W4.setCell ⟨g4, m * 2 + 1, none⟩ (.int .i64 0)).heap.size ≤ b) W7 (.slice xa A.length xc) A) := HI6.out.later hb7
    clear hI7 d6 HI6 HSA HSB
    go_wp2_with fail
    refine (Calls.mono (HPA.out _ hB7) ?_)
    rintro e W8 ⟨rfl, hb8⟩
    have hB8 : Below w.heap.size w W8 := hB7.trans (hb8.mono hB7.size)
    have HA8 : Hid (Ints (fun b => (W4.setCell ⟨g4, m * 2 + 1, none⟩ (.int .i64 0)).heap.size ≤ b) W8 (.slice xa A.length xc) A) := HI67.out.later hb8
    have HB8 : Hid (Ints (fun b => W6.heap.size ≤ b) W8 (.slice ya B.length yc) B) := HI7.out.later hb8
    unfold maxLen at hxm hym
    clear HI67 HI7 hb8 HPA hb7 hb6 hb6' hB6 hB7
    go_wp2_with fail
    go_loopg [63] A.length (fun g i wr => ∃ ii : Nat, ii + g = A.length ∧ i = .int .i64 (ii : Int) ∧ wr = W8)
    case atStart => exact ⟨0, by omega, rfl, rfl⟩
    case round =>
      obtain ⟨i, hi, rfl, hwr⟩ := hrel
      subst hwr
      rename World => wo
      by_cases hil : i < A.length
      · obtain ⟨u, hu⟩ : ∃ u, A[i]? = some u := ⟨A[i], by simp [hil]⟩
        obtain ⟨ab, ao, ac, hav, _, _, e1⟩ := HA8.out.at hu
        injection hav with hav1 hav2 hav3
        subst hav1 hav3
        clear hav2
        have HU : Hid (u ∈ B) := HAB.out (List.mem_of_getElem? hu)
        have hili : (i : Int) < (A.length : Int) := by omega
        clear hu
        go_wp2_with fail
        go_loopg [69, 17] B.length (fun g j q wz => ∃ jj : Nat, jj + g = B.length ∧ j = .int .i64 (jj : Int) ∧ q = .bool (decide (u ∈ B.take jj)) ∧ wz = wo)
        case atStart => exact ⟨0, by omega, rfl, by simp, rfl⟩
        case round =>
          obtain ⟨j, hj, rfl, rfl, hwz⟩ := hrel
          subst hwz
          by_cases hjl : j < B.length
          · obtain ⟨y, hy⟩ : ∃ y, B[j]? = some y := ⟨B[j], by simp [hjl]⟩
            obtain ⟨bb, bo, bc, hbv, _, _, e2⟩ := HB8.out.at hy
            injection hbv with hbv1 hbv2 hbv3
            subst hbv1 hbv3
            clear hbv2
            have hjli : (j : Int) < (B.length : Int) := by omega
            have HT : Hid (decide (u ∈ B.take (j + 1)) = (decide (u ∈ B.take j) || (u == y))) := by
              show _ = _
              have e : B[j] = y := by simpa [hjl] using hy
              rw [List.take_succ_eq_append_getElem hjl, e]
              by_cases h1 : u ∈ B.take j <;> by_cases h2 : u = y <;> simp [List.mem_append, h1, h2]
            obtain ⟨q, hq⟩ : ∃ q, decide (u ∈ B.take j) = q := ⟨_, rfl⟩
            rw [hq] at HT ⊢
            clear hq hy
            cases q with
            | true =>
              have HT2 : Hid (decide (u ∈ B.take (j + 1)) = true) := by show _ = _; rw [HT.out]; rfl
              clear HT
              go_wp2_with fail
              go_roundg (B.length - (j + 1))
              case measure => omega
              case rel => exact ⟨j + 1, by omega, by go_num, by rw [HT2.out], rfl⟩
            | false =>
              have HT2 : Hid (decide (u ∈ B.take (j + 1)) = (u == y)) := by show _ = _; rw [HT.out]; rfl
              clear HT
              go_wp2_with fail
              go_roundg (B.length - (j + 1))
              case measure => omega
              case rel => exact ⟨j + 1, by omega, by go_num, by rw [HT2.out], rfl⟩
          · have hjli : ¬ ((j : Int) < (B.length : Int)) := by omega
            have hT : decide (u ∈ B.take j) = true := by rw [List.take_of_length_le (by omega)]; simpa using HU.out
            rw [hT]
            clear hT
            go_wp2_with fail
            go_roundg (A.length - (i + 1))
            case measure => omega
            case rel => exact ⟨i + 1, by omega, by go_num, rfl⟩
      · have hili : ¬ ((i : Int) < (A.length : Int)) := by omega
        go_wp2_with fail
        go_ret
        exact ⟨rfl, hB8⟩
end Go.Proofs.YtmbmfomeiioijabDoor

