/- Bundled: ParseW ParseX PathsK RisesK StepPut AllK. What each says stands ahead of it. -/
import Derived.Test.YtmbmfomeiioijabDoorBundle11
import Derived.Test.YtmbmfomeiioijabDoorBundle13
import Derived.Test.YtmbmfomeiioijabDoorBundle14
import Derived.Test.YtmbmfomeiioijabDoorBundle15
import Derived.Test.YtmbmfomeiioijabDoorBundle16
import Derived.Test.YtmbmfomeiioijabDoorBundle17
import Derived.Test.YtmbmfomeiioijabDoorBundle18
import Derived.Lib.AppendIntMem
import Derived.Test.YtmbmfomeiioijabDoorBundle12
import Derived.Test.YtmbmfomeiioijabDoorBundle01
/- path.readIndex, path.readStep and path.Parse, for every text. Condition: the variables of strconv and bytealg hold what their texts lay. -/
namespace Go.Proofs.YtmbmfomeiioijabDoor
open Go.ChangeShapes Go.WideShapes Go.ChangeAt Go.RowKit
set_option maxRecDepth 100000

attribute [local go_sem] cell_set

/-- What the variables on the way hold. -/
structure PEnv (w : World) : Prop where
  max : ∃ m, w.cell? ⟨0, 0, none⟩ = some (.int .i64 m)
  syn : ∃ ev, w.cell? ⟨3, 0, none⟩ = some ev ∧ (ev = .nilIface ∨ ∃ te pe, ev = .iface te pe)
  rng : ∃ ev, w.cell? ⟨4, 0, none⟩ = some ev ∧ (ev = .nilIface ∨ ∃ te pe, ev = .iface te pe)
  tab : Lib.TabIs Tryd.prog w "internal/strconv.uint64pow10" .u64 Lib.pow10Tab

theorem tabIs_below {P : Program} {w w' : World} {name : String} {k : IntKind} {zs : List Int} (h : Lib.TabIs P w name k zs) (hb : Below w.heap.size w w') : Lib.TabIs P w' name k zs := by
  unfold Lib.TabIs World.var? at h ⊢
  cases hg : P.globalNamed name with
  | none => simp [hg] at h
  | some g =>
    simp only [hg, Option.bind_some] at h ⊢
    have hlt : g < w.heap.size := by
      rcases Nat.lt_or_ge g w.heap.size with h' | h'
      · exact h'
      · simp [Array.getElem?_eq_none h'] at h
    rw [hb.block g hlt]
    exact h

theorem PEnv.later {w w' : World} (h : PEnv w) (hb : Below w.heap.size w w') : PEnv w' := by
  obtain ⟨⟨m, hm⟩, ⟨e1, h1, k1⟩, ⟨e2, h2, k2⟩, ht⟩ := h
  refine ⟨⟨m, ?_⟩, ⟨e1, ?_, k1⟩, ⟨e2, ?_, k2⟩, tabIs_below ht hb⟩
  · rw [hb.cell (World.block_lt_of_cell? w _ hm)]; exact hm
  · rw [hb.cell (World.block_lt_of_cell? w _ h1)]; exact h1
  · rw [hb.cell (World.block_lt_of_cell? w _ h2)]; exact h2

theorem bytes_back (s : ByteArray) : (⟨s.data.toList.toArray⟩ : ByteArray) = s := by cases s; simp

set_option maxHeartbeats 2000000 in
theorem readIndex_any (s : ByteArray) (w : World) (hE : PEnv w) (hs : s.size ≤ 2500) :
    Calls Tryd.prog 28 #[.string s] w fun e w' => e = .returned (.tuple #[.int .i64 ((indexR s.data.toList).getD 0), .bool (indexR s.data.toList).isSome]) ∧ Below w.heap.size w w' := by
  obtain ⟨hm, ⟨e1, h1, k1⟩, ⟨e2, h2, k2⟩, ht⟩ := hE
  obtain ⟨D, hD⟩ : ∃ D : List UInt8, Lib.trimSuffix s.data.toList [93] = D := ⟨_, rfl⟩
  obtain ⟨C, hC⟩ : ∃ C, Lib.hasSuffix s.data.toList [93] = C := ⟨_, rfl⟩
  have HIR : Hid (indexR s.data.toList = match Lib.atoiAll D with | .ok n => if C = true ∧ n ≠ 0 ∧ Lib.itoa n = D then some n else none | _ => none) := by
    show _ = _
    unfold indexR
    rw [hD, hC]
    cases Lib.atoiAll D <;> rfl
  have hDl : D.length ≤ 2500 := by
    rw [← hD]
    unfold Lib.trimSuffix
    have : s.data.toList.length = s.size := by rw [Array.length_toList]; rfl
    split
    · rw [List.length_take]; omega
    · omega
  have hDs : (⟨D.toArray⟩ : ByteArray).size ≤ 2500 := by show D.toArray.size ≤ 2500; simpa using hDl
  have HCS : Hid _ := Tryd.strings_CutSuffix s ⟨#[93]⟩ w (by omega)
  rw [show (⟨#[93]⟩ : ByteArray).data.toList = [93] from rfl, hD, hC] at HCS
  have hDd : (⟨D.toArray⟩ : ByteArray).data.toList = D := by simp
  have HIT : Hid (∀ n : Int, -9223372036854775808 ≤ n → n ≤ 9223372036854775807 → ∀ W, Below w.heap.size w W → Calls Tryd.prog 42 #[.int .i64 n] W fun e w' => e = .returned (.string ⟨(Lib.itoa n).toArray⟩) ∧ Below w.heap.size w w') := by
    intro n g0 g1 W hW
    refine (Tryd.strconv_Itoa n g0 g1 W (tabIs_below ht hW)).mono ?_
    rintro e w' ⟨rfl, k, os, rfl⟩
    exact ⟨rfl, hW.trans ((Lib.below_grow _ W (Nat.le_refl _) k os).mono hW.size)⟩
  cases hat : Lib.atoiAll D with
  | ok n =>
    obtain ⟨n0, n1⟩ := Lib.atoiAll_bounds hat
    have HA : Hid (Calls Tryd.prog 41 #[.string ⟨D.toArray⟩] w fun e w' => e = .returned (.tuple #[.int .i64 n, .nilIface]) ∧ Below w.heap.size w w') := by
      refine (Tryd.strconv_Atoi_ok ⟨D.toArray⟩ (by omega) n (by rw [hDd]; exact hat) w).mono ?_
      rintro e w' ⟨rfl, hw⟩
      rcases hw with rfl | ⟨t, rfl⟩
      · exact ⟨rfl, Below.refl _ _⟩
      · exact ⟨rfl, Lib.bytesWorld_below _ _ _⟩
    have HI2 : Hid (∀ W, Below w.heap.size w W → Calls Tryd.prog 42 #[.int .i64 n] W fun e w' => e = .returned (.string ⟨(Lib.itoa n).toArray⟩) ∧ Below w.heap.size w w') := HIT.out n n0 n1
    rw [hat] at HIR
    have HIR2 : Hid (indexR s.data.toList = if C = true ∧ n ≠ 0 ∧ Lib.itoa n = D then some n else none) := HIR.out
    clear HIR hat hD hC hm h1 k1 h2 k2 ht hDl hDs hDd HIT hs
    cases C with
    | false =>
      have HE : Hid (indexR s.data.toList = none) := by show _ = _; rw [HIR2.out]; simp
      clear HIR2
      go_enter Tryd.func28, Tryd.ntmps28
      go_wp2_with fail
      refine (Calls.mono HCS.out ?_)
      rintro e w1 ⟨rfl, rfl⟩
      go_wp2_with fail
      refine (Calls.mono HA.out ?_)
      rintro e w2 ⟨rfl, hb2⟩
      go_wp2_with fail
      go_ret2
      exact ⟨by rw [HE.out]; rfl, hb2⟩
    | true =>
      by_cases hn : n = 0
      · have HE : Hid (indexR s.data.toList = none) := by show _ = _; rw [HIR2.out]; simp [hn]
        clear HIR2
        go_enter Tryd.func28, Tryd.ntmps28
        go_wp2_with fail
        refine (Calls.mono HCS.out ?_)
        rintro e w1 ⟨rfl, rfl⟩
        go_wp2_with fail
        refine (Calls.mono HA.out ?_)
        rintro e w2 ⟨rfl, hb2⟩
        go_wp2_with fail
        go_ret2
        exact ⟨by rw [HE.out]; rfl, hb2⟩
      · by_cases hi : Lib.itoa n = D
        · have HE : Hid (indexR s.data.toList = some n) := by show _ = _; rw [HIR2.out]; simp [hn, hi]
          rw [hi] at HI2
          clear HIR2 hi
          go_enter Tryd.func28, Tryd.ntmps28
          go_wp2_with fail
          refine (Calls.mono HCS.out ?_)
          rintro e w1 ⟨rfl, rfl⟩
          go_wp2_with fail
          refine (Calls.mono HA.out ?_)
          rintro e w2 ⟨rfl, hb2⟩
          go_wp2_with fail
          refine (Calls.mono (HI2.out _ hb2) ?_)
          rintro e w3 ⟨rfl, hb3⟩
          go_wp2_with fail
          go_ret2
          exact ⟨by rw [HE.out]; rfl, hb3⟩
        · have HE : Hid (indexR s.data.toList = none) := by show _ = _; rw [HIR2.out]; simp [hi]
          obtain ⟨I, hI⟩ : ∃ I, Lib.itoa n = I := ⟨_, rfl⟩
          rw [hI] at HI2 hi
          have hid : (I == D) = false := by simpa using hi
          clear HIR2 hI
          go_enter Tryd.func28, Tryd.ntmps28
          go_wp2_with fail
          refine (Calls.mono HCS.out ?_)
          rintro e w1 ⟨rfl, rfl⟩
          go_wp2_with fail
          refine (Calls.mono HA.out ?_)
          rintro e w2 ⟨rfl, hb2⟩
          go_wp2_with fail
          refine (Calls.mono (HI2.out _ hb2) ?_)
          rintro e w3 ⟨rfl, hb3⟩
          go_wp2_with fail
          go_ret2
          exact ⟨by rw [HE.out]; rfl, hb3⟩
  | «syntax» =>
    have HA : Hid (Calls Tryd.prog 41 #[.string ⟨D.toArray⟩] w fun e w' => ∃ N, e = .returned (.tuple #[.int .i64 0, .iface 101 (.pointer (some ⟨N, 0, none⟩))]) ∧ Below w.heap.size w w') := by
      refine (Tryd.strconv_Atoi_syntax ⟨D.toArray⟩ (by omega) (by rw [hDd]; exact hat) e1 w h1 k1).mono ?_
      rintro e w' ⟨N, rfl, _, _, hb⟩
      exact ⟨N, rfl, hb⟩
    have HE : Hid (indexR s.data.toList = none) := by show _ = _; rw [HIR.out, hat]
    clear HIR hat hD hC hm h1 k1 h2 k2 ht hDl hDs hDd HIT hs
    cases C <;>
    · go_enter Tryd.func28, Tryd.ntmps28
      go_wp2_with fail
      refine (Calls.mono HCS.out ?_)
      rintro e w1 ⟨rfl, rfl⟩
      go_wp2_with fail
      refine (Calls.mono HA.out ?_)
      rintro e w2 ⟨N, rfl, hb2⟩
      go_wp2_with fail
      go_ret2
      exact ⟨by rw [HE.out]; rfl, hb2⟩
  | range =>
    have HA : Hid (Calls Tryd.prog 41 #[.string ⟨D.toArray⟩] w fun e w' => ∃ N, e = .returned (.tuple #[.int .i64 (Lib.atoiSat D), .iface 101 (.pointer (some ⟨N, 0, none⟩))]) ∧ Below w.heap.size w w') := by
      refine (Tryd.strconv_Atoi_range ⟨D.toArray⟩ (by omega) (by rw [hDd]; exact hat) e2 w h2 k2).mono ?_
      rintro e w' ⟨N, rfl, _, _, hb⟩
      rw [hDd]
      exact ⟨N, rfl, hb⟩
    have HE : Hid (indexR s.data.toList = none) := by show _ = _; rw [HIR.out, hat]
    clear HIR hat hD hC hm h1 k1 h2 k2 ht hDl hDs hDd HIT hs
    cases C <;>
    · go_enter Tryd.func28, Tryd.ntmps28
      go_wp2_with fail
      refine (Calls.mono HCS.out ?_)
      rintro e w1 ⟨rfl, rfl⟩
      go_wp2_with fail
      refine (Calls.mono HA.out ?_)
      rintro e w2 ⟨N, rfl, hb2⟩
      go_wp2_with fail
      go_ret2
      exact ⟨by rw [HE.out]; rfl, hb2⟩

theorem cut_len {p : List UInt8} {A B : List UInt8} {F : Bool} (h : Lib.cut p [91] = (A, B, F)) : A.length ≤ p.length ∧ B.length ≤ p.length := by
  rcases cut_cases 91 p with ⟨_, hc⟩ | ⟨a, b, rfl, _, hc⟩
  · rw [h] at hc
    simp only [Prod.mk.injEq] at hc
    rw [hc.1, hc.2.1]
    simp
  · rw [h] at hc
    simp only [Prod.mk.injEq] at hc
    rw [hc.1, hc.2.1]
    simp
    omega

theorem drewN_below (w : World) (n : Nat) : Below w.heap.size w (w.drewN n) := by
  induction n with
  | zero => exact Below.refl _ _
  | succ n ih => exact ih.drew

set_option maxHeartbeats 2000000 in
theorem readStep_any (s : ByteArray) (w : World) (hE : PEnv w) (hs : s.size ≤ 2500) :
    Calls Tryd.prog 17 #[.string s] w fun e w' => ∃ nm n, e = .returned (.tuple #[.agg #[.string nm, .int .i64 n], .bool (stepR s.data.toList).isSome]) ∧ (∀ st, stepR s.data.toList = some st → nm = ⟨st.1.toArray⟩ ∧ n = st.2) ∧ Below w.heap.size w w' := by
  have hb1 := Below.alloc1 w (.cells #[.string ⟨#[]⟩, .int .i64 0] 41)
  have hx1 := heap_alloc_new w (.cells #[.string ⟨#[]⟩, .int .i64 0] 41)
  obtain ⟨m, hm⟩ := (hE.later hb1).max
  obtain ⟨A, B, F, hcut⟩ : ∃ A B F, Lib.cut s.data.toList [91] = (A, B, F) := ⟨_, _, _, rfl⟩
  have hlen : s.data.toList.length = s.size := by rw [Array.length_toList]; rfl
  have hAB := cut_len hcut
  have HC : Hid _ := Tryd.strings_Cut s ⟨#[91]⟩ m _ (by omega) hm
  rw [show (⟨#[91]⟩ : ByteArray).data.toList = [91] from rfl, hcut] at HC
  have HS : Hid (stepR s.data.toList = if A = [] then none else if F = false then some (if A = [35] then [] else A, 0) else (indexR B).map fun n => (if A = [35] then [] else A, n)) := by
    show _ = _
    unfold stepR
    rw [hcut]
  have hBs : (⟨B.toArray⟩ : ByteArray).size ≤ 2500 := by show B.toArray.size ≤ 2500; simp; omega
  have hBd : (⟨B.toArray⟩ : ByteArray).data.toList = B := by simp
  have HRI : Hid (∀ W, Below w.heap.size w W → Calls Tryd.prog 28 #[.string ⟨B.toArray⟩] W fun e w' => e = .returned (.tuple #[.int .i64 ((indexR B).getD 0), .bool (indexR B).isSome]) ∧ Below W.heap.size W w') := by
    intro W hW
    have := readIndex_any ⟨B.toArray⟩ W (hE.later hW) hBs
    rw [hBd] at this
    exact this
  have hAl : ∀ c : List UInt8, (⟨A.toArray⟩ : ByteArray).toList = c ↔ A = c := by
    intro c; rw [ByteArray.toList_eq]
  clear hE hm hs hlen hAB hBs hBd hcut
  by_cases hA : A = []
  · have HE : Hid (stepR s.data.toList = none) := by show _ = _; rw [HS.out, if_pos hA]
    clear HS HRI hAl
    subst hA
    go_enter Tryd.func17, Tryd.ntmps17
    go_wp2_with fail
    refine (Calls.mono HC.out ?_)
    rintro e w2 ⟨rfl, k, rfl⟩
    have hb2 := drewN_below (w.alloc (.cells #[.string ⟨#[]⟩, .int .i64 0] 41)) k
    generalize (w.alloc (.cells #[.string ⟨#[]⟩, .int .i64 0] 41)).drewN k = w2 at *
    have hx2 := (hb2.block _ (blk_lt hx1)).trans hx1
    have hB2 : Below w.heap.size w w2 := hb1.trans (hb2.mono hb1.size)
    have p0 : w2.cell? ⟨w.heap.size, 0, none⟩ = some (.string ⟨#[]⟩) := by rw [Lib.cell_of_heap hx2]; rfl
    have p1 : w2.cell? ⟨w.heap.size, 1, none⟩ = some (.int .i64 0) := by rw [Lib.cell_of_heap hx2]; rfl
    have f0 : w2.frozen? ⟨w.heap.size, 0, none⟩ = false := Lib.frozen_of_heap hx2 0
    have f1 : w2.frozen? ⟨w.heap.size, 1, none⟩ = false := Lib.frozen_of_heap hx2 1
    clear hb1 hx1 hb2 HC
    clear hx2
    go_wp2_with fail
    refine bodyPost_ret (v := .tuple #[.agg #[.string ⟨#[]⟩, .int .i64 0], .bool false]) (by simp [results, Tryd.results17, go_sem, cell_set, p0, p1, World.cell?_setCell_other]) rfl ?_
    refine ⟨⟨#[]⟩, 0, by rw [HE.out]; rfl, (by intro st h; rw [HE.out] at h; cases h), ?_⟩
    exact (hB2.setCell (p := ⟨w.heap.size, 0, none⟩) (Nat.le_refl _) _).setCell (p := ⟨w.heap.size, 1, none⟩) (Nat.le_refl _) _
  · obtain ⟨nm, hnm⟩ : ∃ nm, (if A = [35] then [] else A) = nm := ⟨_, rfl⟩
    cases F with
    | false =>
      have HE : Hid (stepR s.data.toList = some (nm, 0)) := by show _ = _; rw [HS.out, if_neg hA, if_pos rfl, hnm]
      clear HS HRI
      by_cases h35 : A = [35]
      · have hN : nm = [] := by rw [← hnm, if_pos h35]
        clear hnm hA hAl
        subst h35 hN
        go_enter Tryd.func17, Tryd.ntmps17
        go_wp2_with fail
        refine (Calls.mono HC.out ?_)
        rintro e w2 ⟨rfl, k, rfl⟩
        have hb2 := drewN_below (w.alloc (.cells #[.string ⟨#[]⟩, .int .i64 0] 41)) k
        generalize (w.alloc (.cells #[.string ⟨#[]⟩, .int .i64 0] 41)).drewN k = w2 at *
        have hx2 := (hb2.block _ (blk_lt hx1)).trans hx1
        have hB2 : Below w.heap.size w w2 := hb1.trans (hb2.mono hb1.size)
        have p0 : w2.cell? ⟨w.heap.size, 0, none⟩ = some (.string ⟨#[]⟩) := by rw [Lib.cell_of_heap hx2]; rfl
        have p1 : w2.cell? ⟨w.heap.size, 1, none⟩ = some (.int .i64 0) := by rw [Lib.cell_of_heap hx2]; rfl
        have f0 : w2.frozen? ⟨w.heap.size, 0, none⟩ = false := Lib.frozen_of_heap hx2 0
        have f1 : w2.frozen? ⟨w.heap.size, 1, none⟩ = false := Lib.frozen_of_heap hx2 1
        clear hb1 hx1 hb2 HC
        clear hx2
        go_wp2_with fail
        refine bodyPost_ret (v := .tuple #[.agg #[.string ⟨#[]⟩, .int .i64 0], .bool true]) (by simp [results, Tryd.results17, go_sem, cell_set, p0, p1, World.cell?_setCell_other]) rfl ?_
        refine ⟨⟨#[]⟩, 0, by rw [HE.out]; rfl, (by intro st h; rw [HE.out] at h; cases h; exact ⟨rfl, rfl⟩), ?_⟩
        exact (hB2.setCell (p := ⟨w.heap.size, 0, none⟩) (Nat.le_refl _) _).setCell (p := ⟨w.heap.size, 1, none⟩) (Nat.le_refl _) _
      · have h351 : (A == [35]) = false := by simpa using h35
        have hAe : A.isEmpty = false := by simpa using hA
        have hN : nm = A := by rw [← hnm, if_neg h35]
        clear hnm hAl
        subst hN
        go_enter Tryd.func17, Tryd.ntmps17
        go_wp2_with fail
        refine (Calls.mono HC.out ?_)
        rintro e w2 ⟨rfl, k, rfl⟩
        have hb2 := drewN_below (w.alloc (.cells #[.string ⟨#[]⟩, .int .i64 0] 41)) k
        generalize (w.alloc (.cells #[.string ⟨#[]⟩, .int .i64 0] 41)).drewN k = w2 at *
        have hx2 := (hb2.block _ (blk_lt hx1)).trans hx1
        have hB2 : Below w.heap.size w w2 := hb1.trans (hb2.mono hb1.size)
        have p0 : w2.cell? ⟨w.heap.size, 0, none⟩ = some (.string ⟨#[]⟩) := by rw [Lib.cell_of_heap hx2]; rfl
        have p1 : w2.cell? ⟨w.heap.size, 1, none⟩ = some (.int .i64 0) := by rw [Lib.cell_of_heap hx2]; rfl
        have f0 : w2.frozen? ⟨w.heap.size, 0, none⟩ = false := Lib.frozen_of_heap hx2 0
        have f1 : w2.frozen? ⟨w.heap.size, 1, none⟩ = false := Lib.frozen_of_heap hx2 1
        clear hb1 hx1 hb2 HC
        clear hx2
        go_wp2_with fail
        refine bodyPost_ret (v := .tuple #[.agg #[.string ⟨nm.toArray⟩, .int .i64 0], .bool true]) (by simp [results, Tryd.results17, go_sem, cell_set, p0, p1, World.cell?_setCell_other]) rfl ?_
        refine ⟨⟨nm.toArray⟩, 0, by rw [HE.out]; rfl, (by intro st h; rw [HE.out] at h; cases h; exact ⟨rfl, rfl⟩), ?_⟩
        exact (hB2.setCell (p := ⟨w.heap.size, 0, none⟩) (Nat.le_refl _) _).setCell (p := ⟨w.heap.size, 1, none⟩) (Nat.le_refl _) _
    | true =>
      have HE : Hid (stepR s.data.toList = (indexR B).map fun n => (nm, n)) := by show _ = _; rw [HS.out, if_neg hA, if_neg (by simp), hnm]
      obtain ⟨q, hq⟩ : ∃ q, indexR B = q := ⟨_, rfl⟩
      rw [hq] at HE HRI
      have HE2 : Hid ((stepR s.data.toList).isSome = q.isSome ∧ ∀ st, stepR s.data.toList = some st → nm = st.1 ∧ q.getD 0 = st.2) := by
        refine ⟨by rw [HE.out]; cases q <;> rfl, fun st h => ?_⟩
        rw [HE.out] at h
        cases q with
        | none => cases h
        | some n => cases h; exact ⟨rfl, rfl⟩
      obtain ⟨n, hn⟩ : ∃ n, q.getD 0 = n := ⟨_, rfl⟩
      obtain ⟨t, ht⟩ : ∃ t, q.isSome = t := ⟨_, rfl⟩
      rw [hn, ht] at HRI HE2
      clear HS HE hq hn ht
      by_cases h35 : A = [35]
      · have hN : nm = [] := by rw [← hnm, if_pos h35]
        clear hnm hA hAl
        subst h35 hN
        go_enter Tryd.func17, Tryd.ntmps17
        go_wp2_with fail
        refine (Calls.mono HC.out ?_)
        rintro e w2 ⟨rfl, k, rfl⟩
        have hb2 := drewN_below (w.alloc (.cells #[.string ⟨#[]⟩, .int .i64 0] 41)) k
        generalize (w.alloc (.cells #[.string ⟨#[]⟩, .int .i64 0] 41)).drewN k = w2 at *
        have hx2 := (hb2.block _ (blk_lt hx1)).trans hx1
        have hB2 : Below w.heap.size w w2 := hb1.trans (hb2.mono hb1.size)
        have p0 : w2.cell? ⟨w.heap.size, 0, none⟩ = some (.string ⟨#[]⟩) := by rw [Lib.cell_of_heap hx2]; rfl
        have p1 : w2.cell? ⟨w.heap.size, 1, none⟩ = some (.int .i64 0) := by rw [Lib.cell_of_heap hx2]; rfl
        have f0 : w2.frozen? ⟨w.heap.size, 0, none⟩ = false := Lib.frozen_of_heap hx2 0
        have f1 : w2.frozen? ⟨w.heap.size, 1, none⟩ = false := Lib.frozen_of_heap hx2 1
        clear hb1 hx1 hb2 HC
        go_wp2_with fail
        refine (Calls.mono (HRI.out _ hB2) ?_)
        rintro e w3 ⟨rfl, hb3⟩
        have hx3 := (hb3.block _ (blk_lt hx2)).trans hx2
        have hB3 : Below w.heap.size w w3 := hB2.trans (hb3.mono hB2.size)
        clear p0 p1 f0 f1
        have p0 : w3.cell? ⟨w.heap.size, 0, none⟩ = some (.string ⟨#[]⟩) := by rw [Lib.cell_of_heap hx3]; rfl
        have p1 : w3.cell? ⟨w.heap.size, 1, none⟩ = some (.int .i64 0) := by rw [Lib.cell_of_heap hx3]; rfl
        have f0 : w3.frozen? ⟨w.heap.size, 0, none⟩ = false := Lib.frozen_of_heap hx3 0
        have f1 : w3.frozen? ⟨w.heap.size, 1, none⟩ = false := Lib.frozen_of_heap hx3 1
        clear hx2 hx3 HRI
        go_wp2_with fail
        refine bodyPost_ret (v := .tuple #[.agg #[.string ⟨#[]⟩, .int .i64 n], .bool t]) (by simp [results, Tryd.results17, go_sem, cell_set, p0, p1, World.cell?_setCell_other]) rfl ?_
        refine ⟨⟨#[]⟩, n, by rw [HE2.out.1], (by intro st h; obtain ⟨g1, g2⟩ := HE2.out.2 st h; exact ⟨by rw [← g1], g2⟩), ?_⟩
        exact (hB3.setCell (p := ⟨w.heap.size, 0, none⟩) (Nat.le_refl _) _).setCell (p := ⟨w.heap.size, 1, none⟩) (Nat.le_refl _) _
      · have h351 : (A == [35]) = false := by simpa using h35
        have hAe : A.isEmpty = false := by simpa using hA
        have hN : nm = A := by rw [← hnm, if_neg h35]
        clear hnm hAl
        subst hN
        go_enter Tryd.func17, Tryd.ntmps17
        go_wp2_with fail
        refine (Calls.mono HC.out ?_)
        rintro e w2 ⟨rfl, k, rfl⟩
        have hb2 := drewN_below (w.alloc (.cells #[.string ⟨#[]⟩, .int .i64 0] 41)) k
        generalize (w.alloc (.cells #[.string ⟨#[]⟩, .int .i64 0] 41)).drewN k = w2 at *
        have hx2 := (hb2.block _ (blk_lt hx1)).trans hx1
        have hB2 : Below w.heap.size w w2 := hb1.trans (hb2.mono hb1.size)
        have p0 : w2.cell? ⟨w.heap.size, 0, none⟩ = some (.string ⟨#[]⟩) := by rw [Lib.cell_of_heap hx2]; rfl
        have p1 : w2.cell? ⟨w.heap.size, 1, none⟩ = some (.int .i64 0) := by rw [Lib.cell_of_heap hx2]; rfl
        have f0 : w2.frozen? ⟨w.heap.size, 0, none⟩ = false := Lib.frozen_of_heap hx2 0
        have f1 : w2.frozen? ⟨w.heap.size, 1, none⟩ = false := Lib.frozen_of_heap hx2 1
        clear hb1 hx1 hb2 HC
        go_wp2_with fail
        refine (Calls.mono (HRI.out _ hB2) ?_)
        rintro e w3 ⟨rfl, hb3⟩
        have hx3 := (hb3.block _ (blk_lt hx2)).trans hx2
        have hB3 : Below w.heap.size w w3 := hB2.trans (hb3.mono hB2.size)
        clear p0 p1 f0 f1
        have p0 : w3.cell? ⟨w.heap.size, 0, none⟩ = some (.string ⟨#[]⟩) := by rw [Lib.cell_of_heap hx3]; rfl
        have p1 : w3.cell? ⟨w.heap.size, 1, none⟩ = some (.int .i64 0) := by rw [Lib.cell_of_heap hx3]; rfl
        have f0 : w3.frozen? ⟨w.heap.size, 0, none⟩ = false := Lib.frozen_of_heap hx3 0
        have f1 : w3.frozen? ⟨w.heap.size, 1, none⟩ = false := Lib.frozen_of_heap hx3 1
        clear hx2 hx3 HRI
        go_wp2_with fail
        refine bodyPost_ret (v := .tuple #[.agg #[.string ⟨nm.toArray⟩, .int .i64 n], .bool t]) (by simp [results, Tryd.results17, go_sem, cell_set, p0, p1, World.cell?_setCell_other]) rfl ?_
        refine ⟨⟨nm.toArray⟩, n, by rw [HE2.out.1], (by intro st h; obtain ⟨g1, g2⟩ := HE2.out.2 st h; exact ⟨by rw [← g1], g2⟩), ?_⟩
        exact (hB3.setCell (p := ⟨w.heap.size, 0, none⟩) (Nat.le_refl _) _).setCell (p := ⟨w.heap.size, 1, none⟩) (Nat.le_refl _) _
end Go.Proofs.YtmbmfomeiioijabDoor

/- path.Parse, for every text. Condition: the variables of strconv and bytealg hold what their texts lay. -/
namespace Go.Proofs.YtmbmfomeiioijabDoor
open Go.ChangeShapes Go.WideShapes Go.ChangeAt Go.RowKit
set_option maxRecDepth 100000

attribute [local go_sem] cell_set

def asS (l : List PStep) : List St := l.map fun p => ⟨⟨p.1.toArray⟩, p.2⟩

theorem asS_length (l : List PStep) : (asS l).length = l.length := List.length_map _

theorem nameB_L (l : List UInt8) : nameB ⟨l.toArray⟩ = nameL l := by
  unfold nameB nameL
  have : (⟨l.toArray⟩ : ByteArray).size = l.length := by show l.toArray.size = _; simp
  rw [this]

theorem bytes_inj (a b : List UInt8) : (⟨a.toArray⟩ : ByteArray) = ⟨b.toArray⟩ ↔ a = b := by
  constructor
  · intro h
    have := congrArg (fun x : ByteArray => x.data.toList) h
    simpa using this
  · intro h; rw [h]

theorem stepB_L (p : PStep) : stepB ⟨⟨p.1.toArray⟩, p.2⟩ = stepL p := by
  unfold stepB stepL
  simp only
  rw [nameB_L]
  have e1 : decide ((⟨p.1.toArray⟩ : ByteArray) = ⟨#[]⟩) = decide (p.1 = []) := by
    rw [decide_eq_decide]; exact bytes_inj p.1 []
  have e2 : decide ((⟨p.1.toArray⟩ : ByteArray) = ⟨#[42]⟩) = decide (p.1 = [42]) := by
    rw [decide_eq_decide]; exact bytes_inj p.1 [42]
  rw [e1, e2]

theorem pathB_L (l : List PStep) : pathB (asS l) = pathL l := by
  unfold pathB pathL
  rw [asS_length]
  congr 1
  unfold asS
  rw [List.all_map]
  congr 1
  funext p
  exact stepB_L p

def stepCells : List St → List Value
  | [] => []
  | s :: l => .string s.name :: .int .i64 s.n :: stepCells l

theorem stepCells_length (l : List St) : (stepCells l).length = l.length * 2 := by
  induction l with
  | nil => rfl
  | cons s l ih => simp [stepCells, ih]; omega
theorem stepCells_append (l m : List St) : stepCells (l ++ m) = stepCells l ++ stepCells m := by
  induction l with
  | nil => rfl
  | cons s l ih => simp [stepCells, ih]
theorem stepCells_get (l : List St) : ∀ i s, l[i]? = some s → (stepCells l)[i * 2]? = some (.string s.name) ∧ (stepCells l)[i * 2 + 1]? = some (.int .i64 s.n) := by
  induction l with
  | nil => intro i s h; simp at h
  | cons y l ih =>
    intro i s h
    cases i with
    | zero => simp at h; subst h; simp [stepCells]
    | succ i =>
      have := ih i s (by simpa using h)
      rw [show (i + 1) * 2 = i * 2 + 2 by omega]
      simpa [stepCells] using this

/-- A row of the call's own that holds these steps. -/
def SRow (B : Nat) (w : World) (v : Value) (l : List St) : Prop := w.ownsRow B 41 2 v l.length (stepCells l)

theorem SRow.shape {B : Nat} {w : World} {v : Value} {l : List St} (h : SRow B w v l) : ∃ a c, v = .slice a l.length c ∧ l.length ≤ c ∧ c ≤ maxLen := by
  rcases h.2 with ⟨rfl, h0⟩ | ⟨g, cap, cur, rfl, hg, hh, hc, hm, hs, ht⟩
  · exact ⟨none, 0, by rw [h0], by omega, Nat.zero_le _⟩
  · exact ⟨_, cap, rfl, hc, hm⟩

theorem SRow.steps {B : Nat} {w : World} {v : Value} {l : List St} (h : SRow B w v l) : Steps (fun b => B ≤ b) w v l := by
  rcases h.2 with ⟨rfl, h0⟩ | ⟨g, cap, cur, rfl, hg, hh, hc, hm, hs, ht⟩
  · have : l = [] := List.eq_nil_of_length_eq_zero h0
    subst this
    exact ⟨none, 0, rfl, Nat.le_refl _, Nat.zero_le _, fun h => absurd rfl h⟩
  · refine ⟨_, cap, rfl, hc, hm, fun _ => ⟨g, 0, rfl, hg, fun i x hx => ?_⟩⟩
    have hi := lt_of_some hx
    obtain ⟨g0, g1⟩ := stepCells_get l i x hx
    rw [Nat.zero_add]
    exact ⟨by rw [World.ownsRow.cellAt h (i * 2) (by omega)]; exact g0, by rw [World.ownsRow.cellAt h (i * 2 + 1) (by omega)]; exact g1⟩

theorem SRow.lt {B : Nat} {w : World} {v : Value} {l : List St} (h : SRow B w v l) : ∀ k, v.ownBlock = some k → B ≤ k ∧ k < w.heap.size := fun k hk => World.ownsRow.lt h k hk
theorem SRow.later {B : Nat} {w w' : World} {v : Value} {l : List St} (h : SRow B w v l) (hb : Below w.heap.size w w') : SRow B w' v l := ownsRow_later h hb

theorem stepInfo : (Tryd.prog.info? 41).map (fun i => (i.zero, i.size, i.bytes)) = some (some (.agg #[.string ⟨#[]⟩, .int .i64 0]), 2, 24) := by kernel_rfl

theorem new_two (w : World) (a b : Value) (e : TypeId) : ∀ (j : Nat) (u : Value), ([a, b] : List Value)[j]? = some u → (w.alloc (.cells #[a, b] e)).cell? ((⟨w.heap.size, 0, none⟩ : Addr).add j) = some u := by
  intro j u hj
  match j, hj with
  | 0, hj | 1, hj => simp at hj; subst hj; simp [Addr.add]

theorem stepR_len {p : List UInt8} {st : PStep} (h : stepR p = some st) : st.1.length ≤ p.length := by
  unfold stepR at h
  obtain ⟨A, B, F, hcut⟩ : ∃ A B F, Lib.cut p [91] = (A, B, F) := ⟨_, _, _, rfl⟩
  have := (cut_len hcut).1
  rw [hcut] at h
  simp only at h
  have key : ∀ n, ((if A = [35] then ([] : List UInt8) else A, (n : Int)) : PStep).1.length ≤ p.length := by
    intro n
    simp only
    split
    · simp
    · exact this
  split at h
  · cases h
  · split at h
    · cases h; exact key 0
    · cases hi : indexR B with
      | none => rw [hi] at h; cases h
      | some n => rw [hi] at h; cases h; exact key n

theorem stepsR_none {ps : List (List UInt8)} {k : Nat} {p : List UInt8} (hk : ps[k]? = some p) (h : stepR p = none) : stepsR (ps.drop k) = none := by
  have hl := lt_of_some hk
  have e : ps.drop k = p :: ps.drop (k + 1) := by
    rw [List.drop_eq_getElem_cons hl]; congr 1; simpa [hl] using hk
  rw [e, stepsR, h]
theorem stepsR_some {ps : List (List UInt8)} {k : Nat} {p : List UInt8} {s : PStep} (hk : ps[k]? = some p) (h : stepR p = some s) : stepsR (ps.drop k) = (stepsR (ps.drop (k + 1))).map (fun l => s :: l) := by
  have hl := lt_of_some hk
  have e : ps.drop k = p :: ps.drop (k + 1) := by
    rw [List.drop_eq_getElem_cons hl]; congr 1; simpa [hl] using hk
  rw [e, stepsR, h]
  cases stepsR (ps.drop (k + 1)) <;> rfl

theorem size_len (s : ByteArray) : s.data.toList.length = s.size := by rw [Array.length_toList]; rfl

def parseE (s : ByteArray) : Int := if (parseL s.data.toList).isSome then 0 else 1
def parseV (s : ByteArray) : List St := asS ((parseL s.data.toList).getD [])

theorem le_sum_mem : ∀ {l : List Nat} {x : Nat}, x ∈ l → x ≤ l.sum := by
  intro l
  induction l with
  | nil => intro x h; simp at h
  | cons y l ih =>
    intro x h
    rw [List.mem_cons] at h
    rw [List.sum_cons]
    rcases h with rfl | h
    · omega
    · have := ih h; omega

theorem piece_len {R p : List UInt8} (h : p ∈ Lib.split R [47]) : p.length ≤ R.length := by
  have := (split_join 47 _ R (Nat.le_refl _)).1
  have h2 := congrArg List.length this
  rw [List.length_flatten, List.map_map] at h2
  have h3 : (47 :: p).length ∈ (Lib.split R [47]).map (List.length ∘ fun p => 47 :: p) := List.mem_map.2 ⟨p, h, rfl⟩
  have h4 := le_sum_mem h3
  rw [h2] at h4
  simp at h4
  exact h4

set_option maxHeartbeats 2000000 in
theorem parseP_any (s : ByteArray) (w : World) (hE : PEnv w) (hs : s.size ≤ maxLen) :
    Calls Tryd.prog 7 #[.string s] w fun e w' => ∃ v, e = .returned (.tuple #[v, .int .i64 (parseE s)]) ∧ Steps (fun b => w.heap.size ≤ b) w' v (parseV s) ∧ Below w.heap.size w w' := by
  unfold maxLen at hs
  have HPL : Hid (parseL s.data.toList = if s.data.toList.length ≤ 2500 ∧ Lib.hasPrefix s.data.toList [47] = true then (match stepsR (Lib.split (Lib.trimPrefix s.data.toList [47]) [47]) with | none => none | some l => if pathL l = true then some l else none) else none) := by
    show _ = _
    unfold parseL
    split <;> rename_i h
    · cases stepsR (Lib.split (Lib.trimPrefix s.data.toList [47]) [47]) <;> rfl
    · rfl
  have HNO : Hid (parseL s.data.toList = none → parseE s = 1 ∧ parseV s = []) := by
    intro h
    unfold parseE parseV
    rw [h]
    exact ⟨rfl, rfl⟩
  have hlen := size_len s
  by_cases h25 : 2500 < s.size
  · have HE2 : Hid (parseE s = 1 ∧ parseV s = []) := HNO.out (by rw [HPL.out, if_neg (by rw [hlen]; omega)])
    have h25i : (2500 : Int) < (s.size : Int) := by omega
    clear HPL HNO
    go_enter Tryd.func7, Tryd.ntmps7
    go_wp2_with fail
    go_ret2
    exact ⟨_, by rw [HE2.out.1]; rfl, by rw [HE2.out.2]; exact ⟨none, 0, rfl, Nat.le_refl _, Nat.zero_le _, fun h => absurd rfl h⟩, Below.refl _ _⟩
  · have h25i : ¬ (2500 : Int) < (s.size : Int) := by omega
    obtain ⟨R, hR⟩ : ∃ R, Lib.trimPrefix s.data.toList [47] = R := ⟨_, rfl⟩
    obtain ⟨C, hC⟩ : ∃ C, Lib.hasPrefix s.data.toList [47] = C := ⟨_, rfl⟩
    have HCP : Hid _ := Tryd.strings_CutPrefix s ⟨#[47]⟩ w
    rw [show (⟨#[47]⟩ : ByteArray).data.toList = [47] from rfl, hR, hC] at HCP
    rw [hR, hC, hlen] at HPL
    have hRl : R.length ≤ 2500 := by
      rw [← hR]
      unfold Lib.trimPrefix
      split
      · rw [List.length_drop]; omega
      · omega
    clear hR hC
    cases C with
    | false =>
      have HE2 : Hid (parseE s = 1 ∧ parseV s = []) := HNO.out (by rw [HPL.out, if_neg (by simp)])
      clear HPL HNO
      go_enter Tryd.func7, Tryd.ntmps7
      go_wp2_with fail
      refine (Calls.mono HCP.out ?_)
      rintro e w1 ⟨rfl, rfl⟩
      go_wp2_with fail
      go_ret2
      exact ⟨_, by rw [HE2.out.1]; rfl, by rw [HE2.out.2]; exact ⟨none, 0, rfl, Nat.le_refl _, Nat.zero_le _, fun h => absurd rfl h⟩, Below.refl _ _⟩
    | true =>
      have HP2 : Hid (parseL s.data.toList = match stepsR (Lib.split R [47]) with | none => none | some l => if pathL l = true then some l else none) := by show _ = _; rw [HPL.out, if_pos ⟨by omega, rfl⟩]
      obtain ⟨m, hm⟩ := hE.max
      have hRs : (⟨R.toArray⟩ : ByteArray).size = R.length := by show R.toArray.size = _; simp
      have HSP : Hid _ := Tryd.strings_Split ⟨R.toArray⟩ ⟨#[47]⟩ m w (by omega) hm (by decide)
      obtain ⟨P, hP⟩ : ∃ P, Lib.splitB ⟨#[47]⟩ 0 (Lib.countB ⟨R.toArray⟩ ⟨#[47]⟩) ⟨R.toArray⟩ = P := ⟨_, rfl⟩
      have hPl : P.length = Lib.countB ⟨R.toArray⟩ ⟨#[47]⟩ + 1 := by rw [← hP]; exact Lib.splitB_all ⟨#[47]⟩ (by decide) 0 _ _ rfl
      have hPd : P.map (·.data.toList) = Lib.split R [47] := by
        rw [← hP, Lib.splitB_data]
        unfold Lib.split
        have e1 : (⟨R.toArray⟩ : ByteArray).data.toList = R := by simp
        have e2 : (⟨#[47]⟩ : ByteArray).data.toList = [47] := rfl
        rw [e1, e2]
      have hcl := Lib.countB_le ⟨#[47]⟩ (by decide) _ ⟨R.toArray⟩ (Nat.le_refl _)
      rw [hP, ← hPl] at HSP
      have HEE : Hid (PEnv w) := hE
      have HPD : Hid (P.map (·.data.toList) = Lib.split R [47]) := hPd
      have HPS : Hid (∀ p ∈ P, p.size ≤ 2500) := by
        intro p hp
        have h1 : p.data.toList ∈ Lib.split R [47] := by rw [← hPd]; exact List.mem_map.2 ⟨p, hp, rfl⟩
        have := piece_len h1
        rw [size_len] at this
        omega
      have hPn : P.length ≤ 2501 := by omega
      obtain ⟨i0, hi, hz0, hzz1, hz2⟩ := info_parts stepInfo
      have hb2 := Below.alloc1 w (.cells (P.map Value.string).toArray 9)
      have hx2 := heap_alloc_new w (.cells (P.map Value.string).toArray 9)
      have hz2w : (w.alloc (.cells (P.map Value.string).toArray 9)).heap.size = w.heap.size + 1 := by simp
      clear hE hm hP hPl hPd hcl HPL hRs
      go_enter Tryd.func7, Tryd.ntmps7
      go_wp2_with fail
      refine (Calls.mono HCP.out ?_)
      rintro e w1 ⟨rfl, rfl⟩
      go_wp2_with fail
      refine (Calls.mono HSP.out ?_)
      rintro e w2 ⟨rfl, rfl⟩
      go_wp2_with fail
      generalize w1.alloc (.cells (P.map Value.string).toArray 9) = W2 at *
      have HZ2 : Hid (W2.heap.size = w1.heap.size + 1) := hz2w
      have hle2 : w1.heap.size ≤ W2.heap.size := by omega
      clear hz2w HCP HSP
      go_loopg [24, 6] P.length (fun g j o wr => ∃ (k : Nat) (acc : List PStep), k + g = P.length ∧ j = .int .i64 (k : Int) ∧ acc.length = k ∧ SRow W2.heap.size wr o (asS acc) ∧ Below W2.heap.size W2 wr ∧ stepsR (Lib.split R [47]) = (stepsR ((Lib.split R [47]).drop k)).map (fun l => acc ++ l) ∧ ∀ x ∈ acc, x.1.length ≤ 2500)
      case atStart => exact ⟨0, [], by omega, rfl, rfl, World.ownsRow_nil _ _ _ _, Below.refl _ _, by rw [List.drop_zero]; cases stepsR (Lib.split R [47]) <;> rfl, by simp⟩
      case round =>
        obtain ⟨k, acc, hk, rfl, hal, hSR, hB, hGot, hshort⟩ := hrel
        have hBw : Below w1.heap.size w1 wr := hb2.trans (hB.mono hle2)
        have hxr := (hB.block _ (blk_lt hx2)).trans hx2
        have hszr := hB.size
        obtain ⟨ra, rc, rfl, hrl, hrm⟩ := hSR.shape
        rw [asS_length, hal] at hSR hrl ⊢
        have HSR : Hid (SRow W2.heap.size wr (.slice ra k rc) (asS acc)) := hSR
        have HGot : Hid _ := hGot
        have HSH : Hid (∀ x ∈ acc, x.1.length ≤ 2500) := hshort
        have HAL : Hid (acc.length = k) := hal
        clear hSR hGot hshort hal
        by_cases hkl : k < P.length
        · obtain ⟨p, hp⟩ : ∃ p, P[k]? = some p := ⟨P[k], by simp [hkl]⟩
          have hpL : (Lib.split R [47])[k]? = some p.data.toList := by rw [← HPD.out, List.getElem?_map, hp]; rfl
          have hps := HPS.out p (List.mem_of_getElem? hp)
          have e1 : wr.cell? ⟨w1.heap.size, k, none⟩ = some (.string p) := by
            rw [Lib.cell_of_heap hxr]
            simp [hp]
          have HRS : Hid _ := readStep_any p wr (HEE.out.later hBw) hps
          have hkli : (k : Int) < (P.length : Int) := by omega
          cases hst : stepR p.data.toList with
          | none =>
            rw [hst] at HRS
            have HE2 : Hid (parseE s = 1 ∧ parseV s = []) := HNO.out (by rw [HP2.out, HGot.out, stepsR_none hpL hst]; rfl)
            clear hst hpL hp hxr
            go_wp2_with fail
            refine (Calls.mono HRS.out ?_)
            rintro e w3 ⟨nm, n, rfl, _, hb3⟩
            go_wp2_with fail
            go_ret2
            refine ⟨_, by rw [HE2.out.1]; rfl, by rw [HE2.out.2]; exact ⟨none, 0, rfl, Nat.le_refl _, Nat.zero_le _, fun h => absurd rfl h⟩, ?_⟩
            exact (hBw.trans (hb3.mono hBw.size)).alloc (Nat.le_trans hBw.size hb3.size) _
          | some st =>
            have hsn := stepR_len hst
            rw [size_len] at hsn
            have HG2 : Hid (stepsR (Lib.split R [47]) = (stepsR ((Lib.split R [47]).drop (k + 1))).map (fun l => (acc ++ [st]) ++ l)) := by
              show _ = _
              rw [HGot.out, stepsR_some hpL hst]
              cases stepsR ((Lib.split R [47]).drop (k + 1)) with
              | none => rfl
              | some l => simp
            have HRS2 : Hid (Calls Tryd.prog 17 #[.string p] wr fun e w' => e = .returned (.tuple #[.agg #[.string ⟨st.1.toArray⟩, .int .i64 st.2], .bool true]) ∧ Below wr.heap.size wr w') := by
              refine (Calls.mono HRS.out ?_)
              rintro e w' ⟨nm, n, rfl, h1, hb⟩
              obtain ⟨rfl, rfl⟩ := h1 st hst
              rw [hst]
              exact ⟨rfl, hb⟩
            clear hst hpL hp hxr HRS
            go_wp2_with fail
            refine (Calls.mono HRS2.out ?_)
            rintro e w3 ⟨rfl, hb3⟩
            have hB3 : Below W2.heap.size W2 w3 := hB.trans (hb3.mono hszr)
            have hB4 : Below W2.heap.size W2 (w3.alloc (.cells #[.string ⟨st.1.toArray⟩, .int .i64 st.2] 41)) := hB3.alloc hB3.size _
            have hS4 : SRow W2.heap.size (w3.alloc (.cells #[.string ⟨st.1.toArray⟩, .int .i64 st.2] 41)) (.slice ra k rc) (asS acc) := (HSR.out.later hb3).later (Below.alloc1 _ _)
            have hown4 : (w3.alloc (.cells #[.string ⟨st.1.toArray⟩, .int .i64 st.2] 41)).ownsRow W2.heap.size 41 2 (.slice ra k rc) k (stepCells (asS acc)) := by
              have := hS4
              unfold SRow at this
              rw [asS_length, HAL.out] at this
              exact this
            have hs4 := hB3.size
            go_wp2_with (at_builtin; refine wpList_append_own_at _ rfl _ _ 22 rfl W2.heap.size 41 i0 _ 2 24 Tryd.underlying22 hi hz0 hzz1 hz2 rfl (by decide) _ _ _ rfl (hown4.alloc _) ⟨w3.heap.size + 1, 0, none⟩ 1 1 [.string ⟨st.1.toArray⟩, .int .i64 st.2] ?qc0 ?qc1 ?qc2 ?qc3 ?qc4 ?qc5 ?qc6 ?_)
            case qc0 => first | rfl | simp [go_sem]
            case qc1 => rfl
            case qc2 => have := new_two (w3.alloc (.cells #[.string ⟨st.1.toArray⟩, .int .i64 st.2] 41)) (.string ⟨st.1.toArray⟩) (.int .i64 st.2) 41; rw [World.size_alloc] at this; exact this
            case qc3 => intro z hz; simp at hz; rcases hz with rfl | rfl <;> rfl
            case qc4 => unfold maxLen; omega
            case qc5 => omega
            case qc6 => simp; omega
            intro v' w6 hown6 hgr6 _ _
            obtain ⟨ja, jl, jc, rfl⟩ := row_slice6 hown6
            have hS6 : SRow W2.heap.size w6 (.slice ja jl jc) (asS (acc ++ [st])) := by
              unfold SRow
              rw [show asS (acc ++ [st]) = asS acc ++ [⟨⟨st.1.toArray⟩, st.2⟩] by simp [asS], stepCells_append, List.length_append, asS_length, HAL.out]
              exact hown6
            have hB6 : Below W2.heap.size W2 w6 := (hB4.alloc hB4.size _).grown hgr6 (by simp; omega) (fun z hz => (hS4.lt z hz).1)
            clear hown6 hown4 hS4
            go_wp2_with fail
            go_roundg (P.length - (k + 1))
            case measure => omega
            case rel =>
              refine ⟨k + 1, acc ++ [st], by omega, by go_num, by rw [List.length_append, HAL.out]; rfl, hS6, hB6, HG2.out, fun x hx => ?_⟩
              rw [List.mem_append, List.mem_singleton] at hx
              rcases hx with hx | rfl
              · exact HSH.out x hx
              · omega
        · have hkk : k = P.length := by omega
          have hkli : ¬ ((k : Int) < (P.length : Int)) := by omega
          have HG2 : Hid (stepsR (Lib.split R [47]) = some acc) := by
            show _ = _
            have hdl : (Lib.split R [47]).length ≤ k := by rw [← HPD.out, List.length_map]; omega
            rw [HGot.out, List.drop_of_length_le hdl]
            simp [stepsR]
          have hSt := HSR.out.steps
          clear hkk
          have HPG : Hid _ := goodP_any _ (.slice ra k rc) (asS acc) wr hSt (by
            intro x hx
            obtain ⟨q, hq, rfl⟩ := List.mem_map.1 hx
            have := HSH.out q hq
            show q.1.toArray.size ≤ maxLen
            unfold maxLen
            simp
            omega)
          rw [pathB_L] at HPG
          cases hpl : pathL acc with
          | false =>
            rw [hpl] at HPG
            have HE2 : Hid (parseE s = 1 ∧ parseV s = []) := HNO.out (by rw [HP2.out, HG2.out]; simp [hpl])
            clear hpl
            go_wp2_with fail
            refine (Calls.mono HPG.out ?_)
            rintro e w3 ⟨rfl, hb3⟩
            go_wp2_with fail
            go_ret2
            exact ⟨_, by rw [HE2.out.1]; rfl, by rw [HE2.out.2]; exact ⟨none, 0, rfl, Nat.le_refl _, Nat.zero_le _, fun h => absurd rfl h⟩, hBw.trans (hb3.mono hBw.size)⟩
          | true =>
            rw [hpl] at HPG
            have HE2 : Hid (parseE s = 0 ∧ parseV s = asS acc) := by
              have : parseL s.data.toList = some acc := by rw [HP2.out, HG2.out]; simp [hpl]
              unfold parseE parseV
              rw [this]
              exact ⟨rfl, rfl⟩
            clear hpl
            go_wp2_with fail
            refine (Calls.mono HPG.out ?_)
            rintro e w3 ⟨rfl, hb3⟩
            go_wp2_with fail
            go_ret2
            exact ⟨_, by rw [HE2.out.1]; rfl, by rw [HE2.out.2]; exact (hSt.later hb3).carry fun b hb => ⟨by omega, rfl⟩, hBw.trans (hb3.mono hBw.size)⟩
end Go.Proofs.YtmbmfomeiioijabDoor

/- The closed sentence 'paths' of the package topiarykeep is true. Condition: the variables of strconv and bytealg hold what their texts lay. -/
namespace Go.Proofs.YtmbmfomeiioijabDoor
open Go.ChangeShapes Go.WideShapes Go.ChangeAt Go.RowKit
set_option maxRecDepth 100000

attribute [local go_sem] cell_set

theorem paths_list : parseL [47, 97, 47, 42, 91, 50, 93, 47, 35] = some [([97], 0), ([42], 2), ([], 0)] := by decide +kernel

theorem paths_parse : parseE ⟨#[47, 97, 47, 42, 91, 50, 93, 47, 35]⟩ = 0 ∧ parseV ⟨#[47, 97, 47, 42, 91, 50, 93, 47, 35]⟩ = [⟨⟨#[97]⟩, 0⟩, ⟨⟨#[42]⟩, 2⟩, ⟨⟨#[]⟩, 0⟩] := by
  have e : (⟨#[47, 97, 47, 42, 91, 50, 93, 47, 35]⟩ : ByteArray).data.toList = [47, 97, 47, 42, 91, 50, 93, 47, 35] := rfl
  unfold parseE parseV
  rw [e, paths_list]
  exact ⟨rfl, rfl⟩

theorem pathsK_any (w : World) (hE : PEnv w) : Calls Tryd.prog 12 #[] w fun e w' => e = .returned (.bool true) ∧ Below w.heap.size w w' := by
  have HP : Hid (Calls Tryd.prog 7 #[.string ⟨#[47, 97, 47, 42, 91, 50, 93, 47, 35]⟩] w fun e w' => ∃ v, e = .returned (.tuple #[v, .int .i64 0]) ∧ Steps (fun b => w.heap.size ≤ b) w' v [⟨⟨#[97]⟩, 0⟩, ⟨⟨#[42]⟩, 2⟩, ⟨⟨#[]⟩, 0⟩] ∧ Below w.heap.size w w') := by
    have := parseP_any ⟨#[47, 97, 47, 42, 91, 50, 93, 47, 35]⟩ w hE (by decide)
    rw [paths_parse.1, paths_parse.2] at this
    exact this
  clear hE
  go_enter Tryd.func12, Tryd.ntmps12
  go_wp2_with fail
  refine (Calls.mono HP.out ?_)
  rintro e w2 ⟨v, rfl, hS, hb⟩
  obtain ⟨b, o, cap, rfl, _, _, e0, e1⟩ := hS.at (i := 1) (x := ⟨⟨#[42]⟩, 2⟩) rfl
  obtain ⟨b', o', cap', hv, _, _, g0, g1⟩ := hS.at (i := 2) (x := ⟨⟨#[]⟩, 0⟩) rfl
  injection hv with hv1 _ hv2
  injection hv1 with hv1
  injection hv1 with hv3 hv4
  subst hv3 hv4 hv2
  clear hS HP
  simp only [List.length_cons, List.length_nil, Nat.one_mul] at *
  go_wp2_with fail
  go_ret
  exact ⟨rfl, hb⟩
end Go.Proofs.YtmbmfomeiioijabDoor

/- topiarykeep.PathRises answers true. Condition: texts of a size that can be read; the variables of strconv and bytealg hold what their texts lay. -/
namespace Go.Proofs.YtmbmfomeiioijabDoor
open Go.ChangeShapes Go.WideShapes Go.ChangeAt Go.RowKit
set_option maxRecDepth 100000

attribute [local go_sem] cell_set

theorem dp_pos {ns : List Nd} {m : Nat} (h : m < ns.length) : 1 ≤ dp ns m := by
  unfold dp
  rw [depF, if_pos (by omega)]
  omega

/-- One step up: a node's parent. -/
theorem dp_up {ns : List Nd} (hg : goodD ns = true) {m : Nat} {x : Nd} (hx : ns[m]? = some x) : (x.parent = -1 ∧ dp ns m = 1) ∨ ∃ q : Nat, x.parent = (q : Int) ∧ q < m ∧ dp ns m = dp ns q + 1 := by
  rcases (good_fam hg hx).par with ⟨rfl, hp⟩ | ⟨q, _, _, hp, hq, _⟩
  · exact Or.inl ⟨hp, dp_root hg hx hp⟩
  · exact Or.inr ⟨q, hp, hq, dp_kid hg hx hp hq⟩

theorem selE_cases (ns : List Nd) (l : List St) : (selE ns l = 1 ∧ selD ns l = []) ∨ (selE ns l = 0 ∧ goodD ns = true ∧ pathB l = true ∧ selD ns l = selP ns l) := by
  unfold selE selD
  cases hg : goodD ns with
  | false => exact Or.inl ⟨rfl, rfl⟩
  | true =>
    cases hp : pathB l with
    | false => exact Or.inl ⟨rfl, rfl⟩
    | true => exact Or.inr ⟨rfl, rfl, rfl, rfl⟩

set_option maxHeartbeats 2000000 in
theorem pathRises_any (S : Nat → Prop) (vd vl : Value) (ns : List Nd) (l : List St) (w : World) (hD : DocV S w vd ns) (hL : Steps S w vl l) (hn : NamesIn l) (hE : PEnv w) :
    Calls Tryd.prog 4 #[.agg #[vd], vl] w fun e w' => e = .returned (.bool true) ∧ Below w.heap.size w w' := by
  have hb1 := Below.alloc1 w (.cells #[vd] 31)
  have hx1 := heap_alloc_new w (.cells #[vd] 31)
  have HS : Hid _ := select_any S vd vl ns l _ (hD.later hb1) (hL.later hb1) hn
  have HPA : Hid (∀ W, Below w.heap.size w W → Calls Tryd.prog 12 #[] W fun e w' => e = .returned (.bool true) ∧ Below W.heap.size W w') := fun W h => pathsK_any W (hE.later h)
  have HD : Hid (DocV S w vd ns) := hD
  obtain ⟨na, nc, rfl, hnl, hnm⟩ := hD.nodes.shape
  obtain ⟨la, lc, rfl, hll, hlm⟩ := hL.shape
  unfold maxLen at hnm hlm
  clear hD hL hn hE
  rcases selE_cases ns l with ⟨h1, h2⟩ | ⟨h1, hg, hp, h2⟩
  · rw [h1, h2] at HS
    clear h1 h2
    go_enter Tryd.func4, Tryd.ntmps4
    go_wp2_with fail
    refine (Calls.mono HS.out ?_)
    rintro e w2 ⟨v, rfl, hI, hb2⟩
    have hB2 : Below w.heap.size w w2 := hb1.trans (hb2.mono hb1.size)
    obtain ⟨va, vc, rfl, _, _⟩ := hI.shape
    clear hI HS
    go_wp2_with fail
    refine (Calls.mono (HPA.out _ hB2) ?_)
    rintro e w3 ⟨rfl, hb3⟩
    go_wp2_with fail
    go_ret
    exact ⟨rfl, hB2.trans (hb3.mono hB2.size)⟩
  · rw [h1, h2] at HS
    have hpl := hp
    simp only [pathB, Bool.and_eq_true, decide_eq_true_eq] at hpl
    have HLev : Hid (Lev ns l.length (selP ns l)) := selP_lev hg (by intro e; rw [e] at hpl; simp at hpl)
    have h80 : ns.length ≤ 80 := by
      have := hg
      simp only [goodD, Bool.and_eq_true, decide_eq_true_eq] at this
      exact this.1.1
    have hl5 : l.length ≤ 5 := hpl.1.2
    have HG : Hid (goodD ns = true) := hg
    obtain ⟨X, hX⟩ : ∃ X, selP ns l = X := ⟨_, rfl⟩
    rw [hX] at HS HLev
    have hXl : X.length ≤ 80 := Nat.le_trans (lev_len hg HLev.out) h80
    have HRise : Hid (X.Pairwise (fun u v => u < v)) := HLev.out.rises hg
    clear h1 h2 hp hpl hg hX
    go_enter Tryd.func4, Tryd.ntmps4
    go_wp2_with fail
    refine (Calls.mono HS.out ?_)
    rintro e w2 ⟨v, rfl, hI, hb2⟩
    have hB2 : Below w.heap.size w w2 := hb1.trans (hb2.mono hb1.size)
    have hx2 := (hb2.block _ (blk_lt hx1)).trans hx1
    obtain ⟨va, vc, rfl, hvl, hvm⟩ := hI.shape
    have HI2 : Hid (Ints (fun b => (w.alloc (.cells #[.slice na ns.length nc] 31)).heap.size ≤ b) w2 (.slice va X.length vc) X) := hI
    clear hI HS hb1 hx1 hb2
    go_wp2_with fail
    refine (Calls.mono (HPA.out _ hB2) ?_)
    rintro e w3 ⟨rfl, hb3⟩
    have hB3 : Below w.heap.size w w3 := hB2.trans (hb3.mono hB2.size)
    have hx3 := (hb3.block _ (blk_lt hx2)).trans hx2
    have HI3 : Hid (Ints (fun b => (w.alloc (.cells #[.slice na ns.length nc] 31)).heap.size ≤ b) w3 (.slice va X.length vc) X) := HI2.out.later hb3
    have d3 : w3.cell? ⟨w.heap.size, 0, none⟩ = some (.slice na ns.length nc) := by rw [Lib.cell_of_heap hx3]; rfl
    unfold maxLen at hvm
    clear HI2 hb3 hx2 hB2 HPA hx3
    go_wp2_with fail
    go_loopg [31] X.length (fun g j wr => ∃ (i : Nat), i + g = X.length ∧ j = .int .i64 (i : Int) ∧ wr = w3)
    case atStart => exact ⟨0, by omega, rfl, rfl⟩
    case round =>
      obtain ⟨i, hi, rfl, hwr⟩ := hrel
      subst hwr
      by_cases hil : i < X.length
      · obtain ⟨u, hu⟩ : ∃ u, X[i]? = some u := ⟨X[i], by simp [hil]⟩
        obtain ⟨m, x, rfl, hx, hdp⟩ := HLev.out.mem u (List.mem_of_getElem? hu)
        have hm := lt_of_some hx
        obtain ⟨xb, xo, xc, hxv, _, hxbw, e1⟩ := HI3.out.at hu
        injection hxv with hxa _ hxc
        subst hxa hxc
        have hili : (i : Int) < (X.length : Int) := by omega
        have hm0 : ¬ ((m : Int) < 0) := by omega
        have hmi : ¬ ((ns.length : Int) ≤ (m : Int)) := by omega
        have HDP : Hid (dp ns m = l.length) := hdp
        have HNN := HD.out.nodes.later hB3
        obtain ⟨nb, no, ncap, _, _, hnv, _, _, _, hnb, _⟩ := HNN.at hx
        injection hnv with hna _ hnc
        subst hna hnc
        have HN3 : Hid (Nodes S wr (.slice (some ⟨nb, no, none⟩) ns.length nc) ns) := HNN
        by_cases hi0 : i = 0
        · have hi0i : ¬ ((0 : Int) < (i : Int)) := by omega
          clear hi0 hu hx
          go_wp2_with fail
          go_loopg [10, 9] (m + 1) (fun g k d wz => ∃ (kk : Int) (dd : Nat), (kk + 1).toNat = g ∧ k = .int .i64 kk ∧ d = .int .i64 (dd : Int) ∧ wz = wr ∧ ((kk = -1 ∧ dd = l.length) ∨ ∃ q : Nat, kk = (q : Int) ∧ q < ns.length ∧ dd + dp ns q = l.length))
          case atStart => exact ⟨(m : Int), 0, by omega, rfl, rfl, rfl, Or.inr ⟨m, rfl, hm, by rw [HDP.out]; omega⟩⟩
          case round =>
            obtain ⟨kk, dd, hg, rfl, rfl, hwz, hor⟩ := hrel
            subst hwz
            rcases hor with ⟨rfl, hdl⟩ | ⟨q, rfl, hq, hdq⟩
            · have hdl2 : ((dd : Int) != (l.length : Int)) = false := by simp [hdl]
              clear hdl hg
              go_wp2_with fail
              go_roundg (X.length - (i + 1))
              case measure => omega
              case rel => exact ⟨i + 1, by omega, by go_num, rfl⟩
            · obtain ⟨y, hy⟩ : ∃ y, ns[q]? = some y := ⟨ns[q], by simp [hq]⟩
              obtain ⟨b, o, cap, yva, yvk, hv, _, _, _, hbw, c0, c1, c2, c3, c4, _, _⟩ := HN3.out.at hy
              injection hv with hv1 _ hv2
              injection hv1 with hv1
              injection hv1 with hv3 hv4
              subst hv3 hv4 hv2
              have hup := dp_up HG.out hy
              have hpos := dp_pos hq
              have hq0 : ¬ ((q : Int) < 0) := by omega
              have hq0' : (0 : Int) ≤ (q : Int) := by omega
              have hqi : (q : Int) < (ns.length : Int) := by omega
              have hdd : (dd : Int) + 1 < 9223372036854775808 := by omega
              clear c0 c1 c2 c4 hy
              go_wp2_with fail
              rcases hup with ⟨hpp, hd1⟩ | ⟨q2, hpp, hq2, hd1⟩
              · rw [hpp]
                go_roundg 0
                case measure => omega
                case rel => exact ⟨-1, dd + 1, by omega, rfl, by go_num, rfl, Or.inl ⟨rfl, by omega⟩⟩
              · rw [hpp]
                go_roundg (q2 + 1)
                case measure => omega
                case rel => exact ⟨(q2 : Int), dd + 1, by omega, rfl, by go_num, rfl, Or.inr ⟨q2, rfl, by omega, by omega⟩⟩
        · have hi0i : (0 : Int) < (i : Int) := by omega
          obtain ⟨u0, hu0⟩ : ∃ u, X[i - 1]? = some u := ⟨X[i - 1]'(by omega), by simp⟩
          have hlt0 : u0 < (m : Int) := by
            have h1 := List.pairwise_iff_getElem.1 HRise.out (i - 1) i (by omega) hil (by omega)
            have h2 := hu0
            have h3 := hu
            rw [List.getElem?_eq_getElem (by omega)] at h2 h3
            rw [← Option.some.inj h2, ← Option.some.inj h3]
            exact h1
          obtain ⟨xb2, xo2, xc2, hxv2, _, _, e2⟩ := HI3.out.at hu0
          injection hxv2 with hxa2 _ hxc2
          injection hxa2 with hxa2
          injection hxa2 with hxa3 hxa4
          subst hxa3 hxa4 hxc2
          have hsub : ((i : Int) - 1).toNat = i - 1 := by omega
          have hsub2 : ¬ ((m : Int) ≤ u0) := by omega
          clear hi0 hu hx hu0
          go_wp2_with fail
          go_loopg [10, 9] (m + 1) (fun g k d wz => ∃ (kk : Int) (dd : Nat), (kk + 1).toNat = g ∧ k = .int .i64 kk ∧ d = .int .i64 (dd : Int) ∧ wz = wr ∧ ((kk = -1 ∧ dd = l.length) ∨ ∃ q : Nat, kk = (q : Int) ∧ q < ns.length ∧ dd + dp ns q = l.length))
          case atStart => exact ⟨(m : Int), 0, by omega, rfl, rfl, rfl, Or.inr ⟨m, rfl, hm, by rw [HDP.out]; omega⟩⟩
          case round =>
            obtain ⟨kk, dd, hg, rfl, rfl, hwz, hor⟩ := hrel
            subst hwz
            rcases hor with ⟨rfl, hdl⟩ | ⟨q, rfl, hq, hdq⟩
            · have hdl2 : ((dd : Int) != (l.length : Int)) = false := by simp [hdl]
              clear hdl hg
              go_wp2_with fail
              go_roundg (X.length - (i + 1))
              case measure => omega
              case rel => exact ⟨i + 1, by omega, by go_num, rfl⟩
            · obtain ⟨y, hy⟩ : ∃ y, ns[q]? = some y := ⟨ns[q], by simp [hq]⟩
              obtain ⟨b, o, cap, yva, yvk, hv, _, _, _, hbw, c0, c1, c2, c3, c4, _, _⟩ := HN3.out.at hy
              injection hv with hv1 _ hv2
              injection hv1 with hv1
              injection hv1 with hv3 hv4
              subst hv3 hv4 hv2
              have hup := dp_up HG.out hy
              have hpos := dp_pos hq
              have hq0 : ¬ ((q : Int) < 0) := by omega
              have hq0' : (0 : Int) ≤ (q : Int) := by omega
              have hqi : (q : Int) < (ns.length : Int) := by omega
              have hdd : (dd : Int) + 1 < 9223372036854775808 := by omega
              clear c0 c1 c2 c4 hy
              go_wp2_with fail
              rcases hup with ⟨hpp, hd1⟩ | ⟨q2, hpp, hq2, hd1⟩
              · rw [hpp]
                go_roundg 0
                case measure => omega
                case rel => exact ⟨-1, dd + 1, by omega, rfl, by go_num, rfl, Or.inl ⟨rfl, by omega⟩⟩
              · rw [hpp]
                go_roundg (q2 + 1)
                case measure => omega
                case rel => exact ⟨(q2 : Int), dd + 1, by omega, rfl, by go_num, rfl, Or.inr ⟨q2, rfl, by omega, by omega⟩⟩
      · have hili : ¬ ((i : Int) < (X.length : Int)) := by omega
        go_wp2_with fail
        go_ret
        exact ⟨rfl, hB3⟩
end Go.Proofs.YtmbmfomeiioijabDoor

/- A step of a list written anew. No condition. -/
namespace Go.Proofs.YtmbmfomeiioijabDoor
open Go.ChangeShapes Go.WideShapes Go.ChangeAt Go.RowKit
set_option maxRecDepth 100000

theorem Steps.putN {S : Nat → Prop} {w : World} {b o len cap : Nat} {l : List St} (h : Steps S w (.slice (some ⟨b, o, none⟩) len cap) l) {i : Nat} {s : St} (hs : l[i]? = some s) (n : Int) :
    Steps S (w.setCell ⟨b, o + i * 2 + 1, none⟩ (.int .i64 n)) (.slice (some ⟨b, o, none⟩) len cap) (l.set i ⟨s.name, n⟩) := by
  have hi := lt_of_some hs
  obtain ⟨b', o', cap', hv, hS, hb, e0, e1⟩ := h.at hs
  obtain ⟨a, c, h1, h2, h3, h4⟩ := h
  injection h1 with h1a h1b h1c
  subst h1a h1b h1c
  injection hv with hv1 _ hv2
  injection hv1 with hv1
  injection hv1 with hv3 hv4
  subst hv3 hv4 hv2
  refine ⟨_, cap, by rw [List.length_set], by rw [List.length_set]; exact h2, h3, fun _ => ⟨b, o, rfl, hS, fun j x hx => ?_⟩⟩
  obtain ⟨b2, o2, hab, _, hc⟩ := h4 (by intro e; rw [e] at hi; simp at hi)
  injection hab with hab
  injection hab with hb2 ho2
  subst hb2 ho2
  by_cases hij : i = j
  · subst hij
    rw [List.getElem?_set_self hi] at hx
    have hx := Option.some.inj hx
    subst hx
    refine ⟨?_, cell_set (by rw [e1]; rfl)⟩
    rw [World.cell?_setCell_other _ _ _ _ (by intro e; injection e with _ e; omega)]
    exact e0
  · rw [List.getElem?_set_ne hij] at hx
    obtain ⟨g0, g1⟩ := hc j x hx
    rw [World.cell?_setCell_other _ _ _ _ (by intro e; injection e with _ e; omega), World.cell?_setCell_other _ _ _ _ (by intro e; injection e with _ e; omega)]
    exact ⟨g0, g1⟩

theorem Steps.put {S : Nat → Prop} {w : World} {b o len cap : Nat} {l : List St} (h : Steps S w (.slice (some ⟨b, o, none⟩) len cap) l) {i : Nat} {s : St} (hs : l[i]? = some s) (t : St) :
    Steps S ((w.setCell ⟨b, o + i * 2, none⟩ (.string t.name)).setCell ⟨b, o + i * 2 + 1, none⟩ (.int .i64 t.n)) (.slice (some ⟨b, o, none⟩) len cap) (l.set i t) := by
  have hi := lt_of_some hs
  obtain ⟨b', o', cap', hv, hS, hb, e0, e1⟩ := h.at hs
  obtain ⟨a, c, h1, h2, h3, h4⟩ := h
  injection h1 with h1a h1b h1c
  subst h1a h1b h1c
  injection hv with hv1 _ hv2
  injection hv1 with hv1
  injection hv1 with hv3 hv4
  subst hv3 hv4 hv2
  refine ⟨_, cap, by rw [List.length_set], by rw [List.length_set]; exact h2, h3, fun _ => ⟨b, o, rfl, hS, fun j x hx => ?_⟩⟩
  obtain ⟨b2, o2, hab, _, hc⟩ := h4 (by intro e; rw [e] at hi; simp at hi)
  injection hab with hab
  injection hab with hb2 ho2
  subst hb2 ho2
  have far : ∀ p q : Nat, p ≠ q → (⟨b, p, none⟩ : Addr) ≠ ⟨b, q, none⟩ := by intro p q hpq e; injection e with _ e; exact hpq e
  by_cases hij : i = j
  · subst hij
    rw [List.getElem?_set_self hi] at hx
    have hx := Option.some.inj hx
    subst hx
    refine ⟨?_, cell_set ?_⟩
    · rw [World.cell?_setCell_other _ _ _ _ (far _ _ (by omega))]
      exact cell_set (by rw [e0]; rfl)
    · rw [World.cell?_setCell_other _ _ _ _ (far _ _ (by omega)), e1]; rfl
  · rw [List.getElem?_set_ne hij] at hx
    obtain ⟨g0, g1⟩ := hc j x hx
    rw [World.cell?_setCell_other _ _ _ _ (far _ _ (by omega)), World.cell?_setCell_other _ _ _ _ (far _ _ (by omega)), World.cell?_setCell_other _ _ _ _ (far _ _ (by omega)), World.cell?_setCell_other _ _ _ _ (far _ _ (by omega))]
    exact ⟨g0, g1⟩

/-- A row that is not empty lies in a block of its own. -/
theorem SRow.block {B : Nat} {w : World} {v : Value} {l : List St} (h : SRow B w v l) (hne : l ≠ []) : ∃ g cap, v = .slice (some ⟨g, 0, none⟩) l.length cap ∧ B ≤ g ∧ g < w.heap.size ∧ ∀ k, w.frozen? ⟨g, k, none⟩ = false := by
  rcases h.2 with ⟨_, h0⟩ | ⟨g, cap, cur, rfl, hg, hh, hc, hm, hs, ht⟩
  · exact absurd (List.eq_nil_of_length_eq_zero h0) hne
  · exact ⟨g, cap, rfl, hg, blk_lt hh, fun k => Lib.frozen_of_heap hh k⟩
end Go.Proofs.YtmbmfomeiioijabDoor

/- topiarykeep.PathAll answers true. Condition: texts of a size that can be read; the variables of strconv and bytealg hold what their texts lay. -/
namespace Go.Proofs.YtmbmfomeiioijabDoor
open Go.ChangeShapes Go.WideShapes Go.ChangeAt Go.RowKit
set_option maxRecDepth 100000

attribute [local go_sem] cell_set

theorem stars_path {D : Nat} (h1 : 1 ≤ D) (h5 : D ≤ 5) : pathB (List.replicate D starS) = true := by
  unfold pathB
  rw [List.length_replicate]
  have : (List.replicate D starS).all stepB = true := by
    rw [List.all_eq_true]
    intro x hx
    rw [(List.mem_replicate.1 hx).2]
    decide
  rw [this]
  simp [h1, h5]

theorem texts_path {m : Nat} (h5 : m + 1 ≤ 5) : pathB (List.replicate m starS ++ [textS]) = true := by
  unfold pathB
  have : (List.replicate m starS ++ [textS]).all stepB = true := by
    rw [List.all_eq_true]
    intro x hx
    rw [List.mem_append, List.mem_singleton] at hx
    rcases hx with hx | rfl
    · rw [(List.mem_replicate.1 hx).2]; decide
    · decide
  rw [this]
  simp
  omega

theorem stars_names (D : Nat) : NamesIn (List.replicate D starS) := by
  intro x hx
  rw [(List.mem_replicate.1 hx).2]
  show 1 ≤ maxLen
  unfold maxLen
  omega
theorem texts_names (m : Nat) : NamesIn (List.replicate m starS ++ [textS]) := by
  intro x hx
  rw [List.mem_append, List.mem_singleton] at hx
  rcases hx with hx | rfl
  · exact stars_names m x hx
  · exact Nat.zero_le _

theorem stars_set (m : Nat) : (List.replicate (m + 1) starS).set m textS = List.replicate m starS ++ [textS] := by
  rw [List.replicate_succ', List.set_append_right _ _ (by simp)]
  simp

theorem dp_le {ns : List Nd} (hg : goodD ns = true) : ∀ k, dp ns k ≤ k + 1 := by
  intro k
  induction k using Nat.strongRecOn with
  | ind k ih =>
    by_cases hk : k < ns.length
    · obtain ⟨x, hx⟩ : ∃ x, ns[k]? = some x := ⟨ns[k], by simp [hk]⟩
      rcases dp_up hg hx with ⟨_, h⟩ | ⟨q, _, hq, h⟩
      · omega
      · have := ih q hq; omega
    · unfold dp; rw [depF, if_neg (by omega)]; omega

theorem allAt_le (ns : List Nd) (d : Nat) (tx : Bool) : ∀ k, (allAt ns d tx k).length ≤ k := by
  intro k
  induction k with
  | zero => exact Nat.le_refl _
  | succ k ih =>
    rw [allAt, List.length_append]
    split <;> simp <;> omega

theorem allAt_len {ns : List Nd} {d k : Nat} {tx : Bool} {x : Nd} (hx : ns[k]? = some x) : (allAt ns d tx (k + 1)).length = (allAt ns d tx k).length + (if dp ns k = d ∧ x.text = tx then 1 else 0) := by
  rw [allAt, List.length_append, hx]
  by_cases h : dp ns k = d ∧ x.text = tx
  · rw [if_pos ⟨h.1, by simp [h.2]⟩, if_pos h]; rfl
  · rw [if_neg (fun h' => h ⟨h'.1, by simpa using h'.2⟩), if_neg h]; rfl

set_option maxHeartbeats 4000000 in
theorem pathAll_any (S : Nat → Prop) (vd : Value) (ns : List Nd) (deep : Int) (w : World) (hD : DocV S w vd ns) (hE : PEnv w) :
    Calls Tryd.prog 6 #[.agg #[vd], .int .i64 deep] w fun e w' => e = .returned (.bool true) ∧ Below w.heap.size w w' := by
  have hb1 := Below.alloc1 w (.cells #[vd] 31)
  have hx1 := heap_alloc_new w (.cells #[vd] 31)
  have HG : Hid _ := (hD.later hb1).good
  have HPA : Hid (∀ W, Below w.heap.size w W → Calls Tryd.prog 12 #[] W fun e w' => e = .returned (.bool true) ∧ Below W.heap.size W w') := fun W h => pathsK_any W (hE.later h)
  have HD : Hid (DocV S w vd ns) := hD
  have HPK : Hid (∀ W, Calls Tryd.prog 13 #[.int .i64 deep, .int .i64 5] W fun e w' => ∃ m : Nat, m < 5 ∧ e = .returned (.int .i64 (m : Int)) ∧ w' = W) := fun W => pick_any deep 5 W (by decide) (by decide)
  obtain ⟨na, nc, rfl, hnl, hnm⟩ := hD.nodes.shape
  unfold maxLen at hnm
  clear hD hE
  go_enter Tryd.func6, Tryd.ntmps6
  go_wp2_with fail
  refine (Calls.mono HG.out ?_)
  rintro e w2 ⟨rfl, hb2⟩
  have hx2 := (hb2.block _ (blk_lt hx1)).trans hx1
  have hB2 : Below w.heap.size w w2 := hb1.trans (hb2.mono hb1.size)
  have hz2 : w.heap.size < w2.heap.size := blk_lt hx2
  clear HG hb1 hx1 hb2
  obtain ⟨q, hq⟩ : ∃ q, goodD ns = q := ⟨_, rfl⟩
  rw [hq]
  cases q with
  | false =>
    clear hq
    go_wp2_with fail
    refine (Calls.mono (HPA.out _ hB2) ?_)
    rintro e w3 ⟨rfl, hb3⟩
    go_wp2_with fail
    go_ret
    exact ⟨rfl, hB2.trans (hb3.mono hB2.size)⟩
  | true =>
    have HGD : Hid (goodD ns = true) := hq
    have h80 : ns.length ≤ 80 := by
      simp only [goodD, Bool.and_eq_true, decide_eq_true_eq] at hq
      exact hq.1.1
    clear hq
    go_wp2_with fail
    refine (Calls.mono (HPK.out _) ?_)
    rintro e w2' ⟨m, hm5, rfl, rfl⟩
    have hmi : (m : Int) < 5 := by omega
    obtain ⟨i0, hi, hz0, hzz1, hzz2⟩ := info_parts stepInfo
    clear HPK
    go_wp2_with fail
    obtain ⟨D, hDm⟩ : ∃ D : Nat, (m : Int) + 1 = (D : Int) := ⟨m + 1, by omega⟩
    rw [hDm]
    have hD1 : 1 ≤ D := by omega
    have hD5 : D ≤ 5 := by omega
    clear hDm hmi hm5
    go_loopg [23, 5] D (fun g j o wr => ∃ (k : Nat), k + g = D ∧ j = .int .i64 (k : Int) ∧ SRow w2'.heap.size wr o (List.replicate k starS) ∧ Below w2'.heap.size w2' wr)
    case atStart => exact ⟨0, by omega, rfl, World.ownsRow_nil _ _ _ _, Below.refl _ _⟩
    case round =>
      obtain ⟨k, hk, rfl, hSR, hB⟩ := hrel
      have hszr := hB.size
      by_cases hkl : k < D
      · obtain ⟨ra, rc, rfl, hrl, hrm⟩ := hSR.shape
        rw [List.length_replicate] at hSR hrl ⊢
        have hkli : (k : Int) < (D : Int) := by omega
        have hown : wr.ownsRow w2'.heap.size 41 2 (.slice ra k rc) k (stepCells (List.replicate k starS)) := by
          have := hSR
          unfold SRow at this
          rw [List.length_replicate] at this
          exact this
        go_wp2_with (at_builtin; refine wpList_append_own_at _ rfl _ _ 22 rfl w2'.heap.size 41 i0 _ 2 24 Tryd.underlying22 hi hz0 hzz1 hzz2 rfl (by decide) _ _ _ rfl (hown.alloc _) ⟨wr.heap.size, 0, none⟩ 1 1 [.string ⟨#[42]⟩, .int .i64 0] ?qc0 ?qc1 ?qc2 ?qc3 ?qc4 ?qc5 ?qc6 ?_)
        case qc0 => rfl
        case qc1 => rfl
        case qc2 => exact new_two _ _ _ _
        case qc3 => intro z hz; simp at hz; rcases hz with rfl | rfl <;> rfl
        case qc4 => unfold maxLen; omega
        case qc5 => omega
        case qc6 => simp; omega
        intro v' w6 hown6 hgr6 _ _
        obtain ⟨ja, jl, jc, rfl⟩ := row_slice6 hown6
        have hS6 : SRow w2'.heap.size w6 (.slice ja jl jc) (List.replicate (k + 1) starS) := by
          unfold SRow
          rw [List.replicate_succ', stepCells_append, List.length_append, List.length_replicate]
          exact hown6
        have hB6 : Below w2'.heap.size w2' w6 := (hB.alloc hszr _).grown hgr6 (by simp; omega) (fun z hz => (hSR.lt z hz).1)
        clear hown6 hown hSR
        go_wp2_with fail
        go_roundg (D - (k + 1))
        case measure => omega
        case rel => exact ⟨k + 1, by omega, by go_num, hS6, hB6⟩
      · have hkk : D = k := by omega
        subst hkk
        have hkli : ¬ ((D : Int) < (D : Int)) := by omega
        have HDm : Hid (D - 1 + 1 = D) := Nat.sub_add_cancel hD1
        rename World => w4
        have hB4 : Below w.heap.size w w4 := hB2.trans (hB.mono hB2.size)
        have hx4 := (hB.block _ (blk_lt hx2)).trans hx2
        obtain ⟨g, cap, rfl, hg1, hg2, hfz⟩ := hSR.block (by simp; omega)
        have hSt := hSR.steps
        have HST : Hid (Steps (fun b => w2'.heap.size ≤ b) w4 (.slice (some ⟨g, 0, none⟩) (List.replicate D starS).length cap) (List.replicate D starS)) := hSt
        have HS1 : Hid (Calls Tryd.prog 11 #[.agg #[.slice na ns.length nc], .slice (some ⟨g, 0, none⟩) (List.replicate D starS).length cap] w4 fun e w' => ∃ v, e = .returned (.tuple #[v, .int .i64 0]) ∧ Ints (fun b => w4.heap.size ≤ b) w' v (allAt ns D false ns.length) ∧ Below w4.heap.size w4 w') := by
          have := select_any (fun b => S b ∨ (w2'.heap.size ≤ b ∧ b < w4.heap.size)) _ _ ns (List.replicate D starS) w4 ⟨(HD.out.later hB4).nodes.carry fun b hb => ⟨Or.inl hb, rfl⟩, fun b hb => by
            rcases hb with hb | hb
            · exact Nat.lt_of_lt_of_le (HD.out.here b hb) hB4.size
            · exact hb.2, HD.out.few, HD.out.short⟩ (hSt.bounded.carry fun b hb => ⟨Or.inr hb, rfl⟩) (stars_names _)
          rw [show selE ns (List.replicate D starS) = 0 by unfold selE; rw [HGD.out, stars_path (by omega) (by omega)]; rfl, show selD ns (List.replicate D starS) = allAt ns D false ns.length by unfold selD; rw [HGD.out, stars_path (by omega) (by omega)]; have := sel_stars HGD.out (D - 1); rw [HDm.out] at this; exact this] at this
          exact this
        rw [List.length_replicate] at HS1 HST ⊢
        have d4 : w4.cell? ⟨w.heap.size, 0, none⟩ = some (.slice na ns.length nc) := by rw [Lib.cell_of_heap hx4]; rfl
        have hl0 := allAt_le ns D false ns.length
        have hl1 := allAt_le ns D true ns.length
        clear hSt hSR
        go_wp2_with fail
        refine (Calls.mono HS1.out ?_)
        rintro e w5 ⟨v5, rfl, hI5, hb5⟩
        have hx5 := (hb5.block _ (blk_lt hx4)).trans hx4
        have hB5 : Below w.heap.size w w5 := hB4.trans (hb5.mono hB4.size)
        obtain ⟨xa, xc, rfl, _, _⟩ := hI5.shape
        obtain ⟨X, hX⟩ : ∃ X, (allAt ns D false ns.length).length = X := ⟨_, rfl⟩
        have HX : Hid ((allAt ns D false ns.length).length = X) := hX
        rw [hX] at hl0 ⊢
        clear hX hI5 HS1
        have hS5 := HST.out.later hb5
        obtain ⟨_, _, _, hv5, _, _, s0, s1⟩ := hS5.at (i := D - 1) (x := starS) (by rw [List.getElem?_replicate, if_pos (by omega)])
        injection hv5 with hv5a hv5l hv5c
        clear hv5l
        injection hv5a with hv5a
        injection hv5a with hv5b hv5d
        subst hv5b hv5c hv5d
        have hfz0 : w5.frozen? ⟨g, (D - 1) * 2, none⟩ = false := by rw [World.frozen?_of_block (a := ⟨g, (D - 1) * 2, none⟩) (hb5.block g hg2)]; exact hfz _
        have hfz1 : w5.frozen? ⟨g, (D - 1) * 2 + 1, none⟩ = false := by rw [World.frozen?_of_block (a := ⟨g, (D - 1) * 2 + 1, none⟩) (hb5.block g hg2)]; exact hfz _
        simp only [Nat.zero_add] at s0 s1
        have hSP := hS5.put (i := D - 1) (s := starS) (by rw [List.getElem?_replicate, if_pos (by omega)]) textS
        rw [show (List.replicate D starS).set (D - 1) textS = List.replicate (D - 1) starS ++ [textS] by have := stars_set (D - 1); rw [HDm.out] at this; exact this] at hSP
        simp only [Nat.zero_add] at hSP
        have hsub : ((D : Int) - 1).toNat = D - 1 := by omega
        have hD0 : (0 : Int) ≤ (D : Int) - 1 := by omega
        have hB6 : Below w.heap.size w ((w5.setCell ⟨g, (D - 1) * 2, none⟩ (.string ⟨#[]⟩)).setCell ⟨g, (D - 1) * 2 + 1, none⟩ (.int .i64 0)) := (hB5.setCell (p := ⟨g, (D - 1) * 2, none⟩) (by show w.heap.size ≤ g; omega) _).setCell (p := ⟨g, (D - 1) * 2 + 1, none⟩) (by show w.heap.size ≤ g; omega) _
        have hgx : w.heap.size ≠ g := by omega
        have hx6 : ((w5.setCell ⟨g, (D - 1) * 2, none⟩ (.string ⟨#[]⟩)).setCell ⟨g, (D - 1) * 2 + 1, none⟩ (.int .i64 0)).heap[w.heap.size]? = some (.cells #[.slice na ns.length nc] 31 (0, 0)) := by
          rw [blk_set_ne hgx, blk_set_ne hgx]; exact hx5
        have hz6 : ((w5.setCell ⟨g, (D - 1) * 2, none⟩ (.string ⟨#[]⟩)).setCell ⟨g, (D - 1) * 2 + 1, none⟩ (.int .i64 0)).heap.size = w5.heap.size := by simp
        have HS2 : Hid (Calls Tryd.prog 11 #[.agg #[.slice na ns.length nc], .slice (some ⟨g, 0, none⟩) D cap] ((w5.setCell ⟨g, (D - 1) * 2, none⟩ (.string ⟨#[]⟩)).setCell ⟨g, (D - 1) * 2 + 1, none⟩ (.int .i64 0)) fun e w' => ∃ v, e = .returned (.tuple #[v, .int .i64 0]) ∧ Ints (fun b => w5.heap.size ≤ b) w' v (allAt ns D true ns.length) ∧ Below w5.heap.size ((w5.setCell ⟨g, (D - 1) * 2, none⟩ (.string ⟨#[]⟩)).setCell ⟨g, (D - 1) * 2 + 1, none⟩ (.int .i64 0)) w') := by
          have h5 := hb5.size
          have := select_any (fun b => S b ∨ (w2'.heap.size ≤ b ∧ b < w5.heap.size)) _ _ ns (List.replicate (D - 1) starS ++ [textS]) _ ⟨(HD.out.later hB6).nodes.carry fun b hb => ⟨Or.inl hb, rfl⟩, fun b hb => by
            rw [hz6]
            rcases hb with hb | hb
            · exact Nat.lt_of_lt_of_le (HD.out.here b hb) hB5.size
            · exact hb.2, HD.out.few, HD.out.short⟩ (hSP.bounded.carry fun b hb => ⟨Or.inr ⟨hb.1, by have := hb.2; simp at this; exact this⟩, rfl⟩) (texts_names _)
          rw [hz6, show selE ns (List.replicate (D - 1) starS ++ [textS]) = 0 by unfold selE; rw [HGD.out, texts_path (by omega)]; rfl, show selD ns (List.replicate (D - 1) starS ++ [textS]) = allAt ns D true ns.length by unfold selD; rw [HGD.out, texts_path (by omega)]; have := sel_texts HGD.out (D - 1); rw [HDm.out] at this; exact this] at this
          exact this
        have HB6 : Hid _ := hB6
        have HX6 : Hid _ := hx6
        have HZ6 : Hid _ := hz6
        have d5 : w5.cell? ⟨w.heap.size, 0, none⟩ = some (.slice na ns.length nc) := by rw [Lib.cell_of_heap hx5]; rfl
        have d6 : ((w5.setCell ⟨g, (D - 1) * 2, none⟩ (.string ⟨#[]⟩)).setCell ⟨g, (D - 1) * 2 + 1, none⟩ (.int .i64 0)).cell? ⟨w.heap.size, 0, none⟩ = some (.slice na ns.length nc) := by rw [Lib.cell_of_heap hx6]; rfl
        clear hS5 hSP hB6 hx6 hx5 hx4 hx2 hz6 hfz hi hz0 hzz1 hzz2
        go_wp2_with fail
        refine (Calls.mono HS2.out ?_)
        rintro e w7 ⟨v7, rfl, hI7, hb7⟩
        have hx7 := (hb7.block _ (by have := hB5.size; have := hB2.size; have := hb5.size; omega)).trans HX6.out
        have hB7 : Below w.heap.size w w7 := HB6.out.trans (hb7.mono hB5.size)
        obtain ⟨ya, yc, rfl, _, _⟩ := hI7.shape
        obtain ⟨Y, hY⟩ : ∃ Y, (allAt ns D true ns.length).length = Y := ⟨_, rfl⟩
        have HY : Hid ((allAt ns D true ns.length).length = Y) := hY
        rw [hY] at hl1 ⊢
        have d7 : w7.cell? ⟨w.heap.size, 0, none⟩ = some (.slice na ns.length nc) := by rw [Lib.cell_of_heap hx7]; rfl
        have HNN := HD.out.nodes.later hB7
        obtain ⟨x0, hx0, _⟩ := good_first HGD.out
        obtain ⟨nb, no, ncap, _, _, hnv, _, _, _, hnb, _⟩ := HNN.at hx0
        injection hnv with hna _ hnc
        subst hna hnc
        have HN3 : Hid (Nodes S w7 (.slice (some ⟨nb, no, none⟩) ns.length nc) ns) := HNN
        clear hY hI7 HS2 d4 d5 d6 HX6 HB6 s0 s1 hfz0 hfz1 hx0 hx7 HNN
        go_wp2_with fail
        go_loopg [50, 10, 11] ns.length (fun g k a b wr => ∃ kk : Nat, kk + g = ns.length ∧ k = .int .i64 (kk : Int) ∧ a = .int .i64 ((allAt ns D false kk).length : Int) ∧ b = .int .i64 ((allAt ns D true kk).length : Int) ∧ wr = w7)
        case atStart => exact ⟨0, by omega, rfl, rfl, rfl, rfl⟩
        case round =>
          obtain ⟨k, hk, rfl, rfl, rfl, hwr⟩ := hrel
          subst hwr
          by_cases hkn : k < ns.length
          · obtain ⟨x, hx⟩ : ∃ x, ns[k]? = some x := ⟨ns[k], by simp [hkn]⟩
            obtain ⟨b, o, cap3, xva, xvk, hv, _, _, _, _, c0, _, _, _, _, _, _⟩ := HN3.out.at hx
            injection hv with hv1 _ hv2
            injection hv1 with hv1
            injection hv1 with hv3 hv4
            subst hv3 hv4 hv2
            have hkni : (k : Int) < (ns.length : Int) := by omega
            have hl0 := allAt_le ns D false k
            have hl1 := allAt_le ns D true k
            go_wp2_with fail
            go_loopg [14, 13] (k + 1) (fun g p a wz => ∃ (kk : Int) (dd : Nat), (kk + 1).toNat = g ∧ p = .int .i64 kk ∧ a = .int .i64 (dd : Int) ∧ wz = wr ∧ ((kk = -1 ∧ dd = dp ns k) ∨ ∃ q : Nat, kk = (q : Int) ∧ q < ns.length ∧ dd + dp ns q = dp ns k))
            case atStart => exact ⟨(k : Int), 0, by omega, rfl, rfl, rfl, Or.inr ⟨k, rfl, hkn, by omega⟩⟩
            case round =>
              obtain ⟨kk, dd, hg, rfl, rfl, hwz, hor⟩ := hrel
              subst hwz
              rcases hor with ⟨rfl, hdl⟩ | ⟨q, rfl, hq, hdq⟩
              · clear hg
                subst hdl
                by_cases hdm : dp ns k = D
                · have hdmb : ((dp ns k : Int) == (D : Int)) = true := by simp; omega
                  cases htx : x.text with
                  | true =>
                    rw [htx] at c0
                    have HN0 : Hid ((allAt ns (D) false (k + 1)).length = (allAt ns (D) false k).length) := by show _ = _; rw [allAt_len hx, if_neg (by rw [htx]; simp)]; rfl
                    have HN1 : Hid ((allAt ns (D) true (k + 1)).length = (allAt ns (D) true k).length + 1) := by show _ = _; rw [allAt_len hx, if_pos ⟨hdm, htx⟩]
                    obtain ⟨n0, hn0⟩ : ∃ n0, (allAt ns (D) false k).length = n0 := ⟨_, rfl⟩
                    obtain ⟨n1, hn1⟩ : ∃ n1, (allAt ns (D) true k).length = n1 := ⟨_, rfl⟩
                    rw [hn0] at HN0 hl0 ⊢
                    rw [hn1] at HN1 hl1 ⊢
                    clear hdm htx hx hn0 hn1
                    go_wp2_with fail
                    go_roundg (ns.length - (k + 1))
                    case measure => omega
                    case rel => exact ⟨k + 1, by omega, by go_num, by rw [HN0.out], by rw [HN1.out]; go_num, rfl⟩
                  | false =>
                    rw [htx] at c0
                    have HN0 : Hid ((allAt ns (D) false (k + 1)).length = (allAt ns (D) false k).length + 1) := by show _ = _; rw [allAt_len hx, if_pos ⟨hdm, htx⟩]
                    have HN1 : Hid ((allAt ns (D) true (k + 1)).length = (allAt ns (D) true k).length) := by show _ = _; rw [allAt_len hx, if_neg (by rw [htx]; simp)]; rfl
                    obtain ⟨n0, hn0⟩ : ∃ n0, (allAt ns (D) false k).length = n0 := ⟨_, rfl⟩
                    obtain ⟨n1, hn1⟩ : ∃ n1, (allAt ns (D) true k).length = n1 := ⟨_, rfl⟩
                    rw [hn0] at HN0 hl0 ⊢
                    rw [hn1] at HN1 hl1 ⊢
                    clear hdm htx hx hn0 hn1
                    go_wp2_with fail
                    go_roundg (ns.length - (k + 1))
                    case measure => omega
                    case rel => exact ⟨k + 1, by omega, by go_num, by rw [HN0.out]; go_num, by rw [HN1.out], rfl⟩
                · have hdmb : ((dp ns k : Int) == (D : Int)) = false := by simp; omega
                  have HN0 : Hid ((allAt ns (D) false (k + 1)).length = (allAt ns (D) false k).length) := by show _ = _; rw [allAt_len hx, if_neg (fun h => hdm h.1)]; rfl
                  have HN1 : Hid ((allAt ns (D) true (k + 1)).length = (allAt ns (D) true k).length) := by show _ = _; rw [allAt_len hx, if_neg (fun h => hdm h.1)]; rfl
                  clear hdm hx
                  go_wp2_with fail
                  go_roundg (ns.length - (k + 1))
                  case measure => omega
                  case rel => exact ⟨k + 1, by omega, by go_num, by rw [HN0.out], by rw [HN1.out], rfl⟩
              · obtain ⟨y, hy⟩ : ∃ y, ns[q]? = some y := ⟨ns[q], by simp [hq]⟩
                obtain ⟨b, o, cap2, yva, yvk, hv, _, _, _, hbw, _, _, _, d3y, _, _, _⟩ := HN3.out.at hy
                injection hv with hv1 _ hv2
                injection hv1 with hv1
                injection hv1 with hv3 hv4
                subst hv3 hv4 hv2
                have hup := dp_up HGD.out hy
                have hpos := dp_pos hq
                have hdk := dp_pos hkn
                have hq0 : ¬ ((q : Int) < 0) := by omega
                have hq0' : (0 : Int) ≤ (q : Int) := by omega
                have hqi : (q : Int) < (ns.length : Int) := by omega
                have hdpk : dp ns k ≤ k + 1 := dp_le HGD.out k
                have hdd : (dd : Int) + 1 < 9223372036854775808 := by omega
                clear hy c0
                go_wp2_with fail
                rcases hup with ⟨hpp, hd1⟩ | ⟨q2, hpp, hq2, hd1⟩
                · rw [hpp]
                  go_roundg 0
                  case measure => omega
                  case rel => exact ⟨-1, dd + 1, by omega, rfl, by go_num, rfl, Or.inl ⟨rfl, by omega⟩⟩
                · rw [hpp]
                  go_roundg (q2 + 1)
                  case measure => omega
                  case rel => exact ⟨(q2 : Int), dd + 1, by omega, rfl, by go_num, rfl, Or.inr ⟨q2, rfl, by omega, by omega⟩⟩
          · have hkk2 : k = ns.length := by omega
            have hkni : ¬ ((k : Int) < (ns.length : Int)) := by omega
            have hX2 : ((allAt ns D false k).length : Int) = (X : Int) := by rw [hkk2, HX.out]
            have hY2 : ((allAt ns D true k).length : Int) = (Y : Int) := by rw [hkk2, HY.out]
            rw [hX2, hY2]
            clear hX2 hY2 hkk2
            go_wp2_with fail
            refine (Calls.mono (HPA.out _ hB7) ?_)
            rintro e w9 ⟨rfl, hb9⟩
            go_wp2_with fail
            go_ret
            exact ⟨rfl, hB7.trans (hb9.mono hB7.size)⟩
end Go.Proofs.YtmbmfomeiioijabDoor

