/- Bundled: ParseW ParseX PathsK. What each says stands ahead of it. -/
import Derived.Test.YtfghbfocjjmcmabGreatDoorBundle11
import Derived.Test.YtfghbfocjjmcmabGreatDoorBundle22
import Derived.Test.YtfghbfocjjmcmabGreatDoorBundle23
import Derived.Test.YtfghbfocjjmcmabGreatDoorBundle24
import Derived.Test.YtfghbfocjjmcmabGreatDoorBundle25
import Derived.Test.YtfghbfocjjmcmabGreatDoorBundle26
import Derived.Test.YtfghbfocjjmcmabGreatDoorBundle27
import Derived.Lib.AppendIntMem
/- path.readIndex, path.readStep and path.Parse, for every text. Condition: the variables of strconv and bytealg hold what their texts lay. -/
namespace Go.Proofs.YtfghbfocjjmcmabGreatDoor
open Go.ChangeShapes Go.WideShapes Go.ChangeAt Go.RowKit
set_option maxRecDepth 100000

attribute [local go_sem] cell_set

/-- What the variables on the way hold. -/
structure PEnv (w : World) : Prop where
  max : ∃ m, w.cell? ⟨0, 0, none⟩ = some (.int .i64 m)
  syn : ∃ ev, w.cell? ⟨3, 0, none⟩ = some ev ∧ (ev = .nilIface ∨ ∃ te pe, ev = .iface te pe)
  rng : ∃ ev, w.cell? ⟨4, 0, none⟩ = some ev ∧ (ev = .nilIface ∨ ∃ te pe, ev = .iface te pe)
  tab : Lib.TabIs Tryz.prog w "internal/strconv.uint64pow10" .u64 Lib.pow10Tab

theorem tabIs_below {P : Program} {w w' : World} {name : String} {k : IntKind} {zs : List Int} (h : Lib.TabIs P w name k zs) (hb : Below w.heap.size w w') : Lib.TabIs P w' name k zs := by
  unfold Lib.TabIs World.var? at h ⊢
  cases hg : P.globalNamed name with
  | none => simp [hg] at h
  | some g =>
    simp only [hg, Option.bind_some] at h ⊢
    have hlt : g < w.heap.size := by
      rcases Nat.lt_or_ge g w.heap.size with h' | h'
      · exact h'
      · simp [Array.getElem?_eq_none h'] at h
    rw [hb.block g hlt]
    exact h

theorem PEnv.later {w w' : World} (h : PEnv w) (hb : Below w.heap.size w w') : PEnv w' := by
  obtain ⟨⟨m, hm⟩, ⟨e1, h1, k1⟩, ⟨e2, h2, k2⟩, ht⟩ := h
  refine ⟨⟨m, ?_⟩, ⟨e1, ?_, k1⟩, ⟨e2, ?_, k2⟩, tabIs_below ht hb⟩
  · rw [hb.cell (World.block_lt_of_cell? w _ hm)]; exact hm
  · rw [hb.cell (World.block_lt_of_cell? w _ h1)]; exact h1
  · rw [hb.cell (World.block_lt_of_cell? w _ h2)]; exact h2

theorem bytes_back (s : ByteArray) : (⟨s.data.toList.toArray⟩ : ByteArray) = s := by cases s; simp

set_option maxHeartbeats 2000000 in
theorem readIndex_any (s : ByteArray) (w : World) (hE : PEnv w) (hs : s.size ≤ 2500) :
    Calls Tryz.prog 106 #[.string s] w fun e w' => e = .returned (.tuple #[.int .i64 ((indexR s.data.toList).getD 0), .bool (indexR s.data.toList).isSome]) ∧ Below w.heap.size w w' := by
  obtain ⟨hm, ⟨e1, h1, k1⟩, ⟨e2, h2, k2⟩, ht⟩ := hE
  obtain ⟨D, hD⟩ : ∃ D : List UInt8, Lib.trimSuffix s.data.toList [93] = D := ⟨_, rfl⟩
  obtain ⟨C, hC⟩ : ∃ C, Lib.hasSuffix s.data.toList [93] = C := ⟨_, rfl⟩
  have HIR : Hid (indexR s.data.toList = match Lib.atoiAll D with | .ok n => if C = true ∧ n ≠ 0 ∧ Lib.itoa n = D then some n else none | _ => none) := by
    show _ = _
    unfold indexR
    rw [hD, hC]
    cases Lib.atoiAll D <;> rfl
  have hDl : D.length ≤ 2500 := by
    rw [← hD]
    unfold Lib.trimSuffix
    have : s.data.toList.length = s.size := by rw [Array.length_toList]; rfl
    split
    · rw [List.length_take]; omega
    · omega
  have hDs : (⟨D.toArray⟩ : ByteArray).size ≤ 2500 := by show D.toArray.size ≤ 2500; simpa using hDl
  have HCS : Hid _ := Tryz.strings_CutSuffix s ⟨#[93]⟩ w (by omega)
  rw [show (⟨#[93]⟩ : ByteArray).data.toList = [93] from rfl, hD, hC] at HCS
  have hDd : (⟨D.toArray⟩ : ByteArray).data.toList = D := by simp
  have HIT : Hid (∀ n : Int, -9223372036854775808 ≤ n → n ≤ 9223372036854775807 → ∀ W, Below w.heap.size w W → Calls Tryz.prog 134 #[.int .i64 n] W fun e w' => e = .returned (.string ⟨(Lib.itoa n).toArray⟩) ∧ Below w.heap.size w w') := by
    intro n g0 g1 W hW
    refine (Tryz.strconv_Itoa n g0 g1 W (tabIs_below ht hW)).mono ?_
    rintro e w' ⟨rfl, k, os, rfl⟩
    exact ⟨rfl, hW.trans ((Lib.below_grow _ W (Nat.le_refl _) k os).mono hW.size)⟩
  cases hat : Lib.atoiAll D with
  | ok n =>
    obtain ⟨n0, n1⟩ := Lib.atoiAll_bounds hat
    have HA : Hid (Calls Tryz.prog 133 #[.string ⟨D.toArray⟩] w fun e w' => e = .returned (.tuple #[.int .i64 n, .nilIface]) ∧ Below w.heap.size w w') := by
      refine (Tryz.strconv_Atoi_ok ⟨D.toArray⟩ (by omega) n (by rw [hDd]; exact hat) w).mono ?_
      rintro e w' ⟨rfl, hw⟩
      rcases hw with rfl | ⟨t, rfl⟩
      · exact ⟨rfl, Below.refl _ _⟩
      · exact ⟨rfl, Lib.bytesWorld_below _ _ _⟩
    have HI2 : Hid (∀ W, Below w.heap.size w W → Calls Tryz.prog 134 #[.int .i64 n] W fun e w' => e = .returned (.string ⟨(Lib.itoa n).toArray⟩) ∧ Below w.heap.size w w') := HIT.out n n0 n1
    rw [hat] at HIR
    have HIR2 : Hid (indexR s.data.toList = if C = true ∧ n ≠ 0 ∧ Lib.itoa n = D then some n else none) := HIR.out
    clear HIR hat hD hC hm h1 k1 h2 k2 ht hDl hDs hDd HIT hs
    cases C with
    | false =>
      have HE : Hid (indexR s.data.toList = none) := by show _ = _; rw [HIR2.out]; simp
      clear HIR2
      go_enter Tryz.func106, Tryz.ntmps106
      go_wp2_with fail
      refine (Calls.mono HCS.out ?_)
      rintro e w1 ⟨rfl, rfl⟩
      go_wp2_with fail
      refine (Calls.mono HA.out ?_)
      rintro e w2 ⟨rfl, hb2⟩
      go_wp2_with fail
      go_ret2
      exact ⟨by rw [HE.out]; rfl, hb2⟩
    | true =>
      by_cases hn : n = 0
      · have HE : Hid (indexR s.data.toList = none) := by show _ = _; rw [HIR2.out]; simp [hn]
        clear HIR2
        go_enter Tryz.func106, Tryz.ntmps106
        go_wp2_with fail
        refine (Calls.mono HCS.out ?_)
        rintro e w1 ⟨rfl, rfl⟩
        go_wp2_with fail
        refine (Calls.mono HA.out ?_)
        rintro e w2 ⟨rfl, hb2⟩
        go_wp2_with fail
        go_ret2
        exact ⟨by rw [HE.out]; rfl, hb2⟩
      · by_cases hi : Lib.itoa n = D
        · have HE : Hid (indexR s.data.toList = some n) := by show _ = _; rw [HIR2.out]; simp [hn, hi]
          rw [hi] at HI2
          clear HIR2 hi
          go_enter Tryz.func106, Tryz.ntmps106
          go_wp2_with fail
          refine (Calls.mono HCS.out ?_)
          rintro e w1 ⟨rfl, rfl⟩
          go_wp2_with fail
          refine (Calls.mono HA.out ?_)
          rintro e w2 ⟨rfl, hb2⟩
          go_wp2_with fail
          refine (Calls.mono (HI2.out _ hb2) ?_)
          rintro e w3 ⟨rfl, hb3⟩
          go_wp2_with fail
          go_ret2
          exact ⟨by rw [HE.out]; rfl, hb3⟩
        · have HE : Hid (indexR s.data.toList = none) := by show _ = _; rw [HIR2.out]; simp [hi]
          obtain ⟨I, hI⟩ : ∃ I, Lib.itoa n = I := ⟨_, rfl⟩
          rw [hI] at HI2 hi
          have hid : (I == D) = false := by simpa using hi
          clear HIR2 hI
          go_enter Tryz.func106, Tryz.ntmps106
          go_wp2_with fail
          refine (Calls.mono HCS.out ?_)
          rintro e w1 ⟨rfl, rfl⟩
          go_wp2_with fail
          refine (Calls.mono HA.out ?_)
          rintro e w2 ⟨rfl, hb2⟩
          go_wp2_with fail
          refine (Calls.mono (HI2.out _ hb2) ?_)
          rintro e w3 ⟨rfl, hb3⟩
          go_wp2_with fail
          go_ret2
          exact ⟨by rw [HE.out]; rfl, hb3⟩
  | «syntax» =>
    have HA : Hid (Calls Tryz.prog 133 #[.string ⟨D.toArray⟩] w fun e w' => ∃ N, e = .returned (.tuple #[.int .i64 0, .iface 195 (.pointer (some ⟨N, 0, none⟩))]) ∧ Below w.heap.size w w') := by
      refine (Tryz.strconv_Atoi_syntax ⟨D.toArray⟩ (by omega) (by rw [hDd]; exact hat) e1 w h1 k1).mono ?_
      rintro e w' ⟨N, rfl, _, _, hb⟩
      exact ⟨N, rfl, hb⟩
    have HE : Hid (indexR s.data.toList = none) := by show _ = _; rw [HIR.out, hat]
    clear HIR hat hD hC hm h1 k1 h2 k2 ht hDl hDs hDd HIT hs
    cases C <;>
    · go_enter Tryz.func106, Tryz.ntmps106
      go_wp2_with fail
      refine (Calls.mono HCS.out ?_)
      rintro e w1 ⟨rfl, rfl⟩
      go_wp2_with fail
      refine (Calls.mono HA.out ?_)
      rintro e w2 ⟨N, rfl, hb2⟩
      go_wp2_with fail
      go_ret2
      exact ⟨by rw [HE.out]; rfl, hb2⟩
  | range =>
    have HA : Hid (Calls Tryz.prog 133 #[.string ⟨D.toArray⟩] w fun e w' => ∃ N, e = .returned (.tuple #[.int .i64 (Lib.atoiSat D), .iface 195 (.pointer (some ⟨N, 0, none⟩))]) ∧ Below w.heap.size w w') := by
      refine (Tryz.strconv_Atoi_range ⟨D.toArray⟩ (by omega) (by rw [hDd]; exact hat) e2 w h2 k2).mono ?_
      rintro e w' ⟨N, rfl, _, _, hb⟩
      rw [hDd]
      exact ⟨N, rfl, hb⟩
    have HE : Hid (indexR s.data.toList = none) := by show _ = _; rw [HIR.out, hat]
    clear HIR hat hD hC hm h1 k1 h2 k2 ht hDl hDs hDd HIT hs
    cases C <;>
    · go_enter Tryz.func106, Tryz.ntmps106
      go_wp2_with fail
      refine (Calls.mono HCS.out ?_)
      rintro e w1 ⟨rfl, rfl⟩
      go_wp2_with fail
      refine (Calls.mono HA.out ?_)
      rintro e w2 ⟨N, rfl, hb2⟩
      go_wp2_with fail
      go_ret2
      exact ⟨by rw [HE.out]; rfl, hb2⟩

theorem cut_len {p : List UInt8} {A B : List UInt8} {F : Bool} (h : Lib.cut p [91] = (A, B, F)) : A.length ≤ p.length ∧ B.length ≤ p.length := by
  rcases cut_cases 91 p with ⟨_, hc⟩ | ⟨a, b, rfl, _, hc⟩
  · rw [h] at hc
    simp only [Prod.mk.injEq] at hc
    rw [hc.1, hc.2.1]
    simp
  · rw [h] at hc
    simp only [Prod.mk.injEq] at hc
    rw [hc.1, hc.2.1]
    simp
    omega

theorem drewN_below (w : World) (n : Nat) : Below w.heap.size w (w.drewN n) := by
  induction n with
  | zero => exact Below.refl _ _
  | succ n ih => exact ih.drew

set_option maxHeartbeats 2000000 in
theorem readStep_any (s : ByteArray) (w : World) (hE : PEnv w) (hs : s.size ≤ 2500) :
    Calls Tryz.prog 60 #[.string s] w fun e w' => ∃ nm n, e = .returned (.tuple #[.agg #[.string nm, .int .i64 n], .bool (stepR s.data.toList).isSome]) ∧ (∀ st, stepR s.data.toList = some st → nm = ⟨st.1.toArray⟩ ∧ n = st.2) ∧ Below w.heap.size w w' := by
  have hb1 := Below.alloc1 w (.cells #[.string ⟨#[]⟩, .int .i64 0] 53)
  have hx1 := heap_alloc_new w (.cells #[.string ⟨#[]⟩, .int .i64 0] 53)
  obtain ⟨m, hm⟩ := (hE.later hb1).max
  obtain ⟨A, B, F, hcut⟩ : ∃ A B F, Lib.cut s.data.toList [91] = (A, B, F) := ⟨_, _, _, rfl⟩
  have hlen : s.data.toList.length = s.size := by rw [Array.length_toList]; rfl
  have hAB := cut_len hcut
  have HC : Hid _ := Tryz.strings_Cut s ⟨#[91]⟩ m _ (by omega) hm
  rw [show (⟨#[91]⟩ : ByteArray).data.toList = [91] from rfl, hcut] at HC
  have HS : Hid (stepR s.data.toList = if A = [] then none else if F = false then some (if A = [35] then [] else A, 0) else (indexR B).map fun n => (if A = [35] then [] else A, n)) := by
    show _ = _
    unfold stepR
    rw [hcut]
  have hBs : (⟨B.toArray⟩ : ByteArray).size ≤ 2500 := by show B.toArray.size ≤ 2500; simp; omega
  have hBd : (⟨B.toArray⟩ : ByteArray).data.toList = B := by simp
  have HRI : Hid (∀ W, Below w.heap.size w W → Calls Tryz.prog 106 #[.string ⟨B.toArray⟩] W fun e w' => e = .returned (.tuple #[.int .i64 ((indexR B).getD 0), .bool (indexR B).isSome]) ∧ Below W.heap.size W w') := by
    intro W hW
    have := readIndex_any ⟨B.toArray⟩ W (hE.later hW) hBs
    rw [hBd] at this
    exact this
  have hAl : ∀ c : List UInt8, (⟨A.toArray⟩ : ByteArray).toList = c ↔ A = c := by
    intro c; rw [ByteArray.toList_eq]
  clear hE hm hs hlen hAB hBs hBd hcut
  by_cases hA : A = []
  · have HE : Hid (stepR s.data.toList = none) := by show _ = _; rw [HS.out, if_pos hA]
    clear HS HRI hAl
    subst hA
    go_enter Tryz.func60, Tryz.ntmps60
    go_wp2_with fail
    refine (Calls.mono HC.out ?_)
    rintro e w2 ⟨rfl, k, rfl⟩
    have hb2 := drewN_below (w.alloc (.cells #[.string ⟨#[]⟩, .int .i64 0] 53)) k
    generalize (w.alloc (.cells #[.string ⟨#[]⟩, .int .i64 0] 53)).drewN k = w2 at *
    have hx2 := (hb2.block _ (blk_lt hx1)).trans hx1
    have hB2 : Below w.heap.size w w2 := hb1.trans (hb2.mono hb1.size)
    have p0 : w2.cell? ⟨w.heap.size, 0, none⟩ = some (.string ⟨#[]⟩) := by rw [Lib.cell_of_heap hx2]; rfl
    have p1 : w2.cell? ⟨w.heap.size, 1, none⟩ = some (.int .i64 0) := by rw [Lib.cell_of_heap hx2]; rfl
    have f0 : w2.frozen? ⟨w.heap.size, 0, none⟩ = false := Lib.frozen_of_heap hx2 0
    have f1 : w2.frozen? ⟨w.heap.size, 1, none⟩ = false := Lib.frozen_of_heap hx2 1
    clear hb1 hx1 hb2 HC
    clear hx2
    go_wp2_with fail
    refine bodyPost_ret (v := .tuple #[.agg #[.string ⟨#[]⟩, .int .i64 0], .bool false]) (by simp [results, Tryz.results60, go_sem, cell_set, p0, p1, World.cell?_setCell_other]) rfl ?_
    refine ⟨⟨#[]⟩, 0, by rw [HE.out]; rfl, (by intro st h; rw [HE.out] at h; cases h), ?_⟩
    exact (hB2.setCell (p := ⟨w.heap.size, 0, none⟩) (Nat.le_refl _) _).setCell (p := ⟨w.heap.size, 1, none⟩) (Nat.le_refl _) _
  · obtain ⟨nm, hnm⟩ : ∃ nm, (if A = [35] then [] else A) = nm := ⟨_, rfl⟩
    cases F with
    | false =>
      have HE : Hid (stepR s.data.toList = some (nm, 0)) := by show _ = _; rw [HS.out, if_neg hA, if_pos rfl, hnm]
      clear HS HRI
      by_cases h35 : A = [35]
      · have hN : nm = [] := by rw [← hnm, if_pos h35]
        clear hnm hA hAl
        subst h35 hN
        go_enter Tryz.func60, Tryz.ntmps60
        go_wp2_with fail
        refine (Calls.mono HC.out ?_)
        rintro e w2 ⟨rfl, k, rfl⟩
        have hb2 := drewN_below (w.alloc (.cells #[.string ⟨#[]⟩, .int .i64 0] 53)) k
        generalize (w.alloc (.cells #[.string ⟨#[]⟩, .int .i64 0] 53)).drewN k = w2 at *
        have hx2 := (hb2.block _ (blk_lt hx1)).trans hx1
        have hB2 : Below w.heap.size w w2 := hb1.trans (hb2.mono hb1.size)
        have p0 : w2.cell? ⟨w.heap.size, 0, none⟩ = some (.string ⟨#[]⟩) := by rw [Lib.cell_of_heap hx2]; rfl
        have p1 : w2.cell? ⟨w.heap.size, 1, none⟩ = some (.int .i64 0) := by rw [Lib.cell_of_heap hx2]; rfl
        have f0 : w2.frozen? ⟨w.heap.size, 0, none⟩ = false := Lib.frozen_of_heap hx2 0
        have f1 : w2.frozen? ⟨w.heap.size, 1, none⟩ = false := Lib.frozen_of_heap hx2 1
        clear hb1 hx1 hb2 HC
        clear hx2
        go_wp2_with fail
        refine bodyPost_ret (v := .tuple #[.agg #[.string ⟨#[]⟩, .int .i64 0], .bool true]) (by simp [results, Tryz.results60, go_sem, cell_set, p0, p1, World.cell?_setCell_other]) rfl ?_
        refine ⟨⟨#[]⟩, 0, by rw [HE.out]; rfl, (by intro st h; rw [HE.out] at h; cases h; exact ⟨rfl, rfl⟩), ?_⟩
        exact (hB2.setCell (p := ⟨w.heap.size, 0, none⟩) (Nat.le_refl _) _).setCell (p := ⟨w.heap.size, 1, none⟩) (Nat.le_refl _) _
      · have h351 : (A == [35]) = false := by simpa using h35
        have hAe : A.isEmpty = false := by simpa using hA
        have hN : nm = A := by rw [← hnm, if_neg h35]
        clear hnm hAl
        subst hN
        go_enter Tryz.func60, Tryz.ntmps60
        go_wp2_with fail
        refine (Calls.mono HC.out ?_)
        rintro e w2 ⟨rfl, k, rfl⟩
        have hb2 := drewN_below (w.alloc (.cells #[.string ⟨#[]⟩, .int .i64 0] 53)) k
        generalize (w.alloc (.cells #[.string ⟨#[]⟩, .int .i64 0] 53)).drewN k = w2 at *
        have hx2 := (hb2.block _ (blk_lt hx1)).trans hx1
        have hB2 : Below w.heap.size w w2 := hb1.trans (hb2.mono hb1.size)
        have p0 : w2.cell? ⟨w.heap.size, 0, none⟩ = some (.string ⟨#[]⟩) := by rw [Lib.cell_of_heap hx2]; rfl
        have p1 : w2.cell? ⟨w.heap.size, 1, none⟩ = some (.int .i64 0) := by rw [Lib.cell_of_heap hx2]; rfl
        have f0 : w2.frozen? ⟨w.heap.size, 0, none⟩ = false := Lib.frozen_of_heap hx2 0
        have f1 : w2.frozen? ⟨w.heap.size, 1, none⟩ = false := Lib.frozen_of_heap hx2 1
        clear hb1 hx1 hb2 HC
        clear hx2
        go_wp2_with fail
        refine bodyPost_ret (v := .tuple #[.agg #[.string ⟨nm.toArray⟩, .int .i64 0], .bool true]) (by simp [results, Tryz.results60, go_sem, cell_set, p0, p1, World.cell?_setCell_other]) rfl ?_
        refine ⟨⟨nm.toArray⟩, 0, by rw [HE.out]; rfl, (by intro st h; rw [HE.out] at h; cases h; exact ⟨rfl, rfl⟩), ?_⟩
        exact (hB2.setCell (p := ⟨w.heap.size, 0, none⟩) (Nat.le_refl _) _).setCell (p := ⟨w.heap.size, 1, none⟩) (Nat.le_refl _) _
    | true =>
      have HE : Hid (stepR s.data.toList = (indexR B).map fun n => (nm, n)) := by show _ = _; rw [HS.out, if_neg hA, if_neg (by simp), hnm]
      obtain ⟨q, hq⟩ : ∃ q, indexR B = q := ⟨_, rfl⟩
      rw [hq] at HE HRI
      have HE2 : Hid ((stepR s.data.toList).isSome = q.isSome ∧ ∀ st, stepR s.data.toList = some st → nm = st.1 ∧ q.getD 0 = st.2) := by
        refine ⟨by rw [HE.out]; cases q <;> rfl, fun st h => ?_⟩
        rw [HE.out] at h
        cases q with
        | none => cases h
        | some n => cases h; exact ⟨rfl, rfl⟩
      obtain ⟨n, hn⟩ : ∃ n, q.getD 0 = n := ⟨_, rfl⟩
      obtain ⟨t, ht⟩ : ∃ t, q.isSome = t := ⟨_, rfl⟩
      rw [hn, ht] at HRI HE2
      clear HS HE hq hn ht
      by_cases h35 : A = [35]
      · have hN : nm = [] := by rw [← hnm, if_pos h35]
        clear hnm hA hAl
        subst h35 hN
        go_enter Tryz.func60, Tryz.ntmps60
        go_wp2_with fail
        refine (Calls.mono HC.out ?_)
        rintro e w2 ⟨rfl, k, rfl⟩
        have hb2 := drewN_below (w.alloc (.cells #[.string ⟨#[]⟩, .int .i64 0] 53)) k
        generalize (w.alloc (.cells #[.string ⟨#[]⟩, .int .i64 0] 53)).drewN k = w2 at *
        have hx2 := (hb2.block _ (blk_lt hx1)).trans hx1
        have hB2 : Below w.heap.size w w2 := hb1.trans (hb2.mono hb1.size)
        have p0 : w2.cell? ⟨w.heap.size, 0, none⟩ = some (.string ⟨#[]⟩) := by rw [Lib.cell_of_heap hx2]; rfl
        have p1 : w2.cell? ⟨w.heap.size, 1, none⟩ = some (.int .i64 0) := by rw [Lib.cell_of_heap hx2]; rfl
        have f0 : w2.frozen? ⟨w.heap.size, 0, none⟩ = false := Lib.frozen_of_heap hx2 0
        have f1 : w2.frozen? ⟨w.heap.size, 1, none⟩ = false := Lib.frozen_of_heap hx2 1
        clear hb1 hx1 hb2 HC
        go_wp2_with fail
        refine (Calls.mono (HRI.out _ hB2) ?_)
        rintro e w3 ⟨rfl, hb3⟩
        have hx3 := (hb3.block _ (blk_lt hx2)).trans hx2
        have hB3 : Below w.heap.size w w3 := hB2.trans (hb3.mono hB2.size)
        clear p0 p1 f0 f1
        have p0 : w3.cell? ⟨w.heap.size, 0, none⟩ = some (.string ⟨#[]⟩) := by rw [Lib.cell_of_heap hx3]; rfl
        have p1 : w3.cell? ⟨w.heap.size, 1, none⟩ = some (.int .i64 0) := by rw [Lib.cell_of_heap hx3]; rfl
        have f0 : w3.frozen? ⟨w.heap.size, 0, none⟩ = false := Lib.frozen_of_heap hx3 0
        have f1 : w3.frozen? ⟨w.heap.size, 1, none⟩ = false := Lib.frozen_of_heap hx3 1
        clear hx2 hx3 HRI
        go_wp2_with fail
        refine bodyPost_ret (v := .tuple #[.agg #[.string ⟨#[]⟩, .int .i64 n], .bool t]) (by simp [results, Tryz.results60, go_sem, cell_set, p0, p1, World.cell?_setCell_other]) rfl ?_
        refine ⟨⟨#[]⟩, n, by rw [HE2.out.1], (by intro st h; obtain ⟨g1, g2⟩ := HE2.out.2 st h; exact ⟨by rw [← g1], g2⟩), ?_⟩
        exact (hB3.setCell (p := ⟨w.heap.size, 0, none⟩) (Nat.le_refl _) _).setCell (p := ⟨w.heap.size, 1, none⟩) (Nat.le_refl _) _
      · have h351 : (A == [35]) = false := by simpa using h35
        have hAe : A.isEmpty = false := by simpa using hA
        have hN : nm = A := by rw [← hnm, if_neg h35]
        clear hnm hAl
        subst hN
        go_enter Tryz.func60, Tryz.ntmps60
        go_wp2_with fail
        refine (Calls.mono HC.out ?_)
        rintro e w2 ⟨rfl, k, rfl⟩
        have hb2 := drewN_below (w.alloc (.cells #[.string ⟨#[]⟩, .int .i64 0] 53)) k
        generalize (w.alloc (.cells #[.string ⟨#[]⟩, .int .i64 0] 53)).drewN k = w2 at *
        have hx2 := (hb2.block _ (blk_lt hx1)).trans hx1
        have hB2 : Below w.heap.size w w2 := hb1.trans (hb2.mono hb1.size)
        have p0 : w2.cell? ⟨w.heap.size, 0, none⟩ = some (.string ⟨#[]⟩) := by rw [Lib.cell_of_heap hx2]; rfl
        have p1 : w2.cell? ⟨w.heap.size, 1, none⟩ = some (.int .i64 0) := by rw [Lib.cell_of_heap hx2]; rfl
        have f0 : w2.frozen? ⟨w.heap.size, 0, none⟩ = false := Lib.frozen_of_heap hx2 0
        have f1 : w2.frozen? ⟨w.heap.size, 1, none⟩ = false := Lib.frozen_of_heap hx2 1
        clear hb1 hx1 hb2 HC
        go_wp2_with fail
        refine (Calls.mono (HRI.out _ hB2) ?_)
        rintro e w3 ⟨rfl, hb3⟩
        have hx3 := (hb3.block _ (blk_lt hx2)).trans hx2
        have hB3 : Below w.heap.size w w3 := hB2.trans (hb3.mono hB2.size)
        clear p0 p1 f0 f1
        have p0 : w3.cell? ⟨w.heap.size, 0, none⟩ = some (.string ⟨#[]⟩) := by rw [Lib.cell_of_heap hx3]; rfl
        have p1 : w3.cell? ⟨w.heap.size, 1, none⟩ = some (.int .i64 0) := by rw [Lib.cell_of_heap hx3]; rfl
        have f0 : w3.frozen? ⟨w.heap.size, 0, none⟩ = false := Lib.frozen_of_heap hx3 0
        have f1 : w3.frozen? ⟨w.heap.size, 1, none⟩ = false := Lib.frozen_of_heap hx3 1
        clear hx2 hx3 HRI
        go_wp2_with fail
        refine bodyPost_ret (v := .tuple #[.agg #[.string ⟨nm.toArray⟩, .int .i64 n], .bool t]) (by simp [results, Tryz.results60, go_sem, cell_set, p0, p1, World.cell?_setCell_other]) rfl ?_
        refine ⟨⟨nm.toArray⟩, n, by rw [HE2.out.1], (by intro st h; obtain ⟨g1, g2⟩ := HE2.out.2 st h; exact ⟨by rw [← g1], g2⟩), ?_⟩
        exact (hB3.setCell (p := ⟨w.heap.size, 0, none⟩) (Nat.le_refl _) _).setCell (p := ⟨w.heap.size, 1, none⟩) (Nat.le_refl _) _
end Go.Proofs.YtfghbfocjjmcmabGreatDoor

/- path.Parse, for every text. Condition: the variables of strconv and bytealg hold what their texts lay. -/
namespace Go.Proofs.YtfghbfocjjmcmabGreatDoor
open Go.ChangeShapes Go.WideShapes Go.ChangeAt Go.RowKit
set_option maxRecDepth 100000

attribute [local go_sem] cell_set

def asS (l : List PStep) : List St := l.map fun p => ⟨⟨p.1.toArray⟩, p.2⟩

theorem asS_length (l : List PStep) : (asS l).length = l.length := List.length_map _

theorem nameB_L (l : List UInt8) : nameB ⟨l.toArray⟩ = nameL l := by
  unfold nameB nameL
  have : (⟨l.toArray⟩ : ByteArray).size = l.length := by show l.toArray.size = _; simp
  rw [this]

theorem bytes_inj (a b : List UInt8) : (⟨a.toArray⟩ : ByteArray) = ⟨b.toArray⟩ ↔ a = b := by
  constructor
  · intro h
    have := congrArg (fun x : ByteArray => x.data.toList) h
    simpa using this
  · intro h; rw [h]

theorem stepB_L (p : PStep) : stepB ⟨⟨p.1.toArray⟩, p.2⟩ = stepL p := by
  unfold stepB stepL
  simp only
  rw [nameB_L]
  have e1 : decide ((⟨p.1.toArray⟩ : ByteArray) = ⟨#[]⟩) = decide (p.1 = []) := by
    rw [decide_eq_decide]; exact bytes_inj p.1 []
  have e2 : decide ((⟨p.1.toArray⟩ : ByteArray) = ⟨#[42]⟩) = decide (p.1 = [42]) := by
    rw [decide_eq_decide]; exact bytes_inj p.1 [42]
  rw [e1, e2]

theorem pathB_L (l : List PStep) : pathB (asS l) = pathL l := by
  unfold pathB pathL
  rw [asS_length]
  congr 1
  unfold asS
  rw [List.all_map]
  congr 1
  funext p
  exact stepB_L p

def stepCells : List St → List Value
  | [] => []
  | s :: l => .string s.name :: .int .i64 s.n :: stepCells l

theorem stepCells_length (l : List St) : (stepCells l).length = l.length * 2 := by
  induction l with
  | nil => rfl
  | cons s l ih => simp [stepCells, ih]; omega
theorem stepCells_append (l m : List St) : stepCells (l ++ m) = stepCells l ++ stepCells m := by
  induction l with
  | nil => rfl
  | cons s l ih => simp [stepCells, ih]
theorem stepCells_get (l : List St) : ∀ i s, l[i]? = some s → (stepCells l)[i * 2]? = some (.string s.name) ∧ (stepCells l)[i * 2 + 1]? = some (.int .i64 s.n) := by
  induction l with
  | nil => intro i s h; simp at h
  | cons y l ih =>
    intro i s h
    cases i with
    | zero => simp at h; subst h; simp [stepCells]
    | succ i =>
      have := ih i s (by simpa using h)
      rw [show (i + 1) * 2 = i * 2 + 2 by omega]
      simpa [stepCells] using this

/-- A row of the call's own that holds these steps. -/
def SRow (B : Nat) (w : World) (v : Value) (l : List St) : Prop := w.ownsRow B 53 2 v l.length (stepCells l)

theorem SRow.shape {B : Nat} {w : World} {v : Value} {l : List St} (h : SRow B w v l) : ∃ a c, v = .slice a l.length c ∧ l.length ≤ c ∧ c ≤ maxLen := by
  rcases h.2 with ⟨rfl, h0⟩ | ⟨g, cap, cur, rfl, hg, hh, hc, hm, hs, ht⟩
  · exact ⟨none, 0, by rw [h0], by omega, Nat.zero_le _⟩
  · exact ⟨_, cap, rfl, hc, hm⟩

theorem SRow.steps {B : Nat} {w : World} {v : Value} {l : List St} (h : SRow B w v l) : Steps (fun b => B ≤ b) w v l := by
  rcases h.2 with ⟨rfl, h0⟩ | ⟨g, cap, cur, rfl, hg, hh, hc, hm, hs, ht⟩
  · have : l = [] := List.eq_nil_of_length_eq_zero h0
    subst this
    exact ⟨none, 0, rfl, Nat.le_refl _, Nat.zero_le _, fun h => absurd rfl h⟩
  · refine ⟨_, cap, rfl, hc, hm, fun _ => ⟨g, 0, rfl, hg, fun i x hx => ?_⟩⟩
    have hi := lt_of_some hx
    obtain ⟨g0, g1⟩ := stepCells_get l i x hx
    rw [Nat.zero_add]
    exact ⟨by rw [World.ownsRow.cellAt h (i * 2) (by omega)]; exact g0, by rw [World.ownsRow.cellAt h (i * 2 + 1) (by omega)]; exact g1⟩

theorem SRow.lt {B : Nat} {w : World} {v : Value} {l : List St} (h : SRow B w v l) : ∀ k, v.ownBlock = some k → B ≤ k ∧ k < w.heap.size := fun k hk => World.ownsRow.lt h k hk
theorem SRow.later {B : Nat} {w w' : World} {v : Value} {l : List St} (h : SRow B w v l) (hb : Below w.heap.size w w') : SRow B w' v l := ownsRow_later h hb

theorem stepInfo : (Tryz.prog.info? 53).map (fun i => (i.zero, i.size, i.bytes)) = some (some (.agg #[.string ⟨#[]⟩, .int .i64 0]), 2, 24) := by kernel_rfl

theorem new_two (w : World) (a b : Value) (e : TypeId) : ∀ (j : Nat) (u : Value), ([a, b] : List Value)[j]? = some u → (w.alloc (.cells #[a, b] e)).cell? ((⟨w.heap.size, 0, none⟩ : Addr).add j) = some u := by
  intro j u hj
  match j, hj with
  | 0, hj | 1, hj => simp at hj; subst hj; simp [Addr.add]

theorem stepR_len {p : List UInt8} {st : PStep} (h : stepR p = some st) : st.1.length ≤ p.length := by
  unfold stepR at h
  obtain ⟨A, B, F, hcut⟩ : ∃ A B F, Lib.cut p [91] = (A, B, F) := ⟨_, _, _, rfl⟩
  have := (cut_len hcut).1
  rw [hcut] at h
  simp only at h
  have key : ∀ n, ((if A = [35] then ([] : List UInt8) else A, (n : Int)) : PStep).1.length ≤ p.length := by
    intro n
    simp only
    split
    · simp
    · exact this
  split at h
  · cases h
  · split at h
    · cases h; exact key 0
    · cases hi : indexR B with
      | none => rw [hi] at h; cases h
      | some n => rw [hi] at h; cases h; exact key n

theorem stepsR_none {ps : List (List UInt8)} {k : Nat} {p : List UInt8} (hk : ps[k]? = some p) (h : stepR p = none) : stepsR (ps.drop k) = none := by
  have hl := lt_of_some hk
  have e : ps.drop k = p :: ps.drop (k + 1) := by
    rw [List.drop_eq_getElem_cons hl]; congr 1; simpa [hl] using hk
  rw [e, stepsR, h]
theorem stepsR_some {ps : List (List UInt8)} {k : Nat} {p : List UInt8} {s : PStep} (hk : ps[k]? = some p) (h : stepR p = some s) : stepsR (ps.drop k) = (stepsR (ps.drop (k + 1))).map (fun l => s :: l) := by
  have hl := lt_of_some hk
  have e : ps.drop k = p :: ps.drop (k + 1) := by
    rw [List.drop_eq_getElem_cons hl]; congr 1; simpa [hl] using hk
  rw [e, stepsR, h]
  cases stepsR (ps.drop (k + 1)) <;> rfl

theorem size_len (s : ByteArray) : s.data.toList.length = s.size := by rw [Array.length_toList]; rfl

def parseE (s : ByteArray) : Int := if (parseL s.data.toList).isSome then 0 else 1
def parseV (s : ByteArray) : List St := asS ((parseL s.data.toList).getD [])

theorem le_sum_mem : ∀ {l : List Nat} {x : Nat}, x ∈ l → x ≤ l.sum := by
  intro l
  induction l with
  | nil => intro x h; simp at h
  | cons y l ih =>
    intro x h
    rw [List.mem_cons] at h
    rw [List.sum_cons]
    rcases h with rfl | h
    · omega
    · have := ih h; omega

theorem piece_len {R p : List UInt8} (h : p ∈ Lib.split R [47]) : p.length ≤ R.length := by
  have := (split_join 47 _ R (Nat.le_refl _)).1
  have h2 := congrArg List.length this
  rw [List.length_flatten, List.map_map] at h2
  have h3 : (47 :: p).length ∈ (Lib.split R [47]).map (List.length ∘ fun p => 47 :: p) := List.mem_map.2 ⟨p, h, rfl⟩
  have h4 := le_sum_mem h3
  rw [h2] at h4
  simp at h4
  exact h4

set_option maxHeartbeats 2000000 in
theorem parseP_any (s : ByteArray) (w : World) (hE : PEnv w) (hs : s.size ≤ maxLen) :
    Calls Tryz.prog 32 #[.string s] w fun e w' => ∃ v, e = .returned (.tuple #[v, .int .i64 (parseE s)]) ∧ Steps (fun b => w.heap.size ≤ b) w' v (parseV s) ∧ Below w.heap.size w w' := by
  unfold maxLen at hs
  have HPL : Hid (parseL s.data.toList = if s.data.toList.length ≤ 2500 ∧ Lib.hasPrefix s.data.toList [47] = true then (match stepsR (Lib.split (Lib.trimPrefix s.data.toList [47]) [47]) with | none => none | some l => if pathL l = true then some l else none) else none) := by
    show _ = _
    unfold parseL
    split <;> rename_i h
    · cases stepsR (Lib.split (Lib.trimPrefix s.data.toList [47]) [47]) <;> rfl
    · rfl
  have HNO : Hid (parseL s.data.toList = none → parseE s = 1 ∧ parseV s = []) := by
    intro h
    unfold parseE parseV
    rw [h]
    exact ⟨rfl, rfl⟩
  have hlen := size_len s
  by_cases h25 : 2500 < s.size
  · have HE2 : Hid (parseE s = 1 ∧ parseV s = []) := HNO.out (by rw [HPL.out, if_neg (by rw [hlen]; omega)])
    have h25i : (2500 : Int) < (s.size : Int) := by omega
    clear HPL HNO
    go_enter Tryz.func32, Tryz.ntmps32
    go_wp2_with fail
    go_ret2
    exact ⟨_, by rw [HE2.out.1]; rfl, by rw [HE2.out.2]; exact ⟨none, 0, rfl, Nat.le_refl _, Nat.zero_le _, fun h => absurd rfl h⟩, Below.refl _ _⟩
  · have h25i : ¬ (2500 : Int) < (s.size : Int) := by omega
    obtain ⟨R, hR⟩ : ∃ R, Lib.trimPrefix s.data.toList [47] = R := ⟨_, rfl⟩
    obtain ⟨C, hC⟩ : ∃ C, Lib.hasPrefix s.data.toList [47] = C := ⟨_, rfl⟩
    have HCP : Hid _ := Tryz.strings_CutPrefix s ⟨#[47]⟩ w
    rw [show (⟨#[47]⟩ : ByteArray).data.toList = [47] from rfl, hR, hC] at HCP
    rw [hR, hC, hlen] at HPL
    have hRl : R.length ≤ 2500 := by
      rw [← hR]
      unfold Lib.trimPrefix
      split
      · rw [List.length_drop]; omega
      · omega
    clear hR hC
    cases C with
    | false =>
      have HE2 : Hid (parseE s = 1 ∧ parseV s = []) := HNO.out (by rw [HPL.out, if_neg (by simp)])
      clear HPL HNO
      go_enter Tryz.func32, Tryz.ntmps32
      go_wp2_with fail
      refine (Calls.mono HCP.out ?_)
      rintro e w1 ⟨rfl, rfl⟩
      go_wp2_with fail
      go_ret2
      exact ⟨_, by rw [HE2.out.1]; rfl, by rw [HE2.out.2]; exact ⟨none, 0, rfl, Nat.le_refl _, Nat.zero_le _, fun h => absurd rfl h⟩, Below.refl _ _⟩
    | true =>
      have HP2 : Hid (parseL s.data.toList = match stepsR (Lib.split R [47]) with | none => none | some l => if pathL l = true then some l else none) := by show _ = _; rw [HPL.out, if_pos ⟨by omega, rfl⟩]
      obtain ⟨m, hm⟩ := hE.max
      have hRs : (⟨R.toArray⟩ : ByteArray).size = R.length := by show R.toArray.size = _; simp
      have HSP : Hid _ := Tryz.strings_Split ⟨R.toArray⟩ ⟨#[47]⟩ m w (by omega) hm (by decide)
      obtain ⟨P, hP⟩ : ∃ P, Lib.splitB ⟨#[47]⟩ 0 (Lib.countB ⟨R.toArray⟩ ⟨#[47]⟩) ⟨R.toArray⟩ = P := ⟨_, rfl⟩
      have hPl : P.length = Lib.countB ⟨R.toArray⟩ ⟨#[47]⟩ + 1 := by rw [← hP]; exact Lib.splitB_all ⟨#[47]⟩ (by decide) 0 _ _ rfl
      have hPd : P.map (·.data.toList) = Lib.split R [47] := by
        rw [← hP, Lib.splitB_data]
        unfold Lib.split
        have e1 : (⟨R.toArray⟩ : ByteArray).data.toList = R := by simp
        have e2 : (⟨#[47]⟩ : ByteArray).data.toList = [47] := rfl
        rw [e1, e2]
      have hcl := Lib.countB_le ⟨#[47]⟩ (by decide) _ ⟨R.toArray⟩ (Nat.le_refl _)
      rw [hP, ← hPl] at HSP
      have HEE : Hid (PEnv w) := hE
      have HPD : Hid (P.map (·.data.toList) = Lib.split R [47]) := hPd
      have HPS : Hid (∀ p ∈ P, p.size ≤ 2500) := by
        intro p hp
        have h1 : p.data.toList ∈ Lib.split R [47] := by rw [← hPd]; exact List.mem_map.2 ⟨p, hp, rfl⟩
        have := piece_len h1
        rw [size_len] at this
        omega
      have hPn : P.length ≤ 2501 := by omega
      obtain ⟨i0, hi, hz0, hzz1, hz2⟩ := info_parts stepInfo
      have hb2 := Below.alloc1 w (.cells (P.map Value.string).toArray 9)
      have hx2 := heap_alloc_new w (.cells (P.map Value.string).toArray 9)
      have hz2w : (w.alloc (.cells (P.map Value.string).toArray 9)).heap.size = w.heap.size + 1 := by simp
      clear hE hm hP hPl hPd hcl HPL hRs
      go_enter Tryz.func32, Tryz.ntmps32
      go_wp2_with fail
      refine (Calls.mono HCP.out ?_)
      rintro e w1 ⟨rfl, rfl⟩
      go_wp2_with fail
      refine (Calls.mono HSP.out ?_)
      rintro e w2 ⟨rfl, rfl⟩
      go_wp2_with fail
      generalize w1.alloc (.cells (P.map Value.string).toArray 9) = W2 at *
      have HZ2 : Hid (W2.heap.size = w1.heap.size + 1) := hz2w
      have hle2 : w1.heap.size ≤ W2.heap.size := by omega
      clear hz2w HCP HSP
      go_loopg [24, 6] P.length (fun g j o wr => ∃ (k : Nat) (acc : List PStep), k + g = P.length ∧ j = .int .i64 (k : Int) ∧ acc.length = k ∧ SRow W2.heap.size wr o (asS acc) ∧ Below W2.heap.size W2 wr ∧ stepsR (Lib.split R [47]) = (stepsR ((Lib.split R [47]).drop k)).map (fun l => acc ++ l) ∧ ∀ x ∈ acc, x.1.length ≤ 2500)
      case atStart => exact ⟨0, [], by omega, rfl, rfl, World.ownsRow_nil _ _ _ _, Below.refl _ _, by rw [List.drop_zero]; cases stepsR (Lib.split R [47]) <;> rfl, by simp⟩
      case round =>
        obtain ⟨k, acc, hk, rfl, hal, hSR, hB, hGot, hshort⟩ := hrel
        have hBw : Below w1.heap.size w1 wr := hb2.trans (hB.mono hle2)
        have hxr := (hB.block _ (blk_lt hx2)).trans hx2
        have hszr := hB.size
        obtain ⟨ra, rc, rfl, hrl, hrm⟩ := hSR.shape
        rw [asS_length, hal] at hSR hrl ⊢
        have HSR : Hid (SRow W2.heap.size wr (.slice ra k rc) (asS acc)) := hSR
        have HGot : Hid _ := hGot
        have HSH : Hid (∀ x ∈ acc, x.1.length ≤ 2500) := hshort
        have HAL : Hid (acc.length = k) := hal
        clear hSR hGot hshort hal
        by_cases hkl : k < P.length
        · obtain ⟨p, hp⟩ : ∃ p, P[k]? = some p := ⟨P[k], by simp [hkl]⟩
          have hpL : (Lib.split R [47])[k]? = some p.data.toList := by rw [← HPD.out, List.getElem?_map, hp]; rfl
          have hps := HPS.out p (List.mem_of_getElem? hp)
          have e1 : wr.cell? ⟨w1.heap.size, k, none⟩ = some (.string p) := by
            rw [Lib.cell_of_heap hxr]
            simp [hp]
          have HRS : Hid _ := readStep_any p wr (HEE.out.later hBw) hps
          have hkli : (k : Int) < (P.length : Int) := by omega
          cases hst : stepR p.data.toList with
          | none =>
            rw [hst] at HRS
            have HE2 : Hid (parseE s = 1 ∧ parseV s = []) := HNO.out (by rw [HP2.out, HGot.out, stepsR_none hpL hst]; rfl)
            clear hst hpL hp hxr
            go_wp2_with fail
            refine (Calls.mono HRS.out ?_)
            rintro e w3 ⟨nm, n, rfl, _, hb3⟩
            go_wp2_with fail
            go_ret2
            refine ⟨_, by rw [HE2.out.1]; rfl, by rw [HE2.out.2]; exact ⟨none, 0, rfl, Nat.le_refl _, Nat.zero_le _, fun h => absurd rfl h⟩, ?_⟩
            exact (hBw.trans (hb3.mono hBw.size)).alloc (Nat.le_trans hBw.size hb3.size) _
          | some st =>
            have hsn := stepR_len hst
            rw [size_len] at hsn
            have HG2 : Hid (stepsR (Lib.split R [47]) = (stepsR ((Lib.split R [47]).drop (k + 1))).map (fun l => (acc ++ [st]) ++ l)) := by
              show _ = _
              rw [HGot.out, stepsR_some hpL hst]
              cases stepsR ((Lib.split R [47]).drop (k + 1)) with
              | none => rfl
              | some l => simp
            have HRS2 : Hid (Calls Tryz.prog 60 #[.string p] wr fun e w' => e = .returned (.tuple #[.agg #[.string ⟨st.1.toArray⟩, .int .i64 st.2], .bool true]) ∧ Below wr.heap.size wr w') := by
              refine (Calls.mono HRS.out ?_)
              rintro e w' ⟨nm, n, rfl, h1, hb⟩
              obtain ⟨rfl, rfl⟩ := h1 st hst
              rw [hst]
              exact ⟨rfl, hb⟩
            clear hst hpL hp hxr HRS
            go_wp2_with fail
            refine (Calls.mono HRS2.out ?_)
            rintro e w3 ⟨rfl, hb3⟩
            have hB3 : Below W2.heap.size W2 w3 := hB.trans (hb3.mono hszr)
            have hB4 : Below W2.heap.size W2 (w3.alloc (.cells #[.string ⟨st.1.toArray⟩, .int .i64 st.2] 53)) := hB3.alloc hB3.size _
            have hS4 : SRow W2.heap.size (w3.alloc (.cells #[.string ⟨st.1.toArray⟩, .int .i64 st.2] 53)) (.slice ra k rc) (asS acc) := (HSR.out.later hb3).later (Below.alloc1 _ _)
            have hown4 : (w3.alloc (.cells #[.string ⟨st.1.toArray⟩, .int .i64 st.2] 53)).ownsRow W2.heap.size 53 2 (.slice ra k rc) k (stepCells (asS acc)) := by
              have := hS4
              unfold SRow at this
              rw [asS_length, HAL.out] at this
              exact this
            have hs4 := hB3.size
            go_wp2_with (at_builtin; refine wpList_append_own_at _ rfl _ _ 25 rfl W2.heap.size 53 i0 _ 2 24 Tryz.underlying25 hi hz0 hzz1 hz2 rfl (by decide) _ _ _ rfl (hown4.alloc _) ⟨w3.heap.size + 1, 0, none⟩ 1 1 [.string ⟨st.1.toArray⟩, .int .i64 st.2] ?qc0 ?qc1 ?qc2 ?qc3 ?qc4 ?qc5 ?qc6 ?_)
            case qc0 => first | rfl | simp [go_sem]
            case qc1 => rfl
            case qc2 => have := new_two (w3.alloc (.cells #[.string ⟨st.1.toArray⟩, .int .i64 st.2] 53)) (.string ⟨st.1.toArray⟩) (.int .i64 st.2) 53; rw [World.size_alloc] at this; exact this
            case qc3 => intro z hz; simp at hz; rcases hz with rfl | rfl <;> rfl
            case qc4 => unfold maxLen; omega
            case qc5 => omega
            case qc6 => simp; omega
            intro v' w6 hown6 hgr6 _ _
            obtain ⟨ja, jl, jc, rfl⟩ := row_slice6 hown6
            have hS6 : SRow W2.heap.size w6 (.slice ja jl jc) (asS (acc ++ [st])) := by
              unfold SRow
              rw [show asS (acc ++ [st]) = asS acc ++ [⟨⟨st.1.toArray⟩, st.2⟩] by simp [asS], stepCells_append, List.length_append, asS_length, HAL.out]
              exact hown6
            have hB6 : Below W2.heap.size W2 w6 := (hB4.alloc hB4.size _).grown hgr6 (by simp; omega) (fun z hz => (hS4.lt z hz).1)
            clear hown6 hown4 hS4
            go_wp2_with fail
            go_roundg (P.length - (k + 1))
            case measure => omega
            case rel =>
              refine ⟨k + 1, acc ++ [st], by omega, by go_num, by rw [List.length_append, HAL.out]; rfl, hS6, hB6, HG2.out, fun x hx => ?_⟩
              rw [List.mem_append, List.mem_singleton] at hx
              rcases hx with hx | rfl
              · exact HSH.out x hx
              · omega
        · have hkk : k = P.length := by omega
          have hkli : ¬ ((k : Int) < (P.length : Int)) := by omega
          have HG2 : Hid (stepsR (Lib.split R [47]) = some acc) := by
            show _ = _
            have hdl : (Lib.split R [47]).length ≤ k := by rw [← HPD.out, List.length_map]; omega
            rw [HGot.out, List.drop_of_length_le hdl]
            simp [stepsR]
          have hSt := HSR.out.steps
          clear hkk
          have HPG : Hid _ := goodP_any _ (.slice ra k rc) (asS acc) wr hSt (by
            intro x hx
            obtain ⟨q, hq, rfl⟩ := List.mem_map.1 hx
            have := HSH.out q hq
            show q.1.toArray.size ≤ maxLen
            unfold maxLen
            simp
            omega)
          rw [pathB_L] at HPG
          cases hpl : pathL acc with
          | false =>
            rw [hpl] at HPG
            have HE2 : Hid (parseE s = 1 ∧ parseV s = []) := HNO.out (by rw [HP2.out, HG2.out]; simp [hpl])
            clear hpl
            go_wp2_with fail
            refine (Calls.mono HPG.out ?_)
            rintro e w3 ⟨rfl, hb3⟩
            go_wp2_with fail
            go_ret2
            exact ⟨_, by rw [HE2.out.1]; rfl, by rw [HE2.out.2]; exact ⟨none, 0, rfl, Nat.le_refl _, Nat.zero_le _, fun h => absurd rfl h⟩, hBw.trans (hb3.mono hBw.size)⟩
          | true =>
            rw [hpl] at HPG
            have HE2 : Hid (parseE s = 0 ∧ parseV s = asS acc) := by
              have : parseL s.data.toList = some acc := by rw [HP2.out, HG2.out]; simp [hpl]
              unfold parseE parseV
              rw [this]
              exact ⟨rfl, rfl⟩
            clear hpl
            go_wp2_with fail
            refine (Calls.mono HPG.out ?_)
            rintro e w3 ⟨rfl, hb3⟩
            go_wp2_with fail
            go_ret2
            exact ⟨_, by rw [HE2.out.1]; rfl, by rw [HE2.out.2]; exact (hSt.later hb3).carry fun b hb => ⟨by omega, rfl⟩, hBw.trans (hb3.mono hBw.size)⟩
end Go.Proofs.YtfghbfocjjmcmabGreatDoor

/- The closed sentence 'paths' of the package topiarykeep is true. Condition: the variables of strconv and bytealg hold what their texts lay. -/
namespace Go.Proofs.YtfghbfocjjmcmabGreatDoor
open Go.ChangeShapes Go.WideShapes Go.ChangeAt Go.RowKit
set_option maxRecDepth 100000

attribute [local go_sem] cell_set

theorem paths_list : parseL [47, 97, 47, 42, 91, 50, 93, 47, 35] = some [([97], 0), ([42], 2), ([], 0)] := by decide +kernel

theorem paths_parse : parseE ⟨#[47, 97, 47, 42, 91, 50, 93, 47, 35]⟩ = 0 ∧ parseV ⟨#[47, 97, 47, 42, 91, 50, 93, 47, 35]⟩ = [⟨⟨#[97]⟩, 0⟩, ⟨⟨#[42]⟩, 2⟩, ⟨⟨#[]⟩, 0⟩] := by
  have e : (⟨#[47, 97, 47, 42, 91, 50, 93, 47, 35]⟩ : ByteArray).data.toList = [47, 97, 47, 42, 91, 50, 93, 47, 35] := rfl
  unfold parseE parseV
  rw [e, paths_list]
  exact ⟨rfl, rfl⟩

end Go.Proofs.YtfghbfocjjmcmabGreatDoor

