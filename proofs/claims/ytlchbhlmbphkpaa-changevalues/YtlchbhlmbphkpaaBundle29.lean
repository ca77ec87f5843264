/- topiarykeep.ChangeValues says true. No condition but what every argument has. -/
import Derived.Test.YtlchbhlmbphkpaaBundle28
import Derived.Test.YtlchbhlmbphkpaaBundle11
namespace Go.Proofs.Ytlchbhlmbphkpaa
open Go.ChangeShapes Go.WideShapes Go.ChangeAt Go.RowKit
set_option maxRecDepth 100000

attribute [local go_sem] cell_set

theorem take_txt {ns : List Nd} {i : Nat} {x : Nd} (hx : ns[i]? = some x) : (ns.take (i + 1)).flatMap txt = (ns.take i).flatMap txt ++ txt x := by
  have hi := lt_of_some hx
  have e : ns[i] = x := by simpa [hi] using hx
  rw [List.take_succ_eq_append_getElem hi, e, List.flatMap_append]
  simp

/-- The texts ahead of the node m, and those from E on, of the first i nodes. -/
def aheadT (ns : List Nd) (m i : Nat) : List UInt8 := (ns.take (min i m)).flatMap txt
def behindT (ns : List Nd) (E i : Nat) : List UInt8 := ((ns.take i).drop E).flatMap txt

theorem ahead_in {ns : List Nd} {m i : Nat} {x : Nd} (hx : ns[i]? = some x) (h : i < m) : aheadT ns m (i + 1) = aheadT ns m i ++ txt x := by
  unfold aheadT
  rw [show min (i + 1) m = i + 1 by omega, show min i m = i by omega, take_txt hx]

theorem ahead_out {ns : List Nd} {m i : Nat} (h : m ≤ i) : aheadT ns m (i + 1) = aheadT ns m i := by
  unfold aheadT
  rw [show min (i + 1) m = m by omega, show min i m = m by omega]

theorem behind_in {ns : List Nd} {E i : Nat} {x : Nd} (hx : ns[i]? = some x) (h : E ≤ i) : behindT ns E (i + 1) = behindT ns E i ++ txt x := by
  have hi := lt_of_some hx
  have e : ns[i] = x := by simpa [hi] using hx
  unfold behindT
  rw [List.take_succ_eq_append_getElem hi, e, List.drop_append_of_le_length (by simp; omega), List.flatMap_append]
  simp

theorem behind_out {ns : List Nd} {E i : Nat} (h : i < E) : behindT ns E (i + 1) = behindT ns E i := by
  unfold behindT
  rw [List.drop_eq_nil_of_le (by simp; omega), List.drop_eq_nil_of_le (by simp; omega)]

theorem flat_len (l : List Nd) : (l.flatMap txt).length ≤ txtD l := by
  have := flat_take l l.length
  rw [List.take_length] at this
  exact this

theorem txtD_take (l : List Nd) (k : Nat) : txtD (l.take k) ≤ txtD l := by
  unfold txtD
  rw [List.map_take]
  exact sum_take _ _

theorem txtD_drop (l : List Nd) (k : Nat) : txtD (l.drop k) ≤ txtD l := by
  unfold txtD
  rw [List.map_drop]
  exact sum_drop _ _

theorem ahead_len (ns : List Nd) (m i : Nat) : (aheadT ns m i).length ≤ txtD ns := Nat.le_trans (flat_len _) (txtD_take _ _)
theorem behind_len (ns : List Nd) (E i : Nat) : (behindT ns E i).length ≤ txtD ns := Nat.le_trans (flat_len _) (Nat.le_trans (txtD_drop _ _) (txtD_take _ _))

set_option maxHeartbeats 4000000 in
theorem changeValues_any (S : Nat → Prop) (vn : Value) (ns : List Nd) (n : Int) (s : ByteArray) (w : World) (hD : DocV S w vn ns) (hsm : s.size ≤ maxLen) :
    Calls Try.prog 7 #[.agg #[vn], .int .i64 n, .string s] w fun e w' => e = .returned (.bool true) ∧ Below w.heap.size w w' := by
  obtain ⟨na, nc, rfl, hnl, hnc⟩ := hD.nodes.shape
  have HA : Hid (∀ (W : World) (A : Nat), A = W.heap.size → Below w.heap.size w W → Calls Try.prog 10 #[.agg #[.slice na ns.length nc], .slice (some ⟨A, 0, none⟩) 1 1] (W.alloc (.cells #[.int .i64 7, .int .i64 n, .slice none 0 0, .string ⟨#[]⟩, .string s] 30)) fun e w' => ∃ v', e = .returned (.tuple #[.agg #[v'], .int .i64 (applyE ns [opVal n s])]) ∧ Nodes (fun b => b < w'.heap.size) w' v' (applyD ns [opVal n s]) ∧ TextsD (applyD ns [opVal n s]) ∧ (∀ x ∈ applyD ns [opVal n s], x.attrs.length ≤ 4398046511104) ∧ Below W.heap.size W w') :=
    fun W A hA hW => by subst hA; exact applyOne_any S _ ns (opVal n s) rfl W (hD.later hW).nodes hD.few hD.short ⟨Nat.zero_le _, hsm⟩
  have HD : Hid (DocV S w (.slice na ns.length nc) ns) := hD
  have HP0 : Hid _ := heap_alloc_new w (.cells #[.slice na ns.length nc] 24)
  have hb0 := Below.alloc1 w (.cells #[.slice na ns.length nc] 24)
  unfold maxLen at hnc
  clear hD
  by_cases hE : applyE ns [opVal n s] = 0
  · by_cases hs0 : s = ⟨#[]⟩
    · subst hs0
      rw [hE] at HA
      clear hE
      go_enter Try.func7, Try.ntmps7
      go_wp2_with fail
      refine (HA.out _ _ (by simp) hb0).mono ?_
      rintro e w1 ⟨v1, rfl, hN1, _, _, hb1⟩
      obtain ⟨a1, c1, rfl, _, _⟩ := hN1.shape
      have hB1 := hb0.trans (hb1.mono hb0.size)
      have hB2 := hB1.alloc hB1.size (.cells #[.slice a1 (applyD ns [opVal n ⟨#[]⟩]).length c1] 24)
      clear hN1
      go_wp2_with fail
      refine (chgsK_any _).mono ?_
      rintro e w2 ⟨rfl, hb2⟩
      go_wp2_with fail
      go_ret
      exact ⟨rfl, hB2.trans (hb2.mono hB2.size)⟩
    · have hsl : s.data.toList ≠ [] := by
        intro h
        apply hs0
        have : s.data = #[] := by simpa using h
        cases s; simp at this; rw [this]
      obtain ⟨m, rfl, hm, hgd, hs1, hs2, hs3⟩ := values_say hsl hE
      have hsum : (ns.map fun x => x.s.size).sum ≤ 3200 := by
        have h1 := sumF_le (fun x : Nd => x.s.size) 40 ns (good_sizes hgd)
        have h2 := good_len hgd
        omega
      have hgD := (apply_good hE).1
      have hsumD : ((applyD ns [opVal m s]).map fun x => x.s.size).sum ≤ 3200 := by
        have h1 := sumF_le (fun x : Nd => x.s.size) 40 _ (good_sizes hgD)
        have h2 := good_len hgD
        omega
      rw [hE] at HA
      generalize hDD : applyD ns [opVal m s] = D at HA hsumD hs1 hs2
      have HSD : Hid (∀ (W : World), Below w.heap.size w W → Calls Try.prog 16 #[.agg #[.slice na ns.length nc], .int .i64 0] W fun e w' => e = .returned (.string (sOf (strD ns 0))) ∧ Below W.heap.size W w') :=
        fun W hW => strD_any S _ ns 0 W (HD.out.later hW) (by omega)
      have HEN : Hid (∀ (W : World), Below w.heap.size w W → Calls Try.prog 17 #[.agg #[.slice na ns.length nc], .int .i64 (m : Int)] W fun e w' => e = .returned (.int .i64 (endD ns m)) ∧ Below W.heap.size W w') :=
        fun W hW => endD_any S _ ns m W (HD.out.later hW)
      have HSX : Hid (∀ (S : Nat → Prop) (v : Value) (W : World), DocV S W v D → Calls Try.prog 16 #[.agg #[v], .int .i64 (m : Int)] W fun e w' => e = .returned (.string s) ∧ Below W.heap.size W w') := by
        intro S v W h
        have := strD_any S v D m W h (by omega)
        rw [hs1] at this
        exact this
      have HSZ : Hid (∀ (S : Nat → Prop) (v : Value) (W : World), DocV S W v D → Calls Try.prog 16 #[.agg #[v], .int .i64 0] W fun e w' => e = .returned (.string (sOf (strD D 0))) ∧ Below W.heap.size W w') :=
        fun S v W h => strD_any S v D 0 W h (by omega)
      obtain ⟨E, hEE, hE1⟩ : ∃ E : Nat, endD ns m = (E : Int) ∧ E ≤ ns.length := by
        unfold endD
        have : amongB ns (m : Int) = true := by unfold amongB; simp; omega
        rw [hgd, this]
        refine ⟨lastF ns.length ns m + 1, rfl, ?_⟩
        have := lastF_lt (goodD_kids HD.out hgd) ns.length m hm
        omega
      rw [hEE] at HEN hs2 hs3
      simp only [Int.toNat_natCast] at hs2 hs3
      have hssz : s.size ≤ 40 := by
        have h1 := ok_wrong hE
        have h3 := (ok_of h1).2.2.2.2.2
        exact plain_size h3
      have hA1 := ahead_len ns m
      have hA2 := behind_len ns E
      have HFA : Hid (∀ i, (sOf (aheadT ns m i)).size ≤ 3200) := fun i => by rw [sOf_size]; exact Nat.le_trans (hA1 i) hsum
      have HFB : Hid (∀ i, (sOf (behindT ns E i)).size ≤ 3200) := fun i => by rw [sOf_size]; exact Nat.le_trans (hA2 i) hsum
      have HEQ : Hid (sOf (strD D 0) = sOf (aheadT ns m ns.length) ++ s ++ sOf (behindT ns E ns.length)) := by
        show _ = _
        have e1 : aheadT ns m ns.length = (ns.take m).flatMap txt := by unfold aheadT; rw [show min ns.length m = m by omega]
        have e2 : behindT ns E ns.length = (ns.drop E).flatMap txt := by unfold behindT; rw [List.take_length]
        rw [e1, e2, hs2, ← List.append_assoc, ← sOf_append, ← sOf_append, sOf_toList]
      have HLN : Hid (((sOf (aheadT ns m ns.length)).size : Int) + ((sOf (behindT ns E ns.length)).size : Int) ≤ ((sOf (strD ns 0)).size : Int)) := by
        show _ ≤ _
        have e1 : aheadT ns m ns.length = (ns.take m).flatMap txt := by unfold aheadT; rw [show min ns.length m = m by omega]
        have e2 : behindT ns E ns.length = (ns.drop E).flatMap txt := by unfold behindT; rw [List.take_length]
        rw [sOf_size, sOf_size, sOf_size, e1, e2]
        omega
      have HSN : Hid ((sOf (strD ns 0)).size ≤ 3200) := by
        show _ ≤ _
        rw [sOf_size]
        unfold strD
        split
        · exact Nat.zero_le _
        · exact Nat.le_trans (flat_len _) (Nat.le_trans (txtD_drop _ _) (Nat.le_trans (txtD_take _ _) hsum))
      have hse : s.toList.isEmpty = false := notEmpty hs0
      have HGS : Hid (∀ x ∈ ns, x.s.size ≤ 40) := good_sizes hgd
      clear hE hs1 hs2 hs3 hsum hsumD hgD hDD hsl hgd hEE hA1 hA2
      go_enter Try.func7, Try.ntmps7
      go_wp2_with fail
      refine (HA.out _ _ (by simp) hb0).mono ?_
      rintro e w1 ⟨v1, rfl, hN1, hx1, hf1, hb1⟩
      obtain ⟨a1, c1, rfl, _, _⟩ := hN1.shape
      have hB1 := hb0.trans (hb1.mono hb0.size)
      have HX1 : Hid _ := (hb1.block _ (blk_lt HP0.out)).trans HP0.out
      have hb2 := Below.alloc1 w1 (.cells #[.slice a1 D.length c1] 24)
      have HD1 : Hid (DocV (fun b => b < w1.heap.size) w1 (.slice a1 D.length c1) D) := ⟨hN1, fun b hb => hb, hf1, hx1⟩
      have HY2 : Hid _ := heap_alloc_new w1 (.cells #[.slice a1 D.length c1] 24)
      have hB2 := hB1.trans (hb2.mono hB1.size)
      have HX2 : Hid _ := (hb2.block _ (blk_lt HX1.out)).trans HX1.out
      have HD2 : Hid _ := HD1.out.later hb2
      clear hN1 hx1 hf1 hb1 HD1 HX1 HA
      go_wp2_with fail
      generalize w1.alloc (.cells #[.slice a1 D.length c1] 24) = W2 at *
      refine (chgsK_any W2).mono ?_
      rintro e w3 ⟨rfl, hb3⟩
      have hB3 := hB2.trans (hb3.mono hB2.size)
      have HX3 : Hid _ := (hb3.block _ (blk_lt HX2.out)).trans HX2.out
      have HY3 : Hid _ := (hb3.block _ (blk_lt HY2.out)).trans HY2.out
      have HD3 : Hid _ := HD2.out.later hb3
      have y3 : w3.cell? ⟨w1.heap.size, 0, none⟩ = some (.slice a1 D.length c1) := by rw [Lib.cell_of_heap HY3.out]; rfl
      clear hb3 HX2 HY2 HD2
      go_wp2_with fail
      refine (HSX.out _ _ w3 HD3.out).mono ?_
      rintro e w4 ⟨rfl, hb4⟩
      have hB4 := hB3.trans (hb4.mono hB3.size)
      have HX4 : Hid _ := (hb4.block _ (blk_lt HX3.out)).trans HX3.out
      have HY4 : Hid _ := (hb4.block _ (blk_lt HY3.out)).trans HY3.out
      have HD4 : Hid _ := HD3.out.later hb4
      clear hb4 HX3 HY3 HD3 y3 HSX
      have HC : Hid (∀ W, Below w4.heap.size w4 W → Below w4.heap.size w4 W ∧ W.cell? ⟨w.heap.size, 0, none⟩ = some (.slice na ns.length nc) ∧ W.cell? ⟨w1.heap.size, 0, none⟩ = some (.slice a1 D.length c1)) := by
        intro W hW
        refine ⟨hW, ?_, ?_⟩
        · rw [Lib.cell_of_heap ((hW.block _ (blk_lt HX4.out)).trans HX4.out)]; rfl
        · rw [Lib.cell_of_heap ((hW.block _ (blk_lt HY4.out)).trans HY4.out)]; rfl
      have HS1 : Hid (∀ W, Below w4.heap.size w4 W → Calls Try.prog 16 #[.agg #[.slice na ns.length nc], .int .i64 0] W fun e w' => e = .returned (.string (sOf (strD ns 0))) ∧ Below W.heap.size W w') := fun W hW => HSD.out W (hB4.trans (hW.mono hB4.size))
      have HS2 : Hid (∀ W, Below w4.heap.size w4 W → Calls Try.prog 16 #[.agg #[.slice a1 D.length c1], .int .i64 0] W fun e w' => e = .returned (.string (sOf (strD D 0))) ∧ Below W.heap.size W w') := fun W hW => HSZ.out _ _ W (HD4.out.later hW)
      have hbn : Below w4.heap.size w4 w4.drew := (Below.refl _ w4).drew
      clear HSD HSZ HD4
      go_wp2_with fail
      go_region_held3 (fun W : World => Below w4.heap.size w4 W ∧ W.cell? ⟨w.heap.size, 0, none⟩ = some (.slice na ns.length nc) ∧ W.cell? ⟨w1.heap.size, 0, none⟩ = some (.slice a1 D.length c1))
        (with_reducible exact HC.out _ hbn)
        (first
          | (go_at_call 16; refine (Calls.mono (HS1.out _ hbn) ?_); clear HS1; rintro e W8 ⟨rfl, hb8⟩; have hbn := hbn.trans (hb8.mono hbn.size))
          | (go_at_call 16; refine (Calls.mono (HS2.out _ hbn) ?_); clear HS2; rintro e W8 ⟨rfl, hb8⟩; have hbn := hbn.trans (hb8.mono hbn.size)))
      have hB8 : Below w.heap.size w W8 := hB4.trans (hbn.mono hB4.size)
      have HX8 : Hid _ := (hbn.block _ (blk_lt HX4.out)).trans HX4.out
      have d8 : W8.cell? ⟨w.heap.size, 0, none⟩ = some (.slice na ns.length nc) := by rw [Lib.cell_of_heap HX8.out]; rfl
      clear hbn hb8 HC HX4 HY4
      have hA0 : sOf (aheadT ns m 0) = ⟨#[]⟩ := by unfold aheadT; rw [Nat.zero_min]; rfl
      have hB0 : sOf (behindT ns E 0) = ⟨#[]⟩ := by unfold behindT; simp; rfl
      go_wp2_with fail
      go_loopg [47, 11, 12] ns.length (fun g i p q wr => ∃ k : Nat, k + g = ns.length ∧ i = .int .i64 k ∧ p = .string (sOf (aheadT ns m k)) ∧ q = .string (sOf (behindT ns E k)) ∧ Below W8.heap.size W8 wr)
      case atStart => exact ⟨0, by omega, rfl, by rw [hA0], by rw [hB0], Below.refl _ _⟩
      case round =>
        obtain ⟨k, hk, rfl, rfl, rfl, hB⟩ := hrel
        have hBw : Below w.heap.size w wr := hB8.trans (hB.mono hB8.size)
        clear hA0 hB0
        by_cases hlt : k < ns.length
        · have hlti : (k : Int) < (ns.length : Int) := by omega
          obtain ⟨x, hx⟩ : ∃ x, ns[k]? = some x := ⟨ns[k], by simp [hlt]⟩
          obtain ⟨bb, oo, cc, va, vk, hv, _, _, _, hbl, p0, p1, p2, p3, p4, hAx, hKx⟩ := (Nodes.later HD.out.nodes hBw).at hx
          injection hv with hv _ hvc
          subst hv hvc
          obtain ⟨aa, ac, rfl⟩ := hAx.shape
          obtain ⟨ka, kc, rfl, _, _⟩ := hKx.shape
          have HXK : Hid _ := hx
          clear hx hAx hKx
          have hB1 := hB.alloc hB.size (.cells #[.bool x.text, .string x.s, .slice aa x.attrs.length ac, .int .i64 x.parent, .slice ka x.kids.length kc] 42)
          have hBw1 := hBw.alloc hBw.size (.cells #[.bool x.text, .string x.s, .slice aa x.attrs.length ac, .int .i64 x.parent, .slice ka x.kids.length kc] 42)
          have hdW : ∀ W, Below W8.heap.size W8 W → W.cell? ⟨w.heap.size, 0, none⟩ = some (.slice (some ⟨bb, oo, none⟩) ns.length nc) := fun W hW => (hW.cell (p := ⟨w.heap.size, 0, none⟩) (blk_lt HX8.out)).trans d8
          have HDW : Hid _ := hdW
          have HB1 : Hid _ := hB1
          have HBW1 : Hid _ := hBw1
          clear hdW hB1 hBw1
          cases htx : x.text with
          | false =>
            rw [htx] at p0 HB1 HBW1
            have eA : aheadT ns m (k + 1) = aheadT ns m k := by
              by_cases h : k < m
              · rw [ahead_in HXK.out h]; unfold txt; rw [htx]; simp
              · exact ahead_out (by omega)
            have eB : behindT ns E (k + 1) = behindT ns E k := by
              by_cases h : E ≤ k
              · rw [behind_in HXK.out h]; unfold txt; rw [htx]; simp
              · exact behind_out (by omega)
            have HEA : Hid _ := eA
            have HEB : Hid _ := eB
            clear eA eB
            go_wp2_with fail
            go_roundg (ns.length - (k + 1))
            case measure => omega
            case rel => exact ⟨k + 1, by omega, by go_num, by rw [HEA.out], by rw [HEB.out], HB1.out⟩
          | true =>
            rw [htx] at p0 HB1 HBW1
            have htt : txt x = x.s.data.toList := by unfold txt; rw [htx]; simp
            have hxs : x.s.size ≤ 40 := HGS.out x (List.mem_of_getElem? HXK.out)
            have hz1 : (sOf (aheadT ns m k)).size + x.s.size ≤ 8000 := by have := HFA.out k; omega
            have hz2 : (sOf (behindT ns E k)).size + x.s.size ≤ 8000 := by have := HFB.out k; omega
            have c1' : (wr.alloc (.cells #[.bool true, .string x.s, .slice aa x.attrs.length ac, .int .i64 x.parent, .slice ka x.kids.length kc] 42)).cell? ⟨w.heap.size, 0, none⟩ = some (.slice (some ⟨bb, oo, none⟩) ns.length nc) := HDW.out _ HB1.out
            by_cases hkm : k < m
            · by_cases hek : E ≤ k
              · have eA := (ahead_in HXK.out hkm : aheadT ns m (k + 1) = _)
                have eB := (behind_in HXK.out hek : behindT ns E (k + 1) = _)
                rw [htt] at eA
                rw [htt] at eB
                have HEA : Hid _ := eA
                have HEB : Hid _ := eB
                clear eA eB
                have hki : (E : Int) ≤ (k : Int) := by omega
                have hkj : (k : Int) < (m : Int) := by omega
                go_wp2_with fail
                refine (HEN.out _ HBW1.out).mono ?_
                rintro e w6 ⟨rfl, hb6⟩
                have hB6 := HB1.out.trans (hb6.mono HB1.out.size)
                have p61 : w6.cell? ⟨wr.heap.size, 1, none⟩ = some (.string x.s) := by rw [Lib.cell_of_heap ((hb6.block _ (by simp)).trans (heap_alloc_new _ _))]; rfl
                clear hb6
                go_wp2_with fail
                go_roundg (ns.length - (k + 1))
                case measure => omega
                case rel =>
                  refine ⟨k + 1, by omega, by go_num, ?_, ?_, hB6⟩
                  · rw [HEA.out, ← sOf_append, sOf_toList]
                  · rw [HEB.out, ← sOf_append, sOf_toList]
              · have eA := (ahead_in HXK.out hkm : aheadT ns m (k + 1) = _)
                have eB := (behind_out (by omega) : behindT ns E (k + 1) = _)
                rw [htt] at eA
                have HEA : Hid _ := eA
                have HEB : Hid _ := eB
                clear eA eB
                have hki : ¬ ((E : Int) ≤ (k : Int)) := by omega
                have hkj : (k : Int) < (m : Int) := by omega
                go_wp2_with fail
                refine (HEN.out _ HBW1.out).mono ?_
                rintro e w6 ⟨rfl, hb6⟩
                have hB6 := HB1.out.trans (hb6.mono HB1.out.size)
                have p61 : w6.cell? ⟨wr.heap.size, 1, none⟩ = some (.string x.s) := by rw [Lib.cell_of_heap ((hb6.block _ (by simp)).trans (heap_alloc_new _ _))]; rfl
                clear hb6
                go_wp2_with fail
                go_roundg (ns.length - (k + 1))
                case measure => omega
                case rel =>
                  refine ⟨k + 1, by omega, by go_num, ?_, ?_, hB6⟩
                  · rw [HEA.out, ← sOf_append, sOf_toList]
                  · rw [HEB.out]
            · by_cases hek : E ≤ k
              · have eA := (ahead_out (by omega) : aheadT ns m (k + 1) = _)
                have eB := (behind_in HXK.out hek : behindT ns E (k + 1) = _)
                rw [htt] at eB
                have HEA : Hid _ := eA
                have HEB : Hid _ := eB
                clear eA eB
                have hki : (E : Int) ≤ (k : Int) := by omega
                have hkj : ¬ ((k : Int) < (m : Int)) := by omega
                go_wp2_with fail
                refine (HEN.out _ HBW1.out).mono ?_
                rintro e w6 ⟨rfl, hb6⟩
                have hB6 := HB1.out.trans (hb6.mono HB1.out.size)
                have p61 : w6.cell? ⟨wr.heap.size, 1, none⟩ = some (.string x.s) := by rw [Lib.cell_of_heap ((hb6.block _ (by simp)).trans (heap_alloc_new _ _))]; rfl
                clear hb6
                go_wp2_with fail
                go_roundg (ns.length - (k + 1))
                case measure => omega
                case rel =>
                  refine ⟨k + 1, by omega, by go_num, ?_, ?_, hB6⟩
                  · rw [HEA.out]
                  · rw [HEB.out, ← sOf_append, sOf_toList]
              · have eA := (ahead_out (by omega) : aheadT ns m (k + 1) = _)
                have eB := (behind_out (by omega) : behindT ns E (k + 1) = _)
                have HEA : Hid _ := eA
                have HEB : Hid _ := eB
                clear eA eB
                have hki : ¬ ((E : Int) ≤ (k : Int)) := by omega
                have hkj : ¬ ((k : Int) < (m : Int)) := by omega
                go_wp2_with fail
                refine (HEN.out _ HBW1.out).mono ?_
                rintro e w6 ⟨rfl, hb6⟩
                have hB6 := HB1.out.trans (hb6.mono HB1.out.size)
                have p61 : w6.cell? ⟨wr.heap.size, 1, none⟩ = some (.string x.s) := by rw [Lib.cell_of_heap ((hb6.block _ (by simp)).trans (heap_alloc_new _ _))]; rfl
                clear hb6
                go_wp2_with fail
                go_roundg (ns.length - (k + 1))
                case measure => omega
                case rel =>
                  refine ⟨k + 1, by omega, by go_num, ?_, ?_, hB6⟩
                  · rw [HEA.out]
                  · rw [HEB.out]
        · have hkk : k = ns.length := by omega
          subst hkk
          have hq1 := HFA.out ns.length
          have hq2 := HFB.out ns.length
          have hq3 := HSN.out
          have hln := HLN.out
          rw [HEQ.out]
          generalize sOf (aheadT ns m ns.length) = AA at *
          generalize sOf (behindT ns E ns.length) = BB at *
          generalize sOf (strD ns 0) = SN at *
          have hsz : AA.size + s.size ≤ 4000 := by omega
          have hsz2 : (AA ++ s).size + BB.size ≤ 8000 := by rw [ByteArray.size_append]; omega
          go_wp2_with fail
          go_ret
          exact ⟨rfl, hBw⟩
  · generalize applyE ns [opVal n s] = E at HA hE
    go_enter Try.func7, Try.ntmps7
    go_wp2_with fail
    refine (HA.out _ _ (by simp) hb0).mono ?_
    rintro e w1 ⟨v1, rfl, hN1, _, _, hb1⟩
    obtain ⟨a1, c1, rfl, _, _⟩ := hN1.shape
    have hB1 := hb0.trans (hb1.mono hb0.size)
    have hB2 := hB1.alloc hB1.size (.cells #[.slice a1 (applyD ns [opVal n s]).length c1] 24)
    clear hN1
    go_wp2_with fail
    refine (chgsK_any _).mono ?_
    rintro e w2 ⟨rfl, hb2⟩
    go_wp2_with fail
    go_ret
    exact ⟨rfl, hB2.trans (hb2.mono hB2.size)⟩
end Go.Proofs.Ytlchbhlmbphkpaa

