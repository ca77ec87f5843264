/- Bundled: ApplyW FineW ChgsK FullW GoodK. What each says stands ahead of it. -/
import Derived.Test.YtlchbhlmbphkpaaBundle25
import Derived.Test.YtlchbhlmbphkpaaBundle27
import Derived.Test.YtlchbhlmbphkpaaBundle08
import Derived.Test.YtlchbhlmbphkpaaBundle12
import Derived.Test.YtlchbhlmbphkpaaBundle13
import Derived.Test.YtlchbhlmbphkpaaBundle23
import Derived.Test.YtlchbhlmbphkpaaBundle14
/- change.Apply: what is wrong, or the document as it is changed. Condition: what comes of it is small (Fine). -/
namespace Go.Proofs.Ytlchbhlmbphkpaa
open Go.ChangeShapes Go.WideShapes Go.ChangeAt Go.RowKit
set_option maxRecDepth 100000

attribute [local go_sem] cell_set

/-- No tree is deeper than it is. -/
theorem Trees.narrow {S : Nat → Prop} {w : World} : ∀ (m n : Nat) {v : Value} {ts : List Tr}, Trees S w n v ts → Deep m ts → Trees S w m v ts := by
  intro m
  induction m with
  | zero =>
    intro n v ts h hd
    have e : ts = [] := hd
    subst e
    obtain ⟨a, c, hv, h1, h2⟩ := Trees.shape n h
    exact ⟨rfl, ⟨a, c, hv, h2⟩⟩
  | succ m ih =>
    intro n v ts h hd
    by_cases hne : ts = []
    · subst hne
      obtain ⟨a, c, hv, h1, h2⟩ := Trees.shape n h
      exact ⟨a, c, hv, h1, h2, fun e => absurd rfl e⟩
    · cases n with
      | zero => exact absurd h.1 hne
      | succ n =>
        obtain ⟨a, cap, h1, h2, h3, h4⟩ := h
        refine ⟨a, cap, h1, h2, h3, fun _ => ?_⟩
        obtain ⟨b, o, ha, hs, hc⟩ := h4 hne
        refine ⟨b, o, ha, hs, fun i t ht => ?_⟩
        obtain ⟨va, vk, c0, c1, c2, c3, c4, c5⟩ := hc i t ht
        exact ⟨va, vk, c0, c1, c2, c3, c4, ih n c5 (hd t (List.mem_of_getElem? ht))⟩

theorem Ops.narrow {S : Nat → Prop} {w : World} {n m : Nat} {v : Value} {l : List Opn} (h : Ops S w n v l) (hd : ∀ o ∈ l, Deep m o.content) : Ops S w m v l := by
  obtain ⟨a, cap, h1, h2, h3, h4⟩ := h
  refine ⟨a, cap, h1, h2, h3, fun hne => ?_⟩
  obtain ⟨b, o, ha, hs, hc⟩ := h4 hne
  refine ⟨b, o, ha, hs, fun i x hx => ?_⟩
  obtain ⟨ca, cc, c0, c1, c2, c3, c4, c5⟩ := hc i x hx
  exact ⟨ca, cc, c0, c1, c2, c3, c4, Trees.narrow m n c5 (hd x (List.mem_of_getElem? hx))⟩

/-- What comes of the changes is small enough to be joined and laid. -/
structure Fine (ns : List Nd) (l : List Opn) : Prop where
  small : Small (ns.length + 9 + 1) [applyT ns l]
  few : cnt (ns.length + 9 + 1) [applyT ns l] ≤ 1048576
  texts : TextsN (ns.length + 9 + 1) [applyJ ns l]

theorem apply_root {ns : List Nd} {l : List Opn} (hg : goodD ns = true) : (applyT ns l).text = false := by
  obtain ⟨d, t, _, hl, _, _, ht, _, _⟩ := good_laid hg
  have h0 : 0 < ns.length := by rw [← hl, layF_length d t (-1) 0 (by assumption), cnt_one]; omega
  obtain ⟨x, hx⟩ : ∃ x, ns[0]? = some x := ⟨ns[0], by simp [h0]⟩
  unfold applyT
  obtain ⟨f, hf⟩ : ∃ f, ns.length = f + 1 := ⟨ns.length - 1, by omega⟩
  rw [hf, bodyF, hx]
  show x.text = false
  have : ns[0]? = some ⟨t.text, t.s, t.attrs, -1, (layF d t (-1) 0)[0]?.elim [] (·.kids)⟩ := by
    rw [← hl]
    cases d <;> rfl
  rw [hx] at this
  rw [Option.some.inj this]
  exact ht

theorem OpsR.of9 {S : Nat → Prop} {w w1 w2 : World} {v : Value} {l : List Opn} (h : Ops S w 9 v l) (hS : ∀ b, S b → b < w.heap.size) (h1 : Below w.heap.size w w1) (h2 : Below w1.heap.size w1 w2) : OpsR (fun b => b < w1.heap.size) (fun b => b < w1.heap.size) w2 (8 + 1) v l :=
  Ops.row (((h.later h1).later h2).carry fun b hb => ⟨Nat.lt_of_lt_of_le (hS b hb) h1.size, rfl⟩)

/-- The document's box and the answer's box. -/
structure AP (w : World) (v : Value) (W : World) : Prop where
  below : Below w.heap.size w W
  box : W.heap[w.heap.size]? = some (.cells #[v] 24 (0, 0))
  res : W.heap[w.heap.size + 1]? = some (.cells #[.slice none 0 0] 24 (0, 0))

theorem AP.later {w : World} {v : Value} {W W' : World} {m : Nat} (h : AP w v W) (hb : Below m W W') (hm : w.heap.size + 2 ≤ m) : AP w v W' :=
  ⟨h.below.trans (hb.mono (by omega)), (hb.block _ (by omega)).trans h.box, (hb.block _ (by omega)).trans h.res⟩

theorem AP.two {w : World} {v : Value} {W : World} (h : AP w v W) : w.heap.size + 2 ≤ W.heap.size := blk_lt h.res

theorem one_tree {S : Nat → Prop} {w : World} {n : Nat} {va vk : Value} {t : Tr} (hA : Attrs S w va t.attrs) (hK : Trees S w n vk t.kids) : Trees (fun b => b < w.heap.size + 1) (w.alloc (.cells #[.bool t.text, .string t.s, va, vk] 47)) (n + 1) (.slice (some ⟨w.heap.size, 0, none⟩) 1 1) [t] := by
  have hb := Below.alloc1 w (.cells #[.bool t.text, .string t.s, va, vk] 47)
  have hh := heap_alloc_new w (.cells #[.bool t.text, .string t.s, va, vk] 47)
  refine ⟨_, 1, rfl, Nat.le_refl _, by decide, fun _ => ⟨w.heap.size, 0, rfl, Nat.lt_succ_self _, fun i u hu => ?_⟩⟩
  have hi : i = 0 := by have := lt_of_some hu; simp at this; exact this
  subst hi
  simp at hu
  subst hu
  refine ⟨va, vk, by rw [Lib.cell_of_heap hh]; rfl, by rw [Lib.cell_of_heap hh]; rfl, by rw [Lib.cell_of_heap hh]; rfl, by rw [Lib.cell_of_heap hh]; rfl, ?_, ?_⟩
  · exact (hA.later hb).bounded.carry fun b hb' => ⟨by have := hb'.2; simpa using this, rfl⟩
  · exact Trees.carry (fun b hb' => ⟨by have := hb'.2; simpa using this, rfl⟩) n (Trees.bounded n (Trees.later hb n hK))

set_option maxHeartbeats 4000000 in
theorem apply_any (S : Nat → Prop) (n : Nat) (vn vl : Value) (ns : List Nd) (l : List Opn) (w : World) (hN : Nodes S w vn ns) (hS : ∀ b, S b → b < w.heap.size) (ha : ∀ x ∈ ns, x.attrs.length ≤ 4398046511104) (hx : TextsD ns) (hO : Ops S w n vl l) (ht : TextsO n l) (hf : checkF ns l = 0 → Fine ns l) :
    Calls Try.prog 10 #[.agg #[vn], vl] w fun e w' => ∃ v', e = .returned (.tuple #[.agg #[v'], .int .i64 (applyE ns l)]) ∧ Nodes (fun b => S b ∨ w.heap.size ≤ b) w' v' (applyD ns l) ∧ Below w.heap.size w w' := by
  obtain ⟨na, nc, rfl, hnl, hnc⟩ := hN.shape
  obtain ⟨la, lc, rfl, hll, hlc⟩ := hO.shape
  have HCK : Hid (∀ W, Below w.heap.size w W → Calls Try.prog 13 #[.agg #[.slice na ns.length nc], .slice la l.length lc] W fun e w' => e = .returned (.int .i64 (checkF ns l)) ∧ Below W.heap.size W w') := fun W hW => check_any S n _ _ ns l W (hN.later hW) (fun b hb => Nat.lt_of_lt_of_le (hS b hb) hW.size) ha hx (hO.later hW) ht
  have HP0 : Hid (AP w (.slice na ns.length nc) ((w.alloc (.cells #[.slice na ns.length nc] 24)).alloc (.cells #[.slice none 0 0] 24))) := by
    refine ⟨(Below.alloc1 w _).alloc (by simp) _, ?_, ?_⟩
    · rw [Lib.alloc_old _ _ _ (by simp)]; exact heap_alloc_new _ _
    · have e := heap_alloc_new (w.alloc (.cells #[.slice na ns.length nc] 24)) (.cells #[.slice none 0 0] 24)
      rw [World.size_alloc] at e
      exact e
  have HN : Hid (Nodes S w (.slice na ns.length nc) ns) := hN
  have HO : Hid (Ops S w n (.slice la l.length lc) l) := hO
  have HS : Hid (∀ b, S b → b < w.heap.size) := hS
  unfold maxLen at hnc hlc
  by_cases hc : checkF ns l = 0
  · obtain ⟨hg, hlen, hw, hpw⟩ := (check_ok _ _).1 hc
    have hF := hf hc
    rw [hc] at HCK
    have hdeep : ∀ o ∈ l, Deep 9 o.content := fun o ho k hk => (ok_of (hw o ho)).1.deep k hk
    have hb80 := bnd_start hg
    have hne : ns ≠ [] := by
      intro e
      obtain ⟨d, t, hd, hl, _⟩ := good_laid hg
      have := layF_length d t (-1) 0 hd
      rw [hl, e, cnt_one] at this
      simp at this
      omega
    have HNB : Hid (∀ W, Below w.heap.size w W → Calls Try.prog 18 #[.slice na ns.length nc] W fun e w' => ∃ bb v' ms', e = .returned (.pointer (some ⟨bb, 0, none⟩)) ∧ Bx W.heap.size (fun b => b < W.heap.size) ns.length bb w' v' ns ms' ∧ Below W.heap.size W w') := fun W hW => newBench_any _ ns W ((HN.out.later hW).bounded.carry fun b hb => ⟨hb.2, rfl⟩) hne (hb80.more (by omega))
    have HDA : Hid (∀ (B : Nat) (T : Nat → Prop) (bb : Nat) (v : Value) (ms : List Rw) (W : World), Bx B T ns.length bb W v ns ms → OpsR T T W (8 + 1) (.slice la l.length lc) l → Calls Try.prog 19 #[.pointer (some ⟨bb, 0, none⟩), .slice la l.length lc] W fun e w' => e = .returned (.tuple #[]) ∧ Did B T ns.length bb W w' v ms (benchN 8 ns l) ∧ Bnd 20000 (benchN 8 ns l) ∧ Bch ns (saidF ns l) (benchN 8 ns l)) := fun B T bb v ms W h1 h2 => doAll_any B T bb _ v l ns ms W h1 h2 hc
    have h0 : 0 < ns.length := List.length_pos_iff.2 hne
    have HGB : Hid (∀ ns', Bch ns (saidF ns l) ns' → FitG (ns.length + 9) ns' 0 ∧ growF (ns.length + 9) ns' 0 = applyT ns l) := by
      intro ns' hB
      have h1 := fit_bench hg hB ns.length ns'.length 0 h0 (by omega) (by omega)
      have h2 : growF ns'.length ns' 0 = applyT ns l := grow_bench hg hB ns.length ns'.length 0 h0 (by omega) (by omega)
      obtain ⟨h3, h4⟩ := fit_less (ns.length + 8) ns'.length ns' 0 h1 (by rw [h2]; exact (apply_deep hc).1)
      exact ⟨h3, h4.trans h2⟩
    have hroot : (applyT ns l).text = false := apply_root hg
    have HJ : Hid ((jt [applyT ns l]).map (jk (ns.length + 9)) = [applyJ ns l]) := by
      show _ = _
      rw [jt_elem _ _ hroot]
      rfl
    have HD : Hid (applyD ns l = (if goodB (applyJ ns l) then layF (ns.length + 9) (applyJ ns l) (-1) 0 else ns) ∧ applyE ns l = (if goodB (applyJ ns l) then 0 else 2)) := by
      show _ ∧ _
      unfold applyD applyE
      rw [if_pos hc, if_pos hc]
      exact ⟨rfl, rfl⟩
    obtain ⟨hF1, hF2, hF3⟩ := hF
    have HJN : Hid (∀ (S : Nat → Prop) (v : Value) (W : World), Trees S W (ns.length + 9 + 1) v [applyT ns l] → (∀ b, S b → b < W.heap.size) → Calls Try.prog 21 #[v] W fun e w' => ∃ v', e = .returned v' ∧ Trees (fun b => W.heap.size ≤ b) w' (ns.length + 9 + 1) v' [applyJ ns l] ∧ Below W.heap.size W w') := by
      intro S v W h1 h2
      have := joined_any S (ns.length + 9) v [applyT ns l] W h1 hF1 h2 hF2
      rw [HJ.out] at this
      exact this
    have HMK : Hid (∀ (S : Nat → Prop) (va vk : Value) (W : World), Attrs S W va (applyJ ns l).attrs → Trees S W (ns.length + 9) vk (applyJ ns l).kids → (∀ b, S b → b < W.heap.size) → Calls Try.prog 20 #[.agg #[.bool (applyJ ns l).text, .string (applyJ ns l).s, va, vk]] W fun e w' => ∃ v, e = .returned (.tuple #[.agg #[v], .int .i64 (makeE (applyJ ns l))]) ∧ Nodes (fun b => W.heap.size ≤ b) w' v (makeD (ns.length + 9) (applyJ ns l)) ∧ Below W.heap.size W w') := fun S va vk W h1 h2 h3 => make_any S (ns.length + 9) va vk (applyJ ns l) W h1 h2 hF3 h3
    have HO9 : Hid (Ops S w 9 (.slice la l.length lc) l) := HO.out.narrow hdeep
    generalize applyD ns l = RD at HD ⊢
    generalize applyE ns l = RE at HD ⊢
    generalize hJJ : applyJ ns l = J at HD HJN HMK
    generalize hTT : applyT ns l = TT at HJN HGB
    clear hF1 hF2 hF3 HJ hf hJJ hTT hroot hN hO hS ha hx ht hw hpw hdeep hg
    go_enter Try.func10, Try.ntmps10
    go_wp2_with fail
    refine (HCK.out _ HP0.out.below).mono ?_
    rintro e w1 ⟨rfl, hb1⟩
    have HP1 : Hid _ := HP0.out.later hb1 HP0.out.two
    have x1 : w1.cell? ⟨w.heap.size, 0, none⟩ = some (.slice na ns.length nc) := by rw [Lib.cell_of_heap HP1.out.box]; rfl
    clear hb1 HP0 HCK
    go_wp2_with fail
    refine (HNB.out _ HP1.out.below).mono ?_
    rintro e w2 ⟨bb, v2, ms2, rfl, hX2, hb2⟩
    have HX2 : Hid _ := hX2
    have HP2 : Hid _ := HP1.out.later hb2 HP1.out.two
    have HB2 : Hid _ := hb2
    clear hX2 hb2 HNB x1
    go_wp2_with fail
    refine (HDA.out _ _ _ _ _ _ HX2.out (OpsR.of9 HO9.out HS.out HP1.out.below HB2.out)).mono ?_
    rintro e w3 ⟨rfl, hD3, hB3, hH3⟩
    have hb3 := hD3.below HX2.out
    have HP3 : Hid _ := HP2.out.later hb3 HP1.out.two
    obtain ⟨v3, ms3, hX3, _⟩ := hD3
    obtain ⟨hfit, hgrow⟩ := HGB.out _ hH3
    have HG4 : Hid (Calls Try.prog 22 #[.pointer (some ⟨bb, 0, none⟩), .int .i64 0] w3 fun e w' => ∃ va vk, e = .returned (.agg #[.bool TT.text, .string TT.s, va, vk]) ∧ Attrs (fun b => b < w3.heap.size ∨ w3.heap.size ≤ b) w' va TT.attrs ∧ Trees (fun b => b < w3.heap.size ∨ w3.heap.size ≤ b) w' (ns.length + 9) vk TT.kids ∧ Below w3.heap.size w3 w') := by
      have h := bgrown_any (ns.length + 9) (fun b => b < w3.heap.size) v3 (benchN 8 ns l) 0 bb w3 hX3.2.2.nodes (fun _ h => h) hX3.1 (hB3.more (by omega)) hfit
      rw [hgrow] at h
      exact h
    clear hb3 hX3 hfit hgrow hB3 hH3 HGB HDA HX2 HO9 HB2 HP2 HP1
    go_wp2_with fail
    refine Calls.mono HG4.out ?_
    rintro e w4 ⟨va4, vk4, rfl, hA4, hK4, hb4⟩
    obtain ⟨a4, c4, rfl⟩ := hA4.shape
    obtain ⟨k4, d4, rfl, _, _⟩ := Trees.shape _ hK4
    have HP4 : Hid _ := HP3.out.later hb4 HP3.out.two
    have HT5 : Hid _ := one_tree hA4 hK4
    have HP5 : Hid _ := HP4.out.later (Below.alloc1 w4 (.cells #[.bool TT.text, .string TT.s, .slice a4 TT.attrs.length c4, .slice k4 TT.kids.length d4] 47)) HP4.out.two
    clear hA4 hK4 hb4 HG4 HP3
    go_wp2_with fail
    refine (HJN.out _ _ _ HT5.out (fun b hb => by simpa using hb)).mono ?_
    rintro e w6 ⟨v6, rfl, hT6, hb6⟩
    have HP6 : Hid _ := HP5.out.later hb6 HP5.out.two
    obtain ⟨a6, c6, hv6, hl6, hm6, h6⟩ := hT6
    obtain ⟨b6, o6, rfl, hs6, hc6⟩ := h6 (by simp)
    obtain ⟨va6, vk6, e0, e1, e2, e3, hA6, hK6⟩ := hc6 0 J rfl
    obtain ⟨a7, c7, rfl⟩ := hA6.shape
    obtain ⟨k7, d7, rfl, _, _⟩ := Trees.shape _ hK6
    simp only [Nat.zero_mul, Nat.add_zero, List.length_singleton] at e0 e1 e2 e3 hv6 hl6
    subst hv6
    have HMK6 : Hid _ := HMK.out _ _ _ w6 hA6.bounded (Trees.bounded _ hK6) (fun b hb => hb.2)
    clear hA6 hK6 hc6 h6 hs6 hb6 HMK HJN HT5 HP5 HP4
    unfold maxLen at hm6
    go_wp2_with fail
    refine Calls.mono HMK6.out ?_
    rintro e w7 ⟨v7, rfl, hN7, hb7⟩
    have HP7 : Hid _ := HP6.out.later hb7 HP6.out.two
    have HN7 : Hid _ := hN7
    have hz7 := HP7.out.two
    have HZ6 : Hid _ := HP6.out.two
    obtain ⟨a8, c8, rfl, _, _⟩ := hN7.shape
    clear hN7 hb7 HMK6 e0 e1 e2 e3
    have x7 : w7.cell? ⟨w.heap.size, 0, none⟩ = some (.slice na ns.length nc) := by rw [Lib.cell_of_heap HP7.out.box]; rfl
    have r7 : w7.cell? ⟨w.heap.size + 1, 0, none⟩ = some (.slice none 0 0) := by rw [Lib.cell_of_heap HP7.out.res]; rfl
    have f7 : w7.frozen? ⟨w.heap.size + 1, 0, none⟩ = false := Lib.frozen_of_heap HP7.out.res 0
    have HP8 : Hid _ := HP7.out.later (Below.alloc1 w7 (.cells #[.slice a8 (makeD (ns.length + 9) J).length c8] 24)) HP7.out.two
    have HN8 : Hid _ := Nodes.later HN7.out (Below.alloc1 w7 (.cells #[.slice a8 (makeD (ns.length + 9) J).length c8] 24))
    have f8 : (w7.alloc (.cells #[.slice a8 (makeD (ns.length + 9) J).length c8] 24)).frozen? ⟨w.heap.size + 1, 0, none⟩ = false := Lib.frozen_of_heap HP8.out.res 0
    have r8 : (w7.alloc (.cells #[.slice a8 (makeD (ns.length + 9) J).length c8] 24)).cell? ⟨w.heap.size + 1, 0, none⟩ = some (.slice none 0 0) := by rw [Lib.cell_of_heap HP8.out.res]; rfl
    have x8 : (w7.alloc (.cells #[.slice a8 (makeD (ns.length + 9) J).length c8] 24)).cell? ⟨w.heap.size, 0, none⟩ = some (.slice na ns.length nc) := by rw [Lib.cell_of_heap HP8.out.box]; rfl
    cases hgd : goodB J with
    | true =>
      rw [show makeE J = 0 by unfold makeE; rw [hgd]; rfl]
      rw [hgd] at HD
      go_wp2_with fail
      refine bodyPost_ret (v := .tuple #[.agg #[.slice a8 (makeD (ns.length + 9) J).length c8], .int .i64 0]) (by simp [results, Try.results10, go_sem, cell_set, r8]) rfl ⟨.slice a8 (makeD (ns.length + 9) J).length c8, ?_, ?_, ?_⟩
      · rw [HD.out.2]; rfl
      · rw [HD.out.1]
        have : makeD (ns.length + 9) J = layF (ns.length + 9) J (-1) 0 := by unfold makeD; rw [hgd]; rfl
        have h1 : Nodes (fun b => w6.heap.size ≤ b) _ _ _ := HN8.out
        rw [this] at h1
        rw [this]
        simp only [if_true]
        refine h1.carry fun b hb => ⟨Or.inr (by have := HZ6.out; omega), ?_⟩
        exact blk_set_ne (by have := HZ6.out; omega)
      · exact HP8.out.below.setCell (p := ⟨w.heap.size + 1, 0, none⟩) (by show w.heap.size ≤ w.heap.size + 1; omega) _
    | false =>
      rw [show makeE J = 1 by unfold makeE; rw [hgd]; rfl]
      rw [hgd] at HD
      go_wp2_with fail
      refine bodyPost_ret (v := .tuple #[.agg #[.slice na ns.length nc], .int .i64 2]) (by simp [results, Try.results10, go_sem, cell_set, r8]) rfl ⟨.slice na ns.length nc, ?_, ?_, ?_⟩
      · rw [HD.out.2]; rfl
      · rw [HD.out.1]
        simp only [Bool.false_eq_true, if_false]
        refine (HN.out.later HP8.out.below).carry fun b hb => ⟨Or.inl hb, ?_⟩
        exact blk_set_ne (by have := HS.out b hb; omega)
      · exact HP8.out.below.setCell (p := ⟨w.heap.size + 1, 0, none⟩) (by show w.heap.size ≤ w.heap.size + 1; omega) _
  · have HR : Hid (applyD ns l = ns ∧ applyE ns l = checkF ns l) := by
      show _ ∧ _
      unfold applyD applyE
      rw [if_neg hc, if_neg hc]
      exact ⟨rfl, rfl⟩
    generalize applyD ns l = RD at HR ⊢
    generalize applyE ns l = RE at HR ⊢
    obtain ⟨c, hcc⟩ : ∃ c, checkF ns l = c := ⟨_, rfl⟩
    rw [hcc] at HCK HR hc
    clear hf hN hO hS ha hx ht hcc
    go_enter Try.func10, Try.ntmps10
    go_wp2_with fail
    refine (HCK.out _ HP0.out.below).mono ?_
    rintro e w1 ⟨rfl, hb1⟩
    have HP1 : Hid _ := HP0.out.later hb1 HP0.out.two
    have x1 : w1.cell? ⟨w.heap.size, 0, none⟩ = some (.slice na ns.length nc) := by rw [Lib.cell_of_heap HP1.out.box]; rfl
    have r1 : w1.cell? ⟨w.heap.size + 1, 0, none⟩ = some (.slice none 0 0) := by rw [Lib.cell_of_heap HP1.out.res]; rfl
    have f1 : w1.frozen? ⟨w.heap.size + 1, 0, none⟩ = false := Lib.frozen_of_heap HP1.out.res 0
    clear hb1 HP0 HCK
    go_wp2_with fail
    refine bodyPost_ret (v := .tuple #[.agg #[.slice na ns.length nc], .int .i64 c]) (by simp [results, Try.results10, go_sem, cell_set, r1]) rfl ⟨.slice na ns.length nc, ?_, ?_, ?_⟩
    · rw [HR.out.2]
    · rw [HR.out.1]
      refine (HN.out.later HP1.out.below).carry fun b hb => ⟨Or.inl hb, ?_⟩
      exact blk_set_ne (by have := HS.out b hb; omega)
    · exact HP1.out.below.setCell (p := ⟨w.heap.size + 1, 0, none⟩) (by show w.heap.size ≤ w.heap.size + 1; omega) _
end Go.Proofs.Ytlchbhlmbphkpaa

/- change.Apply where the texts of the document and of the changes are not too large (2^40 bytes, the changes' tenfold). -/
namespace Go.Proofs.Ytlchbhlmbphkpaa
open Go.ChangeShapes Go.WideShapes Go.ChangeAt Go.RowKit
set_option maxRecDepth 100000

theorem Ops.deep {S : Nat → Prop} {w : World} {n : Nat} {v : Value} {l : List Opn} (h : Ops S w n v l) : ∀ o ∈ l, Deep n o.content := by
  intro o ho
  obtain ⟨i, hi⟩ := List.mem_iff_getElem?.1 ho
  obtain ⟨a, cap, _, _, _, h4⟩ := h
  obtain ⟨b, p, _, _, hc⟩ := h4 (by intro e; subst e; cases ho)
  obtain ⟨ca, cc, _, _, _, _, _, h5⟩ := hc i o hi
  exact Trees.deep n h5

theorem all_and {P Q R : Tr → Prop} (h : ∀ t, P t → Q t → R t) : ∀ {n : Nat} {ts : List Tr}, AllN P n ts → AllN Q n ts → AllN R n ts := by
  intro n
  induction n with
  | zero => intro ts _ _; trivial
  | succ n ih => intro ts h1 h2 t ht; exact ⟨h t (h1 t ht).1 (h2 t ht).1, ih (h1 t ht).2 (h2 t ht).2⟩

theorem texts_all' : ∀ (n : Nat) (ts : List Tr), TextsN n ts → AllN Texts n ts := by
  intro n
  induction n with
  | zero => intro ts _; trivial
  | succ n ih => intro ts h t ht; exact ⟨(h t ht).1, ih t.kids (h t ht).2⟩

theorem fine_of {ns : List Nd} {l : List Opn} {n : Nat} (hc : checkF ns l = 0) (hT : txtD ns + 10 * txtO l ≤ 1099511627776) (hx : TextsD ns) (ht : TextsO n l) (hd : ∀ o ∈ l, Deep n o.content) : Fine ns l := by
  obtain ⟨hg, hlen, hw, _⟩ := (check_ok _ _).1 hc
  have h1 : ∀ k, AttOk 1048576 (saidF ns l k).attrs := fun k => (att_said (fun o ho => (ht o ho).2) (fun x hm => ⟨((bnd_start hg).2 x hm).2, (hx x hm).2⟩) k).more (by omega)
  have h2 : ∀ o ∈ l, ∀ k, AllN (fun t => AttOk 1048576 t.attrs) k o.content := by
    intro o ho
    have h3 := att_wide (deep9 (ok_okC (hw o ho)).deep) (ok_okC (hw o ho)).att n
    refine att_wide (hd o ho) (all_and (fun t (p : t.attrs.length ≤ 4) (q : Texts t) => ⟨by omega, q.2⟩) h3 (texts_all' n _ (ht o ho).1))
  have h4 := body_all (P := AttOk 1048576) (ns := ns) ⟨Nat.zero_le _, fun y hy => by cases hy⟩ h1 (all_said h2) ns.length (ns.length + 9 + 1) 0
  have hs : Small (ns.length + 9 + 1) [applyT ns l] := small_of _ _ (Nat.le_trans (apply_few hc) (by omega)) (Nat.le_trans (apply_txt hc) hT) h4
  refine ⟨hs, Nat.le_trans (apply_few hc) (by omega), ?_⟩
  have e : [applyJ ns l] = joinB (ns.length + 9) [applyT ns l] := by
    show _ = (jt [applyT ns l]).map (jk (ns.length + 9))
    rw [jt_elem _ _ (apply_root hg)]
    rfl
  have hj : Small (ns.length + 9 + 1) [applyJ ns l] := by rw [e]; exact join_small hs
  refine texts_small _ _ hj ?_
  intro t hm
  rw [List.mem_singleton.1 hm]
  have h5 := h4 _ List.mem_cons_self
  refine ⟨?_, jk_all _ _ _ h5.2⟩
  show AttOk 1048576 (jk (ns.length + 9) (applyT ns l)).attrs
  rw [jk_attrs]
  exact h5.1

/-- change.Apply. -/
theorem applies_any (S : Nat → Prop) (n : Nat) (vn vl : Value) (ns : List Nd) (l : List Opn) (w : World) (hN : Nodes S w vn ns) (hS : ∀ b, S b → b < w.heap.size) (ha : ∀ x ∈ ns, x.attrs.length ≤ 4398046511104) (hx : TextsD ns) (hO : Ops S w n vl l) (ht : TextsO n l) (hT : txtD ns + 10 * txtO l ≤ 1099511627776) :
    Calls Try.prog 10 #[.agg #[vn], vl] w fun e w' => ∃ v', e = .returned (.tuple #[.agg #[v'], .int .i64 (applyE ns l)]) ∧ Nodes (fun b => S b ∨ w.heap.size ≤ b) w' v' (applyD ns l) ∧ Below w.heap.size w w' :=
  apply_any S n vn vl ns l w hN hS ha hx hO ht (fun hc => fine_of hc hT hx ht hO.deep)
end Go.Proofs.Ytlchbhlmbphkpaa

/- The closed sentence 'changes' of the package topiarykeep is true. No condition. -/
namespace Go.Proofs.Ytlchbhlmbphkpaa
open Go.ChangeShapes Go.WideShapes Go.ChangeAt Go.RowKit
set_option maxRecDepth 100000

attribute [local go_sem] cell_set

def chgsN : List Nd := [⟨false, ⟨#[97]⟩, [], -1, [1]⟩, ⟨false, ⟨#[98]⟩, [], 0, []⟩]
def chgsT : Tr := ⟨false, ⟨#[99]⟩, [], []⟩
def chgsO : List Opn := [⟨3, 1, [chgsT], ⟨#[]⟩, ⟨#[]⟩⟩, ⟨8, 1, [], ⟨#[101]⟩, ⟨#[]⟩⟩]
def chgsR : List Nd := [⟨false, ⟨#[97]⟩, [], -1, [1, 2]⟩, ⟨false, ⟨#[99]⟩, [], 0, []⟩, ⟨false, ⟨#[101]⟩, [], 0, []⟩]

theorem chgs_e : applyE chgsN chgsO = 0 := by kernel_rfl
theorem chgs_d : applyD chgsN chgsO = chgsR := by kernel_rfl

theorem alloc5 (w : World) (o0 o1 o2 o3 o4 : Obj) : Below w.heap.size w (((((w.alloc o0).alloc o1).alloc o2).alloc o3).alloc o4) ∧ (((((w.alloc o0).alloc o1).alloc o2).alloc o3).alloc o4).heap[w.heap.size]? = some o0 ∧ (((((w.alloc o0).alloc o1).alloc o2).alloc o3).alloc o4).heap[w.heap.size + 1]? = some o1 ∧
    (((((w.alloc o0).alloc o1).alloc o2).alloc o3).alloc o4).heap[w.heap.size + 1 + 1 + 1]? = some o3 ∧ (((((w.alloc o0).alloc o1).alloc o2).alloc o3).alloc o4).heap[w.heap.size + 1 + 1 + 1 + 1]? = some o4 := by
  have e0 := heap_alloc_new w o0
  have e1 := heap_alloc_new (w.alloc o0) o1
  have e2 := heap_alloc_new ((w.alloc o0).alloc o1) o2
  have e3 := heap_alloc_new (((w.alloc o0).alloc o1).alloc o2) o3
  have e4 := heap_alloc_new ((((w.alloc o0).alloc o1).alloc o2).alloc o3) o4
  simp only [World.size_alloc] at e1 e2 e3 e4
  refine ⟨((((Below.alloc1 w _).alloc (by simp) _).alloc (by simp only [World.size_alloc]; omega) _).alloc (by simp only [World.size_alloc]; omega) _).alloc (by simp only [World.size_alloc]; omega) _, ?_, ?_, ?_, e4⟩
  · rw [heap_alloc_old _ _ (by simp only [World.size_alloc]; omega), heap_alloc_old _ _ (by simp only [World.size_alloc]; omega), heap_alloc_old _ _ (by simp only [World.size_alloc]; omega), heap_alloc_old _ _ (by simp)]; exact e0
  · rw [heap_alloc_old _ _ (by simp only [World.size_alloc]; omega), heap_alloc_old _ _ (by simp only [World.size_alloc]; omega), heap_alloc_old _ _ (by simp)]; exact e1
  · rw [heap_alloc_old _ _ (by simp)]; exact e3

theorem chgs_nodes {W : World} {a : Nat} (h0 : W.heap[a]? = some (.cells #[.int .i64 1] 3 (0, 0))) (h1 : W.heap[a + 1]? = some (.cells #[.bool false, .string ⟨#[97]⟩, .slice none 0 0, .int .i64 (-1), .slice (some ⟨a, 0, none⟩) 1 1, .bool false, .string ⟨#[98]⟩, .slice none 0 0, .int .i64 0, .slice none 0 0] 42 (0, 0))) :
    Nodes (fun b => b < W.heap.size) W (.slice (some ⟨a + 1, 0, none⟩) 2 2) chgsN := by
  refine ⟨_, 2, rfl, Nat.le_refl _, by unfold maxLen; omega, fun _ => ⟨a + 1, 0, rfl, blk_lt h1, fun i x hx => ?_⟩⟩
  have hi := lt_of_some hx
  have hi2 : i < 2 := hi
  match i, hx with
  | 0, hx =>
    simp [chgsN] at hx
    subst hx
    refine ⟨.slice none 0 0, .slice (some ⟨a, 0, none⟩) 1 1, by rw [Lib.cell_of_heap h1]; rfl, by rw [Lib.cell_of_heap h1]; rfl, by rw [Lib.cell_of_heap h1]; rfl, by rw [Lib.cell_of_heap h1]; rfl, by rw [Lib.cell_of_heap h1]; rfl, Attrs.nil, ?_⟩
    refine ⟨_, 1, rfl, Nat.le_refl _, by unfold maxLen; omega, fun _ => ⟨a, 0, rfl, blk_lt h0, fun j y hy => ?_⟩⟩
    have hj := lt_of_some hy
    have hj2 : j = 0 := by simp at hj; exact hj
    subst hj2
    simp at hy
    subst hy
    rw [Lib.cell_of_heap h0]; rfl
  | 1, hx =>
    simp [chgsN] at hx
    subst hx
    exact ⟨.slice none 0 0, .slice none 0 0, by rw [Lib.cell_of_heap h1]; rfl, by rw [Lib.cell_of_heap h1]; rfl, by rw [Lib.cell_of_heap h1]; rfl, by rw [Lib.cell_of_heap h1]; rfl, by rw [Lib.cell_of_heap h1]; rfl, Attrs.nil, ⟨none, 0, rfl, Nat.le_refl _, Nat.zero_le _, fun h => absurd rfl h⟩⟩
  | i + 2, _ => omega

theorem chgs_ops {W : World} {a : Nat} (h3 : W.heap[a + 1 + 1 + 1]? = some (.cells #[.bool false, .string ⟨#[99]⟩, .slice none 0 0, .slice none 0 0] 47 (0, 0)))
    (h4 : W.heap[a + 1 + 1 + 1 + 1]? = some (.cells #[.int .i64 3, .int .i64 1, .slice (some ⟨a + 1 + 1 + 1, 0, none⟩) 1 1, .string ⟨#[]⟩, .string ⟨#[]⟩, .int .i64 8, .int .i64 1, .slice none 0 0, .string ⟨#[101]⟩, .string ⟨#[]⟩] 30 (0, 0))) :
    Ops (fun b => b < W.heap.size) W 1 (.slice (some ⟨a + 1 + 1 + 1 + 1, 0, none⟩) 2 2) chgsO := by
  have hT : Trees (fun b => b < W.heap.size) W 1 (.slice (some ⟨a + 1 + 1 + 1, 0, none⟩) 1 1) [chgsT] :=
    Trees.carry (fun b hb => ⟨by rcases hb with hb | rfl; exact hb.elim; exact blk_lt h3, rfl⟩) 1 (Trees.of_block (S := fun _ => False) (qs := [(false, ⟨#[99]⟩, .slice none 0 0, .slice none 0 0)]) h3 rfl rfl rfl (Nat.le_refl _) (by unfold maxLen; omega) (by
      intro i q t hq ht
      match i, hq, ht with
      | 0, hq, ht =>
        simp at hq ht
        subst hq ht
        exact ⟨rfl, rfl, Attrs.nil, rfl, none, 0, rfl, Nat.zero_le _⟩
      | i + 1, hq, _ => simp at hq))
  refine ⟨_, 2, rfl, Nat.le_refl _, by unfold maxLen; omega, fun _ => ⟨a + 1 + 1 + 1 + 1, 0, rfl, blk_lt h4, fun i x hx => ?_⟩⟩
  have hi := lt_of_some hx
  have hi2 : i < 2 := hi
  match i, hx with
  | 0, hx =>
    simp [chgsO] at hx
    subst hx
    exact ⟨some ⟨a + 1 + 1 + 1, 0, none⟩, 1, by rw [Lib.cell_of_heap h4]; rfl, by rw [Lib.cell_of_heap h4]; rfl, by rw [Lib.cell_of_heap h4]; rfl, by rw [Lib.cell_of_heap h4]; rfl, by rw [Lib.cell_of_heap h4]; rfl, hT⟩
  | 1, hx =>
    simp [chgsO] at hx
    subst hx
    exact ⟨none, 0, by rw [Lib.cell_of_heap h4]; rfl, by rw [Lib.cell_of_heap h4]; rfl, by rw [Lib.cell_of_heap h4]; rfl, by rw [Lib.cell_of_heap h4]; rfl, by rw [Lib.cell_of_heap h4]; rfl, Trees.nil _ ⟨none, 0, rfl, Nat.zero_le _⟩⟩
  | i + 2, _ => omega

theorem chgs_texts : TextsD chgsN ∧ TextsO 1 chgsO := by
  constructor
  · intro x hx
    simp only [chgsN, List.mem_cons, List.not_mem_nil, or_false] at hx
    rcases hx with rfl | rfl <;> exact ⟨by show 1 ≤ maxLen; unfold maxLen; omega, by intro y hy; simp at hy⟩
  · intro o ho
    simp only [chgsO, List.mem_cons, List.not_mem_nil, or_false] at ho
    rcases ho with rfl | rfl
    · refine ⟨fun t ht => ?_, Nat.zero_le _, Nat.zero_le _⟩
      simp only [List.mem_singleton] at ht
      subst ht
      exact ⟨⟨by show 1 ≤ maxLen; unfold maxLen; omega, by intro y hy; simp [chgsT] at hy⟩, trivial⟩
    · exact ⟨fun t ht => by simp at ht, by show 1 ≤ maxLen; unfold maxLen; omega, Nat.zero_le _⟩

set_option maxHeartbeats 1000000 in
theorem chgsK_any (w : World) : Calls Try.prog 8 #[] w fun e w' => e = .returned (.bool true) ∧ Below w.heap.size w w' := by
  go_enter Try.func8, Try.ntmps8
  go_wp2_with fail
  obtain ⟨hb, h0, h1, h3, h4⟩ := alloc5 w (.cells #[.int .i64 1] 3) (.cells #[.bool false, .string ⟨#[97]⟩, .slice none 0 0, .int .i64 (-1), .slice (some ⟨w.heap.size, 0, none⟩) 1 1, .bool false, .string ⟨#[98]⟩, .slice none 0 0, .int .i64 0, .slice none 0 0] 42) (.cells #[.slice (some ⟨w.heap.size + 1, 0, none⟩) 2 2] 24) (.cells #[.bool false, .string ⟨#[99]⟩, .slice none 0 0, .slice none 0 0] 47) (.cells #[.int .i64 3, .int .i64 1, .slice (some ⟨w.heap.size + 1 + 1 + 1, 0, none⟩) 1 1, .string ⟨#[]⟩, .string ⟨#[]⟩, .int .i64 8, .int .i64 1, .slice none 0 0, .string ⟨#[101]⟩, .string ⟨#[]⟩] 30)
  generalize ((((w.alloc (.cells #[.int .i64 1] 3)).alloc (.cells #[.bool false, .string ⟨#[97]⟩, .slice none 0 0, .int .i64 (-1), .slice (some ⟨w.heap.size, 0, none⟩) 1 1, .bool false, .string ⟨#[98]⟩, .slice none 0 0, .int .i64 0, .slice none 0 0] 42)).alloc (.cells #[.slice (some ⟨w.heap.size + 1, 0, none⟩) 2 2] 24)).alloc (.cells #[.bool false, .string ⟨#[99]⟩, .slice none 0 0, .slice none 0 0] 47)).alloc (.cells #[.int .i64 3, .int .i64 1, .slice (some ⟨w.heap.size + 1 + 1 + 1, 0, none⟩) 1 1, .string ⟨#[]⟩, .string ⟨#[]⟩, .int .i64 8, .int .i64 1, .slice none 0 0, .string ⟨#[101]⟩, .string ⟨#[]⟩] 30) = W at hb h0 h1 h3 h4 ⊢
  have hA := applies_any _ 1 _ _ chgsN chgsO W (chgs_nodes h0 h1) (fun _ h => h) (by intro x hx; simp only [chgsN, List.mem_cons, List.not_mem_nil, or_false] at hx; rcases hx with rfl | rfl <;> exact Nat.zero_le _) chgs_texts.1 (chgs_ops h3 h4) chgs_texts.2 (by decide)
  rw [chgs_e, chgs_d] at hA
  have HA : Hid _ := hA
  clear hA h0 h1 h3 h4
  refine Calls.mono HA.out ?_
  rintro e w1 ⟨v1, rfl, hN1, hb1⟩
  have hB1 : Below w.heap.size w w1 := hb.trans (hb1.mono hb.size)
  obtain ⟨b, o, cap, va, vk, rfl, hlc, hcm, _, hbl, _, e1, _, _, _, _, _⟩ := hN1.at (i := 1) (x := ⟨false, ⟨#[99]⟩, [], 0, []⟩) rfl
  obtain ⟨b', o', cap', va', vk', hv', _, _, _, _, _, e2, _, _, _, _, _⟩ := hN1.at (i := 2) (x := ⟨false, ⟨#[101]⟩, [], 0, []⟩) rfl
  injection hv' with hv1 _ hv2
  injection hv1 with hv1
  injection hv1 with hv1 hv3
  subst hv1 hv2 hv3
  have hl3 : chgsR.length = 3 := rfl
  rw [hl3] at hlc ⊢
  unfold maxLen at hcm
  have f1 : (w1.alloc (.cells #[.slice (some ⟨b, o, none⟩) 3 cap] 24)).cell? ⟨b, o + 1 * 5 + 1, none⟩ = some (.string ⟨#[99]⟩) := Lib.cell?_alloc_some _ e1
  have f2 : (w1.alloc (.cells #[.slice (some ⟨b, o, none⟩) 3 cap] 24)).cell? ⟨b, o + 2 * 5 + 1, none⟩ = some (.string ⟨#[101]⟩) := Lib.cell?_alloc_some _ e2
  simp only [Nat.one_mul] at f1 e1
  clear HA hN1
  go_wp2_with fail
  go_ret
  exact ⟨rfl, hB1.alloc hB1.size _⟩
end Go.Proofs.Ytlchbhlmbphkpaa

/- change.Apply for every document and changes: what is not refused is small (names, texts and counts have their limits). No condition but what every argument has. -/
namespace Go.Proofs.Ytlchbhlmbphkpaa
open Go.ChangeShapes Go.WideShapes Go.ChangeAt Go.RowKit
set_option maxRecDepth 100000

theorem plain_size {s : ByteArray} (h : plainB s = true) : s.size ≤ 40 := by
  simp only [plainB, Bool.and_eq_true, decide_eq_true_eq] at h
  exact h.1

theorem name_size {s : ByteArray} (h : nameB s = true) : s.size ≤ 8 := by
  simp only [nameB, Bool.and_eq_true, decide_eq_true_eq] at h
  exact h.1.2

theorem right_size {t : Tr} (h : rightB t = true) : t.s.size ≤ 40 := by
  unfold rightB at h
  split at h
  · simp only [Bool.and_eq_true] at h
    exact plain_size h.1.1.2
  · simp only [Bool.and_eq_true] at h
    have := name_size h.1
    omega

theorem rgt_sizes : ∀ {n : Nat} {ts : List Tr}, (∀ N, rgt N ts = true) → AllN (fun t => t.s.size ≤ 40) n ts := by
  intro n
  induction n with
  | zero => intro ts _; trivial
  | succ n ih =>
    intro ts h t ht
    obtain ⟨h1, _⟩ := rgL_mem _ _ (h (n + 1)) t ht
    refine ⟨right_size h1, ih (fun N => ?_)⟩
    obtain ⟨h3, h4⟩ := rgL_mem _ _ (h (N + 1)) t ht
    cases hx : t.text with
    | true => rw [rgt_text h3 hx]; exact rgt_nil N
    | false => rw [hx, Bool.false_or] at h4; exact h4

theorem sum_cnt : ∀ {n : Nat} {ts : List Tr}, AllN (fun t => t.s.size ≤ 40) n ts → sumN id n ts ≤ 40 * cnt n ts := by
  intro n
  induction n with
  | zero => intro ts _; exact Nat.zero_le _
  | succ n ih =>
    intro ts
    rw [← sumN_cnt]
    induction ts with
    | nil => intro _; rw [sumN_nil]; exact Nat.zero_le _
    | cons t r ihr =>
      intro h
      rw [sumN_cons, sumN_cons]
      have h1 := ihr (fun u hu => h u (List.mem_cons_of_mem _ hu))
      have h2 := h t List.mem_cons_self
      have h3 := ih h2.2
      rw [← sumN_cnt] at h3
      have h4 := h2.1
      simp only [id]
      omega

theorem content_sum {l : List Tr} (h : contentB l = true) : sumN id 9 l ≤ 3200 := by
  have hd : Deep 8 l := rb_deep 8 80 l (by simpa [contentB] using h)
  have h2 := h
  rw [contentB_eq hd] at h2
  simp only [Bool.and_eq_true, decide_eq_true_eq] at h2
  have h3 := sum_cnt (n := 9) (rgt_sizes (rgt_all hd h2.2))
  have h4 : cnt 9 l ≤ 80 := (content_okC h).cnt
  omega

theorem op_sum {ns : List Nd} {o : Opn} (h : wrongF ns o = 0) : opW id o ≤ 3300 := by
  obtain ⟨_, _, _, h1, h2, h3⟩ := ok_of h
  have a1 : sumN id 9 o.content ≤ 3200 := by
    unfold contOk at h1
    split at h1
    · exact content_sum h1
    · have : o.content = [] := List.eq_nil_of_length_eq_zero (by simpa using h1)
      rw [this, sumN_nil]
      omega
  have a2 : o.name.size ≤ 8 := by
    unfold nameOk at h2
    split at h2
    · exact name_size h2
    · rw [of_decide_eq_true h2]; exact Nat.zero_le _
  have a3 : o.s.size ≤ 40 := by
    unfold textOk at h3
    split at h3
    · exact plain_size h3
    · rw [of_decide_eq_true h3]; exact Nat.zero_le _
  unfold opW
  simp only [id]
  omega

theorem good_sizes {ns : List Nd} (hg : goodD ns = true) : ∀ x ∈ ns, x.s.size ≤ 40 := by
  intro y hy
  obtain ⟨n, hn⟩ := List.mem_iff_getElem?.1 hy
  obtain ⟨d, T, u, fs, hz⟩ := zip_get hg (lt_of_some hn)
  obtain ⟨x', hx', _, e2, _⟩ := hz.get
  rw [hn] at hx'
  obtain rfl := Option.some.inj hx'
  rw [e2]
  exact right_size hz.right

theorem sumF_le {α : Type} (f : α → Nat) (m : Nat) : ∀ l : List α, (∀ x ∈ l, f x ≤ m) → (l.map f).sum ≤ m * l.length := by
  intro l
  induction l with
  | nil => intro _; exact Nat.le_refl _
  | cons x l ih =>
    intro h
    rw [List.map_cons, List.sum_cons, List.length_cons, Nat.mul_succ]
    have h1 := h x List.mem_cons_self
    have h2 := ih (fun y hy => h y (List.mem_cons_of_mem _ hy))
    omega

theorem check_txt {ns : List Nd} {l : List Opn} (h : checkF ns l = 0) : txtD ns + 10 * txtO l ≤ 1099511627776 := by
  obtain ⟨hg, hlen, hw, _⟩ := (check_ok _ _).1 h
  have h1 : txtD ns ≤ 40 * ns.length := sumF_le _ 40 ns (good_sizes hg)
  have h2 : txtO l ≤ 3300 * l.length := sumF_le _ 3300 l (fun o ho => op_sum (hw o ho))
  have h3 := good_len hg
  omega

theorem fine_all {ns : List Nd} {l : List Opn} {n : Nat} (hc : checkF ns l = 0) (hx : TextsD ns) (ht : TextsO n l) (hd : ∀ o ∈ l, Deep n o.content) : Fine ns l := fine_of hc (check_txt hc) hx ht hd

/-- change.Apply. -/
theorem applyAll_any (S : Nat → Prop) (n : Nat) (vn vl : Value) (ns : List Nd) (l : List Opn) (w : World) (hN : Nodes S w vn ns) (hS : ∀ b, S b → b < w.heap.size) (ha : ∀ x ∈ ns, x.attrs.length ≤ 4398046511104) (hx : TextsD ns) (hO : Ops S w n vl l) (ht : TextsO n l) :
    Calls Try.prog 10 #[.agg #[vn], vl] w fun e w' => ∃ v', e = .returned (.tuple #[.agg #[v'], .int .i64 (applyE ns l)]) ∧ Nodes (fun b => S b ∨ w.heap.size ≤ b) w' v' (applyD ns l) ∧ Below w.heap.size w w' :=
  apply_any S n vn vl ns l w hN hS ha hx hO ht (fun hc => fine_all hc hx ht hO.deep)
end Go.Proofs.Ytlchbhlmbphkpaa

/- topiarykeep.ChangeGood says true. No condition but what every argument has. -/
namespace Go.Proofs.Ytlchbhlmbphkpaa
open Go.ChangeShapes Go.WideShapes Go.ChangeAt Go.RowKit
set_option maxRecDepth 100000

attribute [local go_sem] cell_set

theorem applyD_texts {ns : List Nd} {l : List Opn} (hx : TextsD ns) (hf : checkF ns l = 0 → Fine ns l) : TextsD (applyD ns l) := by
  unfold applyD
  split
  · rename_i hc
    split
    · have hF := hf hc
      exact lay_all (P := fun x => x.s.size ≤ maxLen ∧ ∀ y ∈ x.attrs, y.1.size ≤ maxLen ∧ y.2.size ≤ maxLen) Texts (fun t p ks h => h) (ns.length + 9) (applyJ ns l) (-1) 0 (fun e he => by subst he; exact texts_all' _ _ hF.texts)
    · exact hx
  · exact hx

theorem applyD_few {ns : List Nd} {l : List Opn} (ha : ∀ x ∈ ns, x.attrs.length ≤ 4398046511104) : ∀ x ∈ applyD ns l, x.attrs.length ≤ 4398046511104 := by
  by_cases h : applyE ns l = 0
  · intro x hx
    exact Nat.le_trans ((bnd_start (apply_good h).1).2 x hx).2 (by omega)
  · rw [apply_refused h]; exact ha

set_option maxHeartbeats 2000000 in
theorem changeGood_any (S : Nat → Prop) (n : Nat) (vn vl : Value) (ns : List Nd) (l : List Opn) (w : World) (hN : Nodes S w vn ns) (hS : ∀ b, S b → b < w.heap.size) (ha : ∀ x ∈ ns, x.attrs.length ≤ 4398046511104) (hx : TextsD ns) (hO : Ops S w n vl l) (ht : TextsO n l) :
    Calls Try.prog 4 #[.agg #[vn], vl] w fun e w' => e = .returned (.bool true) ∧ Below w.heap.size w w' := by
  obtain ⟨na, nc, rfl, hnl, hnc⟩ := hN.shape
  obtain ⟨la, lc, rfl, hll, hlc⟩ := hO.shape
  have later : ∀ W : World, Below w.heap.size w W → (∀ b, S b → b < W.heap.size) := fun W hW b hb => Nat.lt_of_lt_of_le (hS b hb) hW.size
  have HAP : Hid (∀ W, Below w.heap.size w W → Calls Try.prog 10 #[.agg #[.slice na ns.length nc], .slice la l.length lc] W fun e w' => ∃ v', e = .returned (.tuple #[.agg #[v'], .int .i64 (applyE ns l)]) ∧ Nodes (fun b => S b ∨ W.heap.size ≤ b) w' v' (applyD ns l) ∧ Below W.heap.size W w') :=
    fun W hW => applyAll_any S n _ _ ns l W (hN.later hW) (later W hW) ha hx (hO.later hW) ht
  have HA0 : Hid (∀ W, Below w.heap.size w W → Calls Try.prog 10 #[.agg #[.slice na ns.length nc], .slice none 0 0] W fun e w' => ∃ v', e = .returned (.tuple #[.agg #[v'], .int .i64 (applyE ns [])]) ∧ Nodes (fun b => S b ∨ W.heap.size ≤ b) w' v' (applyD ns []) ∧ Below W.heap.size W w') :=
    fun W hW => applyAll_any S 0 _ _ ns [] W (hN.later hW) (later W hW) ha hx ⟨none, 0, rfl, Nat.le_refl _, Nat.zero_le _, fun h => absurd rfl h⟩ (by intro o ho; cases ho)
  have HCK : Hid (∀ W, Below w.heap.size w W → Calls Try.prog 13 #[.agg #[.slice na ns.length nc], .slice la l.length lc] W fun e w' => e = .returned (.int .i64 (checkF ns l)) ∧ Below W.heap.size W w') :=
    fun W hW => check_any S n _ _ ns l W (hN.later hW) (later W hW) ha hx (hO.later hW) ht
  have HTX : Hid (TextsD (applyD ns l)) := applyD_texts hx (fun hc => fine_all hc hx ht hO.deep)
  have HFW : Hid (∀ x ∈ applyD ns l, x.attrs.length ≤ 4398046511104) := applyD_few ha
  have HN : Hid (Nodes S w (.slice na ns.length nc) ns) := hN
  have HP0 : Hid _ := heap_alloc_new w (.cells #[.slice na ns.length nc] 24)
  have hb0 := Below.alloc1 w (.cells #[.slice na ns.length nc] 24)
  unfold maxLen at hnc hlc
  clear hN hO hx ht ha later
  by_cases hE : applyE ns l = 0
  · obtain ⟨hg, hgr⟩ := apply_good hE
    have hc0 := (apply_ok hE).1
    have hgn := ((check_ok _ _).1 hc0).1
    have h0 := apply_nil hgn
    rw [h0.1, h0.2] at HA0
    rw [hE] at HAP
    rw [hc0] at HCK
    have HGD : Hid (∀ (S : Nat → Prop) (v : Value) (W : World), Nodes S W v (applyD ns l) → (∀ b, S b → b < W.heap.size) → Calls Try.prog 12 #[.agg #[v]] W fun e w' => e = .returned (.bool true) ∧ Below W.heap.size W w') := by
      intro S v W h1 h2
      have := goodD_any S v (applyD ns l) W h1 h2 HFW.out HTX.out
      rw [hg] at this
      exact this
    generalize applyD ns l = D at HAP HGD
    clear hE hg hgr hc0 hgn h0 HTX HFW
    go_enter Try.func4, Try.ntmps4
    go_wp2_with fail
    refine (HAP.out _ hb0).mono ?_
    rintro e w1 ⟨v1, rfl, hN1, hb1⟩
    have HX1 : Hid _ := (hb1.block _ (blk_lt HP0.out)).trans HP0.out
    have hB1 := hb0.trans (hb1.mono hb0.size)
    obtain ⟨a1, c1, rfl, _, _⟩ := hN1.shape
    have HN1 : Hid (Nodes (fun b => b < w1.heap.size) w1 (.slice a1 D.length c1) D) := hN1.bounded.carry fun b hb => ⟨hb.2, rfl⟩
    clear hb1 hN1 HAP HP0
    have hb2 := Below.alloc1 w1 (.cells #[.slice a1 D.length c1] 24)
    have HX2 : Hid _ := (hb2.block _ (blk_lt HX1.out)).trans HX1.out
    have HY2 : Hid _ := heap_alloc_new w1 (.cells #[.slice a1 D.length c1] 24)
    have hB2 := hB1.trans (hb2.mono hB1.size)
    go_wp2_with fail
    generalize w1.alloc (.cells #[.slice a1 D.length c1] 24) = W2 at *
    refine (chgsK_any W2).mono ?_
    rintro e w3 ⟨rfl, hb3⟩
    have HX3 : Hid _ := (hb3.block _ (blk_lt HX2.out)).trans HX2.out
    have HY3 : Hid _ := (hb3.block _ (blk_lt HY2.out)).trans HY2.out
    have hB3 := hB2.trans (hb3.mono hB2.size)
    have x3 : w3.cell? ⟨w.heap.size, 0, none⟩ = some (.slice na ns.length nc) := by rw [Lib.cell_of_heap HX3.out]; rfl
    have HN3 : Hid _ := Nodes.later (Nodes.later HN1.out hb2) hb3
    clear hb3 hb2 HX2 HY2 HX1 HN1
    go_wp2_with fail
    refine (HA0.out w3 hB3).mono ?_
    rintro e w4 ⟨v4, rfl, hN4, hb4⟩
    obtain ⟨a4, c4, rfl, _, _⟩ := hN4.shape
    have hb5 := Below.alloc1 w4 (.cells #[.slice a4 ns.length c4] 24)
    have hb6 : Below w3.heap.size w3 (w4.alloc (.cells #[.slice a4 ns.length c4] 24)) := hb4.trans (hb5.mono hb4.size)
    have HX5 : Hid _ := (hb6.block _ (blk_lt HX3.out)).trans HX3.out
    have HY5 : Hid _ := (hb6.block _ (blk_lt HY3.out)).trans HY3.out
    have HZ5 : Hid _ := heap_alloc_new w4 (.cells #[.slice a4 ns.length c4] 24)
    have HN5 : Hid _ := Nodes.later HN3.out hb6
    have HM5 : Hid _ := Nodes.later hN4 hb5
    have hB5 := hB3.trans (hb6.mono hB3.size)
    have y5 : (w4.alloc (.cells #[.slice a4 ns.length c4] 24)).cell? ⟨w1.heap.size, 0, none⟩ = some (.slice a1 D.length c1) := by rw [Lib.cell_of_heap HY5.out]; rfl
    have HG5 : Hid _ := HGD.out _ _ _ (Nodes.bounded HN5.out) (fun b hb => hb.2)
    clear hb4 hb5 hN4 HA0 HX3 HY3 HN3 x3 hb6
    go_wp2_with fail
    generalize w4.alloc (.cells #[.slice a4 ns.length c4] 24) = W5 at *
    refine Calls.mono HG5.out ?_
    rintro e w6 ⟨rfl, hb6⟩
    have HX6 : Hid _ := (hb6.block _ (blk_lt HX5.out)).trans HX5.out
    have HZ6 : Hid _ := (hb6.block _ (blk_lt HZ5.out)).trans HZ5.out
    have hB6 := hB5.trans (hb6.mono hB5.size)
    have x6 : w6.cell? ⟨w.heap.size, 0, none⟩ = some (.slice na ns.length nc) := by rw [Lib.cell_of_heap HX6.out]; rfl
    have z6 : w6.cell? ⟨w4.heap.size, 0, none⟩ = some (.slice a4 ns.length c4) := by rw [Lib.cell_of_heap HZ6.out]; rfl
    have HM6 : Hid _ := Nodes.later HM5.out hb6
    clear HG5 hb6
    go_wp2_with fail
    refine (sameDoc_any _ S _ _ ns _ HM6.out (Nodes.later HN.out hB6)).mono ?_
    rintro e w7 ⟨rfl, hb7⟩
    have HX7 : Hid _ := (hb7.block _ (blk_lt HX6.out)).trans HX6.out
    have hB7 := hB6.trans (hb7.mono hB6.size)
    have x7 : w7.cell? ⟨w.heap.size, 0, none⟩ = some (.slice na ns.length nc) := by rw [Lib.cell_of_heap HX7.out]; rfl
    clear hb7
    go_wp2_with fail
    refine (HCK.out w7 hB7).mono ?_
    rintro e w8 ⟨rfl, hb8⟩
    go_wp2_with fail
    go_ret
    exact ⟨rfl, hB7.trans (hb8.mono hB7.size)⟩
  · have hD : applyD ns l = ns := apply_refused hE
    rw [hD] at HAP
    generalize applyE ns l = E at HAP hE
    clear HTX HFW HCK HA0
    go_enter Try.func4, Try.ntmps4
    go_wp2_with fail
    refine (HAP.out _ hb0).mono ?_
    rintro e w1 ⟨v1, rfl, hN1, hb1⟩
    have HX1 : Hid _ := (hb1.block _ (blk_lt HP0.out)).trans HP0.out
    have hB1 := hb0.trans (hb1.mono hb0.size)
    obtain ⟨a1, c1, rfl, _, _⟩ := hN1.shape
    have HN1 : Hid _ := hN1
    clear hb1 hN1 HAP HP0
    have hb2 := Below.alloc1 w1 (.cells #[.slice a1 ns.length c1] 24)
    have HX2 : Hid _ := (hb2.block _ (blk_lt HX1.out)).trans HX1.out
    have HY2 : Hid _ := heap_alloc_new w1 (.cells #[.slice a1 ns.length c1] 24)
    have hB2 := hB1.trans (hb2.mono hB1.size)
    have HN2 : Hid _ := Nodes.later HN1.out hb2
    have x2 : (w1.alloc (.cells #[.slice a1 ns.length c1] 24)).cell? ⟨w.heap.size, 0, none⟩ = some (.slice na ns.length nc) := by rw [Lib.cell_of_heap HX2.out]; rfl
    clear HX1 HN1
    go_wp2_with fail
    refine (sameDoc_any _ S _ _ ns _ HN2.out (Nodes.later HN.out hB2)).mono ?_
    rintro e w3 ⟨rfl, hb3⟩
    have hB3 := hB2.trans (hb3.mono hB2.size)
    go_wp2_with fail
    refine (chgsK_any w3).mono ?_
    rintro e w4 ⟨rfl, hb4⟩
    go_wp2_with fail
    go_ret
    exact ⟨rfl, hB3.trans (hb4.mono hB3.size)⟩
end Go.Proofs.Ytlchbhlmbphkpaa

