/- path.Select, for every document and steps. Condition: texts of a size that can be read. -/
import Derived.Test.YtmbmfomeiioijabDoorBundle11
namespace Go.Proofs.YtmbmfomeiioijabDoor
open Go.ChangeShapes Go.WideShapes Go.ChangeAt Go.RowKit
set_option maxRecDepth 100000

attribute [local go_sem] cell_set

theorem run_append_none0 {P : Program} {w : World} (base : Nat) (t ty e : TypeId) (i : TypeInfo) (size c : Nat) (ht : P.underlying t = some (.slice e)) (hi : P.info? e = some i)
    (v : Value) (n : Nat) (xs : List Value) (hown : w.ownsRow base e size v n xs) :
    (Builtin.append_ #[t, t] ty #[v, .slice none 0 c]).run P w = .ok v w := by
  rcases hown.2 with ⟨rfl, rfl⟩ | ⟨g, cap, cur, rfl, _, _, hnc, _⟩
  · simp [Builtin.append_, run_underlying ht, sizeOf, typeInfo, hi, Builtin.lenOf, Builtin.firstCells]
  · simp [Builtin.append_, run_underlying ht, sizeOf, typeInfo, hi, Builtin.lenOf, Builtin.firstCells, hnc, storeCells]

/-- A list of numbers appended onto a list of the call's own, as a step of a region that draws. -/
theorem step_ints {ops : Array Oper} {o : Oper} {a : Act} {w : World} {K : Act → World → Prop} {Q : Exit → Act → World → Prop} {E : Prop}
    (hg : o.guard = none) (s x : Operand) (hop : o.op = Op.call { callee := Callee.builtin Builtin.append, args := #[s, x], argTypes := #[32, 32] })
    (B : Nat) (v : Value) (l : List Int) (hs : a.eval s = v) (hown : IRow B w v l) (S : Nat → Prop) (u : Value) (m : List Int) (hx : a.eval x = u) (hm : Ints S w u m) (hn : l.length + m.length ≤ 1048576) (hB : B ≤ w.heap.size)
    (hK : ∀ v' w', IRow B w' v' (l ++ m) → w.grownBy w' v.ownBlock → K (a.put o.dst v') w') :
    if Region.wanted o (yielded ops a.tmps) = true then Oper.wp Tryd.prog o a w K Q else E := by
  have hw : Region.wanted o (yielded ops a.tmps) = true := by simp [Region.wanted, hg]
  rw [if_pos hw]
  obtain ⟨i0, hi, hz0, hz1, hz2⟩ := info_parts intInfoR
  obtain ⟨ua, uc, rfl, _, _⟩ := hm.shape
  cases ua with
  | none =>
    have hm0 : m = [] := by
      obtain ⟨a', cap, h1, _, _, h4⟩ := hm
      apply Classical.byContradiction
      intro hne
      obtain ⟨b, o, ha, _⟩ := h4 hne
      rw [ha] at h1
      cases h1
    subst hm0
    have hr := run_append_none0 (P := Tryd.prog) (w := w) B 32 o.type 3 i0 1 uc Tryd.underlying32 hi v l.length (intCells l) hown
    unfold Oper.wp
    simp [execOp, hop, resolve, invoke, builtin, hs, hx, hr, Result.andThen]
    exact hK v w (by rw [List.append_nil]; exact hown) (World.grownBy.refl _ _)
  | some ad =>
    obtain ⟨v', w', hr, h2, h3, _, h5⟩ := run_append_own_at (P := Tryd.prog) w B 32 o.type 3 i0 _ 1 8 Tryd.underlying32 hi hz0 hz1 hz2 rfl (by decide) v l.length (intCells l) hown ad m.length uc (intCells m) (by rw [intCells_length]; omega) hm.cells (intCells_one m) (by unfold maxLen; omega) (by omega) hB
    unfold Oper.wp
    simp [execOp, hop, resolve, invoke, builtin, hs, hx, hr, Result.andThen]
    refine hK v' w' ?_ h3
    unfold IRow
    rw [intCells_append, List.length_append]
    exact h2

theorem nextF_snoc {ns : List Nd} {here : List Int} {k : Nat} {u : Int} (hk : here[k]? = some u) (s : St) : nextF ns (here.take (k + 1)) s = nextF ns (here.take k) s ++ meantF ns (kidsAt ns u) s := by
  have hl := lt_of_some hk
  have e : here[k] = u := by simpa [hl] using hk
  unfold nextF
  rw [List.take_succ_eq_append_getElem hl, List.flatMap_append, e]
  simp

theorem lev_len {ns : List Nd} (hg : goodD ns = true) {d : Nat} {l : List Int} (h : Lev ns d l) : l.length ≤ ns.length := by
  have hr := h.rises hg
  have hm : ∀ u ∈ l, 0 ≤ u ∧ u < ns.length := fun u hu => by
    obtain ⟨k, x, rfl, hx, _⟩ := h.mem u hu
    have := lt_of_some hx
    omega
  clear h
  have key : ∀ (l : List Int) (a : Int), l.Pairwise (fun u v => u < v) → (∀ u ∈ l, a ≤ u ∧ u < ns.length) → a ≤ ns.length → (l.length : Int) ≤ ns.length - a := by
    intro l
    induction l with
    | nil => intro a _ _ h; simp; omega
    | cons x l ih =>
      intro a hp hm ha
      rw [List.pairwise_cons] at hp
      have hx := hm x List.mem_cons_self
      have := ih (x + 1) hp.2 (fun u hu => ⟨by have := hp.1 u hu; omega, (hm u (List.mem_cons_of_mem _ hu)).2⟩) (by omega)
      simp; omega
  have := key l 0 hr hm (by omega)
  omega

theorem kids_in {ns : List Nd} (hg : goodD ns = true) {m : Nat} {x : Nd} (hx : ns[m]? = some x) : ∀ u ∈ x.kids, 0 ≤ u ∧ u < ns.length := by
  intro u hu
  obtain ⟨k, _, rfl, _, h, _⟩ := (good_fam hg hx).kids u hu
  omega

set_option maxHeartbeats 2000000 in
theorem select_any (S : Nat → Prop) (vd vl : Value) (ns : List Nd) (l : List St) (w : World) (hD : DocV S w vd ns) (hL : Steps S w vl l) (hn : NamesIn l) :
    Calls Tryd.prog 11 #[.agg #[vd], vl] w fun e w' => ∃ v, e = .returned (.tuple #[v, .int .i64 (selE ns l)]) ∧ Ints (fun b => w.heap.size ≤ b) w' v (selD ns l) ∧ Below w.heap.size w w' := by
  have hb1 := Below.alloc1 w (.cells #[vd] 31)
  have hx1 := heap_alloc_new w (.cells #[vd] 31)
  have hz1 : (w.alloc (.cells #[vd] 31)).heap.size = w.heap.size + 1 := by simp
  have HG : Hid _ := (hD.later hb1).good
  have HD : Hid (DocV S w vd ns) := hD
  have HL : Hid (Steps S w vl l) := hL
  have HPG : Hid (∀ W, Below w.heap.size w W → Calls Tryd.prog 18 #[vl] W fun e w' => e = .returned (.bool (pathB l)) ∧ Below W.heap.size W w') := fun W h => goodP_any S vl l W (hL.later h) hn
  have HSD : Hid (selD ns l = if goodD ns && pathB l then selP ns l else []) := rfl
  have HSE : Hid (selE ns l = if goodD ns && pathB l then 0 else 1) := rfl
  obtain ⟨na, nc, rfl, hnl, hnm⟩ := hD.nodes.shape
  obtain ⟨la, lc, rfl, hll, hlm⟩ := hL.shape
  unfold maxLen at hnm hlm
  clear hD hL hn
  go_enter Tryd.func11, Tryd.ntmps11
  go_wp2_with fail
  refine (Calls.mono HG.out ?_)
  rintro e w2 ⟨rfl, hb2⟩
  have hx2 := (hb2.block _ (blk_lt hx1)).trans hx1
  have hB2 : Below w.heap.size w w2 := hb1.trans (hb2.mono hb1.size)
  have hz2 : w.heap.size < w2.heap.size := blk_lt hx2
  have d2 : w2.cell? ⟨w.heap.size, 0, none⟩ = some (.slice na ns.length nc) := by rw [Lib.cell_of_heap hx2]; rfl
  clear HG hb1 hx1 hz1 hb2
  obtain ⟨q, hq⟩ : ∃ q, goodD ns = q := ⟨_, rfl⟩
  rw [hq]
  cases q with
  | false =>
    have HSD2 : Hid (selD ns l = []) := by show _ = _; rw [HSD.out, hq]; rfl
    have HSE2 : Hid (selE ns l = 1) := by show _ = _; rw [HSE.out, hq]; rfl
    clear HSD HSE hq
    go_wp2_with fail
    go_ret2
    exact ⟨_, by rw [HSE2.out]; rfl, by rw [HSD2.out]; exact Ints.nil, hB2⟩
  | true =>
    have HGD : Hid (goodD ns = true) := hq
    have HSD2 : Hid (selD ns l = if pathB l then selP ns l else []) := by show _ = _; rw [HSD.out, hq]; rfl
    have HSE2 : Hid (selE ns l = if pathB l then 0 else 1) := by show _ = _; rw [HSE.out, hq]; rfl
    have h80 : ns.length ≤ 80 := by
      simp only [goodD, Bool.and_eq_true, decide_eq_true_eq] at hq
      exact hq.1.1
    clear HSD HSE hq
    go_wp2_with fail
    refine (Calls.mono (HPG.out _ hB2) ?_)
    rintro e w3 ⟨rfl, hb3⟩
    have hx3 := (hb3.block _ (blk_lt hx2)).trans hx2
    have hB3 : Below w.heap.size w w3 := hB2.trans (hb3.mono hB2.size)
    have hz3 : w.heap.size < w3.heap.size := blk_lt hx3
    have d3 : w3.cell? ⟨w.heap.size, 0, none⟩ = some (.slice na ns.length nc) := by rw [Lib.cell_of_heap hx3]; rfl
    clear hx2 hB2 hz2 d2 hb3
    obtain ⟨q2, hq2⟩ : ∃ q, pathB l = q := ⟨_, rfl⟩
    rw [hq2]
    cases q2 with
    | false =>
      have HSD3 : Hid (selD ns l = []) := by show _ = _; rw [HSD2.out, hq2]; rfl
      have HSE3 : Hid (selE ns l = 1) := by show _ = _; rw [HSE2.out, hq2]; rfl
      clear HSD2 HSE2 hq2
      go_wp2_with fail
      go_ret2
      exact ⟨_, by rw [HSE3.out]; rfl, by rw [HSD3.out]; exact Ints.nil, hB3⟩
    | true =>
      have HSD3 : Hid (selD ns l = selP ns l) := by show _ = _; rw [HSD2.out, hq2]; rfl
      have HSE3 : Hid (selE ns l = 0) := by show _ = _; rw [HSE2.out, hq2]; rfl
      have hpl := hq2
      simp only [pathB, Bool.and_eq_true, decide_eq_true_eq] at hpl
      have HST : Hid (∀ s ∈ l, 0 ≤ s.n) := by
        intro s hs
        have := List.all_eq_true.1 hpl.2 s hs
        simp only [stepB, Bool.and_eq_true, decide_eq_true_eq] at this
        exact this.1.1
      have hl1 : 1 ≤ l.length := hpl.1.1
      have hl5 : l.length ≤ 5 := hpl.1.2
      clear HSD2 HSE2 hq2 hpl
      obtain ⟨s0, hs0⟩ : ∃ s, l[0]? = some s := ⟨l[0]'(by omega), by simp⟩
      obtain ⟨lb, lo, lc2, hlv, _, hlb, e0, e1⟩ := (HL.out.later hB3).at hs0
      injection hlv with hla _ hlc2
      subst hla hlc2
      have HL0 : Hid (∃ r, l = s0 :: r) := by
        cases l with
        | nil => simp at hs0
        | cons a r => simp at hs0; subst hs0; exact ⟨r, rfl⟩
      have hbn : Below w3.heap.size w3 w3.drew := (Below.refl _ _).drew
      have HC : Hid (∀ W, Below w3.heap.size w3 W → Below w3.heap.size w3 W ∧ W.cell? ⟨w.heap.size, 0, none⟩ = some (.slice na ns.length nc) ∧ W.cell? ⟨lb, lo, none⟩ = some (.string s0.name) ∧ W.cell? ⟨lb, lo + 1, none⟩ = some (.int .i64 s0.n)) := by
        intro W h
        refine ⟨h, ?_, ?_, ?_⟩
        · rw [h.cell (p := ⟨w.heap.size, 0, none⟩) hz3]; exact d3
        · rw [h.cell (p := ⟨lb, lo, none⟩) hlb]; simpa using e0
        · rw [h.cell (p := ⟨lb, lo + 1, none⟩) hlb]; simpa using e1
      have hba : Below w3.heap.size w3 (w3.alloc (.cells #[.int .i64 0] 3)).drew := ((Below.refl _ w3).alloc (Nat.le_refl _) _).drew
      have HM : Hid (Calls Tryd.prog 21 #[.slice na ns.length nc, .slice (some ⟨w3.heap.size, 0, none⟩) 1 1, .agg #[.string s0.name, .int .i64 s0.n]] (w3.alloc (.cells #[.int .i64 0] 3)).drew fun e w' => ∃ v, e = .returned v ∧ Ints (fun b => w.heap.size < b) w' v (meantF ns [0] s0) ∧ Below w3.heap.size w3 w') := by
        have hW : Below w.heap.size w (w3.alloc (.cells #[.int .i64 0] 3)).drew := hB3.trans (hba.mono hB3.size)
        have hN := ((HD.out.nodes.later hW).carry (S' := fun b => S b ∨ b = w3.heap.size) fun b hb => ⟨Or.inl hb, rfl⟩)
        have hI : Ints (fun b => S b ∨ b = w3.heap.size) (w3.alloc (.cells #[.int .i64 0] 3)).drew (.slice (some ⟨w3.heap.size, 0, none⟩) 1 1) [0] := by
          refine ⟨_, 1, rfl, Nat.le_refl _, by unfold maxLen; omega, fun _ => ⟨w3.heap.size, 0, rfl, Or.inr rfl, fun i x hx => ?_⟩⟩
          match i, hx with
          | 0, hx => simp at hx; subst hx; exact (by simp : (w3.alloc (.cells #[.int .i64 0] 3)).cell? ⟨w3.heap.size, 0 + 0, none⟩ = some (.int .i64 0))
        refine (meantP_any _ _ _ ns [0] s0 _ hN hI (fun u hu => ?_) (HST.out s0 (List.mem_of_getElem? hs0)) (by simp)).mono ?_
        · rw [List.mem_singleton] at hu
          obtain ⟨x, hx, _⟩ := good_first HGD.out
          have := lt_of_some hx
          omega
        · rintro e w' ⟨v, rfl, hI', hb'⟩
          have hsz : (w3.alloc (.cells #[.int .i64 0] 3)).drew.heap.size = w3.heap.size + 1 := by show (w3.alloc (.cells #[.int .i64 0] 3)).heap.size = _; simp
          rw [hsz] at hI' hb'
          refine ⟨v, rfl, hI'.carry fun b hb => ⟨by omega, rfl⟩, ?_⟩
          exact hba.trans (hb'.mono (by omega))
      have hl1i : (0 : Int) < (l.length : Int) := by omega
      have hl0 : 0 < l.length := by omega
      have hlne : ¬ l = [] := by intro e; rw [e] at hl0; simp at hl0
      clear e0 e1 hs0
      go_wp2_with fail
      go_region_held3 (fun W : World => Below w3.heap.size w3 W ∧ W.cell? ⟨w.heap.size, 0, none⟩ = some (.slice na ns.length nc) ∧ W.cell? ⟨lb, lo, none⟩ = some (.string s0.name) ∧ W.cell? ⟨lb, lo + 1, none⟩ = some (.int .i64 s0.n))
        (first
          | with_reducible exact HC.out _ hbn
          | with_reducible exact HC.out _ hba)
        (first | (go_at_call 21; refine (Calls.mono HM.out ?_); rintro e w4 ⟨v4, rfl, hI4, hbm⟩; obtain ⟨va4, vc4, rfl, _, _⟩ := hI4.shape; have hbn := hbm))
      have hBw4 : Below w.heap.size w w4 := hB3.trans (hbn.mono hB3.size)
      obtain ⟨H0, hH0⟩ : ∃ H0, meantF ns [0] s0 = H0 := ⟨_, rfl⟩
      have HH0 : Hid (Lev ns 1 H0) := by show Lev ns 1 H0; rw [← hH0]; exact lev_root HGD.out s0
      have HSP : Hid (selP ns l = selF ns (l.drop 1) H0) := by
        obtain ⟨r, rfl⟩ := HL0.out
        show selF ns r (meantF ns [0] s0) = _
        rw [hH0]; rfl
      rw [hH0] at hI4 ⊢
      have HI4 : Hid (Ints (fun b => w.heap.size < b) w4 (.slice va4 H0.length vc4) H0) := hI4
      have hb4 := hbn
      have HLR : Hid ((l.drop 1).length = l.length - 1) := List.length_drop
      have HC4 : Hid (∀ W, Below w3.heap.size w3 W → W.cell? ⟨w.heap.size, 0, none⟩ = some (.slice na ns.length nc)) := fun W h => (HC.out W h).2.1
      clear hH0 HM HC hbm hI4 hba
      go_wp2_with fail
      all_goals
        go_loopg [30, 6] (l.length - 1) (fun g j h wr => ∃ (i : Nat) (X : List Int), i + g = l.length - 1 ∧ j = .int .i64 (i : Int) ∧ X = selF ns ((l.drop 1).take i) H0 ∧ Ints (fun b => w.heap.size < b) wr h X ∧ Below w3.heap.size w3 wr)
        case atStart => exact ⟨0, H0, by omega, rfl, rfl, HI4.out, hb4⟩
        case round =>
          rename World => wo
          obtain ⟨i, X, hi, rfl, hX, hIX, hBX⟩ := hrel
          have hBwr : Below w.heap.size w wo := hB3.trans (hBX.mono hB3.size)
          by_cases hil : i < l.length - 1
          · first
            | (exfalso; omega)
            | (obtain ⟨s, hs⟩ : ∃ s, l[i + 1]? = some s := ⟨l[i + 1]'(by omega), by simp⟩
               have HLev : Hid (Lev ns (1 + i) X) := by
                 have := lev_sel HGD.out ((l.drop 1).take i) 1 H0 HH0.out
                 rw [List.length_take, HLR.out, Nat.min_eq_left (by omega), ← hX] at this
                 exact this
               have HXN : Hid (selF ns ((l.drop 1).take (i + 1)) H0 = nextF ns X s) := by
                 have e : (l.drop 1).take (i + 1) = (l.drop 1).take i ++ [s] := by
                   rw [List.take_succ_eq_append_getElem (by rw [HLR.out]; exact hil)]
                   congr 2
                   have := hs
                   rw [List.getElem?_eq_getElem (by omega)] at this
                   have := Option.some.inj this
                   rw [List.getElem_drop]
                   rw [← this]
                   congr 1
                   omega
                 show _ = _
                 rw [e, selF_snoc, ← hX]
               obtain ⟨lb2, lo2, lc2, hlv, _, hlb2, e0, e1⟩ := (HL.out.later hBwr).at hs
               injection hlv with hla _ hlc2
               injection hla with hla
               injection hla with hla1 hla2
               subst hla1 hla2 hlc2
               have e0' : wo.cell? ⟨lb, lo + 2 + i * 2, none⟩ = some (.string s.name) := by rw [show lo + 2 + i * 2 = lo + (i + 1) * 2 by omega]; exact e0
               have e1' : wo.cell? ⟨lb, lo + 2 + i * 2 + 1, none⟩ = some (.int .i64 s.n) := by rw [show lo + 2 + i * 2 = lo + (i + 1) * 2 by omega]; exact e1
               have hsn := HST.out s (List.mem_of_getElem? hs)
               have hXl : X.length ≤ 80 := Nat.le_trans (lev_len HGD.out HLev.out) h80
               obtain ⟨xa, xc, rfl, hxl, hxm⟩ := hIX.shape
               unfold maxLen at hxm
               have HIX : Hid (Ints (fun b => w.heap.size < b) wo (.slice xa X.length xc) X) := hIX
               have hili : (i : Int) < ((l.length - 1 : Nat) : Int) := by omega
               have hb5 := Below.alloc1 wo (.cells #[.string s.name, .int .i64 s.n] 41)
               have hx5 := heap_alloc_new wo (.cells #[.string s.name, .int .i64 s.n] 41)
               have hz5 : (wo.alloc (.cells #[.string s.name, .int .i64 s.n] 41)).heap.size = wo.heap.size + 1 := by simp
               clear e0 e1 hs hX hIX
               go_wp2_with fail
               generalize wo.alloc (.cells #[.string s.name, .int .i64 s.n] 41) = W5 at *
               have HZ5 : Hid (W5.heap.size = wo.heap.size + 1) := hz5
               have hle5 : wo.heap.size ≤ W5.heap.size := by omega
               clear hz5
               go_loopg [36, 9] X.length (fun g k o wr => ∃ (kk : Nat) (Y : List Int), kk + g = X.length ∧ k = .int .i64 (kk : Int) ∧ Y = nextF ns (X.take kk) s ∧ IRow W5.heap.size wr o Y ∧ Below W5.heap.size W5 wr)
               case atStart => exact ⟨0, [], by omega, rfl, rfl, IRow.nil _ _, Below.refl _ _⟩
               case round =>
                 obtain ⟨kk, Y, hkk, rfl, hY, hIY, hBY⟩ := hrel
                 have hB5 : Below wo.heap.size wo wr := hb5.trans (hBY.mono hle5)
                 have hBwx : Below w.heap.size w wr := hBwr.trans (hB5.mono hBwr.size)
                 have hB3x : Below w3.heap.size w3 wr := hBX.trans (hB5.mono hBX.size)
                 have hszx := hBY.size
                 by_cases hkl : kk < X.length
                 · obtain ⟨u, hu⟩ : ∃ u, X[kk]? = some u := ⟨X[kk], by simp [hkl]⟩
                   obtain ⟨m, x, rfl, hx, _⟩ := HLev.out.mem u (List.mem_of_getElem? hu)
                   have hmn := lt_of_some hx
                   obtain ⟨xb, xo, xc2, hxv, _, hxbw, e2⟩ := (HIX.out.later hB5).at hu
                   injection hxv with hxa _ hxc2
                   subst hxa hxc2
                   obtain ⟨b, o, cap, va, vk, hv, _, _, hSb, hbw, c0, c1, c2, c3, c4, hAt, hKi⟩ := (HD.out.nodes.later hBwx).at hx
                   injection hv with hv1 _ hv2
                   subst hv1 hv2
                   obtain ⟨ka, kc, rfl, hkl2, hkm⟩ := hKi.shape
                   have HYN : Hid (nextF ns (X.take (kk + 1)) s = Y ++ meantF ns x.kids s) := by
                     show _ = _
                     rw [nextF_snoc hu, ← hY, kidsAt_nat hx]
                   have HYL : Hid (Y.length + (meantF ns x.kids s).length ≤ 80) := by
                     show _ ≤ _
                     rw [← List.length_append, ← HYN.out]
                     exact Nat.le_trans (lev_len HGD.out (lev_next HGD.out (HLev.out.sub (List.take_sublist _ _)) s)) h80
                   have hkidl : x.kids.length ≤ 80 := by
                     have := (goodD_kids HD.out HGD.out m x hx).2.1
                     have h1 := kids_in HGD.out hx
                     have h2 : x.kids.length ≤ ns.length := lev_len HGD.out (d := dp ns m + 1) ⟨fun u hu => by
                       obtain ⟨k, y, rfl, hjk, _, _, hy, hp⟩ := (good_fam HGD.out hx).kids u hu
                       exact ⟨k, y, rfl, hy, dp_kid HGD.out hy hp hjk⟩, (good_fam HGD.out hx).row⟩
                     omega
                   have HMC : Hid (∀ W, Below wr.heap.size wr W → Calls Tryd.prog 21 #[.slice (some ⟨b, o, none⟩) ns.length nc, .slice ka x.kids.length kc, .agg #[.string s.name, .int .i64 s.n]] W fun e w' => ∃ v, e = .returned v ∧ Ints (fun b => W.heap.size ≤ b) w' v (meantF ns x.kids s) ∧ Below W.heap.size W w') := by
                     intro W h
                     exact meantP_any S _ _ ns x.kids s W ((HD.out.nodes.later hBwx).later h) (hKi.later h) (kids_in HGD.out hx) hsn (by omega)
                   have hbW5 : b < W5.heap.size := by
                     have h1 := HD.out.here b hSb
                     have h2 := hBwr.size
                     have h3 := hb5.size
                     omega
                   have hB35 : Below w3.heap.size w3 W5 := hBX.trans (hb5.mono hBX.size)
                   have c4' : W5.cell? ⟨b, o + m * 5 + 4, none⟩ = some (.slice ka x.kids.length kc) := by rw [← hBY.cell (p := ⟨b, o + m * 5 + 4, none⟩) hbW5]; exact c4
                   have HC : Hid (∀ W, Below W5.heap.size W5 W → Below W5.heap.size W5 W ∧ W.cell? ⟨w.heap.size, 0, none⟩ = some (.slice (some ⟨b, o, none⟩) ns.length nc) ∧ W.cell? ⟨b, o + m * 5 + 4, none⟩ = some (.slice ka x.kids.length kc) ∧ W.cell? ⟨wo.heap.size, 0, none⟩ = some (.string s.name) ∧ W.cell? ⟨wo.heap.size, 1, none⟩ = some (.int .i64 s.n)) := by
                     intro W h
                     have h5 := (h.block _ (blk_lt hx5)).trans hx5
                     refine ⟨h, HC4.out W (hB35.trans (h.mono hB35.size)), ?_, ?_, ?_⟩
                     · rw [h.cell (p := ⟨b, o + m * 5 + 4, none⟩) hbW5]; exact c4'
                     · rw [Lib.cell_of_heap h5]; rfl
                     · rw [Lib.cell_of_heap h5]; rfl
                   obtain ⟨ya, yc, rfl, _, _⟩ := hIY.shape
                   have HIY : Hid (IRow W5.heap.size wr (.slice ya Y.length yc) Y) := hIY
                   have hkli : (kk : Int) < (X.length : Int) := by omega
                   have hmi : (m : Int) < (ns.length : Int) := by omega
                   have hbx : Below wr.heap.size wr wr.drew := (Below.refl _ _).drew
                   have hbn : Below W5.heap.size W5 wr.drew := hBY.drew
                   obtain ⟨Z, hZ⟩ : ∃ Z, meantF ns x.kids s = Z := ⟨_, rfl⟩
                   rw [hZ] at HMC HYN HYL
                   clear hu hx hY hIY hKi hAt c0 c1 c2 c3 hZ c4'
                   go_wp2_with fail
                   go_region_held3 (fun W : World => Below W5.heap.size W5 W ∧ W.cell? ⟨w.heap.size, 0, none⟩ = some (.slice (some ⟨b, o, none⟩) ns.length nc) ∧ W.cell? ⟨b, o + m * 5 + 4, none⟩ = some (.slice ka x.kids.length kc) ∧ W.cell? ⟨wo.heap.size, 0, none⟩ = some (.string s.name) ∧ W.cell? ⟨wo.heap.size, 1, none⟩ = some (.int .i64 s.n))
                     (with_reducible exact HC.out _ hbn)
                     (first
                       | (go_at_call 21; refine (Calls.mono (HMC.out _ hbx) ?_); rintro e w7 ⟨v7, rfl, hI7, hb7⟩; obtain ⟨va7, vc7, rfl, _, _⟩ := hI7.shape; have hbx := hbx.trans (hb7.mono hbx.size); have hbn := hBY.trans (hbx.mono hszx))
                       | (refine step_ints (by rfl) (.tmp 40) (.tmp 50) (by rfl) W5.heap.size (.slice ya Y.length yc) Y (by simp [Act.eval]) (HIY.out.later hbx) _ (.slice va7 Z.length vc7) Z (by simp [Act.eval]) hI7 (by have := HYL.out; omega) hbn.size ?_; intro v8 w8 hR8 hg8; obtain ⟨va8, vc8, rfl, _, _⟩ := hR8.shape; have hbn := hbn.grown hg8 hbn.size (fun z hz => (HIY.out.lt z hz).1)))
                   clear c4
                   go_wp2_with fail
                   go_roundg (X.length - (kk + 1))
                   case measure => omega
                   case rel => exact ⟨kk + 1, Y ++ Z, by omega, by go_num, HYN.out.symm, by rw [List.length_append] at hR8; exact hR8, hbn⟩
                 · have hkk2 : kk = X.length := by omega
                   subst hkk2
                   rw [List.take_length] at hY
                   have hkli : ¬ ((X.length : Int) < (X.length : Int)) := by omega
                   obtain ⟨ya, yc, rfl, _, _⟩ := hIY.shape
                   have hR := hIY.ints
                   have hY2 : selF ns ((l.drop 1).take (i + 1)) H0 = Y := by rw [HXN.out, hY]
                   have HY2 : Hid (selF ns ((l.drop 1).take (i + 1)) H0 = Y) := hY2
                   have h5w : w.heap.size < W5.heap.size := by
                     have h1 := hBwr.size
                     have h2 := HZ5.out
                     omega
                   clear hIY hY hY2
                   go_wp2_with fail
                   go_roundg (l.length - 1 - (i + 1))
                   case measure => omega
                   case rel => exact ⟨i + 1, Y, by omega, by go_num, HY2.out.symm, hR.carry fun b hb => ⟨by omega, rfl⟩, hB3x⟩)
          · have hili : ¬ ((i : Int) < ((l.length - 1 : Nat) : Int)) := by omega
            obtain ⟨xa, xc, rfl, hxl, hxm⟩ := hIX.shape
            have hXe : selP ns l = X := by
              rw [HSP.out, hX, List.take_of_length_le (by rw [HLR.out]; omega)]
            have HX : Hid (selP ns l = X) := hXe
            clear hX hXe
            go_wp2_with fail
            go_ret2
            exact ⟨_, by rw [HSE3.out]; rfl, by rw [HSD3.out, HX.out]; exact hIX.carry fun b hb => ⟨by omega, rfl⟩, hBwr⟩
end Go.Proofs.YtmbmfomeiioijabDoor

