/- Bundled: DocMk DocB MakeM TreeM TreeO CopyD RefSize TreeC WithR MeantP. What each says stands ahead of it. -/
import Derived.Test.YtfghbfocjjmcmabGreatDoorBundle12
import Derived.Test.YtfghbfocjjmcmabGreatDoorBundle11
import Derived.Test.YtfghbfocjjmcmabGreatDoorBundle04
import Derived.Test.YtfghbfocjjmcmabGreatDoorBundle07
import Derived.Test.YtfghbfocjjmcmabGreatDoorBundle10
import Derived.Deep.RegionHeld3
/- doc.Make, for every tree. Condition: texts of at most 2^63 letters. -/
namespace Go.Proofs.YtfghbfocjjmcmabGreatDoor
open Go.ChangeShapes Go.WideShapes Go.ChangeAt Go.RowKit
set_option maxRecDepth 100000

attribute [local go_sem] cell_set

theorem nodes_of_row {S : Nat → Prop} {nb : Nat} {ms : List Rw} {w : World} {L : List Nd} (hR : Row nb ms w) (hl : L.length = ms.length) (hL : Laid S w ms 0 L) (hS : S nb) (h80 : ms.length ≤ 80) : Nodes S w (.slice (some ⟨nb, 0, none⟩) ms.length ms.length) L := by
  refine ⟨_, ms.length, by rw [hl], by omega, by unfold maxLen; omega, fun _ => ⟨nb, 0, rfl, hS, fun i x hx => ?_⟩⟩
  obtain ⟨r, hr, h1, h2, h3, h4, h5⟩ := hL i x hx
  rw [Nat.zero_add] at hr
  obtain ⟨g0, g1, g2, g3, g4⟩ := hR.cells hr
  rw [Nat.zero_add]
  exact ⟨r.va, r.vk, by rw [g0, h1], by rw [g1, h2], g2, by rw [g3, h3], g4, h4, h5⟩

theorem rgL_few {n : Nat} (hf : ∀ k, rgt n k = true → FewN n k) : ∀ (ts : List Tr) (p : Bool), rgL (rgt n) p ts = true → FewN (n + 1) ts := by
  intro ts
  induction ts with
  | nil => intro p _ t ht; simp at ht
  | cons x r ih =>
    intro p h t ht
    unfold rgL at h
    simp only [Bool.and_eq_true] at h
    rw [List.mem_cons] at ht
    rcases ht with rfl | ht
    · have h1 := h.1.1.1
      unfold rightB at h1
      cases htx : t.text with
      | true =>
        simp only [htx, if_true, Bool.and_eq_true, decide_eq_true_eq] at h1
        have hk : t.kids = [] := List.eq_nil_of_length_eq_zero h1.2
        refine ⟨by omega, ?_⟩
        rw [hk]
        cases n with
        | zero => trivial
        | succ n => intro u hu; simp at hu
      | false =>
        simp only [htx, Bool.false_eq_true, if_false, Bool.and_eq_true] at h1
        have h2 := h1.2
        simp only [attrsB, Bool.and_eq_true, decide_eq_true_eq] at h2
        refine ⟨by omega, hf _ ?_⟩
        have := h.1.2
        simpa [htx] using this
    · exact ih x.text h.2 t ht

theorem rgt_few : ∀ (n : Nat) (ts : List Tr), rgt n ts = true → FewN n ts := by
  intro n
  induction n with
  | zero => intro ts _; trivial
  | succ n ih => intro ts h; exact rgL_few ih ts false h

theorem nodeInfo : (Tryz.prog.info? 49).map (fun i => (i.zero, i.size, i.bytes)) = some (some (.agg #[.bool false, .string ⟨#[]⟩, .slice none 0 0, .int .i64 0, .slice none 0 0]), 5, 80) := by kernel_rfl

def zeroRw : Rw := ⟨false, ⟨#[]⟩, .slice none 0 0, 0, .slice none 0 0⟩

theorem madeRaw (N : Nat) : madeCells (Value.agg #[.bool false, .string ⟨#[]⟩, .slice none 0 0, .int .i64 0, .slice none 0 0]).cells (N * 5) = (rawCells (List.replicate N zeroRw)).toArray := by
  apply Array.ext
  · simp [madeCells, rawCells_length]
  · intro k h1 h2
    have hk : k < N * 5 := by simpa [madeCells] using h1
    have hr : (List.replicate N zeroRw)[k / 5]? = some zeroRw := by rw [List.getElem?_replicate]; simp; omega
    obtain ⟨g0, g1, g2, g3, g4⟩ := rawCells_get _ _ _ hr
    have key : (rawCells (List.replicate N zeroRw))[k]? = some ((#[Value.bool false, .string ⟨#[]⟩, .slice none 0 0, .int .i64 0, .slice none 0 0] : Array Value)[k % 5]!) := by
      rcases (by omega : k % 5 = 0 ∨ k % 5 = 1 ∨ k % 5 = 2 ∨ k % 5 = 3 ∨ k % 5 = 4) with h | h | h | h | h
      · rw [show k = k / 5 * 5 by omega, g0, show k / 5 * 5 % 5 = 0 by omega]; rfl
      · rw [show k = k / 5 * 5 + 1 by omega, g1, show (k / 5 * 5 + 1) % 5 = 1 by omega]; rfl
      · rw [show k = k / 5 * 5 + 2 by omega, g2, show (k / 5 * 5 + 2) % 5 = 2 by omega]; rfl
      · rw [show k = k / 5 * 5 + 3 by omega, g3, show (k / 5 * 5 + 3) % 5 = 3 by omega]; rfl
      · rw [show k = k / 5 * 5 + 4 by omega, g4, show (k / 5 * 5 + 4) % 5 = 4 by omega]; rfl
    have h3 : (rawCells (List.replicate N zeroRw)).toArray[k]? = some ((#[Value.bool false, .string ⟨#[]⟩, .slice none 0 0, .int .i64 0, .slice none 0 0] : Array Value)[k % 5]!) := by simpa using key
    rw [Array.getElem?_eq_getElem h2] at h3
    rw [Option.some.inj h3]
    simp [madeCells, Value.cells]

/-- What doc.Make makes. -/
def makeD (n : Nat) (t : Tr) : List Nd := if goodB t then layF n t (-1) 0 else []
def makeE (t : Tr) : Int := if goodB t then 0 else 1

set_option maxHeartbeats 2000000 in
theorem make_any (S : Nat → Prop) (n : Nat) (va vk : Value) (t : Tr) (w : World) (hA : Attrs S w va t.attrs) (hK : Trees S w n vk t.kids) (hx : TextsN (n + 1) [t]) (hS : ∀ b, S b → b < w.heap.size) :
    Calls Tryz.prog 43 #[.agg #[.bool t.text, .string t.s, va, vk]] w fun e w' => ∃ v, e = .returned (.tuple #[.agg #[v], .int .i64 (makeE t)]) ∧ Nodes (fun b => w.heap.size ≤ b) w' v (makeD n t) ∧ Below w.heap.size w w' := by
  obtain ⟨aa, ac, rfl⟩ := hA.shape
  obtain ⟨ka, kc, rfl, _, _⟩ := Trees.shape n hK
  have hb1 : Below w.heap.size w ((w.alloc (.cells #[.bool t.text, .string t.s, .slice aa t.attrs.length ac, .slice ka t.kids.length kc] 68)).alloc (.cells #[.slice none 0 0] 24)) := (Below.alloc1 w _).alloc (by simp) _
  have hx1 : ((w.alloc (.cells #[.bool t.text, .string t.s, .slice aa t.attrs.length ac, .slice ka t.kids.length kc] 68)).alloc (.cells #[.slice none 0 0] 24)).heap[w.heap.size]? = some (.cells #[.bool t.text, .string t.s, .slice aa t.attrs.length ac, .slice ka t.kids.length kc] 68 (0, 0)) := by
    rw [Lib.alloc_old _ _ _ (by simp)]; exact heap_alloc_new _ _
  have hy1 : ((w.alloc (.cells #[.bool t.text, .string t.s, .slice aa t.attrs.length ac, .slice ka t.kids.length kc] 68)).alloc (.cells #[.slice none 0 0] 24)).heap[w.heap.size + 1]? = some (.cells #[.slice none 0 0] 24 (0, 0)) := by
    have e := heap_alloc_new (w.alloc (.cells #[.bool t.text, .string t.s, .slice aa t.attrs.length ac, .slice ka t.kids.length kc] 68)) (.cells #[.slice none 0 0] 24)
    rw [World.size_alloc] at e
    exact e
  have HG : Hid _ := good_any S n _ _ t _ (hA.later hb1) (Trees.later hb1 n hK) hx
  have HA : Hid (Attrs S w (.slice aa t.attrs.length ac) t.attrs) := hA
  have HK : Hid (Trees S w n (.slice ka t.kids.length kc) t.kids) := hK
  have HS : Hid (∀ b, S b → b < w.heap.size) := hS
  have HD : Hid (makeD n t = if goodB t then layF n t (-1) 0 else []) := rfl
  have HE : Hid (makeE t = if goodB t then 0 else 1) := rfl
  clear hA hK hx hS
  go_enter Tryz.func43, Tryz.ntmps43
  go_wp2_with fail
  refine (Calls.mono HG.out ?_)
  rintro e w2 ⟨rfl, hb2⟩
  have hx2 := (hb2.block _ (blk_lt hx1)).trans hx1
  have hy2 := (hb2.block _ (blk_lt hy1)).trans hy1
  have hB2 : Below w.heap.size w w2 := hb1.trans (hb2.mono hb1.size)
  have d0 : w2.cell? ⟨w.heap.size, 0, none⟩ = some (.bool t.text) := by rw [Lib.cell_of_heap hx2]; rfl
  have d1 : w2.cell? ⟨w.heap.size, 1, none⟩ = some (.string t.s) := by rw [Lib.cell_of_heap hx2]; rfl
  have d2 : w2.cell? ⟨w.heap.size, 2, none⟩ = some (.slice aa t.attrs.length ac) := by rw [Lib.cell_of_heap hx2]; rfl
  have d3 : w2.cell? ⟨w.heap.size, 3, none⟩ = some (.slice ka t.kids.length kc) := by rw [Lib.cell_of_heap hx2]; rfl
  have p0 : w2.cell? ⟨w.heap.size + 1, 0, none⟩ = some (.slice none 0 0) := by rw [Lib.cell_of_heap hy2]; rfl
  have f0 : w2.frozen? ⟨w.heap.size + 1, 0, none⟩ = false := Lib.frozen_of_heap hy2 0
  clear HG hb1 hx1 hb2 hy1
  obtain ⟨q, hq⟩ : ∃ q, goodB t = q := ⟨_, rfl⟩
  rw [hq]
  cases q with
  | false =>
    have HD2 : Hid (makeD n t = []) := by show _ = _; rw [HD.out, hq]; rfl
    have HE2 : Hid (makeE t = 1) := by show _ = _; rw [HE.out, hq]; rfl
    clear HD HE hq
    go_wp2_with fail
    refine bodyPost_ret (v := .tuple #[.agg #[.slice none 0 0], .int .i64 1]) (by simp [results, Tryz.results43, go_sem, cell_set, p0]) rfl ⟨.slice none 0 0, by rw [HE2.out], by rw [HD2.out]; exact Nodes.nil, ?_⟩
    exact hB2.setCell (p := ⟨w.heap.size + 1, 0, none⟩) (Nat.le_succ _) _
  | true =>
    have HD2 : Hid (makeD n t = layF n t (-1) 0) := by show _ = _; rw [HD.out, hq]; rfl
    have HE2 : Hid (makeE t = 0) := by show _ = _; rw [HE.out, hq]; rfl
    have hdeep := Trees.deep n HK.out
    have hg := hq
    rw [goodB_eq hdeep] at hg
    simp only [Bool.and_eq_true, Bool.not_eq_true', decide_eq_true_eq] at hg
    obtain ⟨⟨⟨hg1, hg2⟩, hc81⟩, hrg⟩ := hg
    clear hg1 hg2
    have HFW : Hid (FewN (n + 1) [t]) := rgt_few (n + 1) [t] hrg
    have HSZ : Hid _ := size_any S n _ _ t w2 (HA.out.later hB2) (Trees.later hB2 n HK.out) (by omega)
    have hpos : 0 < cnt (n + 1) [t] := by rw [cnt_one]; omega
    have HLN : Hid ((layF n t (-1) 0).length = cnt (n + 1) [t]) := layF_length n t (-1) 0 hdeep
    obtain ⟨N, hN⟩ : ∃ N, cnt (n + 1) [t] = N := ⟨_, rfl⟩
    rw [hN] at hc81 HSZ hpos HLN
    have HN : Hid (cnt (n + 1) [t] = N) := hN
    clear HD HE hq hrg hN hdeep
    go_wp2_with fail
    refine (Calls.mono HSZ.out ?_)
    rintro e w3 ⟨rfl, hb3⟩
    have hx3 := (hb3.block _ (blk_lt hx2)).trans hx2
    have hy3 := (hb3.block _ (blk_lt hy2)).trans hy2
    have hB3 : Below w.heap.size w w3 := hB2.trans (hb3.mono hB2.size)
    have e0 : w3.cell? ⟨w.heap.size, 0, none⟩ = some (.bool t.text) := by rw [Lib.cell_of_heap hx3]; rfl
    have e1 : w3.cell? ⟨w.heap.size, 1, none⟩ = some (.string t.s) := by rw [Lib.cell_of_heap hx3]; rfl
    have e2 : w3.cell? ⟨w.heap.size, 2, none⟩ = some (.slice aa t.attrs.length ac) := by rw [Lib.cell_of_heap hx3]; rfl
    have e3 : w3.cell? ⟨w.heap.size, 3, none⟩ = some (.slice ka t.kids.length kc) := by rw [Lib.cell_of_heap hx3]; rfl
    clear HSZ hb3 d0 d1 d2 d3 p0 f0 hx2 hy2
    have hmk : (Instr.makeSlice 22 (.int .i64 (N : Int)) (.int .i64 (N : Int))).run Tryz.prog w3 = .ok (.slice (some ⟨w3.heap.size, 0, none⟩) N N) (w3.alloc (.cells (rawCells (List.replicate N zeroRw)).toArray 49)) := by
      obtain ⟨i0, hi, hz0, hz1, hz2⟩ := info_parts nodeInfo
      have := run_makeSlice (P := Tryz.prog) w3 22 49 i0 _ Tryz.underlying22 hi hz0 .i64 .i64 (N : Int) (N : Int) (by omega) (Int.le_refl _) (by rw [hz1]; simp; omega) (by rw [hz2]; omega) (by omega)
      rw [this, hz1, Int.toNat_natCast, madeRaw]
    have hb5 : Below w3.heap.size w3 ((w3.alloc (.cells (rawCells (List.replicate N zeroRw)).toArray 49)).alloc (.cells #[.int .i64 0] 3)) := (Below.alloc1 w3 _).alloc (by simp) _
    have hR5 : Row w3.heap.size (List.replicate N zeroRw) ((w3.alloc (.cells (rawCells (List.replicate N zeroRw)).toArray 49)).alloc (.cells #[.int .i64 0] 3)) := by
      unfold Row
      rw [Lib.alloc_old _ _ _ (by simp)]
      exact heap_alloc_new _ _
    have hC5 : Cnt (w3.heap.size + 1) 0 ((w3.alloc (.cells (rawCells (List.replicate N zeroRw)).toArray 49)).alloc (.cells #[.int .i64 0] 3)) := by
      have e := heap_alloc_new (w3.alloc (.cells (rawCells (List.replicate N zeroRw)).toArray 49)) (.cells #[.int .i64 0] 3)
      rw [World.size_alloc] at e
      exact e
    have hz5 : ((w3.alloc (.cells (rawCells (List.replicate N zeroRw)).toArray 49)).alloc (.cells #[.int .i64 0] 3)).heap.size = w3.heap.size + 2 := by simp
    have HMK : Hid _ := hmk
    have HRP : Hid ((List.replicate N zeroRw).length = N) := by show _ = _; simp
    obtain ⟨ms0, hms0⟩ : ∃ ms0, List.replicate N zeroRw = ms0 := ⟨_, rfl⟩
    rw [hms0] at hmk hb5 hR5 hC5 hz5 HRP
    clear hms0 HMK
    have e0a : (w3.alloc (.cells (rawCells ms0).toArray 49)).cell? ⟨w.heap.size, 0, none⟩ = some (.bool t.text) := Lib.cell?_alloc_some _ e0
    have e1a : (w3.alloc (.cells (rawCells ms0).toArray 49)).cell? ⟨w.heap.size, 1, none⟩ = some (.string t.s) := Lib.cell?_alloc_some _ e1
    have e2a : (w3.alloc (.cells (rawCells ms0).toArray 49)).cell? ⟨w.heap.size, 2, none⟩ = some (.slice aa t.attrs.length ac) := Lib.cell?_alloc_some _ e2
    have e3a : (w3.alloc (.cells (rawCells ms0).toArray 49)).cell? ⟨w.heap.size, 3, none⟩ = some (.slice ka t.kids.length kc) := Lib.cell?_alloc_some _ e3
    have e0b : ((w3.alloc (.cells (rawCells ms0).toArray 49)).alloc (.cells #[.int .i64 0] 3)).cell? ⟨w.heap.size, 0, none⟩ = some (.bool t.text) := Lib.cell?_alloc_some _ e0a
    have e1b : ((w3.alloc (.cells (rawCells ms0).toArray 49)).alloc (.cells #[.int .i64 0] 3)).cell? ⟨w.heap.size, 1, none⟩ = some (.string t.s) := Lib.cell?_alloc_some _ e1a
    have e2b : ((w3.alloc (.cells (rawCells ms0).toArray 49)).alloc (.cells #[.int .i64 0] 3)).cell? ⟨w.heap.size, 2, none⟩ = some (.slice aa t.attrs.length ac) := Lib.cell?_alloc_some _ e2a
    have e3b : ((w3.alloc (.cells (rawCells ms0).toArray 49)).alloc (.cells #[.int .i64 0] 3)).cell? ⟨w.heap.size, 3, none⟩ = some (.slice ka t.kids.length kc) := Lib.cell?_alloc_some _ e3a
    have hs3 := hB3.size
    have hB5 : Below w.heap.size w _ := hB3.trans (hb5.mono hs3)
    have hcall := lay_any n S _ _ t (-1) w3.heap.size (w3.heap.size + 1) 0 ms0 _ (HA.out.later hB5) (Trees.later hB5 n HK.out) (fun b hb => ⟨by have := HS.out b hb; rw [hz5]; omega, by have := HS.out b hb; omega, by have := HS.out b hb; omega⟩) (by omega) hR5 hC5 (by rw [HN.out, HRP.out]; omega) (by rw [HRP.out]; omega) HFW.out
    rw [HRP.out] at hcall
    have HCALL : Hid _ := hcall
    have HZ5 : Hid _ := hz5
    clear hcall hR5 hC5 hz5 e0 e1 e2 e3
    go_wp2_with fail
    refine (Calls.mono HCALL.out ?_)
    rintro e w6 ⟨rfl, ms', hR6, hl6, hC6, _, hL6, hF6⟩
    have hz := HZ5.out
    have hy5 : w6.heap[w.heap.size + 1]? = some (.cells #[.slice none 0 0] 24 (0, 0)) := by
      have h1 := blk_lt hy3
      rw [hF6.frame (w.heap.size + 1) (by rw [hz]; omega) (by omega) (by omega), hb5.block _ h1]
      exact hy3
    have p0 : w6.cell? ⟨w.heap.size + 1, 0, none⟩ = some (.slice none 0 0) := by rw [Lib.cell_of_heap hy5]; rfl
    have f0 : w6.frozen? ⟨w.heap.size + 1, 0, none⟩ = false := Lib.frozen_of_heap hy5 0
    have hB6 : Below w.heap.size w w6 := ⟨hF6.below.os.trans hB5.os, hF6.below.tape.trans hB5.tape, hF6.below.output.trans hB5.output, Nat.le_trans hB5.size hF6.below.size, fun k hk => by rw [hF6.frame k (by rw [hz]; omega) (by omega) (by omega)]; exact hB5.block k hk⟩
    have hnb := blk_lt hR6
    have hlen6 : ms'.length = N := hl6
    have hND : Nodes (fun b => w.heap.size + 2 ≤ b) w6 (.slice (some ⟨w3.heap.size, 0, none⟩) N N) (layF n t (-1) 0) := by
      have h1 := blk_lt hy3
      have := nodes_of_row (S := fun b => w.heap.size + 2 ≤ b) hR6 (by rw [HLN.out, hlen6]) (hL6.carry (fun b hb _ => ⟨by have h2 : ((w3.alloc (.cells (rawCells ms0).toArray 49)).alloc (.cells #[.int .i64 0] 3)).heap.size ≤ b := hb; rw [hz] at h2; omega, rfl⟩) (fun _ _ _ => rfl)) (by show w.heap.size + 2 ≤ w3.heap.size; omega) (by omega)
      rw [hlen6] at this
      exact this
    clear HCALL hR6 hL6 hC6 hF6 hb5 e0a e1a e2a e3a e0b e1b e2b e3b hmk hB5
    go_wp2_with fail
    refine bodyPost_ret (v := .tuple #[.agg #[.slice (some ⟨w3.heap.size, 0, none⟩) N N], .int .i64 0]) (by simp [results, Tryz.results43, go_sem, cell_set, p0]) rfl ⟨.slice (some ⟨w3.heap.size, 0, none⟩) N N, by rw [HE2.out], ?_, ?_⟩
    · rw [HD2.out]
      exact hND.carry fun b hb => ⟨by omega, blk_set_ne (by omega)⟩
    · exact hB6.setCell (p := ⟨w.heap.size + 1, 0, none⟩) (Nat.le_succ _) _
end Go.Proofs.YtfghbfocjjmcmabGreatDoor

/- What doc answers of a document that is made of a good tree: on plain data. No condition. -/
namespace Go.Proofs.YtfghbfocjjmcmabGreatDoor
open Go.RowKit
set_option maxRecDepth 100000

theorem flat_lay : ∀ (d : Nat) (t : Tr) (par : Int) (at' : Nat), Deep d t.kids → (layF d t par at').flatMap txt = (if t.text then t.s.data.toList else []) ++ tell d t.kids := by
  intro d
  induction d with
  | zero => intro t par at' _; simp [layF, txt, tell]
  | succ d ih =>
    intro t par at' hd
    rw [layF, List.flatMap_cons]
    have key : ∀ (ks : List Tr) (a : Nat), Deep (d + 1) ks → (laysOf d (layF d) at' a ks).flatMap txt = tell (d + 1) ks := by
      intro ks
      induction ks with
      | nil => intro a _; rfl
      | cons k ks ihk =>
        intro a hdk
        rw [laysOf, List.flatMap_append, ih k _ _ (hdk k List.mem_cons_self), ihk _ (fun u hu => hdk u (List.mem_cons_of_mem _ hu))]
        simp [tell]
    rw [key t.kids (at' + 1) hd]
    rfl

theorem made_good {n : Nat} {t : Tr} (hd : Deep n t.kids) (hg : goodB t = true) : goodD (layF n t (-1) 0) = true ∧ growF (layF n t (-1) 0).length (layF n t (-1) 0) 0 = t ∧ endD (layF n t (-1) 0) 0 = ((cnt (n + 1) [t] : Nat) : Int) ∧ (layF n t (-1) 0).length = cnt (n + 1) [t] := by
  have hlen := layF_length n t (-1) 0 hd
  have hseg := seg_self (layF n t (-1) 0)
  have hg2 := hg
  rw [goodB_eq hd] at hg2
  simp only [Bool.and_eq_true, Bool.not_eq_true', decide_eq_true_eq] at hg2
  obtain ⟨⟨_, hc⟩, _⟩ := hg2
  have hgr := grow_lay n t (layF n t (-1) 0).length (layF n t (-1) 0) (-1) 0 hd hseg (by omega)
  have hor := ord_lay n t ((layF n t (-1) 0).length + 1) (layF n t (-1) 0) (-1) 0 hd hseg (by omega)
  have hla := last_lay n t (layF n t (-1) 0).length (layF n t (-1) 0) (-1) 0 hd hseg (by omega)
  have hgd : goodD (layF n t (-1) 0) = true := by
    unfold goodD orderly
    rw [hor, hgr, hg, hlen]
    simp
    omega
  refine ⟨hgd, hgr, ?_, hlen⟩
  unfold endD
  have hpos : 0 < cnt (n + 1) [t] := by rw [cnt_one]; omega
  have ham : amongB (layF n t (-1) 0) 0 = true := by unfold amongB; rw [hlen]; simp; omega
  rw [hgd, ham]
  simp only [Bool.and_self, if_true, Int.toNat_zero]
  omega

theorem made_str {n : Nat} {t : Tr} (hd : Deep n t.kids) (hg : goodB t = true) : strD (layF n t (-1) 0) 0 = tell (n + 1) [t] := by
  obtain ⟨_, _, he, hl⟩ := made_good hd hg
  unfold strD
  rw [he]
  have hpos : 0 < cnt (n + 1) [t] := by rw [cnt_one]; omega
  rw [if_neg (by omega), Int.toNat_natCast, ← hl, List.take_length]
  simp only [Int.toNat_zero, List.drop_zero]
  rw [flat_lay n t _ _ hd]
  simp [tell]

/-- What holds of each tree, however deep. -/
def AllN (Q : Tr → Prop) : Nat → List Tr → Prop
  | 0, _ => True
  | n + 1, ts => ∀ t ∈ ts, Q t ∧ AllN Q n t.kids

theorem lay_all {P : Nd → Prop} (Q : Tr → Prop) (hP : ∀ t p ks, Q t → P ⟨t.text, t.s, t.attrs, p, ks⟩) : ∀ (d : Nat) (t : Tr) (par : Int) (at' : Nat), (∀ e, d + 1 = e → AllN Q e [t]) → ∀ x ∈ layF d t par at', P x := by
  intro d
  induction d with
  | zero =>
    intro t par at' h x hx
    simp only [layF, List.mem_singleton] at hx
    subst hx
    exact hP t _ _ ((h 1 rfl) t List.mem_cons_self).1
  | succ d ih =>
    intro t par at' h x hx
    rw [layF, List.mem_cons] at hx
    have ht := (h (d + 1 + 1) rfl) t List.mem_cons_self
    rcases hx with rfl | hx
    · exact hP t _ _ ht.1
    · have key : ∀ (ks : List Tr) (a : Nat), AllN Q (d + 1) ks → x ∈ laysOf d (layF d) at' a ks → P x := by
        intro ks
        induction ks with
        | nil => intro a _ hx; simp [laysOf] at hx
        | cons k ks ihk =>
          intro a hq hx
          rw [laysOf, List.mem_append] at hx
          rcases hx with hx | hx
          · refine ih k _ _ (fun e he => ?_) x hx
            subst he
            intro u hu
            simp only [List.mem_singleton] at hu
            subst hu
            exact hq _ List.mem_cons_self
          · exact ihk _ (fun u hu => hq u (List.mem_cons_of_mem _ hu)) hx
      exact key t.kids _ ht.2 hx
end Go.Proofs.YtfghbfocjjmcmabGreatDoor

/- A document under way while it is made: on plain data. No condition. -/
namespace Go.Proofs.YtfghbfocjjmcmabGreatDoor
open Go.RowKit
set_option maxRecDepth 100000

/-- A node whose kids from a number on are not told yet. -/
def cutK (n : Nat) (x : Nd) : Nd := { x with kids := x.kids.filter fun u => decide (u < (n : Int)) }
def partF (L : List Nd) (n : Nat) : List Nd := (L.take n).map (cutK n)

/-- What waits to be laid, from a number on. -/
def WL (L : List Nd) : Nat → List (Tr × Int) → Prop
  | n, [] => n = L.length
  | n, i :: r => ∃ d, Deep d i.1.kids ∧ Seg L n (layF d i.1 i.2 n) ∧ WL L (n + cnt (d + 1) [i.1]) r

theorem WL.kids {L : List Nd} {d n : Nat} : ∀ (ks : List Tr) (b : Nat) (r : List (Tr × Int)), (∀ k ∈ ks, Deep d k.kids) → Seg L b (laysOf d (layF d) n b ks) → WL L (b + cnt (d + 1) ks) r → WL L b (ks.map (fun k => (k, (n : Int))) ++ r) := by
  intro ks
  induction ks with
  | nil => intro b r _ _ h; rw [cnt_nil] at h; exact h
  | cons k ks ih =>
    intro b r hd hs h
    rw [laysOf] at hs
    have hl := hs.left
    have hr := hs.right
    have hdk := hd k List.mem_cons_self
    rw [layF_length d k n b hdk] at hr
    rw [cnt_more] at h
    refine ⟨d, hdk, hl, ih _ r (fun u hu => hd u (List.mem_cons_of_mem _ hu)) hr ?_⟩
    rw [Nat.add_assoc]
    exact h

theorem WL.step {L : List Nd} {n : Nat} {t : Tr} {p : Int} {r : List (Tr × Int)} (h : WL L n ((t, p) :: r)) : ∃ x, L[n]? = some x ∧ x.text = t.text ∧ x.s = t.s ∧ x.attrs = t.attrs ∧ x.parent = p ∧ WL L (n + 1) (t.kids.map (fun k => (k, (n : Int))) ++ r) := by
  obtain ⟨d, hd, hs, hr⟩ := h
  have h0 := hs 0 _ (by rw [layF_head hd p n]; rfl)
  refine ⟨_, h0, rfl, rfl, rfl, rfl, ?_⟩
  simp only at hd hs hr
  rw [cnt_one] at hr
  cases d with
  | zero =>
    have e : t.kids = [] := hd
    rw [e] at hr ⊢
    rw [cnt_nil] at hr
    exact hr
  | succ d => exact WL.kids t.kids (n + 1) r hd (Seg.tail hs) (by rw [Nat.add_assoc]; exact hr)

theorem WL.start {n : Nat} {t : Tr} (hd : Deep n t.kids) : WL (layF n t (-1) 0) 0 [(t, -1)] :=
  ⟨n, hd, seg_self _, by show 0 + cnt (n + 1) [t] = _; rw [layF_length n t _ _ hd, Nat.zero_add]⟩

theorem partF_len {L : List Nd} {n : Nat} (h : n ≤ L.length) : (partF L n).length = n := by
  unfold partF; rw [List.length_map, List.length_take]; omega

theorem partF_get {L : List Nd} {n i : Nat} (h : i < n) : (partF L n)[i]? = (L[i]?).map (cutK n) := by
  unfold partF; rw [List.getElem?_map, List.getElem?_take, if_pos h]

theorem filter_none {n : Nat} {l : List Int} (h : ∀ u ∈ l, (n : Int) ≤ u) : (l.filter fun u => decide (u < (n : Int))) = [] := by
  rw [List.filter_eq_nil_iff]
  intro u hu
  have := h u hu
  simp; omega

/-- The node that is laid next has no kids yet. -/
theorem part_new {L : List Nd} (hg : goodD L = true) {n : Nat} {x : Nd} (hx : L[n]? = some x) : (partF L (n + 1))[n]? = some { x with kids := [] } := by
  rw [partF_get (Nat.lt_succ_self n), hx]
  show some (cutK (n + 1) x) = _
  unfold cutK
  rw [filter_none (fun u hu => by obtain ⟨k, _, rfl, h, _⟩ := (good_fam hg hx).kids u hu; omega)]

theorem filter_succ {n : Nat} : ∀ {l : List Int}, l.Pairwise (fun a b => a < b) → (l.filter fun u => decide (u < ((n + 1 : Nat) : Int))) = (l.filter fun u => decide (u < (n : Int))) ++ (if (n : Int) ∈ l then [(n : Int)] else []) := by
  intro l
  induction l with
  | nil => intro _; simp
  | cons x l ih =>
    intro h
    rw [List.pairwise_cons] at h
    by_cases h1 : x < (n : Int)
    · rw [List.filter_cons_of_pos (by simp; omega), List.filter_cons_of_pos (by simpa using h1), ih h.2, List.cons_append]
      have : ((n : Int) ∈ x :: l) ↔ (n : Int) ∈ l := by
        rw [List.mem_cons]
        exact ⟨fun h => h.resolve_left (by omega), Or.inr⟩
      simp only [this]
    · by_cases h2 : x = (n : Int)
      · subst h2
        rw [List.filter_cons_of_pos (by simp; omega), List.filter_cons_of_neg (by simp), if_pos List.mem_cons_self]
        rw [filter_none (n := n + 1) (fun u hu => by have := h.1 u hu; omega), filter_none (fun u hu => by have := h.1 u hu; omega)]
        rfl
      · rw [List.filter_cons_of_neg (by simp; omega), List.filter_cons_of_neg (by simp; omega), ih h.2]
        have : ((n : Int) ∈ x :: l) ↔ (n : Int) ∈ l := by
          rw [List.mem_cons]
          exact ⟨fun h => h.resolve_left (fun e => h2 e.symm), Or.inr⟩
        simp only [this]

theorem rise_kids {ns : List Nd} (hg : goodD ns = true) {q : Nat} {y : Nd} (hy : ns[q]? = some y) : y.kids.Pairwise (fun u v => u < v) := by
  refine List.Pairwise.imp_of_mem ?_ (good_fam hg hy).row
  intro a b ha _ hab
  obtain ⟨k, z, rfl, _, _, _, hz, _⟩ := (good_fam hg hy).kids a ha
  have := (good_fam hg hz).gt
  omega

theorem kid_iff {ns : List Nd} (hg : goodD ns = true) {q n : Nat} {y x : Nd} (hy : ns[q]? = some y) (hx : ns[n]? = some x) : (n : Int) ∈ y.kids ↔ x.parent = (q : Int) := by
  constructor
  · intro h
    obtain ⟨k, z, e, _, _, _, hz, hp⟩ := (good_fam hg hy).kids _ h
    have : k = n := by omega
    subst this
    rw [hx] at hz
    obtain rfl := Option.some.inj hz
    exact hp
  · intro h
    rcases (good_fam hg hx).par with ⟨_, hp⟩ | ⟨q', y', hy', hp, _, hm⟩
    · omega
    · have : q' = q := by omega
      subst this
      rw [hy] at hy'
      obtain rfl := Option.some.inj hy'
      exact hm

theorem part_old {L : List Nd} (hg : goodD L = true) {n i : Nat} {x y : Nd} (hx : L[n]? = some x) (hi : i < n) (hy : L[i]? = some y) :
    (partF L n)[i]? = some (cutK n y) ∧ (partF L (n + 1))[i]? = some { cutK n y with kids := (cutK n y).kids ++ (if x.parent = (i : Int) then [(n : Int)] else []) } := by
  rw [partF_get hi, partF_get (by omega), hy]
  refine ⟨rfl, ?_⟩
  show some (cutK (n + 1) y) = _
  unfold cutK
  simp only
  rw [filter_succ (rise_kids hg hy)]
  simp only [kid_iff hg hy hx]

theorem part_end {L : List Nd} (hg : goodD L = true) : partF L L.length = L := by
  unfold partF
  rw [List.take_length]
  conv => rhs; rw [← List.map_id L]
  apply List.map_congr_left
  intro y hy
  obtain ⟨i, hi⟩ := List.mem_iff_getElem?.1 hy
  unfold cutK
  have : (y.kids.filter fun u => decide (u < (L.length : Int))) = y.kids := by
    rw [List.filter_eq_self]
    intro u hu
    obtain ⟨k, _, rfl, _, h, _⟩ := (good_fam hg hi).kids u hu
    simp; omega
  rw [this]
  rfl
end Go.Proofs.YtfghbfocjjmcmabGreatDoor

/- A document told by its parents alone: its trees, who is in whom, whether it is one: on plain data. No condition. -/
namespace Go.Proofs.YtfghbfocjjmcmabGreatDoor
open Go.RowKit
set_option maxRecDepth 100000

def parB (ns : List Nd) (n k : Nat) : Bool := match ns[k]? with | some y => decide (y.parent = (n : Int)) | none => false
/-- Those whose parent a node is, from a number on up to another. -/
def sonsF (ns : List Nd) (n : Nat) : Nat → List Int
  | 0 => []
  | k + 1 => sonsF ns n k ++ (if n < k ∧ parB ns n k = true then [(k : Int)] else [])

def treeF : Nat → List Nd → Nat → Tr
  | 0, _, _ => ⟨false, ⟨#[]⟩, [], []⟩
  | f + 1, ns, n => match ns[n]? with
    | none => ⟨false, ⟨#[]⟩, [], []⟩
    | some x => ⟨x.text, x.s, x.attrs, (sonsF ns n ns.length).map fun k => treeF f ns k.toNat⟩

theorem sonsF_mem (ns : List Nd) (n : Nat) : ∀ (m : Nat) (u : Int), u ∈ sonsF ns n m ↔ ∃ k : Nat, u = (k : Int) ∧ k < m ∧ n < k ∧ parB ns n k = true := by
  intro m
  induction m with
  | zero => intro u; simp [sonsF]
  | succ m ih =>
    intro u
    rw [sonsF, List.mem_append, ih]
    constructor
    · rintro (⟨k, h1, h2, h3⟩ | h)
      · exact ⟨k, h1, by omega, h3⟩
      · split at h
        · rename_i hc
          rw [List.mem_singleton] at h
          exact ⟨m, h, by omega, hc⟩
        · simp at h
    · rintro ⟨k, h1, h2, h3⟩
      by_cases hk : k = m
      · subst hk
        right
        rw [if_pos h3, h1]
        exact List.mem_singleton.2 rfl
      · exact Or.inl ⟨k, h1, by omega, h3⟩

theorem sonsF_sorted (ns : List Nd) (n : Nat) : ∀ (m : Nat), (sonsF ns n m).Pairwise (fun u v => u < v) := by
  intro m
  induction m with
  | zero => exact List.Pairwise.nil
  | succ m ih =>
    rw [sonsF, List.pairwise_append]
    refine ⟨ih, ?_, ?_⟩
    · split
      · exact List.Pairwise.cons (by simp) List.Pairwise.nil
      · exact List.Pairwise.nil
    · intro u hu v hv
      obtain ⟨k, rfl, hk, _⟩ := (sonsF_mem ns n m u).1 hu
      split at hv
      · rw [List.mem_singleton] at hv; omega
      · simp at hv

theorem rise_ext : ∀ {a b : List Int}, a.Pairwise (fun u v => u < v) → b.Pairwise (fun u v => u < v) → (∀ u, u ∈ a ↔ u ∈ b) → a = b := by
  intro a
  induction a with
  | nil =>
    intro b _ _ h
    cases b with
    | nil => rfl
    | cons y b => exact absurd ((h y).2 List.mem_cons_self) (by simp)
  | cons x a ih =>
    intro b ha hb h
    cases b with
    | nil => exact absurd ((h x).1 List.mem_cons_self) (by simp)
    | cons y b =>
      rw [List.pairwise_cons] at ha hb
      have hxy : x = y := by
        have h1 := (h x).1 List.mem_cons_self
        have h2 := (h y).2 List.mem_cons_self
        rw [List.mem_cons] at h1 h2
        rcases h1 with h1 | h1
        · exact h1
        · rcases h2 with h2 | h2
          · exact h2.symm
          · have := hb.1 x h1
            have := ha.1 y h2
            omega
      subst hxy
      rw [ih ha.2 hb.2 (fun u => ?_)]
      constructor
      · intro hu
        have h1 := (h u).1 (List.mem_cons_of_mem _ hu)
        rw [List.mem_cons] at h1
        rcases h1 with rfl | h1
        · exact absurd (ha.1 u hu) (by omega)
        · exact h1
      · intro hu
        have h1 := (h u).2 (List.mem_cons_of_mem _ hu)
        rw [List.mem_cons] at h1
        rcases h1 with rfl | h1
        · exact absurd (hb.1 u hu) (by omega)
        · exact h1

theorem sons_kids {ns : List Nd} (hg : goodD ns = true) {n : Nat} {x : Nd} (hx : ns[n]? = some x) : sonsF ns n ns.length = x.kids := by
  refine rise_ext (sonsF_sorted _ _ _) (rise_kids hg hx) (fun u => ?_)
  rw [sonsF_mem]
  constructor
  · rintro ⟨k, rfl, hk, hnk, hp⟩
    unfold parB at hp
    cases hy : ns[k]? with
    | none => rw [hy] at hp; cases hp
    | some y =>
      rw [hy] at hp
      simp only [decide_eq_true_eq] at hp
      exact (kid_iff hg hx hy).2 hp
  · intro hu
    obtain ⟨k, y, rfl, h1, h2, _, hy, hp⟩ := (good_fam hg hx).kids u hu
    exact ⟨k, rfl, h2, h1, by unfold parB; rw [hy]; simp [hp]⟩

theorem tree_grow {ns : List Nd} (hg : goodD ns = true) : ∀ (f n : Nat), treeF f ns n = growF f ns n := by
  intro f
  induction f with
  | zero => intro n; rfl
  | succ f ih =>
    intro n
    rw [treeF, growF]
    cases hx : ns[n]? with
    | none => rfl
    | some x =>
      simp only
      rw [sons_kids hg hx]
      congr 1
      apply List.map_congr_left
      intro k _
      exact ih _

/-- Parents are earlier nodes. -/
def parsB (ns : List Nd) : Nat → Bool
  | 0 => true
  | k + 1 => parsB ns k && (match ns[k]? with | some x => decide (k = 0) || (decide (0 ≤ x.parent) && decide (x.parent < (k : Int))) | none => true)

/-- It is what is made of its tree. -/
def madeOf (ns : List Nd) (t : Tr) : Prop := goodB t = true ∧ ∃ d, Deep d t.kids ∧ layF d t (-1) 0 = ns

theorem isDoc_iff {ns : List Nd} : goodD ns = true ↔ (0 < ns.length ∧ ns.length ≤ 80 ∧ (∃ x, ns[0]? = some x ∧ x.parent = -1) ∧ parsB ns ns.length = true ∧ madeOf ns (treeF ns.length ns 0)) := by
  constructor
  · intro hg
    obtain ⟨d, t, hd, hs, hc, _, _, hgb, hgr⟩ := good_root hg
    have h80 : ns.length ≤ 80 := by
      have := hg
      simp only [goodD, Bool.and_eq_true, decide_eq_true_eq] at this
      exact this.1.1
    have hpos : 0 < ns.length := by rw [← hc, cnt_one]; omega
    refine ⟨hpos, h80, ⟨_, hs 0 _ (by rw [layF_head hd (-1) 0]; rfl), rfl⟩, ?_, ?_⟩
    · have : ∀ k, parsB ns k = true := by
        intro k
        induction k with
        | zero => rfl
        | succ k ih =>
          rw [parsB, ih, Bool.true_and]
          cases hx : ns[k]? with
          | none => rfl
          | some x =>
            simp only [Bool.or_eq_true, Bool.and_eq_true, decide_eq_true_eq]
            rcases (good_fam hg hx).par with ⟨h, _⟩ | ⟨q, _, _, hp, hq, _⟩
            · exact Or.inl h
            · exact Or.inr (by omega)
      exact this _
    · rw [tree_grow hg, hgr]
      refine ⟨hgb, d, hd, ?_⟩
      have hlen := layF_length d t (-1) 0 hd
      apply List.ext_getElem?
      intro i
      rcases Nat.lt_or_ge i ns.length with hi | hi
      · have : (layF d t (-1) 0)[i]? = some (layF d t (-1) 0)[i] := List.getElem?_eq_getElem (by omega)
        rw [this]
        have := hs i _ this
        rw [Nat.zero_add] at this
        exact this.symm
      · rw [List.getElem?_eq_none (by omega), List.getElem?_eq_none (by omega)]
  · rintro ⟨_, _, _, _, hgb, d, hd, hL⟩
    have := (made_good hd hgb).1
    rw [hL] at this
    exact this

/-- By its parents: is a node another one, or in it? -/
def withF : Nat → List Nd → Int → Int → Bool
  | 0, _, _, _ => false
  | f + 1, ns, n, m => if n < 0 then false else if n = m then true else match ns[n.toNat]? with | some x => withF f ns x.parent m | none => false

theorem with_in {ns : List Nd} (hg : goodD ns = true) (m : Nat) : ∀ (f n : Nat), n < f → n < ns.length → withF f ns (n : Int) (m : Int) = (decide ((m : Int) ≤ n) && decide ((n : Int) < endD ns (m : Int))) ∧ (withF f ns (n : Int) (m : Int) = true → endD ns (n : Int) ≤ endD ns (m : Int)) := by
  intro f
  induction f with
  | zero => intro n h; omega
  | succ f ih =>
    intro n hf hn
    obtain ⟨x, hx⟩ : ∃ x, ns[n]? = some x := ⟨ns[n], by simp [hn]⟩
    have hgt := (good_fam hg hx).gt
    rw [withF, if_neg (by omega)]
    by_cases he : (n : Int) = (m : Int)
    · rw [if_pos he]
      have : n = m := by omega
      subst this
      refine ⟨by simp; omega, fun _ => Int.le_refl _⟩
    · rw [if_neg he, Int.toNat_natCast, hx]
      simp only
      rcases (good_fam hg hx).par with ⟨h0, hp⟩ | ⟨q, y, hy, hp, hq, hm⟩
      · rw [hp]
        have e : withF f ns (-1) (m : Int) = false := by cases f with
          | zero => rfl
          | succ f => rw [withF, if_pos (by omega)]
        rw [e]
        refine ⟨?_, fun h => by cases h⟩
        have : ¬ ((m : Int) ≤ (n : Int)) := by omega
        simp [this]
      · rw [hp]
        obtain ⟨i1, i2⟩ := ih q (by omega) (lt_of_some hy)
        have hkid := (good_fam hg hy).kids _ hm
        obtain ⟨k, _, ek, _, _, hend, _⟩ := hkid
        have : k = n := by omega
        subst this
        refine ⟨?_, fun h => Int.le_trans hend (i2 h)⟩
        cases hw : withF f ns (q : Int) (m : Int) with
        | true =>
          have h2 := i2 hw
          rw [hw] at i1
          have i1' := i1.symm
          simp only [Bool.and_eq_true, decide_eq_true_eq] at i1'
          symm
          simp only [Bool.and_eq_true, decide_eq_true_eq]
          omega
        | false =>
          rw [hw] at i1
          symm
          rw [Bool.and_eq_false_iff]
          by_cases h1 : (m : Int) ≤ (k : Int)
          · by_cases h2 : (k : Int) < endD ns (m : Int)
            · exfalso
              obtain ⟨q', hq1, hq2, hq3⟩ := good_inner hg hx (m := m) (by omega) h2
              have : q' = q := by omega
              subst this
              have i1' := i1.symm
              rw [Bool.and_eq_false_iff] at i1'
              simp only [decide_eq_false_iff_not] at i1'
              omega
            · exact Or.inr (by simpa using h2)
          · exact Or.inl (by simpa using h1)
end Go.Proofs.YtfghbfocjjmcmabGreatDoor

/- The document's own treeOf: the tree at a node, by the parents alone. Condition: at most 80 nodes; attributes of a size that can be read. -/
namespace Go.Proofs.YtfghbfocjjmcmabGreatDoor
open Go.ChangeShapes Go.WideShapes Go.ChangeAt Go.RowKit
set_option maxRecDepth 100000

attribute [local go_sem] cell_set

/-- The copy of a list of attributes, as a step of a region that draws (as step_attrs, for all lists that can be read). -/
theorem step_attrs2 {ops : Array Oper} {o : Oper} {a : Act} {w : World} {K : Act → World → Prop} {Q : Exit → Act → World → Prop} {E : Prop}
    (hg : o.guard = none) (x : Operand) (hop : o.op = Op.call { callee := Callee.builtin Builtin.append, args := #[.const (.slice none 0 0), x], argTypes := #[47, 47] })
    (S : Nat → Prop) (v : Value) (l : List (ByteArray × ByteArray)) (hx : a.eval x = v) (h : Attrs S w v l) (hl : l.length ≤ 4398046511104)
    (hK : ∀ v' w', Attrs (OwnS w.heap.size 84 w') w' v' l → Below w.heap.size w w' → K (a.put o.dst v') w') :
    if Region.wanted o (yielded ops a.tmps) = true then Oper.wp Tryz.prog o a w K Q else E := by
  have hw : Region.wanted o (yielded ops a.tmps) = true := by simp [Region.wanted, hg]
  rw [if_pos hw]
  obtain ⟨i0, hi, hz0, hz1, hz2⟩ := info_parts attrInfo
  obtain ⟨ad, cap, rfl, h2, h3, h4⟩ := h
  have hs : a.eval (.const (.slice none 0 0)) = .slice none 0 0 := rfl
  cases ad with
  | none =>
    have hn : l = [] := by
      apply Classical.byContradiction; intro hne
      obtain ⟨b, o, ha, _⟩ := h4 hne
      cases ha
    subst hn
    have hrun : (Builtin.append_ #[47, 47] o.type #[.slice none 0 0, .slice none 0 cap]).run Tryz.prog w = .ok (.slice none 0 0) w := by
      simp [Builtin.append_, run_underlying Tryz.underlying47, sizeOf, typeInfo, hi, Builtin.lenOf, Builtin.firstCells]
    simp only [List.length_nil] at hx
    unfold Oper.wp
    simp [execOp, hop, resolve, invoke, builtin, hs, hx, hrun, Result.andThen]
    exact hK _ _ ⟨none, 0, rfl, Nat.le_refl _, Nat.zero_le _, fun hne => absurd rfl hne⟩ (Below.refl _ _)
  | some ad =>
    have hcells : ∀ j u, (attrCells l)[j]? = some u → w.cell? (ad.add j) = some u := by
      by_cases hne : l = []
      · subst hne; intro j u hj; simp [attrCells] at hj
      · obtain ⟨b, o, ha, _, hc⟩ := h4 hne
        cases ha
        intro j u hj
        rw [Addr.add_lit]
        exact Attrs.cells hc j u hj
    obtain ⟨v', w', hrun, r1, r2, _⟩ := run_append_own (P := Tryz.prog) w w.heap.size 47 o.type 84 i0 _ 2 32 Tryz.underlying47 hi hz0 hz1 hz2 rfl (by decide) (.slice none 0 0) 0 [] (World.ownsRow_nil w _ _ _) ad l.length cap (attrCells l) (attrCells_length l) hcells (attrCells_one l) (by unfold maxLen; omega) (by omega) (Nat.le_refl _)
    unfold Oper.wp
    simp [execOp, hop, resolve, invoke, builtin, hs, hx, hrun, Result.andThen]
    refine hK _ _ (Attrs.of_owns (by simpa using r1)) ((Below.refl _ w).grown r2 (Nat.le_refl _) (fun k hk => by simp [Value.ownBlock] at hk))

def TreeOfOk (f : Nat) : Prop := ∀ (S : Nat → Prop) (v : Value) (ns : List Nd) (n : Nat) (w : World), Nodes S w v ns → (∀ x ∈ ns, x.attrs.length ≤ 4398046511104) → ns.length ≤ 80 → n < ns.length → ns.length ≤ n + f →
  Calls Tryz.prog 54 #[.agg #[v], .int .i64 (n : Int)] w fun e w' => ∃ va vk, e = .returned (.agg #[.bool (treeF f ns n).text, .string (treeF f ns n).s, va, vk]) ∧
    Attrs (fun b => w.heap.size ≤ b) w' va (treeF f ns n).attrs ∧ Trees (fun b => w.heap.size ≤ b) w' f vk (treeF f ns n).kids ∧ Below w.heap.size w w'

theorem sonsF_none (ns : List Nd) (n : Nat) : ∀ m, m ≤ n + 1 → sonsF ns n m = [] := by
  intro m
  induction m with
  | zero => intro _; rfl
  | succ m ih =>
    intro h
    rw [sonsF, ih (by omega), if_neg (by omega)]
    rfl

theorem sonsF_len (ns : List Nd) (n : Nat) : ∀ m, (sonsF ns n m).length ≤ m := by
  intro m
  induction m with
  | zero => exact Nat.le_refl _
  | succ m ih =>
    rw [sonsF, List.length_append]
    split
    · simp; exact ih
    · simp; omega

/-- What stands behind the region that makes the tree: the document's box, the answer's box, the tree's box. -/
structure GT (w : World) (dv : Value) (b2 M : Nat) (tr : Array Value) (va : Value) (l : List (ByteArray × ByteArray)) (W : World) : Prop where
  below : Below w.heap.size w W
  box : W.heap[w.heap.size]? = some (.cells #[dv] 24 (0, 0))
  res : W.heap[w.heap.size + 1]? = some (.cells #[.bool false, .string ⟨#[]⟩, .slice none 0 0, .slice none 0 0] 68 (0, 0))
  tre : W.heap[b2]? = some (.cells tr 68 (0, 0))
  lo : w.heap.size + 2 ≤ b2
  hi : b2 < M
  le : M ≤ W.heap.size
  att : Attrs (fun b => w.heap.size + 2 ≤ b ∧ b ≠ b2 ∧ b < M) W va l

theorem treeOf_step {w : World} {dv : Value} {b2 M f i : Nat} {c0 c1 c2 : Value} {va : Value} {l : List (ByteArray × ByteArray)} {wr w5 w6 : World} {ja : Option Addr} {jc : Nat} {us : List Tr} {qs : List (Bool × ByteArray × Value × Value)} {t : Tr} {a5 k5 : Option Addr} {d5 e5 : Nat} {a6 : Option Addr} {n6 c6 : Nat}
    (hG : GT w dv b2 M #[c0, c1, c2, .slice ja i jc] va l wr) (hR : Grow (fun _ => False) f M wr.drew (.slice ja i jc) us qs) (hi : us.length = i) (hb5 : Below wr.drew.heap.size wr.drew w5)
    (hA : Attrs (fun b => wr.drew.heap.size ≤ b) w5 (.slice a5 t.attrs.length d5) t.attrs) (hK : Trees (fun b => wr.drew.heap.size ≤ b) w5 f (.slice k5 t.kids.length e5) t.kids)
    (hown : w6.ownsRow M 68 4 (.slice a6 n6 c6) (i + 1) (quadCells qs ++ [.bool t.text, .string t.s, .slice a5 t.attrs.length d5, .slice k5 t.kids.length e5]))
    (hgr : (w5.alloc (.cells #[.bool t.text, .string t.s, .slice a5 t.attrs.length d5, .slice k5 t.kids.length e5] 68)).grownBy w6 (Value.slice ja i jc).ownBlock)
    (hat : (Value.slice a6 n6 c6).ownBlock = (Value.slice ja i jc).ownBlock ∨ (Value.slice a6 n6 c6).ownBlock = some (w5.alloc (.cells #[.bool t.text, .string t.s, .slice a5 t.attrs.length d5, .slice k5 t.kids.length e5] 68)).heap.size) :
    GT w dv b2 M #[c0, c1, c2, .slice a6 n6 c6] va l (w6.setCell ⟨b2, 3, none⟩ (.slice a6 n6 c6)) ∧ M ≤ (w6.setCell ⟨b2, 3, none⟩ (.slice a6 n6 c6)).heap.size ∧
      Grow (fun _ => False) f M (w6.setCell ⟨b2, 3, none⟩ (.slice a6 n6 c6)) (.slice a6 n6 c6) (us ++ [t]) (qs ++ [(t.text, t.s, .slice a5 t.attrs.length d5, .slice k5 t.kids.length e5)]) := by
  have hs5 : wr.heap.size ≤ w5.heap.size := hb5.size
  have hMr := hG.le
  have hhi := hG.hi
  have hs6 := hgr.size
  simp only [World.size_alloc] at hs6
  have hkeep : ∀ b, b < wr.heap.size → b < M → w6.heap[b]? = wr.heap[b]? := by
    intro b h1 h2
    rw [hgr.block b (by simp; omega) (fun e => by have := (hR.own.lt b e.symm).1; omega), Lib.alloc_old _ _ _ (by omega)]
    exact hb5.block b h1
  have hB6 : Below w.heap.size w w6 := ((hG.below.drew.trans (hb5.mono hG.below.size)).alloc (by have := hG.below.size; omega) _).grown hgr (by simp; have := hG.below.size; omega) (fun k hk => by have := (hR.own.lt k hk).1; have := hG.lo; omega)
  have hsz : (w6.setCell ⟨b2, 3, none⟩ (.slice a6 n6 c6)).heap.size = w6.heap.size := by simp
  have hlo := hG.lo
  have hres := blk_lt hG.res
  have hbox := blk_lt hG.box
  have htre := blk_lt hG.tre
  refine ⟨⟨hB6.setCell (p := ⟨b2, 3, none⟩) (by show w.heap.size ≤ b2; omega) _, ?_, ?_, ?_, hlo, hhi, by rw [hsz]; omega, ?_⟩, by rw [hsz]; omega, ?_⟩
  · rw [blk_set_ne (by omega), hkeep _ hbox (by omega)]; exact hG.box
  · rw [blk_set_ne (by omega), hkeep _ hres (by omega)]; exact hG.res
  · have := (hkeep b2 htre hhi).trans hG.tre
    simp [World.setCell, Array.getElem?_modify, this]
  · refine hG.att.bounded.carry fun b hb => ⟨hb.1, ?_⟩
    rw [blk_set_ne hb.1.2.1, hkeep b hb.2 hb.1.2.2]
  · have hfr := hR.fresh (w' := w5.alloc (.cells #[.bool t.text, .string t.s, .slice a5 t.attrs.length d5, .slice k5 t.kids.length e5] 68)) (Nat.le_refl _) hMr
    have hG3 := (hR.later hb5).later (Below.alloc1 w5 (.cells #[.bool t.text, .string t.s, .slice a5 t.attrs.length d5, .slice k5 t.kids.length e5] 68))
    have hG4 := hG3.snoc (t := t) (q := (t.text, t.s, .slice a5 t.attrs.length d5, .slice k5 t.kids.length e5)) (by rw [hi]; exact hown) hgr hat rfl rfl
      ((hA.later (Below.alloc1 w5 _)).bounded.carry (fun b hb => ⟨hfr b ⟨hb.1, hb.2⟩, rfl⟩))
      (Trees.carry (fun b hb => ⟨hfr b ⟨hb.1, hb.2⟩, rfl⟩) f (Trees.bounded f (Trees.later (Below.alloc1 w5 _) f hK)))
    have hne : ∀ b, M ≤ b → b ≠ b2 := fun b h => by omega
    refine ⟨hG4.len, ownsRow_heap hG4.own (fun b hb => blk_set_ne (hne b (hG4.own.lt b hb).1)), fun j q u hq hu => ?_⟩
    obtain ⟨x1, x2, x3, x4⟩ := hG4.each j q u hq hu
    have carry : ∀ b, Oth (fun _ => False) M w6 (.slice a6 n6 c6) b → Oth (fun _ => False) M (w6.setCell ⟨b2, 3, none⟩ (.slice a6 n6 c6)) (.slice a6 n6 c6) b ∧ (w6.setCell ⟨b2, 3, none⟩ (.slice a6 n6 c6)).heap[b]? = w6.heap[b]? := by
      intro b hb
      refine ⟨⟨hb.1, by rw [hsz]; exact hb.2.1, hb.2.2⟩, blk_set_ne (hne b ?_)⟩
      rcases hb.1 with h1 | h1
      · exact h1.elim
      · exact h1
    exact ⟨x1, x2, x3.carry carry, Trees.carry carry f x4⟩

set_option maxHeartbeats 2000000 in
theorem treeOf_succ (f : Nat) (ih : TreeOfOk f) : TreeOfOk (f + 1) := by
  intro S v ns n w hN hfew h80 hn hf
  obtain ⟨x, hx⟩ : ∃ x, ns[n]? = some x := ⟨ns[n], by simp [hn]⟩
  have HG : Hid (treeF (f + 1) ns n = ⟨x.text, x.s, x.attrs, (sonsF ns n ns.length).map fun k => treeF f ns k.toNat⟩) := by show _ = _; rw [treeF, hx]
  have hal := hfew x (List.mem_of_getElem? hx)
  obtain ⟨b, o, cap, va, vk, rfl, hlc, hcm, hSb, hbw, c0, c1, c2, c3, c4, hAt, hKi⟩ := hN.at hx
  obtain ⟨aa, ac, rfl⟩ := hAt.shape
  obtain ⟨ka, kc, rfl, hkl2, hkm⟩ := hKi.shape
  unfold maxLen at hcm hkm
  have hb3 : Below w.heap.size w (((w.alloc (.cells #[.slice (some ⟨b, o, none⟩) ns.length cap] 24)).alloc (.cells #[.bool false, .string ⟨#[]⟩, .slice none 0 0, .slice none 0 0] 68)).alloc (.cells #[.bool x.text, .string x.s, .slice aa x.attrs.length ac, .int .i64 x.parent, .slice ka x.kids.length kc] 49)) := ((Below.alloc1 w _).alloc (by simp) _).alloc (by simp; omega) _
  have IH : Hid (TreeOfOk f) := ih
  have hni : (n : Int) < (ns.length : Int) := by omega
  clear ih
  go_enter Tryz.func54, Tryz.ntmps54
  go_wp2_with fail
  have hD3 : (((w.alloc (.cells #[.slice (some ⟨b, o, none⟩) ns.length cap] 24)).alloc (.cells #[.bool false, .string ⟨#[]⟩, .slice none 0 0, .slice none 0 0] 68)).alloc (.cells #[.bool x.text, .string x.s, .slice aa x.attrs.length ac, .int .i64 x.parent, .slice ka x.kids.length kc] 49)).heap[w.heap.size]? = some (.cells #[(.slice (some ⟨b, o, none⟩) ns.length cap)] 24 (0, 0)) := by
    rw [Lib.alloc_old _ _ _ (by simp; omega), Lib.alloc_old _ _ _ (by simp)]; exact heap_alloc_new _ _
  have hX3 : (((w.alloc (.cells #[.slice (some ⟨b, o, none⟩) ns.length cap] 24)).alloc (.cells #[.bool false, .string ⟨#[]⟩, .slice none 0 0, .slice none 0 0] 68)).alloc (.cells #[.bool x.text, .string x.s, .slice aa x.attrs.length ac, .int .i64 x.parent, .slice ka x.kids.length kc] 49)).heap[w.heap.size + 1]? = some (.cells #[.bool false, .string ⟨#[]⟩, .slice none 0 0, .slice none 0 0] 68 (0, 0)) := by
    rw [Lib.alloc_old _ _ _ (by simp)]
    have e := heap_alloc_new (w.alloc (.cells #[(.slice (some ⟨b, o, none⟩) ns.length cap)] 24)) (.cells #[.bool false, .string ⟨#[]⟩, .slice none 0 0, .slice none 0 0] 68)
    rw [World.size_alloc] at e
    exact e
  have hY3 : (((w.alloc (.cells #[.slice (some ⟨b, o, none⟩) ns.length cap] 24)).alloc (.cells #[.bool false, .string ⟨#[]⟩, .slice none 0 0, .slice none 0 0] 68)).alloc (.cells #[.bool x.text, .string x.s, .slice aa x.attrs.length ac, .int .i64 x.parent, .slice ka x.kids.length kc] 49)).heap[w.heap.size + 2]? = some (.cells #[.bool x.text, .string x.s, .slice aa x.attrs.length ac, .int .i64 x.parent, .slice ka x.kids.length kc] 49 (0, 0)) := by
    have e := heap_alloc_new ((w.alloc (.cells #[(.slice (some ⟨b, o, none⟩) ns.length cap)] 24)).alloc (.cells #[.bool false, .string ⟨#[]⟩, .slice none 0 0, .slice none 0 0] 68)) (.cells #[.bool x.text, .string x.s, .slice aa x.attrs.length ac, .int .i64 x.parent, .slice ka x.kids.length kc] 49)
    rw [World.size_alloc, World.size_alloc] at e
    exact e
  have hZ : (((w.alloc (.cells #[.slice (some ⟨b, o, none⟩) ns.length cap] 24)).alloc (.cells #[.bool false, .string ⟨#[]⟩, .slice none 0 0, .slice none 0 0] 68)).alloc (.cells #[.bool x.text, .string x.s, .slice aa x.attrs.length ac, .int .i64 x.parent, .slice ka x.kids.length kc] 49)).heap.size = w.heap.size + 3 := by simp
  generalize ((w.alloc (.cells #[.slice (some ⟨b, o, none⟩) ns.length cap] 24)).alloc (.cells #[.bool false, .string ⟨#[]⟩, .slice none 0 0, .slice none 0 0] 68)).alloc (.cells #[.bool x.text, .string x.s, .slice aa x.attrs.length ac, .int .i64 x.parent, .slice ka x.kids.length kc] 49) = W2 at hb3 hD3 hX3 hY3 hZ ⊢
  have HZ2 : Hid (W2.heap.size = w.heap.size + 3) := hZ
  have hZ3 : w.heap.size + 2 < W2.heap.size := by omega
  clear hZ
  have HAT : Hid (∀ W, Below w.heap.size w W → Attrs S W (.slice aa x.attrs.length ac) x.attrs) := fun W hW => hAt.later hW
  have HNN : Hid (Nodes S w (.slice (some ⟨b, o, none⟩) ns.length cap) ns) := hN
  have HWW : Hid (∀ W' : World, W'.heap[w.heap.size + 2]? = W2.heap[w.heap.size + 2]? → W'.cell? ⟨w.heap.size + 2, 0, none⟩ = some (.bool x.text) ∧ W'.cell? ⟨w.heap.size + 2, 1, none⟩ = some (.string x.s) ∧ W'.cell? ⟨w.heap.size + 2, 2, none⟩ = some (.slice aa x.attrs.length ac)) := by
    intro W' h2
    rw [hY3] at h2
    exact ⟨by rw [Lib.cell_of_heap h2]; rfl, by rw [Lib.cell_of_heap h2]; rfl, by rw [Lib.cell_of_heap h2]; rfl⟩
  obtain ⟨y0, y1, y2⟩ := HWW.out W2 rfl
  have HB4 : Hid (Below w.heap.size w (W2.alloc (.cells #[.bool false, .string ⟨#[]⟩, .slice none 0 0, .slice none 0 0] 68)).drew) := (hb3.alloc (by omega) _).drew
  have HZ4 : Hid (w.heap.size + 2 < (W2.alloc (.cells #[.bool false, .string ⟨#[]⟩, .slice none 0 0, .slice none 0 0] 68)).drew.heap.size) := by show w.heap.size + 2 < (W2.alloc (.cells #[.bool false, .string ⟨#[]⟩, .slice none 0 0, .slice none 0 0] 68)).heap.size; rw [World.size_alloc]; omega
  have HZ5 : Hid (W2.heap.size < (W2.alloc (.cells #[.bool false, .string ⟨#[]⟩, .slice none 0 0, .slice none 0 0] 68)).drew.heap.size) := by show W2.heap.size < (W2.alloc (.cells #[.bool false, .string ⟨#[]⟩, .slice none 0 0, .slice none 0 0] 68)).heap.size; rw [World.size_alloc]; omega
  have HD3 : Hid (W2.heap[w.heap.size]? = some (.cells #[(.slice (some ⟨b, o, none⟩) ns.length cap)] 24 (0, 0))) := hD3
  have HX3 : Hid (W2.heap[w.heap.size + 1]? = some (.cells #[.bool false, .string ⟨#[]⟩, .slice none 0 0, .slice none 0 0] 68 (0, 0))) := hX3
  clear c0 c1 c2 c3 c4 hAt hKi hN hx hX3 hD3 hY3
  go_region_held3 (fun W : World => W.cell? ⟨w.heap.size + 2, 0, none⟩ = some (.bool x.text) ∧ W.cell? ⟨w.heap.size + 2, 1, none⟩ = some (.string x.s) ∧ W.cell? ⟨w.heap.size + 2, 2, none⟩ = some (.slice aa x.attrs.length ac))
    (first
      | exact HWW.out w3 (hbB.block _ hZ3)
      | exact HWW.out (w3.alloc (.cells #[.bool false, .string ⟨#[]⟩, .slice none 0 0, .slice none 0 0] 68)) ((Lib.alloc_old _ _ _ (Nat.lt_of_lt_of_le hZ3 hbB.size)).trans (hbB.block _ hZ3))
      | exact HWW.out (w3.alloc (.cells #[.bool x.text, .string x.s, .slice a3 x.attrs.length c3', .slice none 0 0] 68)) ((Lib.alloc_old _ _ _ (Nat.lt_of_lt_of_le hZ3 hbB.size)).trans (hbB.block _ hZ3))
      | exact HWW.out w3 ((hbA.block _ HZ4.out).trans (Lib.alloc_old _ _ _ hZ3))
      | exact HWW.out _ (by rw [blk_set_ne (Nat.ne_of_lt hZ3), blk_set_ne (Nat.ne_of_lt hZ3), blk_set_ne (Nat.ne_of_lt hZ3), blk_set_ne (Nat.ne_of_lt hZ3)]; exact (hbA.block _ HZ4.out).trans (Lib.alloc_old _ _ _ hZ3))
      | exact HWW.out W2.drew rfl
      | exact HWW.out (W2.alloc (.cells #[.bool false, .string ⟨#[]⟩, .slice none 0 0, .slice none 0 0] 68)).drew (Lib.alloc_old _ _ _ hZ3))
    (first
      | (refine step_attrs2 (by rfl) (.tmp 18) (by rfl) S (.slice aa x.attrs.length ac) x.attrs (by simp [Act.eval]) (HAT.out (W2.alloc (.cells #[.bool false, .string ⟨#[]⟩, .slice none 0 0, .slice none 0 0] 68)).drew HB4.out) hal ?_; intro va3 w3 hA3 hbA; obtain ⟨a3, c3', rfl⟩ := hA3.shape; have hV3 : w3.heap[W2.heap.size]? = some (.cells #[.bool false, .string ⟨#[]⟩, .slice none 0 0, .slice none 0 0] 68 (0, 0)) := (hbA.block _ HZ5.out).trans (heap_alloc_new _ _); have g0 := Lib.cell_of_heap hV3 0; have g1 := Lib.cell_of_heap hV3 1; have g2 := Lib.cell_of_heap hV3 2; have g3 := Lib.cell_of_heap hV3 3; have k0 := Lib.frozen_of_heap hV3 0; have k1 := Lib.frozen_of_heap hV3 1; have k2 := Lib.frozen_of_heap hV3 2; have k3 := Lib.frozen_of_heap hV3 3; simp at g0 g1 g2 g3)
      | (refine step_attrs2 (by rfl) (.tmp 18) (by rfl) S (.slice aa x.attrs.length ac) x.attrs (by simp [Act.eval]) (HAT.out W2.drew hb3.drew) hal ?_; intro va3 w3 hA3 hbB; obtain ⟨a3, c3', rfl⟩ := hA3.shape))
  all_goals
    first
      | (have hGS : GT w (.slice (some ⟨b, o, none⟩) ns.length cap) w3.heap.size (w3.alloc (.cells #[.bool x.text, .string x.s, .slice a3 x.attrs.length c3', .slice none 0 0] 68)).heap.size #[.bool x.text, .string x.s, .slice a3 x.attrs.length c3', .slice none 0 0] (.slice a3 x.attrs.length c3') x.attrs (w3.alloc (.cells #[.bool x.text, .string x.s, .slice a3 x.attrs.length c3', .slice none 0 0] 68)) := by
          have hB3 : Below w.heap.size w w3 := hb3.drew.trans (hbB.mono (by have := HZ2.out; show w.heap.size ≤ W2.heap.size; omega))
          have hs3 : W2.heap.size ≤ w3.heap.size := hbB.size
          have hz := HZ2.out
          refine ⟨hB3.alloc hB3.size _, ?_, ?_, heap_alloc_new _ _, by omega, by simp, Nat.le_refl _, ?_⟩
          · rw [Lib.alloc_old _ _ _ (by omega)]; exact (hbB.block _ (by show w.heap.size < W2.heap.size; omega)).trans HD3.out
          · rw [Lib.alloc_old _ _ _ (by omega)]; exact (hbB.block _ (by show w.heap.size + 1 < W2.heap.size; omega)).trans HX3.out
          · exact (hA3.later (Below.alloc1 w3 _)).bounded.carry fun b hb => ⟨⟨by have h1 : W2.heap.size ≤ b := hb.1.1; omega, by have := hb.1.lt; omega, hb.2⟩, rfl⟩
         generalize w3.alloc (.cells #[.bool x.text, .string x.s, .slice a3 x.attrs.length c3', .slice none 0 0] 68) = W4 at hGS ⊢
         generalize w3.heap.size = b2 at hGS ⊢
         clear hb3 hbB hA3 HAT HWW HB4 HZ4 HZ5 HX3 HD3 HZ2 hZ3 y0 y1 y2)
      | (have hGS : GT w (.slice (some ⟨b, o, none⟩) ns.length cap) W2.heap.size ((((w3.setCell ⟨W2.heap.size, 0, none⟩ (.bool x.text)).setCell ⟨W2.heap.size, 1, none⟩ (.string x.s)).setCell ⟨W2.heap.size, 2, none⟩ (.slice a3 x.attrs.length c3')).setCell ⟨W2.heap.size, 3, none⟩ (.slice none 0 0)).heap.size #[.bool x.text, .string x.s, .slice a3 x.attrs.length c3', .slice none 0 0] (.slice a3 x.attrs.length c3') x.attrs ((((w3.setCell ⟨W2.heap.size, 0, none⟩ (.bool x.text)).setCell ⟨W2.heap.size, 1, none⟩ (.string x.s)).setCell ⟨W2.heap.size, 2, none⟩ (.slice a3 x.attrs.length c3')).setCell ⟨W2.heap.size, 3, none⟩ (.slice none 0 0)) := by
          have hB3 : Below w.heap.size w w3 := HB4.out.trans (hbA.mono HB4.out.size)
          have hz := HZ2.out
          have hle : w.heap.size ≤ W2.heap.size := by omega
          refine ⟨(((hB3.setCell (p := ⟨W2.heap.size, 0, none⟩) hle _).setCell (p := ⟨W2.heap.size, 1, none⟩) hle _).setCell (p := ⟨W2.heap.size, 2, none⟩) hle _).setCell (p := ⟨W2.heap.size, 3, none⟩) hle _, ?_, ?_, ?_, by omega, by have := blk_lt hV3; simpa using this, Nat.le_refl _, ?_⟩
          · rw [blk_set_ne (by omega), blk_set_ne (by omega), blk_set_ne (by omega), blk_set_ne (by omega)]
            exact (hbA.block _ (by have := HZ4.out; omega)).trans ((Lib.alloc_old _ _ _ (by omega)).trans HD3.out)
          · rw [blk_set_ne (by omega), blk_set_ne (by omega), blk_set_ne (by omega), blk_set_ne (by omega)]
            exact (hbA.block _ (by have := HZ4.out; omega)).trans ((Lib.alloc_old _ _ _ (by omega)).trans HX3.out)
          · simp [World.setCell, Array.getElem?_modify, hV3]
          · refine hA3.bounded.carry fun b hb => ⟨⟨by have h1 : (W2.alloc (.cells #[.bool false, .string ⟨#[]⟩, .slice none 0 0, .slice none 0 0] 68)).drew.heap.size ≤ b := hb.1.1; have := HZ5.out; omega, by have h1 : (W2.alloc (.cells #[.bool false, .string ⟨#[]⟩, .slice none 0 0, .slice none 0 0] 68)).drew.heap.size ≤ b := hb.1.1; have := HZ5.out; omega, by have := hb.2; simpa using this⟩, ?_⟩
            have h1 : (W2.alloc (.cells #[.bool false, .string ⟨#[]⟩, .slice none 0 0, .slice none 0 0] 68)).drew.heap.size ≤ b := hb.1.1
            have h2 := HZ5.out
            rw [blk_set_ne (by omega), blk_set_ne (by omega), blk_set_ne (by omega), blk_set_ne (by omega)]
         generalize ((((w3.setCell ⟨W2.heap.size, 0, none⟩ (.bool x.text)).setCell ⟨W2.heap.size, 1, none⟩ (.string x.s)).setCell ⟨W2.heap.size, 2, none⟩ (.slice a3 x.attrs.length c3')).setCell ⟨W2.heap.size, 3, none⟩ (.slice none 0 0)) = W4 at hGS ⊢
         generalize W2.heap.size = b2 at hGS ⊢
         clear hb3 hbA hA3 HAT HWW HB4 HZ4 HZ5 HX3 HD3 HZ2 hZ3 y0 y1 y2 hV3 g0 g1 g2 g3 k0 k1 k2 k3)
    have d4 : W4.cell? ⟨w.heap.size, 0, none⟩ = some (.slice (some ⟨b, o, none⟩) ns.length cap) := by rw [Lib.cell_of_heap hGS.box]; rfl
    have HGS : Hid _ := hGS
    have hlo := hGS.lo
    clear hGS
    go_wp2_with fail
    go_loopg [7] (ns.length - (n + 1)) (fun g j wr => ∃ (i : Nat) (v : Value) (qs : List (Bool × ByteArray × Value × Value)), i + g = ns.length ∧ n < i ∧ j = .int .i64 (i : Int) ∧ GT w (.slice (some ⟨b, o, none⟩) ns.length cap) b2 W4.heap.size #[.bool x.text, .string x.s, .slice a3 x.attrs.length c3', v] (.slice a3 x.attrs.length c3') x.attrs wr ∧ W4.heap.size ≤ wr.heap.size ∧ Grow (fun _ => False) f W4.heap.size wr v ((sonsF ns n i).map fun k => treeF f ns k.toNat) qs)
    case atStart => exact ⟨n + 1, .slice none 0 0, [], by omega, by omega, by go_num, HGS.out, Nat.le_refl _, by rw [sonsF_none _ _ _ (Nat.le_refl _)]; exact Grow.nil _ _ _ _⟩
    case round =>
      obtain ⟨i, v, qs, hi, hni2, rfl, hG, hWs, hGr⟩ := hrel
      have HG4 : Hid _ := hG
      have hB4 := hG.below
      obtain ⟨ja, jc, rfl⟩ := hGr.shape
      have HGR : Hid _ := hGr
      have d5 : wr.cell? ⟨w.heap.size, 0, none⟩ = some (.slice (some ⟨b, o, none⟩) ns.length cap) := by rw [Lib.cell_of_heap HG4.out.box]; rfl
      by_cases hil : i < ns.length
      · obtain ⟨y, hy⟩ : ∃ y, ns[i]? = some y := ⟨ns[i], by simp [hil]⟩
        obtain ⟨b', o', cap2, xva, xvk, hv, _, _, _, hbw2, _, _, _, c3, _, _, _⟩ := (HNN.out.later hB4).at hy
        cases hv
        have hili : (i : Int) < (ns.length : Int) := by omega
        by_cases hp : y.parent = (n : Int)
        · have hsn : (sonsF ns n (i + 1)).map (fun k => treeF f ns k.toNat) = (sonsF ns n i).map (fun k => treeF f ns k.toNat) ++ [treeF f ns i] := by
            rw [sonsF, if_pos ⟨by omega, by unfold parB; rw [hy]; simp [hp]⟩, List.map_append]; rfl
          have HSN : Hid _ := hsn
          rw [hp] at c3
          have HCALL : Hid (∀ W, Below w.heap.size w W → Calls Tryz.prog 54 #[.agg #[(.slice (some ⟨b, o, none⟩) ns.length cap)], .int .i64 (i : Int)] W fun e w' => ∃ r, e = .returned r ∧ ∃ va vk, r = .agg #[.bool (treeF f ns i).text, .string (treeF f ns i).s, va, vk] ∧
              Attrs (fun b => W.heap.size ≤ b) w' va (treeF f ns i).attrs ∧ Trees (fun b => W.heap.size ≤ b) w' f vk (treeF f ns i).kids ∧ Below W.heap.size W w') := by
            intro W hW
            refine (IH.out S _ ns i W (HNN.out.later hW) hfew h80 (by omega) (by omega)).mono ?_
            rintro e w' ⟨va, vk, rfl, h1, h2, h3⟩
            exact ⟨_, rfl, va, vk, rfl, h1, h2, h3⟩
          have hln : ((sonsF ns n i).map fun k => treeF f ns k.toNat).length ≤ 80 := by rw [List.length_map]; have := sonsF_len ns n i; omega
          obtain ⟨us, hus⟩ : ∃ us, (sonsF ns n i).map (fun k => treeF f ns k.toNat) = us := ⟨_, rfl⟩
          obtain ⟨t, ht⟩ : ∃ t, treeF f ns i = t := ⟨_, rfl⟩
          rw [hus] at HGR HG4 HSN hln
          rw [ht] at HCALL HSN
          obtain ⟨L, hL⟩ : ∃ L, us.length = L := ⟨_, rfl⟩
          rw [hL] at HGR HG4 hln
          have HLN : Hid (us.length = L) := hL
          have hz3 : wr.cell? ⟨b2, 3, none⟩ = some (.slice ja L jc) := by rw [Lib.cell_of_heap HG4.out.tre]; rfl
          have hf3 : wr.frozen? ⟨b2, 3, none⟩ = false := Lib.frozen_of_heap HG4.out.tre 3
          have hi20 : L ≤ 1048576 := by omega
          have hwrs := hB4.size
          have hb2r := blk_lt HG4.out.tre
          have HGD : Hid (Grow (fun _ => False) f W4.heap.size wr.drew (.slice ja L jc) us qs) := HGR.out.later (Below.refl _ wr).drew
          have HCH : Hid (∀ (w5 w6 : World) (X : Obj), Below wr.drew.heap.size wr.drew w5 → (w5.alloc X).grownBy w6 (Value.slice ja L jc).ownBlock → w6.heap[b2]? = some (.cells #[.bool x.text, .string x.s, .slice a3 x.attrs.length c3', .slice ja L jc] 68 (0, 0))) := by
            intro w5 w6 X h5 h6
            have h7 : b2 < w5.heap.size := Nat.lt_of_lt_of_le hb2r h5.size
            rw [h6.block b2 (by simp; omega) (fun e => by have := (HGR.out.own.lt b2 e.symm).1; have := HG4.out.hi; omega), Lib.alloc_old _ _ _ h7]
            exact (h5.block b2 hb2r).trans HG4.out.tre
          clear hG hGr hy hsn hus ht d4 hL hp
          go_wp2_with fail
          go_region_law (first
            | (refine step_enter (by rfl) 54 #[.agg #[(.slice (some ⟨b, o, none⟩) ns.length cap)], .int .i64 (i : Int)] (by go_simp) _ (HCALL.out _ hB4.drew) ?_; intro r5 w5 hR5; obtain ⟨va5, vk5, rfl, hA5, hK5, hb5⟩ := hR5; obtain ⟨a5, c5, rfl⟩ := hA5.shape; obtain ⟨k5, d5, rfl, _, _⟩ := Trees.shape f hK5; have z5 : w5.cell? ⟨b2, 3, none⟩ = some (.slice ja L jc) := (hb5.cell (p := ⟨b2, 3, none⟩) hb2r).trans hz3; have z5a : (w5.alloc (.cells #[.bool t.text, .string t.s, .slice a5 t.attrs.length c5, .slice k5 t.kids.length d5] 68)).cell? ⟨b2, 3, none⟩ = some (.slice ja L jc) := Lib.cell?_alloc_some _ z5)
            | (refine step_tree (by rfl) (.tmp 39) (.tmp 43) (by rfl) W4.heap.size (.slice ja L jc) L (quadCells qs) (by simp [Act.eval]) (by have := (ownsRow_later HGD.out.own hb5).alloc (.cells #[.bool t.text, .string t.s, .slice a5 t.attrs.length c5, .slice k5 t.kids.length d5] 68); rw [HLN.out] at this; exact this) ⟨w5.heap.size, 0, none⟩ t.text t.s a5 t.attrs.length c5 k5 t.kids.length d5 (by simp [Act.eval]) (new_quad _ _ _ _ _ _) hi20 (by have := hb5.size; simp at this ⊢; omega) ?_; intro v6 w6 hown6 hgr6 hat6; obtain ⟨a6, n6, c6, rfl⟩ := row_slice6 hown6; have hk6 := HCH.out w5 w6 _ hb5 hgr6; have z6 := Lib.cell_of_heap hk6 3; have f6 := Lib.frozen_of_heap hk6 3; simp at z6))
          all_goals
            have HG7 : Hid _ := treeOf_step HG4.out HGD.out HLN.out hb5 hA5 hK5 hown6 hgr6 hat6
            clear hown6 hgr6 hat6 hA5 hK5
            go_wp2_with fail
            go_roundg (ns.length - (i + 1))
            case measure => omega
            case rel => exact ⟨i + 1, _, _, by omega, by omega, by go_num, HG7.out.1, HG7.out.2.1, by rw [HSN.out]; exact HG7.out.2.2⟩
        · have hpb : (y.parent == (n : Int)) = false := by simpa using hp
          have hsn : sonsF ns n (i + 1) = sonsF ns n i := by
            rw [sonsF, if_neg (fun h => by have h2 := h.2; unfold parB at h2; rw [hy] at h2; simp at h2; exact hp h2), List.append_nil]
          have HSN : Hid _ := hsn
          clear hG hGr hy hsn hp d4
          go_wp2_with fail
          go_roundg (ns.length - (i + 1))
          case measure => omega
          case rel => exact ⟨i + 1, _, _, by omega, by omega, by go_num, HG4.out, hWs, by rw [HSN.out]; exact HGR.out⟩
      · have hii : i = ns.length := by omega
        have HII : Hid (i = ns.length) := hii
        have hili : ¬ ((i : Int) < (ns.length : Int)) := by omega
        clear hii
        have p0 : wr.cell? ⟨w.heap.size + 1, 0, none⟩ = some (.bool false) := by rw [Lib.cell_of_heap HG4.out.res]; rfl
        have p1 : wr.cell? ⟨w.heap.size + 1, 1, none⟩ = some (.string ⟨#[]⟩) := by rw [Lib.cell_of_heap HG4.out.res]; rfl
        have p2 : wr.cell? ⟨w.heap.size + 1, 2, none⟩ = some (.slice none 0 0) := by rw [Lib.cell_of_heap HG4.out.res]; rfl
        have p3 : wr.cell? ⟨w.heap.size + 1, 3, none⟩ = some (.slice none 0 0) := by rw [Lib.cell_of_heap HG4.out.res]; rfl
        have f0 : wr.frozen? ⟨w.heap.size + 1, 0, none⟩ = false := Lib.frozen_of_heap HG4.out.res 0
        have f1 : wr.frozen? ⟨w.heap.size + 1, 1, none⟩ = false := Lib.frozen_of_heap HG4.out.res 1
        have f2 : wr.frozen? ⟨w.heap.size + 1, 2, none⟩ = false := Lib.frozen_of_heap HG4.out.res 2
        have f3 : wr.frozen? ⟨w.heap.size + 1, 3, none⟩ = false := Lib.frozen_of_heap HG4.out.res 3
        have q0 : wr.cell? ⟨b2, 0, none⟩ = some (.bool x.text) := by rw [Lib.cell_of_heap HG4.out.tre]; rfl
        have q1 : wr.cell? ⟨b2, 1, none⟩ = some (.string x.s) := by rw [Lib.cell_of_heap HG4.out.tre]; rfl
        have q2 : wr.cell? ⟨b2, 2, none⟩ = some (.slice a3 x.attrs.length c3') := by rw [Lib.cell_of_heap HG4.out.tre]; rfl
        have q3 : wr.cell? ⟨b2, 3, none⟩ = some (.slice ja ((sonsF ns n i).map fun k => treeF f ns k.toNat).length jc) := by rw [Lib.cell_of_heap HG4.out.tre]; rfl
        clear hG hGr d4
        generalize hvv : Value.slice ja ((sonsF ns n i).map fun k => treeF f ns k.toNat).length jc = vv at HGR HG4 q3
        obtain ⟨va7, vn7, vc7, rfl⟩ : ∃ a n c, vv = .slice a n c := ⟨_, _, _, hvv.symm⟩
        clear hvv
        rw [HII.out] at HGR
        go_wp2_with fail
        refine bodyPost_ret (v := .agg #[.bool x.text, .string x.s, .slice a3 x.attrs.length c3', .slice va7 vn7 vc7]) (by simp [results, Tryz.results54, go_sem, cell_set, p0, p1, p2, p3, World.cell?_setCell_other]) rfl ⟨.slice a3 x.attrs.length c3', .slice va7 vn7 vc7, ?_, ?_, ?_, ?_⟩
        · rw [HG.out]
        · rw [HG.out]
          refine HG4.out.att.carry fun b hb => ⟨by have := hb.1; omega, ?_⟩
          rw [blk_set_ne (by have := hb.1; omega), blk_set_ne (by have := hb.1; omega), blk_set_ne (by have := hb.1; omega), blk_set_ne (by have := hb.1; omega)]
        · rw [HG.out]
          have hW := HG4.out.hi
          refine Trees.carry (fun b hb => ⟨?_, ?_⟩) (f + 1) HGR.out.done
          · rcases hb with hb | hb
            · exact hb.elim
            · omega
          · rcases hb with hb | hb
            · exact hb.elim
            · rw [blk_set_ne (by omega), blk_set_ne (by omega), blk_set_ne (by omega), blk_set_ne (by omega)]
        · exact (((hB4.setCell (p := ⟨w.heap.size + 1, 0, none⟩) (Nat.le_succ _) _).setCell (p := ⟨w.heap.size + 1, 1, none⟩) (Nat.le_succ _) _).setCell (p := ⟨w.heap.size + 1, 2, none⟩) (Nat.le_succ _) _).setCell (p := ⟨w.heap.size + 1, 3, none⟩) (Nat.le_succ _) _

theorem treeOf_any (f : Nat) : TreeOfOk f := by
  induction f with
  | zero => intro S v ns n w _ _ _ hn hf; omega
  | succ f ih => exact treeOf_succ f ih
end Go.Proofs.YtfghbfocjjmcmabGreatDoor

/- The document's own CopyDoc: the same document in new memory. Condition: lists of a size that can be read. -/
namespace Go.Proofs.YtfghbfocjjmcmabGreatDoor
open Go.ChangeShapes Go.WideShapes Go.ChangeAt Go.RowKit
set_option maxRecDepth 100000

attribute [local go_sem] cell_set

/-- The copy of a list of numbers, as a step of a region that draws. -/
theorem step_ints0 {ops : Array Oper} {o : Oper} {a : Act} {w : World} {K : Act → World → Prop} {Q : Exit → Act → World → Prop} {E : Prop}
    (hg : o.guard = none) (x : Operand) (hop : o.op = Op.call { callee := Callee.builtin Builtin.append, args := #[.const (.slice none 0 0), x], argTypes := #[27, 27] })
    (S : Nat → Prop) (v : Value) (l : List Int) (hx : a.eval x = v) (h : Ints S w v l) (hl : l.length ≤ 17592186044416)
    (hK : ∀ v' w', IRow w.heap.size w' v' l → Below w.heap.size w w' → K (a.put o.dst v') w') :
    if Region.wanted o (yielded ops a.tmps) = true then Oper.wp Tryz.prog o a w K Q else E := by
  have hw : Region.wanted o (yielded ops a.tmps) = true := by simp [Region.wanted, hg]
  rw [if_pos hw]
  obtain ⟨i0, hi, hz0, hz1, hz2⟩ := info_parts intInfoR
  have h' := h
  obtain ⟨ad, cap, rfl, h2, h3, h4⟩ := h
  have hs : a.eval (.const (.slice none 0 0)) = .slice none 0 0 := rfl
  cases ad with
  | none =>
    have hn : l = [] := by
      apply Classical.byContradiction; intro hne
      obtain ⟨b, o, ha, _⟩ := h4 hne
      cases ha
    subst hn
    have hrun : (Builtin.append_ #[27, 27] o.type #[.slice none 0 0, .slice none 0 cap]).run Tryz.prog w = .ok (.slice none 0 0) w := by
      simp [Builtin.append_, run_underlying Tryz.underlying27, sizeOf, typeInfo, hi, Builtin.lenOf, Builtin.firstCells]
    simp only [List.length_nil] at hx
    unfold Oper.wp
    simp [execOp, hop, resolve, invoke, builtin, hs, hx, hrun, Result.andThen]
    exact hK _ _ (IRow.nil _ _) (Below.refl _ _)
  | some ad =>
    obtain ⟨v', w', hrun, r1, r2, _⟩ := run_append_own (P := Tryz.prog) w w.heap.size 27 o.type 3 i0 _ 1 8 Tryz.underlying27 hi hz0 hz1 hz2 rfl (by decide) (.slice none 0 0) 0 [] (World.ownsRow_nil w _ _ _) ad l.length cap (intCells l) (by rw [intCells_length]; omega) h'.cells (intCells_one l) (by unfold maxLen; omega) (by omega) (Nat.le_refl _)
    unfold Oper.wp
    simp [execOp, hop, resolve, invoke, builtin, hs, hx, hrun, Result.andThen]
    refine hK _ _ (by unfold IRow; simpa using r1) ((Below.refl _ w).grown r2 (Nat.le_refl _) (fun k hk => by simp [Value.ownBlock] at hk))

theorem nodeInfoC : (Tryz.prog.info? 49).map (fun i => (i.zero, i.size, i.bytes)) = some (some (.agg #[.bool false, .string ⟨#[]⟩, .slice none 0 0, .int .i64 0, .slice none 0 0]), 5, 80) := by kernel_rfl

theorem new_node (w : World) (a b c d e : Value) (t : TypeId) : ∀ (j : Nat) (u : Value), ([a, b, c, d, e] : List Value)[j]? = some u → (w.alloc (.cells #[a, b, c, d, e] t)).cell? ((⟨w.heap.size, 0, none⟩ : Addr).add j) = some u := by
  intro j u hj
  match j, hj with
  | 0, hj | 1, hj | 2, hj | 3, hj | 4, hj => simp at hj; subst hj; simp [Addr.add]

/-- What stands behind k nodes that are copied: the boxes of the document, of the answer, of what is made. -/
structure CD (w : World) (dv : Value) (v : Value) (l : List Nd) (ms : List Rw) (W : World) : Prop where
  below : Below w.heap.size w W
  box : W.heap[w.heap.size]? = some (.cells #[dv] 24 (0, 0))
  res : W.heap[w.heap.size + 1]? = some (.cells #[.slice none 0 0] 24 (0, 0))
  out : W.heap[w.heap.size + 2]? = some (.cells #[v] 24 (0, 0))
  row : NGrow (w.heap.size + 3) W v l ms

theorem copyDoc_step {w wr w3 w4 : World} {dv : Value} {ja : Option Addr} {jc k : Nat} {l : List Nd} {ms : List Rw} {x : Nd} {va vk v' : Value}
    (hC : CD w dv (.slice ja k jc) l ms wr) (hk : l.length = k) (hb : Below wr.heap.size wr w3)
    (hA : Attrs (OwnS (wr.heap.size) 84 w3) w3 va x.attrs) (hK : IRow wr.heap.size w3 vk x.kids)
    (hown : w4.ownsRow (w.heap.size + 3) 49 5 v' (k + 1) (rawCells ms ++ [.bool x.text, .string x.s, va, .int .i64 x.parent, vk]))
    (hgr : (w3.alloc (.cells #[.bool x.text, .string x.s, va, .int .i64 x.parent, vk] 49)).grownBy w4 (Value.slice ja k jc).ownBlock) :
    CD w dv v' (l ++ [x]) (ms ++ [⟨x.text, x.s, va, x.parent, vk⟩]) (w4.setCell ⟨w.heap.size + 2, 0, none⟩ v') := by
  have hs3 := hb.size
  have hlo := blk_lt hC.out
  have hsr := hC.below.size
  have hs4 := hgr.size
  simp only [World.size_alloc] at hs4
  have hB3 : w.heap.size + 3 ≤ wr.heap.size := by omega
  have hB4 : Below w.heap.size w w4 := (hC.below.trans (hb.mono hsr)).alloc (by omega) _ |>.grown hgr (by simp; omega) (fun g hg => by have := (hC.row.own.lt g hg).1; omega)
  have hkeep : ∀ b, b < w.heap.size + 3 → b < wr.heap.size → w4.heap[b]? = wr.heap[b]? := by
    intro b h1 h2
    rw [hgr.block b (by simp; omega) (fun e => by have := (hC.row.own.lt b e.symm).1; omega), Lib.alloc_old _ _ _ (by omega)]
    exact hb.block b h2
  have hR3 := (hC.row.later hb).later (Below.alloc1 w3 (.cells #[.bool x.text, .string x.s, va, .int .i64 x.parent, vk] 49))
  have hG := hR3.snoc (r := ⟨x.text, x.s, va, x.parent, vk⟩) (x := x) (by rw [hk]; exact hown) hgr
    ⟨rfl, rfl, rfl, (hA.own_later (Below.alloc1 w3 _)).carry (fun b hb' => ⟨hb'.to hB3 rfl, rfl⟩), ownsRow_mono (World.ownsRow.alloc hK _) hB3⟩
    (fun i q b hq hb' e => by
      obtain ⟨y, hy⟩ : ∃ y, l[i]? = some y := ⟨l[i]'(by rw [← hC.row.len]; exact (List.getElem?_eq_some_iff.1 hq).1), by simp⟩
      have h1 := (IRow.lt (hC.row.each i q y hq hy).2.2.2.2 b hb').2
      have h2 := (IRow.lt hK b e).1
      omega)
  refine ⟨hB4.setCell (p := ⟨w.heap.size + 2, 0, none⟩) (by show w.heap.size ≤ w.heap.size + 2; omega) _, ?_, ?_, ?_, ?_⟩
  · rw [blk_set_ne (by omega), hkeep _ (by omega) (blk_lt hC.box)]; exact hC.box
  · rw [blk_set_ne (by omega), hkeep _ (by omega) (blk_lt hC.res)]; exact hC.res
  · have := (hkeep _ (by omega) hlo).trans hC.out
    simp [World.setCell, Array.getElem?_modify, this]
  · exact hG.keep (fun b hs => blk_set_ne (by have := hs.1; omega)) (fun b hs => blk_set_ne (by have := hs.1; omega)) (fun b hs => blk_set_ne (by have := (hG.own.lt b hs).1; omega))

set_option maxHeartbeats 2000000 in
theorem copyDoc_any (S : Nat → Prop) (v : Value) (ns : List Nd) (w : World) (hN : Nodes S w v ns) (hfew : ∀ x ∈ ns, x.attrs.length ≤ 4398046511104 ∧ x.kids.length ≤ 17592186044416) (hlen : ns.length ≤ 1759218604441) :
    Calls Tryz.prog 6 #[.agg #[v]] w fun e w' => ∃ v', e = .returned (.agg #[v']) ∧ Nodes (fun b => w.heap.size ≤ b) w' v' ns ∧ Below w.heap.size w w' := by
  obtain ⟨i0, hi, hz0, hz1, hz2⟩ := info_parts nodeInfoC
  obtain ⟨a, cap, rfl, hlc, hcm⟩ := hN.shape
  unfold maxLen at hcm
  have HN : Hid (Nodes S w (.slice a ns.length cap) ns) := hN
  have hC0 : CD w (.slice a ns.length cap) (.slice none 0 0) [] [] (((w.alloc (.cells #[.slice a ns.length cap] 24)).alloc (.cells #[.slice none 0 0] 24)).alloc (.cells #[.slice none 0 0] 24)) := by
    refine ⟨((Below.alloc1 w _).alloc (by simp) _).alloc (by simp; omega) _, ?_, ?_, ?_, NGrow.nil _ _⟩
    · rw [Lib.alloc_old _ _ _ (by simp; omega), Lib.alloc_old _ _ _ (by simp)]; exact heap_alloc_new _ _
    · rw [Lib.alloc_old _ _ _ (by simp)]
      have e := heap_alloc_new (w.alloc (.cells #[.slice a ns.length cap] 24)) (.cells #[.slice none 0 0] 24)
      rw [World.size_alloc] at e
      exact e
    · have e := heap_alloc_new ((w.alloc (.cells #[.slice a ns.length cap] 24)).alloc (.cells #[.slice none 0 0] 24)) (.cells #[.slice none 0 0] 24)
      rw [World.size_alloc, World.size_alloc] at e
      exact e
  have HC0 : Hid _ := hC0
  clear hN
  go_enter Tryz.func6, Tryz.ntmps6
  go_wp2_with fail
  generalize (((w.alloc (.cells #[.slice a ns.length cap] 24)).alloc (.cells #[.slice none 0 0] 24)).alloc (.cells #[.slice none 0 0] 24)) = W0 at *
  clear hC0
  go_loopg [9] ns.length (fun g j wr => ∃ (k : Nat) (v : Value) (ms : List Rw), k + g = ns.length ∧ j = .int .i64 (k : Int) ∧ CD w (.slice a ns.length cap) v (ns.take k) ms wr)
  case atStart => exact ⟨0, _, [], by omega, rfl, HC0.out⟩
  case round =>
    obtain ⟨k, v, ms, hk, rfl, hC⟩ := hrel
    have HC : Hid _ := hC
    have hB := hC.below
    have hwr := blk_lt hC.out
    obtain ⟨ja, jc, rfl, hjl, hjm⟩ := hC.row.shape
    by_cases hlt : k < ns.length
    · obtain ⟨x, hx⟩ : ∃ x, ns[k]? = some x := ⟨ns[k], by simp [hlt]⟩
      obtain ⟨b, o, cap', va, vk, hv, _, _, hSb, hbw, c0, c1, c2, c3, c4, hAt, hKi⟩ := (HN.out.later hB).at hx
      cases hv
      obtain ⟨hal, hkl⟩ := hfew x (List.mem_of_getElem? hx)
      obtain ⟨aa, ac, rfl⟩ := hAt.shape
      obtain ⟨ka, kc, rfl, _, _⟩ := hKi.shape
      have hsn : ns.take (k + 1) = ns.take k ++ [x] := by
        rw [List.take_succ_eq_append_getElem hlt]; congr 2; simpa [hlt] using hx
      have HS : Hid (ns.take (k + 1) = ns.take k ++ [x]) := hsn
      have hlk : (ns.take k).length = k := by rw [List.length_take]; omega
      obtain ⟨us, hus⟩ : ∃ us, ns.take k = us := ⟨_, rfl⟩
      rw [hus] at HC hlk HS hjl
      rw [hlk] at HC hjl
      have HL : Hid (us.length = k) := hlk
      have hki : (k : Int) < (ns.length : Int) := by omega
      have o0 : wr.cell? ⟨w.heap.size + 1 + 1, 0, none⟩ = some (.slice ja k jc) := by rw [Lib.cell_of_heap HC.out.out]; rfl
      have of0 : wr.frozen? ⟨w.heap.size + 1 + 1, 0, none⟩ = false := Lib.frozen_of_heap HC.out.out 0
      have hbx := heap_alloc_new wr (.cells #[.bool x.text, .string x.s, .slice aa x.attrs.length ac, .int .i64 x.parent, .slice ka x.kids.length kc] 49)
      have hb1 := Below.alloc1 wr (.cells #[.bool x.text, .string x.s, .slice aa x.attrs.length ac, .int .i64 x.parent, .slice ka x.kids.length kc] 49)
      have hwl : wr.heap.size < (wr.alloc (.cells #[.bool x.text, .string x.s, .slice aa x.attrs.length ac, .int .i64 x.parent, .slice ka x.kids.length kc] 49)).heap.size := by simp
      clear hC hx hsn hus hlk
      go_wp2_with fail
      generalize wr.alloc (.cells #[.bool x.text, .string x.s, .slice aa x.attrs.length ac, .int .i64 x.parent, .slice ka x.kids.length kc] 49) = W1 at *
      have n2 : W1.cell? ⟨wr.heap.size, 2, none⟩ = some (.slice aa x.attrs.length ac) := by rw [Lib.cell_of_heap hbx]; rfl
      have n4 : W1.cell? ⟨wr.heap.size, 4, none⟩ = some (.slice ka x.kids.length kc) := by rw [Lib.cell_of_heap hbx]; rfl
      have HAT : Hid (Attrs S wr (.slice aa x.attrs.length ac) x.attrs) := hAt
      have HKI : Hid (Ints S wr (.slice ka x.kids.length kc) x.kids) := hKi
      clear hAt hKi c0 c1 c2 c3 c4
      go_region_law (first
        | (refine step_attrs2 (by rfl) (.tmp 14) (by rfl) S (.slice aa x.attrs.length ac) x.attrs (by first | rfl | simp [Act.eval]) (HAT.out.later hb1.drew) hal ?_; intro v1 w1 hA1 hB1; obtain ⟨a1, c1', rfl⟩ := hA1.shape; have hx1 := (hB1.block wr.heap.size hwl).trans hbx; have n4a : w1.cell? ⟨wr.heap.size, 4, none⟩ = some (.slice ka x.kids.length kc) := by (rw [Lib.cell_of_heap hx1]; rfl))
        | (refine step_ints0 (by rfl) (.tmp 17) (by rfl) S (.slice ka x.kids.length kc) x.kids (by first | rfl | simp [Act.eval]) (HKI.out.later (hb1.drew.trans (hB1.mono (by exact hb1.size)))) hkl ?_; intro v2 w2 hI2 hB2; obtain ⟨a2, c2', rfl, _, _⟩ := hI2.shape; have hx2 := (hB2.block _ (blk_lt hx1)).trans hx1; have n2b := Lib.cell_of_heap hx2 2; have n4b := Lib.cell_of_heap hx2 4; have f2b := Lib.frozen_of_heap hx2 2; have f4b := Lib.frozen_of_heap hx2 4; simp at n2b n4b))
      all_goals
        have hW4 : (((w2.setCell ⟨wr.heap.size, 2, none⟩ (.slice a1 x.attrs.length c1')).setCell ⟨wr.heap.size, 4, none⟩ (.slice a2 x.kids.length c2'))).heap[wr.heap.size]? = some (.cells #[.bool x.text, .string x.s, .slice a1 x.attrs.length c1', .int .i64 x.parent, .slice a2 x.kids.length c2'] 49 (0, 0)) := by
          simp [World.setCell, Array.getElem?_modify, hx2]
        have hk4 : ∀ b, wr.heap.size < b → (((w2.setCell ⟨wr.heap.size, 2, none⟩ (.slice a1 x.attrs.length c1')).setCell ⟨wr.heap.size, 4, none⟩ (.slice a2 x.kids.length c2'))).heap[b]? = w2.heap[b]? := fun b hb => by rw [blk_set_ne (by omega), blk_set_ne (by omega)]
        have hs12 : W1.heap.size ≤ w1.heap.size := hB1.size
        have hs22 := hB2.size
        have hB4 : Below wr.heap.size wr (((w2.setCell ⟨wr.heap.size, 2, none⟩ (.slice a1 x.attrs.length c1')).setCell ⟨wr.heap.size, 4, none⟩ (.slice a2 x.kids.length c2'))) := (((hb1.drew.trans (hB1.mono hb1.size)).trans (hB2.mono (by omega))).setCell (p := ⟨wr.heap.size, 2, none⟩) (Nat.le_refl _) _).setCell (p := ⟨wr.heap.size, 4, none⟩) (Nat.le_refl _) _
        have hA4 : Attrs (OwnS wr.heap.size 84 (((w2.setCell ⟨wr.heap.size, 2, none⟩ (.slice a1 x.attrs.length c1')).setCell ⟨wr.heap.size, 4, none⟩ (.slice a2 x.kids.length c2')))) (((w2.setCell ⟨wr.heap.size, 2, none⟩ (.slice a1 x.attrs.length c1')).setCell ⟨wr.heap.size, 4, none⟩ (.slice a2 x.kids.length c2'))) (.slice a1 x.attrs.length c1') x.attrs :=
          (hA1.own_later hB2).carry fun b hb => by
            have h1 : W1.heap.size ≤ b := hb.1
            exact ⟨hb.to (by show wr.heap.size ≤ W1.heap.size; omega) (hk4 b (by omega)), hk4 b (by omega)⟩
        have hI4 : IRow wr.heap.size (((w2.setCell ⟨wr.heap.size, 2, none⟩ (.slice a1 x.attrs.length c1')).setCell ⟨wr.heap.size, 4, none⟩ (.slice a2 x.kids.length c2'))) (.slice a2 x.kids.length c2') x.kids :=
          ownsRow_mono (ownsRow_heap hI2 fun b hb => hk4 b (by have := (IRow.lt hI2 b hb).1; omega)) (by omega)
        generalize ((w2.setCell ⟨wr.heap.size, 2, none⟩ (.slice a1 x.attrs.length c1')).setCell ⟨wr.heap.size, 4, none⟩ (.slice a2 x.kids.length c2')) = W4 at hW4 hB4 hA4 hI4 ⊢
        have m0 : W4.cell? ⟨wr.heap.size, 0, none⟩ = some (.bool x.text) := by rw [Lib.cell_of_heap hW4]; rfl
        have m1 : W4.cell? ⟨wr.heap.size, 1, none⟩ = some (.string x.s) := by rw [Lib.cell_of_heap hW4]; rfl
        have m2 : W4.cell? ⟨wr.heap.size, 2, none⟩ = some (.slice a1 x.attrs.length c1') := by rw [Lib.cell_of_heap hW4]; rfl
        have m3 : W4.cell? ⟨wr.heap.size, 3, none⟩ = some (.int .i64 x.parent) := by rw [Lib.cell_of_heap hW4]; rfl
        have m4 : W4.cell? ⟨wr.heap.size, 4, none⟩ = some (.slice a2 x.kids.length c2') := by rw [Lib.cell_of_heap hW4]; rfl
        have hd4 := (hB4.block _ hwr).trans HC.out.out
        have o4 : W4.cell? ⟨w.heap.size + 1 + 1, 0, none⟩ = some (.slice ja k jc) := by rw [Lib.cell_of_heap hd4]; rfl
        have hown4 := (HC.out.row.later hB4).own
        rw [HL.out] at hown4
        have hs4 := hB4.size
        clear hk4 n2 n4 n4a n2b n4b f2b f4b hx1 hx2 hbx hA1 hB1 hI2 hB2 hb1 hwl hs12 hs22
        go_wp2_with (at_builtin; refine wpList_append_own_at _ rfl _ _ 22 rfl (w.heap.size + 3) 49 i0 _ 5 80 Tryz.underlying22 hi hz0 hz1 hz2 rfl (by decide) _ _ _ rfl (World.ownsRow.alloc hown4 _) ⟨W4.heap.size, 0, none⟩ 1 1 [.bool x.text, .string x.s, .slice a1 x.attrs.length c1', .int .i64 x.parent, .slice a2 x.kids.length c2'] rfl ?qc1 ?qc2 ?qc3 ?qc4 ?qc5 ?qc6 ?_)
        case qc1 => rfl
        case qc2 => exact new_node _ _ _ _ _ _ _
        case qc3 => intro u hu; simp at hu; rcases hu with rfl | rfl | rfl | rfl | rfl <;> rfl
        case qc4 => unfold maxLen; omega
        case qc5 => omega
        case qc6 => simp; omega
        intro v' w5 hown' hgrow _ _
        obtain ⟨a5, n5, c5, rfl⟩ := row_slice6 hown'
        have HST : Hid _ := copyDoc_step HC.out HL.out hB4 hA4 hI4 hown' hgrow
        have hd5 : w5.heap[w.heap.size + 1 + 1]? = some (.cells #[.slice ja k jc] 24 (0, 0)) := by
          have h1 : w.heap.size + 1 + 1 < wr.heap.size := hwr
          rw [hgrow.block _ (by simp; omega) (fun e => by have := (HC.out.row.own.lt _ e.symm).1; omega), Lib.alloc_old _ _ _ (by omega)]
          exact hd4
        have o5 : w5.cell? ⟨w.heap.size + 1 + 1, 0, none⟩ = some (.slice ja k jc) := by rw [Lib.cell_of_heap hd5]; rfl
        have f5 : w5.frozen? ⟨w.heap.size + 1 + 1, 0, none⟩ = false := Lib.frozen_of_heap hd5 0
        clear hown' hgrow hA4 hI4
        go_wp2_with fail
        go_roundg (ns.length - (k + 1))
        case measure => omega
        case rel => exact ⟨k + 1, _, _, by omega, by go_num, by rw [HS.out]; exact HST.out⟩
    · have hki : ¬ ((k : Int) < (ns.length : Int)) := by omega
      have hkk : k = ns.length := by omega
      have HKK : Hid (ns.take k = ns) := by show _ = _; rw [hkk, List.take_length]
      have hlk : (ns.take k).length = ns.length := by rw [HKK.out]
      rw [hlk] at HC hjl
      have o0 : wr.cell? ⟨w.heap.size + 1 + 1, 0, none⟩ = some (.slice ja ns.length jc) := by rw [Lib.cell_of_heap HC.out.out]; rfl
      have r0 : wr.cell? ⟨w.heap.size + 1, 0, none⟩ = some (.slice none 0 0) := by rw [Lib.cell_of_heap HC.out.res]; rfl
      have rf0 : wr.frozen? ⟨w.heap.size + 1, 0, none⟩ = false := Lib.frozen_of_heap HC.out.res 0
      clear hC hkk hlk
      go_wp2_with fail
      refine bodyPost_ret (v := .agg #[.slice ja ns.length jc]) (by simp [results, Tryz.results6, go_sem, cell_set, r0]) rfl ⟨_, rfl, ?_, ?_⟩
      · have := HC.out.row.done
        rw [HKK.out] at this
        exact this.carry fun b hb => ⟨by omega, blk_set_ne (by omega)⟩
      · exact hB.setCell (p := ⟨w.heap.size + 1, 0, none⟩) (Nat.le_succ _) _
end Go.Proofs.YtfghbfocjjmcmabGreatDoor

/- topiaryref.SizeOf, for every tree. Condition: at most 2^20 trees. -/
namespace Go.Proofs.YtfghbfocjjmcmabGreatDoor
open Go.ChangeShapes Go.WideShapes Go.ChangeAt Go.RowKit
set_option maxRecDepth 100000

theorem Trees.pred {S : Nat → Prop} {w : World} {m : Nat} {v : Value} {ts : List Tr} (h : Trees S w m v ts) : Trees S w (m.pred + 1) v ts := by
  cases m with
  | zero => exact Trees.deeper 0 h
  | succ m => exact h

theorem Trees.back {S : Nat → Prop} {w : World} {m : Nat} {v : Value} {ts : List Tr} (h : Trees S w (m.pred + 1) v ts) (hd : Deep m ts) : Trees S w m v ts := by
  cases m with
  | zero =>
    have : ts = [] := hd
    subst this
    obtain ⟨a, c, e, _, hc⟩ := Trees.shape 1 h
    exact ⟨rfl, a, c, e, hc⟩
  | succ m => exact h

theorem sizeOf_any (S : Nat → Prop) (n : Nat) (va vk : Value) (t : Tr) (w : World) (h : Attrs S w va t.attrs) (hk : Trees S w n vk t.kids) (hc : cnt (n + 1) [t] ≤ 1048576) :
    Calls Tryz.prog 67 #[.agg #[.bool t.text, .string t.s, va, vk]] w fun e w' => e = .returned (.tuple #[.int .i64 (dep (n + 1) [t] : Int), .int .i64 (cnt (n + 1) [t] : Int)]) ∧ Below w.heap.size w w' := by
  obtain ⟨aa, ac, rfl⟩ := h.shape
  obtain ⟨ka, kc, rfl, _, _⟩ := Trees.shape n hk
  have hb : ∀ X Y, Below w.heap.size w ((w.alloc X).alloc Y) := fun X Y => (Below.alloc1 w X).alloc (by simp) Y
  have hT : Trees (fun _ => True) ((w.alloc (.cells #[.bool t.text, .string t.s, .slice aa t.attrs.length ac, .slice ka t.kids.length kc] 68)).alloc (.cells #[.bool t.text, .string t.s, .slice aa t.attrs.length ac, .slice ka t.kids.length kc] 68)) (n + 1) (.slice (some ⟨w.heap.size + 1, 0, none⟩) 1 1) [t] := by
    refine Trees.carry (fun b _ => ⟨trivial, rfl⟩) (n + 1) (Trees.of_block (S := S) (e := 68) (fz := (0, 0)) (qs := [(t.text, t.s, .slice aa t.attrs.length ac, .slice ka t.kids.length kc)]) ?_ rfl rfl rfl (Nat.le_refl _) (by unfold maxLen; simp) ?_)
    · have := heap_alloc_new (w.alloc (.cells #[.bool t.text, .string t.s, .slice aa t.attrs.length ac, .slice ka t.kids.length kc] 68)) (.cells #[.bool t.text, .string t.s, .slice aa t.attrs.length ac, .slice ka t.kids.length kc] 68)
      rw [World.size_alloc] at this
      exact this
    · intro i q t' hq ht'
      cases i with
      | zero =>
        simp at hq ht'
        subst hq ht'
        exact ⟨rfl, rfl, h.later (hb _ _), Trees.later (hb _ _) n hk⟩
      | succ i => simp at ht'
  have HT : Hid _ := hT
  have HB : Hid (∀ X Y, Below w.heap.size w ((w.alloc X).alloc Y)) := hb
  clear hT hb h hk
  obtain ⟨D, hD⟩ : ∃ D, dep (n + 1) [t] = D := ⟨_, rfl⟩
  obtain ⟨C, hC⟩ : ∃ C, cnt (n + 1) [t] = C := ⟨_, rfl⟩
  rw [hD, hC]
  rw [hC] at hc
  have HD : Hid (dep (n + 1) [t] = D) := hD
  have HC : Hid (cnt (n + 1) [t] = C) := hC
  clear hD hC
  have hDC : D ≤ 1048576 := by have := dep_cnt (n + 1) [t]; rw [HD.out, HC.out] at this; omega
  go_enter Tryz.func67, Tryz.ntmps67
  go_wp2_with fail
  go_loopg [4, 5, 6] (n + 1) (fun g d c v wr => ∃ (dd cc : Nat) (lv : List Tr), d = .int .i64 (dd : Int) ∧ c = .int .i64 (cc : Int) ∧ Trees (fun _ => True) wr g v lv ∧ dd + dep g lv = D ∧ cc + cnt g lv = C ∧ Below w.heap.size w wr)
  case atStart => exact ⟨0, 0, [t], rfl, rfl, HT, by rw [HD.out]; omega, by rw [HC.out]; omega, HB _ _⟩
  case round =>
    obtain ⟨dd, cc, lv, rfl, rfl, hlv, hd, hcn, hB⟩ := hrel
    have hsz := hB.size
    by_cases hne : lv = []
    · subst hne
      rw [dep_nil] at hd
      rw [cnt_nil] at hcn
      obtain ⟨la, lc, rfl, _, _⟩ := Trees.shape _ hlv
      have hd' : dd = D := by omega
      have hc' : cc = C := by omega
      subst hd' hc'
      clear hlv HT HD HC
      simp only [List.length_nil]
      go_wp2_with fail
      go_ret2
      exact ⟨rfl, hB⟩
    · cases gk with
      | zero => exact absurd hlv.1 hne
      | succ m =>
        obtain ⟨wo, hwo⟩ : ∃ x, x = wr := ⟨_, rfl⟩
        subst hwo
        rw [dep_nx m lv hne] at hd
        rw [cnt_nx m lv] at hcn
        have hdeep : Deep m (nx lv) := (Trees.deep (m + 1) hlv).nx
        have hlen := hdeep.len
        have HDp : Hid (Deep m (nx lv)) := hdeep
        have hlv' := Trees.bounded (m + 1) hlv
        obtain ⟨la, lc, rfl, hlc, hlm⟩ := Trees.shape _ hlv
        obtain ⟨_, _, hve, _, _, h4⟩ := hlv'
        have hl0 : 0 < lv.length := List.length_pos_iff.2 hne
        obtain ⟨b, o, hao, hs, hcc⟩ := h4 hne
        injection hve with e1 e2 e3
        subst e1
        subst hao
        have Hd : Hid (dd + (1 + dep m (nx lv)) = D) := hd
        have Hc : Hid (cc + (lv.length + cnt m (nx lv)) = C) := hcn
        have HCC : Hid _ := hcc
        have hcb : cc + lv.length ≤ 1048576 := by omega
        have hdb : dd ≤ 1048576 := by omega
        have hnb : (nx lv).length ≤ 1048576 := by omega
        clear hdeep h4 e2 hd hcn hcc hlen hs e3 HT HD HC hlv
        unfold maxLen at hlm
        go_wp2_with fail
        go_loopg [7, 23] lv.length (fun g v i wr => ∃ (k : Nat) (qs : List (Bool × ByteArray × Value × Value)), k + g = lv.length ∧ i = .int .i64 k ∧ Grow (fun b => b < wo.heap.size) m.pred wo.heap.size wr v (nx (lv.take k)) qs ∧ Below wo.heap.size wo wr)
        case atStart => exact ⟨0, [], by omega, rfl, Grow.nil _ _ _ _, Below.refl _ _⟩
        case round =>
          obtain ⟨k, qs, hk, rfl, hG, hBq⟩ := hrel
          have hszq := hBq.size
          by_cases hlt : k < lv.length
          · obtain ⟨x, hx⟩ : ∃ x, lv[k]? = some x := ⟨lv[k], by simp [hlt]⟩
            obtain ⟨va, vk, c0, c1, c2, c3, hat, hkt⟩ := HCC.out k x hx
            obtain ⟨xa, xc, rfl⟩ := hat.shape
            obtain ⟨ya, yc, rfl, _, _⟩ := Trees.shape m hkt
            have hbl : b < wo.heap.size := World.block_lt_of_cell? wo _ c0
            rw [← hBq.cell (p := ⟨b, o + k * 4, none⟩) hbl] at c0
            rw [← hBq.cell (p := ⟨b, o + k * 4 + 1, none⟩) hbl] at c1
            rw [← hBq.cell (p := ⟨b, o + k * 4 + 2, none⟩) hbl] at c2
            rw [← hBq.cell (p := ⟨b, o + k * 4 + 3, none⟩) hbl] at c3
            have hsn : nx (lv.take (k + 1)) = nx (lv.take k) ++ x.kids := by
              have e : lv.take (k + 1) = lv.take k ++ [x] := by
                rw [List.take_succ_eq_append_getElem hlt]; congr 2; simpa [hlt] using hx
              rw [e, nx_append, nx_cons, nx_nil, List.append_nil]
            have HS : Hid (nx (lv.take (k + 1)) = nx (lv.take k) ++ x.kids) := hsn
            have hle : (nx (lv.take k) ++ x.kids).length ≤ 1048576 := by
              rw [← hsn]
              have e : nx lv = nx (lv.take (k + 1)) ++ nx (lv.drop (k + 1)) := by rw [← nx_append, List.take_append_drop]
              rw [e, List.length_append] at hnb
              omega
            rw [List.length_append] at hle
            have hblq : b < wr.heap.size := by omega
            have hG1 := hG.later (Below.alloc1 wr (.cells #[.bool x.text, .string x.s, .slice xa x.attrs.length xc, .slice ya x.kids.length yc] 68))
            have hB1 : Below wo.heap.size wo (wr.alloc (.cells #[.bool x.text, .string x.s, .slice xa x.attrs.length xc, .slice ya x.kids.length yc] 68)) := hBq.alloc hszq _
            have hK1 := (Trees.later hB1 m hkt).pred
            obtain ⟨us, hus⟩ : ∃ us, nx (lv.take k) = us := ⟨_, rfl⟩
            rw [hus] at hG1 hle HS hG
            obtain ⟨ja, jc, rfl⟩ := hG1.shape
            clear hx hsn hus hG hat hkt
            go_wp2_with (at_builtin; refine wpList_append_trees rfl _ _ rfl (fun b => b < wo.heap.size) _ m.pred wo.heap.size _ _ us x.kids qs rfl hG1 rfl hK1 ?qc1 hle ?qc2 ?_)
            case qc1 =>
              intro b hb
              refine ⟨Or.inl hb.2, Nat.lt_of_lt_of_le hb.2 (by simp; omega), fun e => ?_⟩
              have := (hG1.own.lt b e).1
              have := hb.2
              omega
            case qc2 => simp; omega
            intro v' w2 qs' hG2 hb2
            have hB2 : Below wo.heap.size wo w2 := hB1.trans hb2
            go_wp2_with fail
            go_roundg (lv.length - (k + 1))
            case measure => omega
            case rel => exact ⟨k + 1, qs', by omega, by go_num, by rw [HS.out]; exact hG2, hB2⟩
          · have hkk : k = lv.length := by omega
            subst hkk
            rw [List.take_length] at hG
            have hT2 : Trees (fun _ => True) wr m _ (nx lv) := Trees.carry (fun b _ => ⟨trivial, rfl⟩) m (hG.done.back HDp.out)
            have hBw : Below w.heap.size w wr := hB.trans (hBq.mono hsz)
            go_wp2_with fail
            go_roundg m
            case measure => omega
            case rel => exact ⟨dd + 1, cc + lv.length, nx lv, by go_num, by go_num, hT2, by have := Hd.out; omega, by have := Hc.out; omega, hBw⟩
end Go.Proofs.YtfghbfocjjmcmabGreatDoor

/- How many trees there are in the tree that the parents tell: on plain data. No condition. -/
namespace Go.Proofs.YtfghbfocjjmcmabGreatDoor
open Go.RowKit
set_option maxRecDepth 100000

def sumF (g : Nat → Nat) : Nat → Nat
  | 0 => 0
  | n + 1 => sumF g n + g n

theorem sumF_add (g h : Nat → Nat) : ∀ n, sumF (fun k => g k + h k) n = sumF g n + sumF h n := by
  intro n
  induction n with
  | zero => rfl
  | succ n ih => simp only [sumF]; rw [ih]; omega

theorem sumF_le {g h : Nat → Nat} (hl : ∀ k, g k ≤ h k) : ∀ n, sumF g n ≤ sumF h n := by
  intro n
  induction n with
  | zero => exact Nat.le_refl _
  | succ n ih => simp only [sumF]; have := hl n; omega

theorem sumF_at (g : Nat → Nat) : ∀ (n k : Nat), k < n → g k ≤ sumF g n := by
  intro n
  induction n with
  | zero => intro k h; omega
  | succ n ih =>
    intro k h
    simp only [sumF]
    by_cases hk : k = n
    · subst hk; omega
    · have := ih k (by omega); omega

theorem sumF_const (c : Nat) : ∀ n, sumF (fun _ => c) n = n * c := by
  intro n
  induction n with
  | zero => simp [sumF]
  | succ n ih => simp only [sumF]; rw [ih, Nat.add_mul]; omega

/-- Nobody has two parents. -/
theorem one_parent (ns : List Nd) (m a : Nat) : ∀ N, sumF (fun n => if n < m ∧ parB ns n m = true then a else 0) N ≤ a := by
  intro N
  induction N with
  | zero => exact Nat.zero_le _
  | succ N ih =>
    simp only [sumF]
    by_cases hc : N < m ∧ parB ns N m = true
    · have hz : ∀ M, M ≤ N → sumF (fun n => if n < m ∧ parB ns n m = true then a else 0) M = 0 := by
        intro M
        induction M with
        | zero => intro _; rfl
        | succ M ihM =>
          intro hM
          simp only [sumF]
          rw [ihM (by omega), if_neg]
          rintro ⟨_, h2⟩
          have h1 := hc.2
          unfold parB at h1 h2
          cases hy : ns[m]? with
          | none => simp [hy] at h1
          | some y => simp [hy] at h1 h2; omega
      rw [hz N (Nat.le_refl _), if_pos hc]; omega
    · rw [if_neg hc]; omega

theorem sons_sum (ns : List Nd) (h : Nat → Nat) (N : Nat) : ∀ m, sumF (fun n => ((sonsF ns n m).map fun u => h u.toNat).sum) N ≤ sumF h m := by
  intro m
  induction m with
  | zero =>
    have : sumF (fun n => ((sonsF ns n 0).map fun u => h u.toNat).sum) N = 0 := by
      have := sumF_const 0 N
      simpa [sonsF] using this
    rw [this]; exact Nat.zero_le _
  | succ m ih =>
    have e : (fun n => ((sonsF ns n (m + 1)).map fun u => h u.toNat).sum) = fun n => ((sonsF ns n m).map fun u => h u.toNat).sum + (if n < m ∧ parB ns n m = true then h m else 0) := by
      funext n
      rw [sonsF, List.map_append, List.sum_append]
      split
      · simp
      · simp
    rw [e, sumF_add]
    simp only [sumF]
    have := one_parent ns m (h m) N
    omega

theorem cnt_each (f : Nat) (g : Int → Tr) (l : List Int) : cnt (f + 1) (l.map g) = (l.map fun k => cnt (f + 1) [g k]).sum := by
  induction l with
  | nil => rfl
  | cons x l ih => rw [List.map_cons, cnt_more, ih, List.map_cons, List.sum_cons]

theorem tree_sum (ns : List Nd) : ∀ f, sumF (fun n => cnt (f + 1) [treeF f ns n]) ns.length ≤ ns.length * (f + 1) := by
  intro f
  induction f with
  | zero =>
    have e : (fun n => cnt (0 + 1) [treeF 0 ns n]) = fun _ => 1 := by
      funext n
      simp [cnt]
    rw [e, sumF_const]
    omega
  | succ f ih =>
    have hle : ∀ n, cnt (f + 1 + 1) [treeF (f + 1) ns n] ≤ 1 + ((sonsF ns n ns.length).map fun u => cnt (f + 1) [treeF f ns u.toNat]).sum := by
      intro n
      rw [cnt_one, treeF]
      cases hx : ns[n]? with
      | none => simp [cnt_nil]
      | some x =>
        show 1 + cnt (f + 1) ((sonsF ns n ns.length).map fun k => treeF f ns k.toNat) ≤ _
        rw [cnt_each]
        exact Nat.le_refl _
    have h1 := sumF_le hle ns.length
    rw [sumF_add, sumF_const] at h1
    have h2 := sons_sum ns (fun k => cnt (f + 1) [treeF f ns k]) ns.length ns.length
    have e : ns.length * (f + 1 + 1) = ns.length * (f + 1) + ns.length := by rw [Nat.mul_add]; omega
    rw [e]
    omega

theorem tree_few {ns : List Nd} {f n : Nat} (hn : n < ns.length) (h80 : ns.length ≤ 80) (hf : f ≤ 80) : cnt (f + 1) [treeF f ns n] ≤ 1048576 := by
  have h1 := sumF_at (fun n => cnt (f + 1) [treeF f ns n]) ns.length n hn
  have h2 := tree_sum ns f
  have h3 : ns.length * (f + 1) ≤ 80 * 81 := Nat.mul_le_mul h80 (by omega)
  omega
end Go.Proofs.YtfghbfocjjmcmabGreatDoor

/- The document's own within, IsIn and EndOf, for every document and nodes, from what IsDoc answers. Condition: texts and attributes of a size that can be read. -/
namespace Go.Proofs.YtfghbfocjjmcmabGreatDoor
open Go.ChangeShapes Go.WideShapes Go.ChangeAt Go.RowKit
set_option maxRecDepth 100000

attribute [local go_sem] cell_set

/-- What IsDoc must answer. -/
def IsDocOk : Prop := ∀ (S : Nat → Prop) (v : Value) (ns : List Nd) (w : World), DocV S w v ns →
  Calls Tryz.prog 27 #[.agg #[v]] w fun e w' => e = .returned (.bool (goodD ns)) ∧ Below w.heap.size w w'

theorem withF_neg (f : Nat) (ns : List Nd) (m : Int) : withF f ns (-1) m = false := by
  cases f with
  | zero => rfl
  | succ f => rw [withF, if_pos (by omega)]

theorem endD_bad {ns : List Nd} {m : Int} (h : m < 0 ∨ (ns.length : Int) ≤ m) : endD ns m = 0 := by
  unfold endD amongB
  rcases h with h | h
  · simp [show ¬ 0 ≤ m by omega]
  · simp [show ¬ m < ns.length by omega]

theorem endD_le {ns : List Nd} (hg : goodD ns = true) (m : Int) : endD ns m ≤ ns.length := by
  by_cases h : m < 0 ∨ (ns.length : Int) ≤ m
  · rw [endD_bad h]; omega
  · obtain ⟨k, rfl⟩ : ∃ k : Nat, m = (k : Int) := ⟨m.toNat, by omega⟩
    have hk : k < ns.length := by omega
    exact (good_nest hg (j := k) (x := ns[k]) (by simp [hk])).le

/-- What IsIn answers is what doc.In answers. -/
theorem inD_cases {ns : List Nd} (n m : Int) : inD ns n m = (goodD ns && decide (0 ≤ n) && decide (n < ns.length) && decide (0 ≤ m) && withF (n.toNat + 1) ns n m) := by
  cases hg : goodD ns with
  | false =>
    have : endD ns m = 0 := by unfold endD; rw [hg]; rfl
    unfold inD
    rw [this]
    simp
  | true =>
    have hle := endD_le hg m
    by_cases hm : m < 0
    · have : endD ns m = 0 := endD_bad (Or.inl hm)
      unfold inD
      rw [this]
      simp [show ¬ 0 ≤ m by omega]
    · obtain ⟨M, rfl⟩ : ∃ M : Nat, m = (M : Int) := ⟨m.toNat, by omega⟩
      by_cases hn : 0 ≤ n ∧ n < ns.length
      · obtain ⟨N, rfl⟩ : ∃ N : Nat, n = (N : Int) := ⟨n.toNat, by omega⟩
        have hN : N < ns.length := by omega
        rw [Int.toNat_natCast, (with_in hg M (N + 1) N (by omega) hN).1]
        unfold inD
        by_cases h1 : (M : Int) ≤ (N : Int)
        · by_cases h2 : (N : Int) < endD ns (M : Int)
          · have h3 : 0 < endD ns (M : Int) := by omega
            simp [h1, h2, h3]
            omega
          · simp [h2]
        · simp [h1]
      · have e1 : (decide (0 ≤ n) && decide (n < (ns.length : Int))) = false := by
          rcases Classical.not_and_iff_not_or_not.1 hn with h | h
          · simp [h]
          · simp [h]
        have e2 : inD ns n (M : Int) = false := by
          unfold inD
          rcases Classical.not_and_iff_not_or_not.1 hn with h | h
          · simp [show ¬ (M : Int) ≤ n by omega]
          · simp [show ¬ n < endD ns (M : Int) by omega]
        rw [e2, Bool.true_and, e1]
        rfl

/-- The end so far. -/
def endU (ns : List Nd) (n : Int) : Nat → Int
  | 0 => 0
  | k + 1 => if inD ns (k : Int) n then (k : Int) + 1 else endU ns n k

theorem endU_bounds (ns : List Nd) (n : Int) : ∀ k, 0 ≤ endU ns n k ∧ endU ns n k ≤ k := by
  intro k
  induction k with
  | zero => exact ⟨Int.le_refl _, Int.le_refl _⟩
  | succ k ih =>
    rw [endU]
    split <;> omega

theorem endU_end {ns : List Nd} (n : Int) : endU ns n ns.length = endD ns n := by
  by_cases hz : endD ns n = 0
  · have : ∀ k, endU ns n k = 0 := by
      intro k
      induction k with
      | zero => rfl
      | succ k ih =>
        rw [endU, ih]
        have : inD ns (k : Int) n = false := by unfold inD; rw [hz]; simp
        rw [this]; rfl
    rw [this, hz]
  · have hg : goodD ns = true := by
      cases h : goodD ns with
      | true => rfl
      | false => exact absurd (by unfold endD; rw [h]; rfl) hz
    have hn : ¬ (n < 0 ∨ (ns.length : Int) ≤ n) := fun h => hz (endD_bad h)
    obtain ⟨N, rfl⟩ : ∃ N : Nat, n = (N : Int) := ⟨n.toNat, by omega⟩
    have hN : N < ns.length := by omega
    have hgt := (good_fam hg (j := N) (x := ns[N]) (by simp [hN])).gt
    have hle := endD_le hg (N : Int)
    have key : ∀ k : Nat, endU ns (N : Int) k = if (k : Int) ≤ N then 0 else min (k : Int) (endD ns (N : Int)) := by
      intro k
      induction k with
      | zero => simp [endU]
      | succ k ih =>
        rw [endU, ih]
        have hin : inD ns (k : Int) (N : Int) = (decide ((N : Int) ≤ k) && decide ((k : Int) < endD ns (N : Int))) := by
          unfold inD
          have : 0 < endD ns (N : Int) := by omega
          simp [this]
        rw [hin]
        by_cases h1 : (N : Int) ≤ k
        · by_cases h2 : (k : Int) < endD ns (N : Int)
          · simp only [h1, h2, decide_true, Bool.and_self, if_true]
            rw [if_neg (by omega)]
            push_cast
            omega
          · simp only [h1, h2, decide_true, decide_false, Bool.and_false]
            rw [if_neg (by simp), if_neg (by omega)]
            split
            · omega
            · push_cast; omega
        · simp only [h1, decide_false, Bool.false_and]
          rw [if_neg (by simp), if_pos (by omega)]
          split
          · rfl
          · push_cast at *; omega
    rw [key, if_neg (by omega)]
    omega

end Go.Proofs.YtfghbfocjjmcmabGreatDoor

/- path.meant: those of some nodes that a step means. Condition: the nodes are there; at most 2^20 of them are looked at. -/
namespace Go.Proofs.YtfghbfocjjmcmabGreatDoor
open Go.ChangeShapes Go.WideShapes Go.ChangeAt Go.RowKit
set_option maxRecDepth 100000

attribute [local go_sem] cell_set

theorem fitL_snoc {ns : List Nd} {l : List Int} {k m : Nat} {x : Nd} (hk : l[k]? = some (m : Int)) (hx : ns[m]? = some x) (name : ByteArray) :
    fitL ns (l.take (k + 1)) name = fitL ns (l.take k) name ++ (if fitsB x name then [(m : Int)] else []) := by
  have hl := lt_of_some hk
  have e : l[k] = (m : Int) := by simpa [hl] using hk
  unfold fitL
  rw [List.take_succ_eq_append_getElem hl, List.filter_append, e, List.filter_cons, fitAt_nat hx]
  rfl

theorem fitL_len (ns : List Nd) (l : List Int) (name : ByteArray) : (fitL ns l name).length ≤ l.length := List.length_filter_le _ _

set_option maxHeartbeats 1000000 in
theorem meantP_any (S : Nat → Prop) (vn vs : Value) (ns : List Nd) (l : List Int) (s : St) (w : World) (hN : Nodes S w vn ns) (hI : Ints S w vs l) (hin : ∀ u ∈ l, 0 ≤ u ∧ u < ns.length) (hs0 : 0 ≤ s.n) (hl : l.length ≤ 1048576) :
    Calls Tryz.prog 26 #[vn, vs, .agg #[.string s.name, .int .i64 s.n]] w fun e w' => ∃ v, e = .returned v ∧ Ints (fun b => w.heap.size ≤ b) w' v (meantF ns l s) ∧ Below w.heap.size w w' := by
  have hb1 := Below.alloc1 w (.cells #[.string s.name, .int .i64 s.n] 53)
  have hx1 := heap_alloc_new w (.cells #[.string s.name, .int .i64 s.n] 53)
  have hz1 : (w.alloc (.cells #[.string s.name, .int .i64 s.n] 53)).heap.size = w.heap.size + 1 := by simp
  obtain ⟨na, nc, rfl, hnl, hnm⟩ := hN.shape
  obtain ⟨sa, sc, rfl, hsl, hsm⟩ := hI.shape
  unfold maxLen at hnm hsm
  obtain ⟨i0, hi, hz0, hzz1, hz2⟩ := info_parts intInfoR
  have HN : Hid (Nodes S w (.slice na ns.length nc) ns) := hN
  have HI : Hid (Ints S w (.slice sa l.length sc) l) := hI
  have HIN : Hid (∀ u ∈ l, 0 ≤ u ∧ u < ns.length) := hin
  have HM : Hid (meantF ns l s = if s.n = 0 then fitL ns l s.name else ((fitL ns l s.name).drop (s.n.toNat - 1)).take 1) := rfl
  have HLN : Hid (ns.length = ns.length) := rfl
  clear hN hI hin
  go_enter Tryz.func26, Tryz.ntmps26
  go_wp2_with fail
  generalize w.alloc (.cells #[.string s.name, .int .i64 s.n] 53) = W1 at *
  have HZ1 : Hid (W1.heap.size = w.heap.size + 1) := hz1
  have hle1 : w.heap.size ≤ W1.heap.size := by omega
  clear hz1
  go_loopg [12, 7] l.length (fun g i o wr => ∃ (k : Nat), k + g = l.length ∧ i = .int .i64 (k : Int) ∧ IRow W1.heap.size wr o (fitL ns (l.take k) s.name) ∧ Below W1.heap.size W1 wr)
  case atStart => exact ⟨0, by omega, rfl, IRow.nil _ _, Below.refl _ _⟩
  case round =>
    obtain ⟨k, hk, rfl, hR, hB⟩ := hrel
    have hsz := hB.size
    have hBw : Below w.heap.size w wr := hb1.trans (hB.mono hle1)
    have hxr := (hB.block _ (blk_lt hx1)).trans hx1
    by_cases hil : k < l.length
    · obtain ⟨u, hu⟩ : ∃ u, l[k]? = some u := ⟨l[k], by simp [hil]⟩
      have hur := HIN.out u (List.mem_of_getElem? hu)
      obtain ⟨m, rfl⟩ : ∃ m : Nat, u = (m : Int) := ⟨u.toNat, by omega⟩
      obtain ⟨x, hx⟩ : ∃ x, ns[m]? = some x := ⟨ns[m]'(by omega), by simp⟩
      obtain ⟨ib, io, ic, hiv, _, hib, e1⟩ := (HI.out.later hBw).at hu
      injection hiv with hia _ hic
      subst hia hic
      obtain ⟨b, o, cap, va, vk, hv, _, _, hSb, hbw, c0, c1, c2, c3, c4, hAt, hKi⟩ := (HN.out.later hBw).at hx
      injection hv with hv1 _ hv2
      subst hv1 hv2
      obtain ⟨aa, ac, rfl⟩ := hAt.shape
      obtain ⟨ka, kc, rfl, _, _⟩ := hKi.shape
      have HSN : Hid _ := fitL_snoc hu hx s.name
      have HF : Hid (∀ W, Calls Tryz.prog 53 #[.agg #[.bool x.text, .string x.s, .slice aa x.attrs.length ac, .int .i64 x.parent, .slice ka x.kids.length kc], .string s.name] W fun e w' => e = .returned (.bool (fitsB x s.name)) ∧ Below W.heap.size W w') := fun W => fits_any x _ _ _ _ _ _ s.name W
      have hili : (k : Int) < (l.length : Int) := by omega
      have hmi : (m : Int) < (ns.length : Int) := by omega
      have d0 : wr.cell? ⟨w.heap.size, 0, none⟩ = some (.string s.name) := by rw [Lib.cell_of_heap hxr]; rfl
      have hlen := fitL_len ns (l.take k) s.name
      rw [List.length_take] at hlen
      have hlen2 : (fitL ns (l.take k) s.name).length ≤ 1048576 := by omega
      obtain ⟨us, hus⟩ : ∃ us, fitL ns (l.take k) s.name = us := ⟨_, rfl⟩
      rw [hus] at hR HSN hlen2
      obtain ⟨ra, rc, rfl, _, _⟩ := hR.shape
      have HR : Hid (IRow W1.heap.size wr (.slice ra us.length rc) us) := hR
      have HC : Hid (∀ W, Below wr.heap.size wr W → Below wr.heap.size wr W ∧ W.cell? ⟨b, o + m * 5, none⟩ = some (.bool x.text) ∧ W.cell? ⟨b, o + m * 5 + 1, none⟩ = some (.string x.s) ∧ W.cell? ⟨b, o + m * 5 + 2, none⟩ = some (.slice aa x.attrs.length ac) ∧ W.cell? ⟨b, o + m * 5 + 3, none⟩ = some (.int .i64 x.parent) ∧ W.cell? ⟨b, o + m * 5 + 4, none⟩ = some (.slice ka x.kids.length kc) ∧ W.cell? ⟨w.heap.size, 0, none⟩ = some (.string s.name)) := by
        intro W h
        refine ⟨h, ?_, ?_, ?_, ?_, ?_, ?_⟩
        · rw [h.cell (p := ⟨b, o + m * 5, none⟩) hbw]; exact c0
        · rw [h.cell (p := ⟨b, o + m * 5 + 1, none⟩) hbw]; exact c1
        · rw [h.cell (p := ⟨b, o + m * 5 + 2, none⟩) hbw]; exact c2
        · rw [h.cell (p := ⟨b, o + m * 5 + 3, none⟩) hbw]; exact c3
        · rw [h.cell (p := ⟨b, o + m * 5 + 4, none⟩) hbw]; exact c4
        · rw [h.cell (p := ⟨w.heap.size, 0, none⟩) (blk_lt hxr)]; exact d0
      have hbn : Below wr.heap.size wr wr.drew := (Below.refl _ _).drew
      clear hu hx hAt hKi hus hR hlen hxr hur
      cases hq : fitsB x s.name with
      | true =>
        rw [hq] at HF HSN
        clear hq
        go_wp2_with fail
        go_region_held3 (fun W : World => Below wr.heap.size wr W ∧ W.cell? ⟨b, o + m * 5, none⟩ = some (.bool x.text) ∧ W.cell? ⟨b, o + m * 5 + 1, none⟩ = some (.string x.s) ∧ W.cell? ⟨b, o + m * 5 + 2, none⟩ = some (.slice aa x.attrs.length ac) ∧ W.cell? ⟨b, o + m * 5 + 3, none⟩ = some (.int .i64 x.parent) ∧ W.cell? ⟨b, o + m * 5 + 4, none⟩ = some (.slice ka x.kids.length kc) ∧ W.cell? ⟨w.heap.size, 0, none⟩ = some (.string s.name))
          (with_reducible exact HC.out _ hbn)
          (first | (go_at_call 53; refine (Calls.mono (HF.out _) ?_); rintro e w3 ⟨rfl, hb3⟩; have hbn := hbn.trans (hb3.mono hbn.size)))
        have hR3 : IRow W1.heap.size w3 (.slice ra us.length rc) us := HR.out.later hbn
        have hs3 := hbn.size
        have hB3 : Below W1.heap.size W1 w3 := hB.trans (hbn.mono hsz)
        have hown3 : w3.ownsRow W1.heap.size 3 1 (.slice ra us.length rc) us.length (intCells us) := hR3
        clear c0 c1 c2 c3 c4
        go_wp2_with (at_builtin; refine wpList_append_own_at _ rfl _ _ 27 rfl W1.heap.size 3 i0 _ 1 8 Tryz.underlying27 hi hz0 hzz1 hz2 rfl (by decide) _ _ _ rfl (hown3.alloc _) ⟨w3.heap.size, 0, none⟩ 1 1 [.int .i64 (m : Int)] rfl ?qc1 ?qc2 ?qc3 ?qc4 ?qc5 ?qc6 ?_)
        case qc1 => rfl
        case qc2 => exact new_int _ _ _
        case qc3 => intro z hz; simp at hz; subst hz; rfl
        case qc4 => unfold maxLen; omega
        case qc5 => omega
        case qc6 => simp; omega
        intro v' w4 hown4 hgr4 _ _
        obtain ⟨ja, jl, jc, rfl⟩ := row_slice6 hown4
        have hR4 : IRow W1.heap.size w4 (.slice ja jl jc) (us ++ [(m : Int)]) := by
          unfold IRow
          rw [intCells_append, List.length_append]
          exact hown4
        have hB4 : Below W1.heap.size W1 w4 := (hB3.alloc (by omega) _).grown hgr4 (by simp; omega) (fun z hz => (hR3.lt z hz).1)
        clear hown4 hown3 hR3
        go_wp2_with fail
        go_roundg (l.length - (k + 1))
        case measure => omega
        case rel => exact ⟨k + 1, by omega, by go_num, by rw [HSN.out]; exact hR4, hB4⟩
      | false =>
        rw [hq] at HF HSN
        clear hq
        go_wp2_with fail
        go_region_held3 (fun W : World => Below wr.heap.size wr W ∧ W.cell? ⟨b, o + m * 5, none⟩ = some (.bool x.text) ∧ W.cell? ⟨b, o + m * 5 + 1, none⟩ = some (.string x.s) ∧ W.cell? ⟨b, o + m * 5 + 2, none⟩ = some (.slice aa x.attrs.length ac) ∧ W.cell? ⟨b, o + m * 5 + 3, none⟩ = some (.int .i64 x.parent) ∧ W.cell? ⟨b, o + m * 5 + 4, none⟩ = some (.slice ka x.kids.length kc) ∧ W.cell? ⟨w.heap.size, 0, none⟩ = some (.string s.name))
          (with_reducible exact HC.out _ hbn)
          (first | (go_at_call 53; refine (Calls.mono (HF.out _) ?_); rintro e w3 ⟨rfl, hb3⟩; have hbn := hbn.trans (hb3.mono hbn.size)))
        have hR3 : IRow W1.heap.size w3 (.slice ra us.length rc) us := HR.out.later hbn
        have hB3 : Below W1.heap.size W1 w3 := hB.trans (hbn.mono hsz)
        clear c0 c1 c2 c3 c4
        go_wp2_with fail
        go_roundg (l.length - (k + 1))
        case measure => omega
        case rel => exact ⟨k + 1, by omega, by go_num, by rw [HSN.out]; simpa using hR3, hB3⟩
    · have hkk : k = l.length := by omega
      subst hkk
      rw [List.take_length] at hR
      have hili : ¬ ((l.length : Int) < (l.length : Int)) := by omega
      have d1 : wr.cell? ⟨w.heap.size, 1, none⟩ = some (.int .i64 s.n) := by rw [Lib.cell_of_heap hxr]; rfl
      have hlen := fitL_len ns l s.name
      obtain ⟨us, hus⟩ : ∃ us, fitL ns l s.name = us := ⟨_, rfl⟩
      rw [hus] at hR HM hlen
      obtain ⟨ra, rc, rfl, hrc, hrm⟩ := hR.shape
      have HRI : Hid (Ints (fun b => W1.heap.size ≤ b) wr (.slice ra us.length rc) us) := hR.ints
      clear hus hR
      by_cases hn0 : s.n = 0
      · have HE : Hid (meantF ns l s = us) := by show _ = _; rw [HM.out, if_pos hn0]
        have hne : (s.n == 0) = true := by simp [hn0]
        clear HM hn0
        go_wp2_with fail
        go_ret
        exact ⟨_, rfl, by rw [HE.out]; exact HRI.out.carry fun b hb => ⟨by omega, rfl⟩, hBw⟩
      · have hne : (s.n == 0) = false := by simp [hn0]
        obtain ⟨m, hm⟩ : ∃ m : Nat, s.n = ((m + 1 : Nat) : Int) := ⟨s.n.toNat - 1, by omega⟩
        have HE : Hid (meantF ns l s = (us.drop m).take 1) := by show _ = _; rw [HM.out, if_neg hn0, hm]; simp
        rw [hm] at d1 hne
        clear HM hn0 hm
        by_cases hgt : us.length < m + 1
        · have hgi : (us.length : Int) < ((m + 1 : Nat) : Int) := by omega
          have HE2 : Hid (meantF ns l s = []) := by show _ = _; rw [HE.out, List.drop_of_length_le (by omega)]; rfl
          clear HE
          go_wp2_with fail
          go_ret
          exact ⟨_, rfl, by rw [HE2.out]; exact Ints.nil, hBw⟩
        · have hgi : ¬ (us.length : Int) < ((m + 1 : Nat) : Int) := by omega
          obtain ⟨y, hy⟩ : ∃ y, us[m]? = some y := ⟨us[m]'(by omega), by simp⟩
          have HE2 : Hid (meantF ns l s = [y]) := by
            show _ = _
            rw [HE.out, List.drop_eq_getElem_cons (by omega)]
            have : us[m]'(by omega) = y := by
              have := hy
              rw [List.getElem?_eq_getElem (by omega)] at this
              exact Option.some.inj this
            rw [this]; rfl
          obtain ⟨rb, ro, rc2, hrv, hrS, hrb, e1⟩ := HRI.out.at hy
          injection hrv with hra _ hrc2
          subst hra hrc2
          have HY : Hid (wr.cell? ⟨rb, ro + m, none⟩ = some (.int .i64 y)) := e1
          clear HE hy e1
          unfold maxLen at hrm
          have hmc : m + 1 ≤ rc := by omega
          go_wp2_with fail
          go_ret
          refine ⟨_, rfl, ?_, hBw⟩
          rw [HE2.out]
          refine ⟨some ⟨rb, ro + m, none⟩, rc - m, rfl, by simp; omega, by unfold maxLen; omega, fun _ => ⟨rb, ro + m, rfl, by omega, fun i x hx => ?_⟩⟩
          match i, hx with
          | 0, hx => simp at hx; subst hx; exact HY.out
end Go.Proofs.YtfghbfocjjmcmabGreatDoor

