/- Bundled: DocMk DocB DocsK DocN DocNe. What each says stands ahead of it. -/
import Derived.Test.YtmbmfomeiioijabBundle11
import Derived.Test.YtmbmfomeiioijabBundle12
import Derived.Test.YtmbmfomeiioijabBundle04
import Derived.Deep.RegionHeld3
/- doc.Make, for every tree. Condition: texts of at most 2^63 letters. -/
namespace Go.Proofs.Ytmbmfomeiioijab
open Go.ChangeShapes Go.WideShapes Go.ChangeAt Go.RowKit
set_option maxRecDepth 100000

attribute [local go_sem] cell_set

theorem nodes_of_row {S : Nat → Prop} {nb : Nat} {ms : List Rw} {w : World} {L : List Nd} (hR : Row nb ms w) (hl : L.length = ms.length) (hL : Laid S w ms 0 L) (hS : S nb) (h80 : ms.length ≤ 80) : Nodes S w (.slice (some ⟨nb, 0, none⟩) ms.length ms.length) L := by
  refine ⟨_, ms.length, by rw [hl], by omega, by unfold maxLen; omega, fun _ => ⟨nb, 0, rfl, hS, fun i x hx => ?_⟩⟩
  obtain ⟨r, hr, h1, h2, h3, h4, h5⟩ := hL i x hx
  rw [Nat.zero_add] at hr
  obtain ⟨g0, g1, g2, g3, g4⟩ := hR.cells hr
  rw [Nat.zero_add]
  exact ⟨r.va, r.vk, by rw [g0, h1], by rw [g1, h2], g2, by rw [g3, h3], g4, h4, h5⟩

theorem rgL_few {n : Nat} (hf : ∀ k, rgt n k = true → FewN n k) : ∀ (ts : List Tr) (p : Bool), rgL (rgt n) p ts = true → FewN (n + 1) ts := by
  intro ts
  induction ts with
  | nil => intro p _ t ht; simp at ht
  | cons x r ih =>
    intro p h t ht
    unfold rgL at h
    simp only [Bool.and_eq_true] at h
    rw [List.mem_cons] at ht
    rcases ht with rfl | ht
    · have h1 := h.1.1.1
      unfold rightB at h1
      cases htx : t.text with
      | true =>
        simp only [htx, if_true, Bool.and_eq_true, decide_eq_true_eq] at h1
        have hk : t.kids = [] := List.eq_nil_of_length_eq_zero h1.2
        refine ⟨by omega, ?_⟩
        rw [hk]
        cases n with
        | zero => trivial
        | succ n => intro u hu; simp at hu
      | false =>
        simp only [htx, Bool.false_eq_true, if_false, Bool.and_eq_true] at h1
        have h2 := h1.2
        simp only [attrsB, Bool.and_eq_true, decide_eq_true_eq] at h2
        refine ⟨by omega, hf _ ?_⟩
        have := h.1.2
        simpa [htx] using this
    · exact ih x.text h.2 t ht

theorem rgt_few : ∀ (n : Nat) (ts : List Tr), rgt n ts = true → FewN n ts := by
  intro n
  induction n with
  | zero => intro ts _; trivial
  | succ n ih => intro ts h; exact rgL_few ih ts false h

theorem nodeInfo : (Try.prog.info? 40).map (fun i => (i.zero, i.size, i.bytes)) = some (some (.agg #[.bool false, .string ⟨#[]⟩, .slice none 0 0, .int .i64 0, .slice none 0 0]), 5, 80) := by kernel_rfl

def zeroRw : Rw := ⟨false, ⟨#[]⟩, .slice none 0 0, 0, .slice none 0 0⟩

theorem madeRaw (N : Nat) : madeCells (Value.agg #[.bool false, .string ⟨#[]⟩, .slice none 0 0, .int .i64 0, .slice none 0 0]).cells (N * 5) = (rawCells (List.replicate N zeroRw)).toArray := by
  apply Array.ext
  · simp [madeCells, rawCells_length]
  · intro k h1 h2
    have hk : k < N * 5 := by simpa [madeCells] using h1
    have hr : (List.replicate N zeroRw)[k / 5]? = some zeroRw := by rw [List.getElem?_replicate]; simp; omega
    obtain ⟨g0, g1, g2, g3, g4⟩ := rawCells_get _ _ _ hr
    have key : (rawCells (List.replicate N zeroRw))[k]? = some ((#[Value.bool false, .string ⟨#[]⟩, .slice none 0 0, .int .i64 0, .slice none 0 0] : Array Value)[k % 5]!) := by
      rcases (by omega : k % 5 = 0 ∨ k % 5 = 1 ∨ k % 5 = 2 ∨ k % 5 = 3 ∨ k % 5 = 4) with h | h | h | h | h
      · rw [show k = k / 5 * 5 by omega, g0, show k / 5 * 5 % 5 = 0 by omega]; rfl
      · rw [show k = k / 5 * 5 + 1 by omega, g1, show (k / 5 * 5 + 1) % 5 = 1 by omega]; rfl
      · rw [show k = k / 5 * 5 + 2 by omega, g2, show (k / 5 * 5 + 2) % 5 = 2 by omega]; rfl
      · rw [show k = k / 5 * 5 + 3 by omega, g3, show (k / 5 * 5 + 3) % 5 = 3 by omega]; rfl
      · rw [show k = k / 5 * 5 + 4 by omega, g4, show (k / 5 * 5 + 4) % 5 = 4 by omega]; rfl
    have h3 : (rawCells (List.replicate N zeroRw)).toArray[k]? = some ((#[Value.bool false, .string ⟨#[]⟩, .slice none 0 0, .int .i64 0, .slice none 0 0] : Array Value)[k % 5]!) := by simpa using key
    rw [Array.getElem?_eq_getElem h2] at h3
    rw [Option.some.inj h3]
    simp [madeCells, Value.cells]

/-- What doc.Make makes. -/
def makeD (n : Nat) (t : Tr) : List Nd := if goodB t then layF n t (-1) 0 else []
def makeE (t : Tr) : Int := if goodB t then 0 else 1

set_option maxHeartbeats 2000000 in
theorem make_any (S : Nat → Prop) (n : Nat) (va vk : Value) (t : Tr) (w : World) (hA : Attrs S w va t.attrs) (hK : Trees S w n vk t.kids) (hx : TextsN (n + 1) [t]) (hS : ∀ b, S b → b < w.heap.size) :
    Calls Try.prog 13 #[.agg #[.bool t.text, .string t.s, va, vk]] w fun e w' => ∃ v, e = .returned (.tuple #[.agg #[v], .int .i64 (makeE t)]) ∧ Nodes (fun b => w.heap.size ≤ b) w' v (makeD n t) ∧ Below w.heap.size w w' := by
  obtain ⟨aa, ac, rfl⟩ := hA.shape
  obtain ⟨ka, kc, rfl, _, _⟩ := Trees.shape n hK
  have hb1 : Below w.heap.size w ((w.alloc (.cells #[.bool t.text, .string t.s, .slice aa t.attrs.length ac, .slice ka t.kids.length kc] 32)).alloc (.cells #[.slice none 0 0] 24)) := (Below.alloc1 w _).alloc (by simp) _
  have hx1 : ((w.alloc (.cells #[.bool t.text, .string t.s, .slice aa t.attrs.length ac, .slice ka t.kids.length kc] 32)).alloc (.cells #[.slice none 0 0] 24)).heap[w.heap.size]? = some (.cells #[.bool t.text, .string t.s, .slice aa t.attrs.length ac, .slice ka t.kids.length kc] 32 (0, 0)) := by
    rw [Lib.alloc_old _ _ _ (by simp)]; exact heap_alloc_new _ _
  have hy1 : ((w.alloc (.cells #[.bool t.text, .string t.s, .slice aa t.attrs.length ac, .slice ka t.kids.length kc] 32)).alloc (.cells #[.slice none 0 0] 24)).heap[w.heap.size + 1]? = some (.cells #[.slice none 0 0] 24 (0, 0)) := by
    have e := heap_alloc_new (w.alloc (.cells #[.bool t.text, .string t.s, .slice aa t.attrs.length ac, .slice ka t.kids.length kc] 32)) (.cells #[.slice none 0 0] 24)
    rw [World.size_alloc] at e
    exact e
  have HG : Hid _ := good_any S n _ _ t _ (hA.later hb1) (Trees.later hb1 n hK) hx
  have HA : Hid (Attrs S w (.slice aa t.attrs.length ac) t.attrs) := hA
  have HK : Hid (Trees S w n (.slice ka t.kids.length kc) t.kids) := hK
  have HS : Hid (∀ b, S b → b < w.heap.size) := hS
  have HD : Hid (makeD n t = if goodB t then layF n t (-1) 0 else []) := rfl
  have HE : Hid (makeE t = if goodB t then 0 else 1) := rfl
  clear hA hK hx hS
  go_enter Try.func13, Try.ntmps13
  go_wp2_with fail
  refine (Calls.mono HG.out ?_)
  rintro e w2 ⟨rfl, hb2⟩
  have hx2 := (hb2.block _ (blk_lt hx1)).trans hx1
  have hy2 := (hb2.block _ (blk_lt hy1)).trans hy1
  have hB2 : Below w.heap.size w w2 := hb1.trans (hb2.mono hb1.size)
  have d0 : w2.cell? ⟨w.heap.size, 0, none⟩ = some (.bool t.text) := by rw [Lib.cell_of_heap hx2]; rfl
  have d1 : w2.cell? ⟨w.heap.size, 1, none⟩ = some (.string t.s) := by rw [Lib.cell_of_heap hx2]; rfl
  have d2 : w2.cell? ⟨w.heap.size, 2, none⟩ = some (.slice aa t.attrs.length ac) := by rw [Lib.cell_of_heap hx2]; rfl
  have d3 : w2.cell? ⟨w.heap.size, 3, none⟩ = some (.slice ka t.kids.length kc) := by rw [Lib.cell_of_heap hx2]; rfl
  have p0 : w2.cell? ⟨w.heap.size + 1, 0, none⟩ = some (.slice none 0 0) := by rw [Lib.cell_of_heap hy2]; rfl
  have f0 : w2.frozen? ⟨w.heap.size + 1, 0, none⟩ = false := Lib.frozen_of_heap hy2 0
  clear HG hb1 hx1 hb2 hy1
  obtain ⟨q, hq⟩ : ∃ q, goodB t = q := ⟨_, rfl⟩
  rw [hq]
  cases q with
  | false =>
    have HD2 : Hid (makeD n t = []) := by show _ = _; rw [HD.out, hq]; rfl
    have HE2 : Hid (makeE t = 1) := by show _ = _; rw [HE.out, hq]; rfl
    clear HD HE hq
    go_wp2_with fail
    refine bodyPost_ret (v := .tuple #[.agg #[.slice none 0 0], .int .i64 1]) (by simp [results, Try.results13, go_sem, cell_set, p0]) rfl ⟨.slice none 0 0, by rw [HE2.out], by rw [HD2.out]; exact Nodes.nil, ?_⟩
    exact hB2.setCell (p := ⟨w.heap.size + 1, 0, none⟩) (Nat.le_succ _) _
  | true =>
    have HD2 : Hid (makeD n t = layF n t (-1) 0) := by show _ = _; rw [HD.out, hq]; rfl
    have HE2 : Hid (makeE t = 0) := by show _ = _; rw [HE.out, hq]; rfl
    have hdeep := Trees.deep n HK.out
    have hg := hq
    rw [goodB_eq hdeep] at hg
    simp only [Bool.and_eq_true, Bool.not_eq_true', decide_eq_true_eq] at hg
    obtain ⟨⟨⟨hg1, hg2⟩, hc81⟩, hrg⟩ := hg
    clear hg1 hg2
    have HFW : Hid (FewN (n + 1) [t]) := rgt_few (n + 1) [t] hrg
    have HSZ : Hid _ := size_any S n _ _ t w2 (HA.out.later hB2) (Trees.later hB2 n HK.out) (by omega)
    have hpos : 0 < cnt (n + 1) [t] := by rw [cnt_one]; omega
    have HLN : Hid ((layF n t (-1) 0).length = cnt (n + 1) [t]) := layF_length n t (-1) 0 hdeep
    obtain ⟨N, hN⟩ : ∃ N, cnt (n + 1) [t] = N := ⟨_, rfl⟩
    rw [hN] at hc81 HSZ hpos HLN
    have HN : Hid (cnt (n + 1) [t] = N) := hN
    clear HD HE hq hrg hN hdeep
    go_wp2_with fail
    refine (Calls.mono HSZ.out ?_)
    rintro e w3 ⟨rfl, hb3⟩
    have hx3 := (hb3.block _ (blk_lt hx2)).trans hx2
    have hy3 := (hb3.block _ (blk_lt hy2)).trans hy2
    have hB3 : Below w.heap.size w w3 := hB2.trans (hb3.mono hB2.size)
    have e0 : w3.cell? ⟨w.heap.size, 0, none⟩ = some (.bool t.text) := by rw [Lib.cell_of_heap hx3]; rfl
    have e1 : w3.cell? ⟨w.heap.size, 1, none⟩ = some (.string t.s) := by rw [Lib.cell_of_heap hx3]; rfl
    have e2 : w3.cell? ⟨w.heap.size, 2, none⟩ = some (.slice aa t.attrs.length ac) := by rw [Lib.cell_of_heap hx3]; rfl
    have e3 : w3.cell? ⟨w.heap.size, 3, none⟩ = some (.slice ka t.kids.length kc) := by rw [Lib.cell_of_heap hx3]; rfl
    clear HSZ hb3 d0 d1 d2 d3 p0 f0 hx2 hy2
    have hmk : (Instr.makeSlice 22 (.int .i64 (N : Int)) (.int .i64 (N : Int))).run Try.prog w3 = .ok (.slice (some ⟨w3.heap.size, 0, none⟩) N N) (w3.alloc (.cells (rawCells (List.replicate N zeroRw)).toArray 40)) := by
      obtain ⟨i0, hi, hz0, hz1, hz2⟩ := info_parts nodeInfo
      have := run_makeSlice (P := Try.prog) w3 22 40 i0 _ Try.underlying22 hi hz0 .i64 .i64 (N : Int) (N : Int) (by omega) (Int.le_refl _) (by rw [hz1]; simp; omega) (by rw [hz2]; omega) (by omega)
      rw [this, hz1, Int.toNat_natCast, madeRaw]
    have hb5 : Below w3.heap.size w3 ((w3.alloc (.cells (rawCells (List.replicate N zeroRw)).toArray 40)).alloc (.cells #[.int .i64 0] 3)) := (Below.alloc1 w3 _).alloc (by simp) _
    have hR5 : Row w3.heap.size (List.replicate N zeroRw) ((w3.alloc (.cells (rawCells (List.replicate N zeroRw)).toArray 40)).alloc (.cells #[.int .i64 0] 3)) := by
      unfold Row
      rw [Lib.alloc_old _ _ _ (by simp)]
      exact heap_alloc_new _ _
    have hC5 : Cnt (w3.heap.size + 1) 0 ((w3.alloc (.cells (rawCells (List.replicate N zeroRw)).toArray 40)).alloc (.cells #[.int .i64 0] 3)) := by
      have e := heap_alloc_new (w3.alloc (.cells (rawCells (List.replicate N zeroRw)).toArray 40)) (.cells #[.int .i64 0] 3)
      rw [World.size_alloc] at e
      exact e
    have hz5 : ((w3.alloc (.cells (rawCells (List.replicate N zeroRw)).toArray 40)).alloc (.cells #[.int .i64 0] 3)).heap.size = w3.heap.size + 2 := by simp
    have HMK : Hid _ := hmk
    have HRP : Hid ((List.replicate N zeroRw).length = N) := by show _ = _; simp
    obtain ⟨ms0, hms0⟩ : ∃ ms0, List.replicate N zeroRw = ms0 := ⟨_, rfl⟩
    rw [hms0] at hmk hb5 hR5 hC5 hz5 HRP
    clear hms0 HMK
    have e0a : (w3.alloc (.cells (rawCells ms0).toArray 40)).cell? ⟨w.heap.size, 0, none⟩ = some (.bool t.text) := Lib.cell?_alloc_some _ e0
    have e1a : (w3.alloc (.cells (rawCells ms0).toArray 40)).cell? ⟨w.heap.size, 1, none⟩ = some (.string t.s) := Lib.cell?_alloc_some _ e1
    have e2a : (w3.alloc (.cells (rawCells ms0).toArray 40)).cell? ⟨w.heap.size, 2, none⟩ = some (.slice aa t.attrs.length ac) := Lib.cell?_alloc_some _ e2
    have e3a : (w3.alloc (.cells (rawCells ms0).toArray 40)).cell? ⟨w.heap.size, 3, none⟩ = some (.slice ka t.kids.length kc) := Lib.cell?_alloc_some _ e3
    have e0b : ((w3.alloc (.cells (rawCells ms0).toArray 40)).alloc (.cells #[.int .i64 0] 3)).cell? ⟨w.heap.size, 0, none⟩ = some (.bool t.text) := Lib.cell?_alloc_some _ e0a
    have e1b : ((w3.alloc (.cells (rawCells ms0).toArray 40)).alloc (.cells #[.int .i64 0] 3)).cell? ⟨w.heap.size, 1, none⟩ = some (.string t.s) := Lib.cell?_alloc_some _ e1a
    have e2b : ((w3.alloc (.cells (rawCells ms0).toArray 40)).alloc (.cells #[.int .i64 0] 3)).cell? ⟨w.heap.size, 2, none⟩ = some (.slice aa t.attrs.length ac) := Lib.cell?_alloc_some _ e2a
    have e3b : ((w3.alloc (.cells (rawCells ms0).toArray 40)).alloc (.cells #[.int .i64 0] 3)).cell? ⟨w.heap.size, 3, none⟩ = some (.slice ka t.kids.length kc) := Lib.cell?_alloc_some _ e3a
    have hs3 := hB3.size
    have hB5 : Below w.heap.size w _ := hB3.trans (hb5.mono hs3)
    have hcall := lay_any n S _ _ t (-1) w3.heap.size (w3.heap.size + 1) 0 ms0 _ (HA.out.later hB5) (Trees.later hB5 n HK.out) (fun b hb => ⟨by have := HS.out b hb; rw [hz5]; omega, by have := HS.out b hb; omega, by have := HS.out b hb; omega⟩) (by omega) hR5 hC5 (by rw [HN.out, HRP.out]; omega) (by rw [HRP.out]; omega) HFW.out
    rw [HRP.out] at hcall
    have HCALL : Hid _ := hcall
    have HZ5 : Hid _ := hz5
    clear hcall hR5 hC5 hz5 e0 e1 e2 e3
    go_wp2_with fail
    refine (Calls.mono HCALL.out ?_)
    rintro e w6 ⟨rfl, ms', hR6, hl6, hC6, _, hL6, hF6⟩
    have hz := HZ5.out
    have hy5 : w6.heap[w.heap.size + 1]? = some (.cells #[.slice none 0 0] 24 (0, 0)) := by
      have h1 := blk_lt hy3
      rw [hF6.frame (w.heap.size + 1) (by rw [hz]; omega) (by omega) (by omega), hb5.block _ h1]
      exact hy3
    have p0 : w6.cell? ⟨w.heap.size + 1, 0, none⟩ = some (.slice none 0 0) := by rw [Lib.cell_of_heap hy5]; rfl
    have f0 : w6.frozen? ⟨w.heap.size + 1, 0, none⟩ = false := Lib.frozen_of_heap hy5 0
    have hB6 : Below w.heap.size w w6 := ⟨hF6.below.os.trans hB5.os, hF6.below.tape.trans hB5.tape, hF6.below.output.trans hB5.output, Nat.le_trans hB5.size hF6.below.size, fun k hk => by rw [hF6.frame k (by rw [hz]; omega) (by omega) (by omega)]; exact hB5.block k hk⟩
    have hnb := blk_lt hR6
    have hlen6 : ms'.length = N := hl6
    have hND : Nodes (fun b => w.heap.size + 2 ≤ b) w6 (.slice (some ⟨w3.heap.size, 0, none⟩) N N) (layF n t (-1) 0) := by
      have h1 := blk_lt hy3
      have := nodes_of_row (S := fun b => w.heap.size + 2 ≤ b) hR6 (by rw [HLN.out, hlen6]) (hL6.carry (fun b hb _ => ⟨by have h2 : ((w3.alloc (.cells (rawCells ms0).toArray 40)).alloc (.cells #[.int .i64 0] 3)).heap.size ≤ b := hb; rw [hz] at h2; omega, rfl⟩) (fun _ _ _ => rfl)) (by show w.heap.size + 2 ≤ w3.heap.size; omega) (by omega)
      rw [hlen6] at this
      exact this
    clear HCALL hR6 hL6 hC6 hF6 hb5 e0a e1a e2a e3a e0b e1b e2b e3b hmk hB5
    go_wp2_with fail
    refine bodyPost_ret (v := .tuple #[.agg #[.slice (some ⟨w3.heap.size, 0, none⟩) N N], .int .i64 0]) (by simp [results, Try.results13, go_sem, cell_set, p0]) rfl ⟨.slice (some ⟨w3.heap.size, 0, none⟩) N N, by rw [HE2.out], ?_, ?_⟩
    · rw [HD2.out]
      exact hND.carry fun b hb => ⟨by omega, blk_set_ne (by omega)⟩
    · exact hB6.setCell (p := ⟨w.heap.size + 1, 0, none⟩) (Nat.le_succ _) _
end Go.Proofs.Ytmbmfomeiioijab

/- What doc answers of a document that is made of a good tree: on plain data. No condition. -/
namespace Go.Proofs.Ytmbmfomeiioijab
open Go.RowKit
set_option maxRecDepth 100000

theorem flat_lay : ∀ (d : Nat) (t : Tr) (par : Int) (at' : Nat), Deep d t.kids → (layF d t par at').flatMap txt = (if t.text then t.s.data.toList else []) ++ tell d t.kids := by
  intro d
  induction d with
  | zero => intro t par at' _; simp [layF, txt, tell]
  | succ d ih =>
    intro t par at' hd
    rw [layF, List.flatMap_cons]
    have key : ∀ (ks : List Tr) (a : Nat), Deep (d + 1) ks → (laysOf d (layF d) at' a ks).flatMap txt = tell (d + 1) ks := by
      intro ks
      induction ks with
      | nil => intro a _; rfl
      | cons k ks ihk =>
        intro a hdk
        rw [laysOf, List.flatMap_append, ih k _ _ (hdk k List.mem_cons_self), ihk _ (fun u hu => hdk u (List.mem_cons_of_mem _ hu))]
        simp [tell]
    rw [key t.kids (at' + 1) hd]
    rfl

theorem made_good {n : Nat} {t : Tr} (hd : Deep n t.kids) (hg : goodB t = true) : goodD (layF n t (-1) 0) = true ∧ growF (layF n t (-1) 0).length (layF n t (-1) 0) 0 = t ∧ endD (layF n t (-1) 0) 0 = ((cnt (n + 1) [t] : Nat) : Int) ∧ (layF n t (-1) 0).length = cnt (n + 1) [t] := by
  have hlen := layF_length n t (-1) 0 hd
  have hseg := seg_self (layF n t (-1) 0)
  have hg2 := hg
  rw [goodB_eq hd] at hg2
  simp only [Bool.and_eq_true, Bool.not_eq_true', decide_eq_true_eq] at hg2
  obtain ⟨⟨_, hc⟩, _⟩ := hg2
  have hgr := grow_lay n t (layF n t (-1) 0).length (layF n t (-1) 0) (-1) 0 hd hseg (by omega)
  have hor := ord_lay n t ((layF n t (-1) 0).length + 1) (layF n t (-1) 0) (-1) 0 hd hseg (by omega)
  have hla := last_lay n t (layF n t (-1) 0).length (layF n t (-1) 0) (-1) 0 hd hseg (by omega)
  have hgd : goodD (layF n t (-1) 0) = true := by
    unfold goodD orderly
    rw [hor, hgr, hg, hlen]
    simp
    omega
  refine ⟨hgd, hgr, ?_, hlen⟩
  unfold endD
  have hpos : 0 < cnt (n + 1) [t] := by rw [cnt_one]; omega
  have ham : amongB (layF n t (-1) 0) 0 = true := by unfold amongB; rw [hlen]; simp; omega
  rw [hgd, ham]
  simp only [Bool.and_self, if_true, Int.toNat_zero]
  omega

theorem made_str {n : Nat} {t : Tr} (hd : Deep n t.kids) (hg : goodB t = true) : strD (layF n t (-1) 0) 0 = tell (n + 1) [t] := by
  obtain ⟨_, _, he, hl⟩ := made_good hd hg
  unfold strD
  rw [he]
  have hpos : 0 < cnt (n + 1) [t] := by rw [cnt_one]; omega
  rw [if_neg (by omega), Int.toNat_natCast, ← hl, List.take_length]
  simp only [Int.toNat_zero, List.drop_zero]
  rw [flat_lay n t _ _ hd]
  simp [tell]

/-- What holds of each tree, however deep. -/
def AllN (Q : Tr → Prop) : Nat → List Tr → Prop
  | 0, _ => True
  | n + 1, ts => ∀ t ∈ ts, Q t ∧ AllN Q n t.kids

theorem lay_all {P : Nd → Prop} (Q : Tr → Prop) (hP : ∀ t p ks, Q t → P ⟨t.text, t.s, t.attrs, p, ks⟩) : ∀ (d : Nat) (t : Tr) (par : Int) (at' : Nat), (∀ e, d + 1 = e → AllN Q e [t]) → ∀ x ∈ layF d t par at', P x := by
  intro d
  induction d with
  | zero =>
    intro t par at' h x hx
    simp only [layF, List.mem_singleton] at hx
    subst hx
    exact hP t _ _ ((h 1 rfl) t List.mem_cons_self).1
  | succ d ih =>
    intro t par at' h x hx
    rw [layF, List.mem_cons] at hx
    have ht := (h (d + 1 + 1) rfl) t List.mem_cons_self
    rcases hx with rfl | hx
    · exact hP t _ _ ht.1
    · have key : ∀ (ks : List Tr) (a : Nat), AllN Q (d + 1) ks → x ∈ laysOf d (layF d) at' a ks → P x := by
        intro ks
        induction ks with
        | nil => intro a _ hx; simp [laysOf] at hx
        | cons k ks ihk =>
          intro a hq hx
          rw [laysOf, List.mem_append] at hx
          rcases hx with hx | hx
          · refine ih k _ _ (fun e he => ?_) x hx
            subst he
            intro u hu
            simp only [List.mem_singleton] at hu
            subst hu
            exact hq _ List.mem_cons_self
          · exact ihk _ (fun u hu => hq u (List.mem_cons_of_mem _ hu)) hx
      exact key t.kids _ ht.2 hx
end Go.Proofs.Ytmbmfomeiioijab

/- The closed sentence 'docs' of the package topiarykeep is true. No condition. -/
namespace Go.Proofs.Ytmbmfomeiioijab
open Go.ChangeShapes Go.WideShapes Go.ChangeAt Go.RowKit
set_option maxRecDepth 100000

attribute [local go_sem] cell_set

def docsT : Tr := ⟨false, ⟨#[97]⟩, [], [⟨false, ⟨#[98]⟩, [], [⟨true, ⟨#[120]⟩, [], []⟩]⟩, ⟨false, ⟨#[99]⟩, [], []⟩]⟩
def docsN : List Nd := [⟨false, ⟨#[97]⟩, [], -1, [1, 3]⟩, ⟨false, ⟨#[98]⟩, [], 0, [2]⟩, ⟨true, ⟨#[120]⟩, [], 1, []⟩, ⟨false, ⟨#[99]⟩, [], 0, []⟩]

theorem docs_good : goodB docsT = true := by kernel_rfl
theorem docs_made : makeD 2 docsT = docsN := by kernel_rfl
theorem docs_end : endD docsN 1 = 3 := by kernel_rfl
theorem docs_str : strD docsN 0 = [120] := by kernel_rfl
theorem docs_in : inD docsN 2 1 = true := by kernel_rfl

theorem docs_texts : TextsN 3 [docsT] := by
  intro t ht
  simp only [List.mem_singleton] at ht
  subst ht
  refine ⟨⟨by show 1 ≤ maxLen; unfold maxLen; omega, by intro x hx; simp [docsT] at hx⟩, fun u hu => ?_⟩
  simp only [docsT, List.mem_cons, List.not_mem_nil, or_false] at hu
  rcases hu with rfl | rfl
  · refine ⟨⟨by show 1 ≤ maxLen; unfold maxLen; omega, by intro x hx; simp at hx⟩, fun z hz => ?_⟩
    simp only [List.mem_singleton] at hz
    subst hz
    exact ⟨⟨by show 1 ≤ maxLen; unfold maxLen; omega, by intro x hx; simp at hx⟩, trivial⟩
  · exact ⟨⟨by show 1 ≤ maxLen; unfold maxLen; omega, by intro x hx; simp at hx⟩, fun z hz => by simp at hz⟩

theorem docsV {S : Nat → Prop} {w : World} {v : Value} (h : Nodes S w v docsN) (hS : ∀ b, S b → b < w.heap.size) : DocV S w v docsN := by
  refine ⟨h, hS, fun x hx => ?_, fun x hx => ?_⟩
  · simp only [docsN, List.mem_cons, List.not_mem_nil, or_false] at hx
    rcases hx with rfl | rfl | rfl | rfl <;> exact Nat.zero_le _
  · simp only [docsN, List.mem_cons, List.not_mem_nil, or_false] at hx
    rcases hx with rfl | rfl | rfl | rfl <;> exact ⟨by show 1 ≤ maxLen; unfold maxLen; omega, by intro y hy; simp at hy⟩

set_option maxHeartbeats 1000000 in
theorem docsK_any (w : World) : Calls Try.prog 5 #[] w fun e w' => e = .returned (.bool true) ∧ Below w.heap.size w w' := by
  go_enter Try.func5, Try.ntmps5
  go_wp2_with fail
  have hb1 : Below w.heap.size w ((w.alloc (.cells #[.bool true, .string ⟨#[120]⟩, .slice none 0 0, .slice none 0 0] 32)).alloc (.cells #[.bool false, .string ⟨#[98]⟩, .slice none 0 0, .slice (some ⟨w.heap.size, 0, none⟩) 1 1, .bool false, .string ⟨#[99]⟩, .slice none 0 0, .slice none 0 0] 32)) := (Below.alloc1 w _).alloc (by simp) _
  have hx1 : ((w.alloc (.cells #[.bool true, .string ⟨#[120]⟩, .slice none 0 0, .slice none 0 0] 32)).alloc (.cells #[.bool false, .string ⟨#[98]⟩, .slice none 0 0, .slice (some ⟨w.heap.size, 0, none⟩) 1 1, .bool false, .string ⟨#[99]⟩, .slice none 0 0, .slice none 0 0] 32)).heap[w.heap.size]? = some (.cells #[.bool true, .string ⟨#[120]⟩, .slice none 0 0, .slice none 0 0] 32 (0, 0)) := by
    rw [Lib.alloc_old _ _ _ (by simp)]; exact heap_alloc_new _ _
  have hy1 : ((w.alloc (.cells #[.bool true, .string ⟨#[120]⟩, .slice none 0 0, .slice none 0 0] 32)).alloc (.cells #[.bool false, .string ⟨#[98]⟩, .slice none 0 0, .slice (some ⟨w.heap.size, 0, none⟩) 1 1, .bool false, .string ⟨#[99]⟩, .slice none 0 0, .slice none 0 0] 32)).heap[w.heap.size + 1]? = some (.cells #[.bool false, .string ⟨#[98]⟩, .slice none 0 0, .slice (some ⟨w.heap.size, 0, none⟩) 1 1, .bool false, .string ⟨#[99]⟩, .slice none 0 0, .slice none 0 0] 32 (0, 0)) := by
    have e := heap_alloc_new (w.alloc (.cells #[.bool true, .string ⟨#[120]⟩, .slice none 0 0, .slice none 0 0] 32)) (.cells #[.bool false, .string ⟨#[98]⟩, .slice none 0 0, .slice (some ⟨w.heap.size, 0, none⟩) 1 1, .bool false, .string ⟨#[99]⟩, .slice none 0 0, .slice none 0 0] 32)
    rw [World.size_alloc] at e
    exact e
  have hz1 : ((w.alloc (.cells #[.bool true, .string ⟨#[120]⟩, .slice none 0 0, .slice none 0 0] 32)).alloc (.cells #[.bool false, .string ⟨#[98]⟩, .slice none 0 0, .slice (some ⟨w.heap.size, 0, none⟩) 1 1, .bool false, .string ⟨#[99]⟩, .slice none 0 0, .slice none 0 0] 32)).heap.size = w.heap.size + 2 := by simp
  generalize ((w.alloc (.cells #[.bool true, .string ⟨#[120]⟩, .slice none 0 0, .slice none 0 0] 32)).alloc (.cells #[.bool false, .string ⟨#[98]⟩, .slice none 0 0, .slice (some ⟨w.heap.size, 0, none⟩) 1 1, .bool false, .string ⟨#[99]⟩, .slice none 0 0, .slice none 0 0] 32)) = W1 at hb1 hx1 hy1 hz1 ⊢
  have hT1 : Trees (fun b => False ∨ b = w.heap.size) W1 1 (.slice (some ⟨w.heap.size, 0, none⟩) 1 1) [⟨true, ⟨#[120]⟩, [], []⟩] :=
    Trees.of_block (qs := [(true, ⟨#[120]⟩, .slice none 0 0, .slice none 0 0)]) hx1 rfl rfl rfl (Nat.le_refl _) (by unfold maxLen; omega) (by
      intro i q t hq ht
      match i, hq, ht with
      | 0, hq, ht =>
        simp at hq ht
        subst hq ht
        exact ⟨rfl, rfl, Attrs.nil, rfl, none, 0, rfl, Nat.zero_le _⟩
      | i + 1, hq, _ => simp at hq)
  have hT2 : Trees (fun b => (False ∨ b = w.heap.size) ∨ b = w.heap.size + 1) W1 2 (.slice (some ⟨w.heap.size + 1, 0, none⟩) 2 2) docsT.kids :=
    Trees.of_block (qs := [(false, ⟨#[98]⟩, .slice none 0 0, .slice (some ⟨w.heap.size, 0, none⟩) 1 1), (false, ⟨#[99]⟩, .slice none 0 0, .slice none 0 0)]) hy1 rfl rfl rfl (Nat.le_refl _) (by unfold maxLen; omega) (by
      intro i q t hq ht
      match i, hq, ht with
      | 0, hq, ht =>
        simp [docsT] at hq ht
        subst hq ht
        exact ⟨rfl, rfl, Attrs.nil, hT1⟩
      | 1, hq, ht =>
        simp [docsT] at hq ht
        subst hq ht
        exact ⟨rfl, rfl, Attrs.nil, Trees.nil _ ⟨none, 0, rfl, Nat.zero_le _⟩⟩
      | i + 2, hq, _ => simp at hq)
  have hmk := make_any _ 2 (.slice none 0 0) _ docsT W1 Attrs.nil hT2 docs_texts (by intro b hb; rw [hz1]; rcases hb with (hb | hb) | hb; exact hb.elim; omega; omega)
  rw [docs_made, show makeE docsT = 0 by unfold makeE; rw [docs_good]; rfl] at hmk
  have HMK : Hid _ := hmk
  clear hmk hT1 hT2 hx1 hy1
  refine (Calls.mono HMK.out ?_)
  rintro e w2 ⟨v, rfl, hN2, hb2⟩
  have hB2 : Below w.heap.size w w2 := hb1.trans (hb2.mono hb1.size)
  obtain ⟨na, nc, rfl, _, _⟩ := hN2.shape
  have hb3 := Below.alloc1 w2 (.cells #[.slice na docsN.length nc] 24)
  have hx3 := heap_alloc_new w2 (.cells #[.slice na docsN.length nc] 24)
  have hN3 := (hN2.later hb3).bounded
  have hV3 := docsV hN3 (fun b hb => hb.2)
  have hB3 : Below w.heap.size w _ := hB2.trans (hb3.mono hB2.size)
  have hE := endD_any _ _ docsN 1 _ hV3
  rw [docs_end] at hE
  have HE : Hid _ := hE
  clear HMK hE hN2
  go_wp2_with fail
  generalize w2.alloc (.cells #[.slice na docsN.length nc] 24) = W3 at *
  refine (Calls.mono HE.out ?_)
  rintro e w4 ⟨rfl, hb4⟩
  have hx4 := (hb4.block _ (blk_lt hx3)).trans hx3
  have d4 : w4.cell? ⟨w2.heap.size, 0, none⟩ = some (.slice na docsN.length nc) := by rw [Lib.cell_of_heap hx4]; rfl
  have hV4 := hV3.later hb4
  have hB4 : Below w.heap.size w w4 := hB3.trans (hb4.mono hB3.size)
  have hS := strD_any _ _ docsN 0 w4 hV4 (by decide)
  rw [docs_str] at hS
  have HSS : Hid _ := hS
  clear hS HE
  go_wp2_with fail
  refine (Calls.mono HSS.out ?_)
  rintro e w5 ⟨rfl, hb5⟩
  have hx5 := (hb5.block _ (blk_lt hx4)).trans hx4
  have d5 : w5.cell? ⟨w2.heap.size, 0, none⟩ = some (.slice na docsN.length nc) := by rw [Lib.cell_of_heap hx5]; rfl
  have hV5 := hV4.later hb5
  have hB5 : Below w.heap.size w w5 := hB4.trans (hb5.mono hB4.size)
  have hI := inD_any _ _ docsN 2 1 w5 hV5
  rw [docs_in] at hI
  have HI : Hid _ := hI
  clear hI HSS
  go_wp2_with fail
  refine (Calls.mono HI.out ?_)
  rintro e w6 ⟨rfl, hb6⟩
  have hB6 : Below w.heap.size w w6 := hB5.trans (hb6.mono hB5.size)
  go_wp2_with fail
  go_ret
  exact ⟨rfl, hB6⟩
end Go.Proofs.Ytmbmfomeiioijab

/- A document in order is what is laid of its tree, at each of its nodes; who is in a node is in its parent: on plain data. No condition. -/
namespace Go.Proofs.Ytmbmfomeiioijab
open Go.RowKit
set_option maxRecDepth 100000

theorem Seg.nil (ns : List Nd) (a : Nat) : Seg ns a [] := by intro i x hx; simp at hx
theorem Seg.append {ns L M : List Nd} {a : Nat} (h : Seg ns a L) (k : Seg ns (a + L.length) M) : Seg ns a (L ++ M) := by
  intro i x hx
  rcases Nat.lt_or_ge i L.length with h' | h'
  · rw [List.getElem?_append_left h'] at hx; exact h i x hx
  · rw [List.getElem?_append_right h'] at hx
    have := k (i - L.length) x hx
    rw [show a + L.length + (i - L.length) = a + i by omega] at this
    exact this
theorem Seg.cons {ns L : List Nd} {x : Nd} {a : Nat} (h : ns[a]? = some x) (k : Seg ns (a + 1) L) : Seg ns a (x :: L) := by
  intro i y hy
  cases i with
  | zero => simp at hy; subst hy; exact h
  | succ i =>
    have := k i y (by simpa using hy)
    rw [show a + (i + 1) = a + 1 + i by omega]; exact this

/-- What is in order is laid of a tree. -/
theorem ord_conv : ∀ (f : Nat) (ns : List Nd) (par : Int) (nx : Nat), (ordF f ns par nx).1 = true → ∃ t : Tr, Deep f t.kids ∧ Seg ns nx (layF f t par nx) ∧ (ordF f ns par nx).2 = nx + cnt (f + 1) [t] := by
  intro f
  induction f with
  | zero => intro ns par nx h; simp [ordF] at h
  | succ f ih =>
    intro ns par nx h
    rw [ordF] at h ⊢
    cases hx : ns[nx]? with
    | none => simp [hx] at h
    | some x =>
      simp only [hx] at h ⊢
      by_cases hp : x.parent = par
      · rw [if_pos hp] at h ⊢
        have key : ∀ (ks : List Int) (a : Nat), (ordKids (ordF f ns nx) ks a).1 = true → ∃ ts : List Tr, (∀ k ∈ ts, Deep f k.kids) ∧ ks = startsOf f a ts ∧ Seg ns a (laysOf f (layF f) nx a ts) ∧ (ordKids (ordF f ns nx) ks a).2 = a + cnt (f + 1) ts := by
          intro ks
          induction ks with
          | nil => intro a _; exact ⟨[], by simp, rfl, Seg.nil _ _, by simp [ordKids, cnt_nil]⟩
          | cons k ks ihk =>
            intro a hk
            rw [ordKids] at hk ⊢
            by_cases hc : k = (a : Int) ∧ (ordF f ns nx a).1 = true
            · rw [if_pos hc] at hk ⊢
              obtain ⟨t, ht1, ht2, ht3⟩ := ih ns nx a hc.2
              rw [ht3] at hk ⊢
              obtain ⟨ts, hd, he, hs, hn⟩ := ihk _ hk
              refine ⟨t :: ts, ?_, ?_, ?_, ?_⟩
              · intro u hu
                rw [List.mem_cons] at hu
                rcases hu with rfl | hu
                · exact ht1
                · exact hd u hu
              · rw [startsOf, ← he, hc.1]
              · rw [laysOf]
                refine Seg.append ht2 ?_
                rw [layF_length f t nx a ht1]
                exact hs
              · rw [hn, cnt_more f t ts]; omega
            · rw [if_neg hc] at hk; cases hk
        obtain ⟨ts, hd, he, hs, hn⟩ := key x.kids (nx + 1) h
        refine ⟨⟨x.text, x.s, x.attrs, ts⟩, hd, ?_, ?_⟩
        · rw [layF]
          refine Seg.cons ?_ hs
          rw [hx]
          obtain ⟨xt, xs, xa, xp, xk⟩ := x
          simp only at hp he
          rw [hp, he]
        · rw [hn, cnt_one]; show nx + 1 + cnt (f + 1) ts = nx + (1 + cnt (f + 1) ts); omega
      · rw [if_neg hp] at h; cases h

/-- A tree of so many nodes is laid there, under that parent. -/
def Sub (ns : List Nd) (j c : Nat) (par : Int) : Prop := ∃ (d : Nat) (t : Tr), Deep d t.kids ∧ Seg ns j (layF d t par j) ∧ c = cnt (d + 1) [t]

theorem sub_all (ns : List Nd) : ∀ (d : Nat) (t : Tr) (par : Int) (a : Nat), Deep d t.kids → Seg ns a (layF d t par a) → ∀ j, a ≤ j → j < a + cnt (d + 1) [t] →
    ∃ c par', Sub ns j c par' ∧ j + c ≤ a + cnt (d + 1) [t] ∧ (j = a ∧ par' = par ∨ ∃ q c2 p2, par' = ((q : Nat) : Int) ∧ q < j ∧ Sub ns q c2 p2 ∧ j + c ≤ q + c2) := by
  intro d
  induction d with
  | zero =>
    intro t par a hd hs j h1 h2
    have e : t.kids = [] := hd
    have hc : cnt 1 [t] = 1 := by rw [cnt_one, e]; rfl
    rw [hc] at h2
    obtain rfl : j = a := by omega
    exact ⟨_, par, ⟨0, t, hd, hs, rfl⟩, Nat.le_refl _, Or.inl ⟨rfl, rfl⟩⟩
  | succ d ih =>
    intro t par a hd hs j h1 h2
    by_cases hj : j = a
    · subst hj; exact ⟨_, par, ⟨d + 1, t, hd, hs, rfl⟩, Nat.le_refl _, Or.inl ⟨rfl, rfl⟩⟩
    · have hsk : Seg ns (a + 1) (laysOf d (layF d) a (a + 1) t.kids) := Seg.tail hs
      have key : ∀ (ks : List Tr) (b : Nat), (∀ k ∈ ks, Deep d k.kids) → Seg ns b (laysOf d (layF d) a b ks) → b ≤ j → j < b + cnt (d + 1) ks →
          ∃ c par', Sub ns j c par' ∧ j + c ≤ b + cnt (d + 1) ks ∧ (par' = (a : Int) ∨ ∃ q c2 p2, par' = ((q : Nat) : Int) ∧ q < j ∧ Sub ns q c2 p2 ∧ j + c ≤ q + c2) := by
        intro ks
        induction ks with
        | nil => intro b _ _ hb1 hb2; rw [cnt_nil] at hb2; omega
        | cons k ks ihk =>
          intro b hdk hsb hb1 hb2
          rw [laysOf] at hsb
          have hl := hsb.left
          have hr := hsb.right
          have hdk0 := hdk k List.mem_cons_self
          rw [layF_length d k a b hdk0] at hr
          rw [cnt_more] at hb2 ⊢
          by_cases hjk : j < b + cnt (d + 1) [k]
          · obtain ⟨c, par', hS, hle, hor⟩ := ih k a b hdk0 hl j hb1 hjk
            refine ⟨c, par', hS, by omega, ?_⟩
            rcases hor with ⟨_, hp⟩ | hor
            · exact Or.inl hp
            · exact Or.inr hor
          · obtain ⟨c, par', hS, hle, hor⟩ := ihk (b + cnt (d + 1) [k]) (fun u hu => hdk u (List.mem_cons_of_mem _ hu)) hr (by omega) (by omega)
            exact ⟨c, par', hS, by omega, hor⟩
      have hc1 : cnt (d + 1 + 1) [t] = 1 + cnt (d + 1) t.kids := cnt_one (d + 1) t
      obtain ⟨c, par', hS, hle, hor⟩ := key t.kids (a + 1) hd hsk (by omega) (by omega)
      refine ⟨c, par', hS, by omega, Or.inr ?_⟩
      rcases hor with hp | hor
      · exact ⟨a, _, par, hp, by omega, ⟨d + 1, t, hd, hs, rfl⟩, by omega⟩
      · exact hor

/-- What is known of a node of a good document. -/
structure Nest (ns : List Nd) (j : Nat) (x : Nd) : Prop where
  size : ∃ d, Deep d (growF ns.length ns j).kids ∧ endD ns (j : Int) = (j : Int) + (cnt (d + 1) [growF ns.length ns j] : Nat)
  le : endD ns (j : Int) ≤ (ns.length : Int)
  up : x.parent = -1 ∨ (0 ≤ x.parent ∧ x.parent < j ∧ endD ns (j : Int) ≤ endD ns x.parent)

theorem endD_nat {ns : List Nd} (hg : goodD ns = true) {j : Nat} (hj : j < ns.length) : endD ns (j : Int) = (lastF ns.length ns j : Int) + 1 := by
  unfold endD amongB
  have h1 : (0 : Int) ≤ j := by omega
  have h2 : (j : Int) < ns.length := by omega
  simp [hg, h1, h2]

theorem Seg.in {ns L : List Nd} {a : Nat} (h : Seg ns a L) (hne : 0 < L.length) : a + L.length ≤ ns.length := by
  have h1 : L[L.length - 1]? = some (L[L.length - 1]'(by omega)) := List.getElem?_eq_getElem (by omega)
  have h2 := h _ _ h1
  rcases Nat.lt_or_ge (a + (L.length - 1)) ns.length with h' | h'
  · omega
  · rw [List.getElem?_eq_none h'] at h2; cases h2

theorem sub_end {ns : List Nd} (hg : goodD ns = true) {j c : Nat} {par : Int} (h : Sub ns j c par) (hj : j < ns.length) :
    (∃ d, Deep d (growF ns.length ns j).kids ∧ c = cnt (d + 1) [growF ns.length ns j]) ∧ endD ns (j : Int) = (j : Int) + (c : Nat) ∧ j + c ≤ ns.length ∧ ∃ x, ns[j]? = some x ∧ x.parent = par := by
  obtain ⟨d, t, hd, hs, hc⟩ := h
  have hlen := layF_length d t par j hd
  have hin := hs.in (by rw [hlen, cnt_one]; omega)
  rw [hlen] at hin
  have hgr := grow_lay d t ns.length ns par j hd hs (by omega)
  have hla := last_lay d t ns.length ns par j hd hs (by omega)
  refine ⟨⟨d, by rw [hgr]; exact hd, by rw [hgr]; exact hc⟩, ?_, by omega, ?_⟩
  · rw [endD_nat hg hj]; omega
  · rw [layF_head hd] at hs
    exact ⟨_, hs 0 _ rfl, rfl⟩

theorem good_nest {ns : List Nd} (hg : goodD ns = true) {j : Nat} {x : Nd} (hx : ns[j]? = some x) : Nest ns j x := by
  have hj : j < ns.length := by
    rcases Nat.lt_or_ge j ns.length with h' | h'
    · exact h'
    · rw [List.getElem?_eq_none h'] at hx; cases hx
  have hg2 := hg
  simp only [goodD, Bool.and_eq_true, decide_eq_true_eq] at hg2
  have ho := orderly_eq hg2.1.2
  obtain ⟨t, hd, hs, hn⟩ := ord_conv (ns.length + 1) ns (-1) 0 (by rw [ho])
  rw [ho] at hn
  simp only [Nat.zero_add] at hn
  obtain ⟨c, par, hS, hle, hor⟩ := sub_all ns _ t (-1) 0 hd hs j (Nat.zero_le _) (by omega)
  obtain ⟨⟨d, hd1, hc1⟩, he, hl, y, hy, hyp⟩ := sub_end hg hS hj
  obtain rfl : y = x := by rw [hx] at hy; exact (Option.some.inj hy).symm
  refine ⟨⟨d, hd1, by rw [he, hc1]⟩, by rw [he]; omega, ?_⟩
  rcases hor with ⟨_, hp⟩ | ⟨q, c2, p2, hp, hq, hS2, hle2⟩
  · exact Or.inl (by rw [hyp, hp])
  · refine Or.inr ?_
    obtain ⟨_, he2, _, _⟩ := sub_end hg hS2 (by omega)
    rw [hyp, hp, he2, he]
    omega
end Go.Proofs.Ytmbmfomeiioijab

/- topiarykeep.DocNests answers true. Condition: texts of at most 2^63 letters, at most 2^42 attributes a node. -/
namespace Go.Proofs.Ytmbmfomeiioijab
open Go.ChangeShapes Go.WideShapes Go.ChangeAt Go.RowKit
set_option maxRecDepth 100000

attribute [local go_sem] cell_set

theorem cnt_deep : ∀ (d e : Nat) (ks : List Tr), Deep d ks → Deep e ks → cnt d ks = cnt e ks := by
  intro d
  induction d with
  | zero => intro e ks h _; rw [show ks = [] from h, cnt_nil, cnt_nil]
  | succ d ih =>
    intro e ks h k
    cases e with
    | zero => rw [show ks = [] from k, cnt_nil, cnt_nil]
    | succ e =>
      show (ks.map fun t => 1 + cnt d t.kids).sum = (ks.map fun t => 1 + cnt e t.kids).sum
      congr 1
      apply List.map_congr_left
      intro t ht
      rw [ih e t.kids (h t ht) (k t ht)]

/-- What the law asks of two nodes, and what doc answers of them. -/
theorem nest_facts {ns : List Nd} (hg : goodD ns = true) {N M : Nat} {x : Nd} (hx : ns[M]? = some x) (hN : N < ns.length) :
    ∃ C : Nat, (∀ e, Deep e (growF ns.length ns N).kids → cnt (e + 1) [growF ns.length ns N] = C) ∧ C ≤ 80 ∧ N + C ≤ 80 ∧ endD ns (N : Int) = (N : Int) + (C : Int) ∧
      ((inD ns N M = true ∧ inD ns M N = true ∧ N = M) ∨ (inD ns N M = true ∧ inD ns M N = false) ∨ (inD ns N M = false ∧ inD ns M N = true) ∨
        (inD ns N M = false ∧ inD ns M N = false ∧ (N : Int) + (C : Int) ≤ M) ∨ (inD ns N M = false ∧ inD ns M N = false ∧ ¬ (N : Int) + (C : Int) ≤ M ∧ endD ns (M : Int) ≤ N)) ∧
      (inD ns N M = false ∨ x.parent = -1 ∨ ∃ P : Nat, x.parent = (P : Int) ∧ inD ns N P = true) := by
  have hn := good_nest hg (j := N) (x := ns[N]) (by simp [hN])
  have hm := good_nest hg hx
  have hM : M < ns.length := by
    rcases Nat.lt_or_ge M ns.length with h' | h'
    · exact h'
    · rw [List.getElem?_eq_none h'] at hx; cases hx
  have hl : ns.length ≤ 80 := by
    have := hg
    simp only [goodD, Bool.and_eq_true, decide_eq_true_eq] at this
    exact this.1.1
  obtain ⟨d, hd, he⟩ := hn.size
  obtain ⟨dm, hdm, hem⟩ := hm.size
  have hle := hn.le
  have hle2 := hm.le
  rw [cnt_one] at hem
  have hpos : cnt (d + 1) [growF ns.length ns N] = 1 + cnt d (growF ns.length ns N).kids := cnt_one _ _
  refine ⟨cnt (d + 1) [growF ns.length ns N], ?_, by omega, by omega, he, ?_, ?_⟩
  · intro e hE
    rw [cnt_one, cnt_one, cnt_deep e d _ hE hd]
  · rw [← he]
    generalize hb : endD ns (M : Int) = b at *
    generalize ha : endD ns (N : Int) = a' at *
    unfold inD
    rw [ha, hb]
    by_cases h1 : M ≤ N <;> by_cases h2 : N ≤ M <;> by_cases h3 : (N : Int) < b <;> by_cases h4 : (M : Int) < a' <;> simp_all <;> omega
  · rcases hm.up with hu | ⟨hu1, hu2, hu3⟩
    · exact Or.inr (Or.inl hu)
    · cases hi : inD ns N M with
      | false => exact Or.inl rfl
      | true =>
        refine Or.inr (Or.inr ⟨x.parent.toNat, by omega, ?_⟩)
        have e : ((x.parent.toNat : Nat) : Int) = x.parent := by omega
        rw [e]
        unfold inD at hi ⊢
        simp only [Bool.and_eq_true, decide_eq_true_eq] at hi ⊢
        omega

set_option maxHeartbeats 4000000 in
theorem docNests_any (S : Nat → Prop) (v : Value) (ns : List Nd) (n m : Int) (w : World) (h : DocV S w v ns) :
    Calls Try.prog 3 #[.agg #[v], .int .i64 n, .int .i64 m] w fun e w' => e = .returned (.bool true) ∧ Below w.heap.size w w' := by
  have hb1 := Below.alloc1 w (.cells #[v] 24)
  have hy1 := heap_alloc_new w (.cells #[v] 24)
  have H : Hid (DocV S w v ns) := h
  have HG : Hid _ := (h.later hb1).good
  have HDC : Hid (∀ W, Calls Try.prog 5 #[] W fun e w' => e = .returned (.bool true) ∧ Below W.heap.size W w') := docsK_any
  obtain ⟨a, cap, rfl, hlc, hcm⟩ := h.nodes.shape
  unfold maxLen at hcm
  clear h
  go_enter Try.func3, Try.ntmps3
  go_wp2_with fail
  refine (Calls.mono HG.out ?_)
  rintro e w2 ⟨rfl, hb2⟩
  have hx2 := (hb2.block _ (blk_lt hy1)).trans hy1
  have hB2 : Below w.heap.size w w2 := hb1.trans (hb2.mono hb1.size)
  have d2 : w2.cell? ⟨w.heap.size, 0, none⟩ = some (.slice a ns.length cap) := by rw [Lib.cell_of_heap hx2]; rfl
  clear HG hb1 hy1 hb2
  obtain ⟨q, hq⟩ : ∃ q, goodD ns = q := ⟨_, rfl⟩
  rw [hq]
  cases q with
  | false =>
    clear hq
    go_wp2_with fail
    refine (Calls.mono (HDC.out _) ?_)
    rintro e w3 ⟨rfl, hb3⟩
    go_wp2_with fail
    go_ret
    exact ⟨rfl, hB2.trans (hb3.mono hB2.size)⟩
  | true =>
    have HQ : Hid (goodD ns = true) := hq
    clear hq
    by_cases h1 : n < 0
    · go_wp2_with fail
      refine (Calls.mono (HDC.out _) ?_)
      rintro e w3 ⟨rfl, hb3⟩
      go_wp2_with fail
      go_ret
      exact ⟨rfl, hB2.trans (hb3.mono hB2.size)⟩
    by_cases h2 : m < 0
    · go_wp2_with fail
      refine (Calls.mono (HDC.out _) ?_)
      rintro e w3 ⟨rfl, hb3⟩
      go_wp2_with fail
      go_ret
      exact ⟨rfl, hB2.trans (hb3.mono hB2.size)⟩
    by_cases h3 : (ns.length : Int) ≤ n
    · go_wp2_with fail
      refine (Calls.mono (HDC.out _) ?_)
      rintro e w3 ⟨rfl, hb3⟩
      go_wp2_with fail
      go_ret
      exact ⟨rfl, hB2.trans (hb3.mono hB2.size)⟩
    by_cases h4 : (ns.length : Int) ≤ m
    · go_wp2_with fail
      refine (Calls.mono (HDC.out _) ?_)
      rintro e w3 ⟨rfl, hb3⟩
      go_wp2_with fail
      go_ret
      exact ⟨rfl, hB2.trans (hb3.mono hB2.size)⟩
    obtain ⟨N, rfl⟩ : ∃ N : Nat, n = (N : Int) := ⟨n.toNat, by omega⟩
    obtain ⟨M, rfl⟩ : ∃ M : Nat, m = (M : Int) := ⟨m.toNat, by omega⟩
    obtain ⟨x, hx⟩ : ∃ x, ns[M]? = some x := ⟨ns[M]'(by omega), by simp⟩
    obtain ⟨C, hC, hC80, hNC, hE, hcs, hup⟩ := nest_facts HQ.out hx (N := N) (by omega)
    obtain ⟨b0, o0, cap0, va0, vk0, hv, z1, z2, hSb, hbw, z3, z4, z5, c3, z6, z7, z8⟩ := H.out.nodes.at hx
    injection hv with hv1 _ hv2
    subst hv1 hv2
    have HC : Hid (∀ W, Below w2.heap.size w2 W → Below w2.heap.size w2 W ∧ W.cell? ⟨w.heap.size, 0, none⟩ = some (.slice (some ⟨b0, o0, none⟩) ns.length cap)) := by
      intro W h
      refine ⟨h, ?_⟩
      rw [Lib.cell_of_heap ((h.block _ (blk_lt hx2)).trans hx2)]; rfl
    have HW : Hid (∀ W, Below w2.heap.size w2 W → Below w.heap.size w W) := fun W h => hB2.trans (h.mono hB2.size)
    have HP : Hid (∀ W, Below w2.heap.size w2 W → W.cell? ⟨b0, o0 + M * 5 + 3, none⟩ = some (.int .i64 x.parent)) := by
      intro W h
      have hB := HW.out W h
      rw [(bcell hB).1 b0 _ hbw]; exact c3
    have HIN : Hid (∀ (i j : Int) (W : World), Below w2.heap.size w2 W → Calls Try.prog 6 #[.agg #[.slice (some ⟨b0, o0, none⟩) ns.length cap], .int .i64 i, .int .i64 j] W fun e w' => e = .returned (.bool (inD ns i j)) ∧ Below W.heap.size W w') :=
      fun i j W h => inD_any S _ ns i j W (H.out.later (HW.out W h))
    have HEN : Hid (∀ (W : World), Below w2.heap.size w2 W → Calls Try.prog 7 #[.agg #[.slice (some ⟨b0, o0, none⟩) ns.length cap], .int .i64 (N : Int)] W fun e w' => e = .returned (.int .i64 ((N : Int) + (C : Int))) ∧ Below W.heap.size W w') := by
      intro W h
      have := endD_any S _ ns (N : Int) W (H.out.later (HW.out W h))
      rw [hE] at this
      exact this
    obtain ⟨eM, hEM⟩ : ∃ eM, endD ns (M : Int) = eM := ⟨_, rfl⟩
    have HEM : Hid (∀ (W : World), Below w2.heap.size w2 W → Calls Try.prog 7 #[.agg #[.slice (some ⟨b0, o0, none⟩) ns.length cap], .int .i64 (M : Int)] W fun e w' => e = .returned (.int .i64 eM) ∧ Below W.heap.size W w') := by
      intro W h
      have := endD_any S _ ns (M : Int) W (H.out.later (HW.out W h))
      rw [hEM] at this
      exact this
    have hT0 : treeD ns (N : Int) = (growF ns.length ns N, 0) := by
      unfold treeD
      have ham : amongB ns (N : Int) = true := by unfold amongB; simp; omega
      rw [HQ.out, ham]
      simp
    obtain ⟨t, ht⟩ : ∃ t, growF ns.length ns N = t := ⟨_, rfl⟩
    rw [ht] at hT0 hC
    have HT : Hid (∀ (W : World), Below w2.heap.size w2 W → Calls Try.prog 8 #[.agg #[.slice (some ⟨b0, o0, none⟩) ns.length cap], .int .i64 (N : Int)] W fun e w' => ∃ va vk, e = .returned (.tuple #[.agg #[.bool t.text, .string t.s, va, vk], .int .i64 0]) ∧
      Attrs (fun b => W.heap.size ≤ b) w' va t.attrs ∧ Trees (fun b => W.heap.size ≤ b) w' ns.length vk t.kids ∧ Below W.heap.size W w') := by
      intro W h
      have := treeD_any S _ ns (N : Int) W (H.out.later (HW.out W h))
      rw [hT0] at this
      exact this
    have HSZ : Hid (∀ (S' : Nat → Prop) (va vk : Value) (W : World), Attrs S' W va t.attrs → Trees S' W ns.length vk t.kids → Calls Try.prog 9 #[.agg #[.bool t.text, .string t.s, va, vk]] W fun e w' => e = .returned (.tuple #[.int .i64 (dep (ns.length + 1) [t] : Int), .int .i64 (C : Int)]) ∧ Below W.heap.size W w') := by
      intro S' va vk W hA hK
      have e := hC _ (Trees.deep _ hK)
      have := size_any S' ns.length va vk t W hA hK (by rw [e]; omega)
      rw [e] at this
      exact this
    have hwr : IntKind.i64.wrap ((N : Int) + (C : Int)) = (N : Int) + (C : Int) := IntWalk.i64_in _ (by omega)
    have hself : (((N : Int) + (C : Int)) == ((N : Int) + (C : Int))) = true := by simp
    obtain ⟨D, hD⟩ : ∃ D : Int, (dep (ns.length + 1) [t] : Int) = D := ⟨_, rfl⟩
    rw [hD] at HSZ
    obtain ⟨pv, hpv⟩ : ∃ pv, x.parent = pv := ⟨_, rfl⟩
    rw [hpv] at HP hup
    have HI1 := HIN.out (N : Int) (M : Int)
    have HI2 := HIN.out (M : Int) (N : Int)
    obtain ⟨A, hA⟩ : ∃ A, inD ns N M = A := ⟨_, rfl⟩
    obtain ⟨B, hB⟩ : ∃ B, inD ns M N = B := ⟨_, rfl⟩
    rw [hA] at HI1 hcs hup
    rw [hB] at HI2 hcs
    rw [hEM] at hcs
    have HA1 : Hid _ := HI1
    have HA2 : Hid _ := HI2
    have hMl : (M : Int) < (ns.length : Int) := by omega
    have hbn := (Below.refl w2.heap.size w2).drew
    have hl80 : C ≤ 80 := hC80
    clear HI1 HI2 hA hB hEM hpv hD hC hT0 ht hE hx c3 hSb hx2 hB2 HQ H hbw hlc z1 z2 z3 z4 z5 z6 z7 z8
    clear va0 vk0
    have HIP : Hid (∀ (P : Nat), inD ns N P = true → ∀ (W : World), Below w2.heap.size w2 W → Calls Try.prog 6 #[.agg #[.slice (some ⟨b0, o0, none⟩) ns.length cap], .int .i64 (N : Int), .int .i64 (P : Int)] W fun e w' => e = .returned (.bool true) ∧ Below W.heap.size W w') := by
      intro P hP W h
      have := HIN.out (N : Int) (P : Int) W h
      rw [hP] at this
      exact this
    have hsplit : (A = true ∧ (pv = -1 ∨ ∃ P : Nat, pv = (P : Int) ∧ inD ns N P = true)) ∨ A = false := by
      rcases hup with hu | hu
      · exact Or.inr hu
      · cases A with
        | false => exact Or.inr rfl
        | true => exact Or.inl ⟨rfl, hu⟩
    clear hup HIN
    rcases hsplit with ⟨rfl, hsplit⟩ | rfl
    · replace hcs : (B = true ∧ N = M) ∨ B = false := by
        rcases hcs with ⟨_, h2, h3⟩ | ⟨_, h2⟩ | ⟨h2, _⟩ | ⟨h2, _⟩ | ⟨h2, _⟩
        · exact Or.inl ⟨h2, h3⟩
        · exact Or.inr h2
        · cases h2
        · cases h2
        · cases h2
      rcases hsplit with rfl | ⟨P, rfl, hP⟩
      · clear HIP
        rcases hcs with ⟨rfl, rfl⟩ | rfl
        all_goals
          go_wp2_with fail
          go_region_held3 (fun W : World => Below w2.heap.size w2 W ∧ W.cell? ⟨w.heap.size, 0, none⟩ = some (.slice (some ⟨b0, o0, none⟩) ns.length cap))
            (with_reducible exact HC.out _ hbn)
            (first
              | (go_at_call 6; refine (Calls.mono (HA1.out _ hbn) ?_); clear HA1; rintro e W8 ⟨rfl, hb8⟩; have hbn := hbn.trans (hb8.mono hbn.size))
              | (go_at_call 6; refine (Calls.mono (HA2.out _ hbn) ?_); rintro e W8 ⟨rfl, hb8⟩; have hbn := hbn.trans (hb8.mono hbn.size)))
          all_goals
            have dk := (HC.out _ hbn).2
            go_wp2_with fail
            try (refine (Calls.mono (HEN.out _ hbn) ?_); rintro e W9 ⟨rfl, hb9⟩; have hbn := hbn.trans (hb9.mono hbn.size); have dk := (HC.out _ hbn).2; go_wp2_with fail)
            try (refine (Calls.mono (HEM.out _ hbn) ?_); rintro e W9 ⟨rfl, hb9⟩; have hbn := hbn.trans (hb9.mono hbn.size); have dk := (HC.out _ hbn).2; go_wp2_with fail)
            refine (Calls.mono (HT.out _ hbn) ?_)
            rintro e W5 ⟨va5, vk5, rfl, hA5, hK5, hb5⟩
            have hbn := hbn.trans (hb5.mono hbn.size)
            obtain ⟨a5, c5, rfl⟩ := hA5.shape
            obtain ⟨k5, d5, rfl, _, _⟩ := Trees.shape ns.length hK5
            have hb6 := Below.alloc1 W5 (.cells #[.bool t.text, .string t.s, .slice a5 t.attrs.length c5, .slice k5 t.kids.length d5] 32)
            have hbn := hbn.alloc hbn.size (.cells #[.bool t.text, .string t.s, .slice a5 t.attrs.length c5, .slice k5 t.kids.length d5] 32)
            have HS6 : Hid _ := HSZ.out _ _ _ _ (hA5.later hb6) (Trees.later hb6 ns.length hK5)
            clear hA5 hK5 hb6 hb5
            go_wp2_with fail
            refine (Calls.mono HS6.out ?_)
            rintro e W7 ⟨rfl, hb7⟩
            have hbn := hbn.trans (hb7.mono hbn.size)
            have dk := (HC.out _ hbn).2
            have pk := HP.out _ hbn
            clear hb7 HS6
            go_wp2_with fail
            refine (Calls.mono (HEN.out _ hbn) ?_)
            rintro e W8 ⟨rfl, hb8⟩
            have hbn := hbn.trans (hb8.mono hbn.size)
            have dk := (HC.out _ hbn).2
            clear hb8
            go_wp2_with fail
            refine (Calls.mono (HDC.out _) ?_)
            rintro e W9 ⟨rfl, hb9⟩
            have hbn := hbn.trans (hb9.mono hbn.size)
            go_wp2_with fail
            go_ret
            exact ⟨rfl, HW.out _ hbn⟩
      · have HIQ : Hid _ := HIP.out P hP
        have hP0 : ¬ (P : Int) < 0 := by omega
        clear HIP hP
        rcases hcs with ⟨rfl, rfl⟩ | rfl
        all_goals
          go_wp2_with fail
          go_region_held3 (fun W : World => Below w2.heap.size w2 W ∧ W.cell? ⟨w.heap.size, 0, none⟩ = some (.slice (some ⟨b0, o0, none⟩) ns.length cap))
            (with_reducible exact HC.out _ hbn)
            (first
              | (go_at_call 6; refine (Calls.mono (HA1.out _ hbn) ?_); clear HA1; rintro e W8 ⟨rfl, hb8⟩; have hbn := hbn.trans (hb8.mono hbn.size))
              | (go_at_call 6; refine (Calls.mono (HA2.out _ hbn) ?_); rintro e W8 ⟨rfl, hb8⟩; have hbn := hbn.trans (hb8.mono hbn.size)))
          all_goals
            have dk := (HC.out _ hbn).2
            go_wp2_with fail
            try (refine (Calls.mono (HEN.out _ hbn) ?_); rintro e W9 ⟨rfl, hb9⟩; have hbn := hbn.trans (hb9.mono hbn.size); have dk := (HC.out _ hbn).2; go_wp2_with fail)
            try (refine (Calls.mono (HEM.out _ hbn) ?_); rintro e W9 ⟨rfl, hb9⟩; have hbn := hbn.trans (hb9.mono hbn.size); have dk := (HC.out _ hbn).2; go_wp2_with fail)
            refine (Calls.mono (HT.out _ hbn) ?_)
            rintro e W5 ⟨va5, vk5, rfl, hA5, hK5, hb5⟩
            have hbn := hbn.trans (hb5.mono hbn.size)
            obtain ⟨a5, c5, rfl⟩ := hA5.shape
            obtain ⟨k5, d5, rfl, _, _⟩ := Trees.shape ns.length hK5
            have hb6 := Below.alloc1 W5 (.cells #[.bool t.text, .string t.s, .slice a5 t.attrs.length c5, .slice k5 t.kids.length d5] 32)
            have hbn := hbn.alloc hbn.size (.cells #[.bool t.text, .string t.s, .slice a5 t.attrs.length c5, .slice k5 t.kids.length d5] 32)
            have HS6 : Hid _ := HSZ.out _ _ _ _ (hA5.later hb6) (Trees.later hb6 ns.length hK5)
            clear hA5 hK5 hb6 hb5
            go_wp2_with fail
            refine (Calls.mono HS6.out ?_)
            rintro e W7 ⟨rfl, hb7⟩
            have hbn := hbn.trans (hb7.mono hbn.size)
            have dk := (HC.out _ hbn).2
            have pk := HP.out _ hbn
            clear hb7 HS6
            go_wp2_with fail
            refine (Calls.mono (HEN.out _ hbn) ?_)
            rintro e W8 ⟨rfl, hb8⟩
            have hbn := hbn.trans (hb8.mono hbn.size)
            have dk := (HC.out _ hbn).2
            clear hb8
            go_wp2_with fail
            refine (Calls.mono (HIQ.out _ hbn) ?_)
            rintro e W9 ⟨rfl, hb9⟩
            have hbn := hbn.trans (hb9.mono hbn.size)
            go_wp2_with fail
            refine (Calls.mono (HDC.out _) ?_)
            rintro e W9 ⟨rfl, hb9⟩
            have hbn := hbn.trans (hb9.mono hbn.size)
            go_wp2_with fail
            go_ret
            exact ⟨rfl, HW.out _ hbn⟩
    · clear HIP
      replace hcs : B = true ∨ (B = false ∧ (N : Int) + (C : Int) ≤ M) ∨ (B = false ∧ ¬ (N : Int) + (C : Int) ≤ M ∧ eM ≤ N) := by
        rcases hcs with ⟨h2, _⟩ | ⟨h2, _⟩ | ⟨_, h2⟩ | ⟨_, h2, h3⟩ | ⟨_, h2, h3⟩
        · cases h2
        · cases h2
        · exact Or.inl h2
        · exact Or.inr (Or.inl ⟨h2, h3⟩)
        · exact Or.inr (Or.inr ⟨h2, h3⟩)
      rcases hcs with rfl | ⟨rfl, hle⟩ | ⟨rfl, hle, hle2⟩
      all_goals
        go_wp2_with fail
        go_region_held3 (fun W : World => Below w2.heap.size w2 W ∧ W.cell? ⟨w.heap.size, 0, none⟩ = some (.slice (some ⟨b0, o0, none⟩) ns.length cap))
          (with_reducible exact HC.out _ hbn)
          (first
            | (go_at_call 6; refine (Calls.mono (HA1.out _ hbn) ?_); clear HA1; rintro e W8 ⟨rfl, hb8⟩; have hbn := hbn.trans (hb8.mono hbn.size))
            | (go_at_call 6; refine (Calls.mono (HA2.out _ hbn) ?_); rintro e W8 ⟨rfl, hb8⟩; have hbn := hbn.trans (hb8.mono hbn.size)))
        all_goals
          have dk := (HC.out _ hbn).2
          go_wp2_with fail
          try (refine (Calls.mono (HEN.out _ hbn) ?_); rintro e W9 ⟨rfl, hb9⟩; have hbn := hbn.trans (hb9.mono hbn.size); have dk := (HC.out _ hbn).2; go_wp2_with fail)
          try (refine (Calls.mono (HEM.out _ hbn) ?_); rintro e W9 ⟨rfl, hb9⟩; have hbn := hbn.trans (hb9.mono hbn.size); have dk := (HC.out _ hbn).2; go_wp2_with fail)
          refine (Calls.mono (HT.out _ hbn) ?_)
          rintro e W5 ⟨va5, vk5, rfl, hA5, hK5, hb5⟩
          have hbn := hbn.trans (hb5.mono hbn.size)
          obtain ⟨a5, c5, rfl⟩ := hA5.shape
          obtain ⟨k5, d5, rfl, _, _⟩ := Trees.shape ns.length hK5
          have hb6 := Below.alloc1 W5 (.cells #[.bool t.text, .string t.s, .slice a5 t.attrs.length c5, .slice k5 t.kids.length d5] 32)
          have hbn := hbn.alloc hbn.size (.cells #[.bool t.text, .string t.s, .slice a5 t.attrs.length c5, .slice k5 t.kids.length d5] 32)
          have HS6 : Hid _ := HSZ.out _ _ _ _ (hA5.later hb6) (Trees.later hb6 ns.length hK5)
          clear hA5 hK5 hb6 hb5
          go_wp2_with fail
          refine (Calls.mono HS6.out ?_)
          rintro e W7 ⟨rfl, hb7⟩
          have hbn := hbn.trans (hb7.mono hbn.size)
          have dk := (HC.out _ hbn).2
          have pk := HP.out _ hbn
          clear hb7 HS6
          go_wp2_with fail
          refine (Calls.mono (HEN.out _ hbn) ?_)
          rintro e W8 ⟨rfl, hb8⟩
          have hbn := hbn.trans (hb8.mono hbn.size)
          have dk := (HC.out _ hbn).2
          clear hb8
          go_wp2_with fail
          refine (Calls.mono (HDC.out _) ?_)
          rintro e W9 ⟨rfl, hb9⟩
          have hbn := hbn.trans (hb9.mono hbn.size)
          go_wp2_with fail
          go_ret
          exact ⟨rfl, HW.out _ hbn⟩
end Go.Proofs.Ytmbmfomeiioijab

