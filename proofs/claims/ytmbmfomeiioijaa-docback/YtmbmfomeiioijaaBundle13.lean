/- Bundled: DocMk DocB DocsK DocBk. What each says stands ahead of it. -/
import Derived.Test.YtmbmfomeiioijaaBundle11
import Derived.Test.YtmbmfomeiioijaaBundle12
import Derived.Test.YtmbmfomeiioijaaBundle04
import Derived.Test.YtmbmfomeiioijaaBundle09
import Derived.Deep.RegionHeld3
/- doc.Make, for every tree. Condition: texts of at most 2^63 letters. -/
namespace Go.Proofs.Ytmbmfomeiioijaa
open Go.ChangeShapes Go.WideShapes Go.ChangeAt Go.RowKit
set_option maxRecDepth 100000

attribute [local go_sem] cell_set

theorem nodes_of_row {S : Nat → Prop} {nb : Nat} {ms : List Rw} {w : World} {L : List Nd} (hR : Row nb ms w) (hl : L.length = ms.length) (hL : Laid S w ms 0 L) (hS : S nb) (h80 : ms.length ≤ 80) : Nodes S w (.slice (some ⟨nb, 0, none⟩) ms.length ms.length) L := by
  refine ⟨_, ms.length, by rw [hl], by omega, by unfold maxLen; omega, fun _ => ⟨nb, 0, rfl, hS, fun i x hx => ?_⟩⟩
  obtain ⟨r, hr, h1, h2, h3, h4, h5⟩ := hL i x hx
  rw [Nat.zero_add] at hr
  obtain ⟨g0, g1, g2, g3, g4⟩ := hR.cells hr
  rw [Nat.zero_add]
  exact ⟨r.va, r.vk, by rw [g0, h1], by rw [g1, h2], g2, by rw [g3, h3], g4, h4, h5⟩

theorem rgL_few {n : Nat} (hf : ∀ k, rgt n k = true → FewN n k) : ∀ (ts : List Tr) (p : Bool), rgL (rgt n) p ts = true → FewN (n + 1) ts := by
  intro ts
  induction ts with
  | nil => intro p _ t ht; simp at ht
  | cons x r ih =>
    intro p h t ht
    unfold rgL at h
    simp only [Bool.and_eq_true] at h
    rw [List.mem_cons] at ht
    rcases ht with rfl | ht
    · have h1 := h.1.1.1
      unfold rightB at h1
      cases htx : t.text with
      | true =>
        simp only [htx, if_true, Bool.and_eq_true, decide_eq_true_eq] at h1
        have hk : t.kids = [] := List.eq_nil_of_length_eq_zero h1.2
        refine ⟨by omega, ?_⟩
        rw [hk]
        cases n with
        | zero => trivial
        | succ n => intro u hu; simp at hu
      | false =>
        simp only [htx, Bool.false_eq_true, if_false, Bool.and_eq_true] at h1
        have h2 := h1.2
        simp only [attrsB, Bool.and_eq_true, decide_eq_true_eq] at h2
        refine ⟨by omega, hf _ ?_⟩
        have := h.1.2
        simpa [htx] using this
    · exact ih x.text h.2 t ht

theorem rgt_few : ∀ (n : Nat) (ts : List Tr), rgt n ts = true → FewN n ts := by
  intro n
  induction n with
  | zero => intro ts _; trivial
  | succ n ih => intro ts h; exact rgL_few ih ts false h

theorem nodeInfo : (Try.prog.info? 71).map (fun i => (i.zero, i.size, i.bytes)) = some (some (.agg #[.bool false, .string ⟨#[]⟩, .slice none 0 0, .int .i64 0, .slice none 0 0]), 5, 80) := by kernel_rfl

def zeroRw : Rw := ⟨false, ⟨#[]⟩, .slice none 0 0, 0, .slice none 0 0⟩

theorem madeRaw (N : Nat) : madeCells (Value.agg #[.bool false, .string ⟨#[]⟩, .slice none 0 0, .int .i64 0, .slice none 0 0]).cells (N * 5) = (rawCells (List.replicate N zeroRw)).toArray := by
  apply Array.ext
  · simp [madeCells, rawCells_length]
  · intro k h1 h2
    have hk : k < N * 5 := by simpa [madeCells] using h1
    have hr : (List.replicate N zeroRw)[k / 5]? = some zeroRw := by rw [List.getElem?_replicate]; simp; omega
    obtain ⟨g0, g1, g2, g3, g4⟩ := rawCells_get _ _ _ hr
    have key : (rawCells (List.replicate N zeroRw))[k]? = some ((#[Value.bool false, .string ⟨#[]⟩, .slice none 0 0, .int .i64 0, .slice none 0 0] : Array Value)[k % 5]!) := by
      rcases (by omega : k % 5 = 0 ∨ k % 5 = 1 ∨ k % 5 = 2 ∨ k % 5 = 3 ∨ k % 5 = 4) with h | h | h | h | h
      · rw [show k = k / 5 * 5 by omega, g0, show k / 5 * 5 % 5 = 0 by omega]; rfl
      · rw [show k = k / 5 * 5 + 1 by omega, g1, show (k / 5 * 5 + 1) % 5 = 1 by omega]; rfl
      · rw [show k = k / 5 * 5 + 2 by omega, g2, show (k / 5 * 5 + 2) % 5 = 2 by omega]; rfl
      · rw [show k = k / 5 * 5 + 3 by omega, g3, show (k / 5 * 5 + 3) % 5 = 3 by omega]; rfl
      · rw [show k = k / 5 * 5 + 4 by omega, g4, show (k / 5 * 5 + 4) % 5 = 4 by omega]; rfl
    have h3 : (rawCells (List.replicate N zeroRw)).toArray[k]? = some ((#[Value.bool false, .string ⟨#[]⟩, .slice none 0 0, .int .i64 0, .slice none 0 0] : Array Value)[k % 5]!) := by simpa using key
    rw [Array.getElem?_eq_getElem h2] at h3
    rw [Option.some.inj h3]
    simp [madeCells, Value.cells]

/-- What doc.Make makes. -/
def makeD (n : Nat) (t : Tr) : List Nd := if goodB t then layF n t (-1) 0 else []
def makeE (t : Tr) : Int := if goodB t then 0 else 1

set_option maxHeartbeats 2000000 in
theorem make_any (S : Nat → Prop) (n : Nat) (va vk : Value) (t : Tr) (w : World) (hA : Attrs S w va t.attrs) (hK : Trees S w n vk t.kids) (hx : TextsN (n + 1) [t]) (hS : ∀ b, S b → b < w.heap.size) :
    Calls Try.prog 15 #[.agg #[.bool t.text, .string t.s, va, vk]] w fun e w' => ∃ v, e = .returned (.tuple #[.agg #[v], .int .i64 (makeE t)]) ∧ Nodes (fun b => w.heap.size ≤ b) w' v (makeD n t) ∧ Below w.heap.size w w' := by
  obtain ⟨aa, ac, rfl⟩ := hA.shape
  obtain ⟨ka, kc, rfl, _, _⟩ := Trees.shape n hK
  have hb1 : Below w.heap.size w ((w.alloc (.cells #[.bool t.text, .string t.s, .slice aa t.attrs.length ac, .slice ka t.kids.length kc] 29)).alloc (.cells #[.slice none 0 0] 33)) := (Below.alloc1 w _).alloc (by simp) _
  have hx1 : ((w.alloc (.cells #[.bool t.text, .string t.s, .slice aa t.attrs.length ac, .slice ka t.kids.length kc] 29)).alloc (.cells #[.slice none 0 0] 33)).heap[w.heap.size]? = some (.cells #[.bool t.text, .string t.s, .slice aa t.attrs.length ac, .slice ka t.kids.length kc] 29 (0, 0)) := by
    rw [Lib.alloc_old _ _ _ (by simp)]; exact heap_alloc_new _ _
  have hy1 : ((w.alloc (.cells #[.bool t.text, .string t.s, .slice aa t.attrs.length ac, .slice ka t.kids.length kc] 29)).alloc (.cells #[.slice none 0 0] 33)).heap[w.heap.size + 1]? = some (.cells #[.slice none 0 0] 33 (0, 0)) := by
    have e := heap_alloc_new (w.alloc (.cells #[.bool t.text, .string t.s, .slice aa t.attrs.length ac, .slice ka t.kids.length kc] 29)) (.cells #[.slice none 0 0] 33)
    rw [World.size_alloc] at e
    exact e
  have HG : Hid _ := good_any S n _ _ t _ (hA.later hb1) (Trees.later hb1 n hK) hx
  have HA : Hid (Attrs S w (.slice aa t.attrs.length ac) t.attrs) := hA
  have HK : Hid (Trees S w n (.slice ka t.kids.length kc) t.kids) := hK
  have HS : Hid (∀ b, S b → b < w.heap.size) := hS
  have HD : Hid (makeD n t = if goodB t then layF n t (-1) 0 else []) := rfl
  have HE : Hid (makeE t = if goodB t then 0 else 1) := rfl
  clear hA hK hx hS
  go_enter Try.func15, Try.ntmps15
  go_wp2_with fail
  refine (Calls.mono HG.out ?_)
  rintro e w2 ⟨rfl, hb2⟩
  have hx2 := (hb2.block _ (blk_lt hx1)).trans hx1
  have hy2 := (hb2.block _ (blk_lt hy1)).trans hy1
  have hB2 : Below w.heap.size w w2 := hb1.trans (hb2.mono hb1.size)
  have d0 : w2.cell? ⟨w.heap.size, 0, none⟩ = some (.bool t.text) := by rw [Lib.cell_of_heap hx2]; rfl
  have d1 : w2.cell? ⟨w.heap.size, 1, none⟩ = some (.string t.s) := by rw [Lib.cell_of_heap hx2]; rfl
  have d2 : w2.cell? ⟨w.heap.size, 2, none⟩ = some (.slice aa t.attrs.length ac) := by rw [Lib.cell_of_heap hx2]; rfl
  have d3 : w2.cell? ⟨w.heap.size, 3, none⟩ = some (.slice ka t.kids.length kc) := by rw [Lib.cell_of_heap hx2]; rfl
  have p0 : w2.cell? ⟨w.heap.size + 1, 0, none⟩ = some (.slice none 0 0) := by rw [Lib.cell_of_heap hy2]; rfl
  have f0 : w2.frozen? ⟨w.heap.size + 1, 0, none⟩ = false := Lib.frozen_of_heap hy2 0
  clear HG hb1 hx1 hb2 hy1
  obtain ⟨q, hq⟩ : ∃ q, goodB t = q := ⟨_, rfl⟩
  rw [hq]
  cases q with
  | false =>
    have HD2 : Hid (makeD n t = []) := by show _ = _; rw [HD.out, hq]; rfl
    have HE2 : Hid (makeE t = 1) := by show _ = _; rw [HE.out, hq]; rfl
    clear HD HE hq
    go_wp2_with fail
    refine bodyPost_ret (v := .tuple #[.agg #[.slice none 0 0], .int .i64 1]) (by simp [results, Try.results15, go_sem, cell_set, p0]) rfl ⟨.slice none 0 0, by rw [HE2.out], by rw [HD2.out]; exact Nodes.nil, ?_⟩
    exact hB2.setCell (p := ⟨w.heap.size + 1, 0, none⟩) (Nat.le_succ _) _
  | true =>
    have HD2 : Hid (makeD n t = layF n t (-1) 0) := by show _ = _; rw [HD.out, hq]; rfl
    have HE2 : Hid (makeE t = 0) := by show _ = _; rw [HE.out, hq]; rfl
    have hdeep := Trees.deep n HK.out
    have hg := hq
    rw [goodB_eq hdeep] at hg
    simp only [Bool.and_eq_true, Bool.not_eq_true', decide_eq_true_eq] at hg
    obtain ⟨⟨⟨hg1, hg2⟩, hc81⟩, hrg⟩ := hg
    clear hg1 hg2
    have HFW : Hid (FewN (n + 1) [t]) := rgt_few (n + 1) [t] hrg
    have HSZ : Hid _ := size_any S n _ _ t w2 (HA.out.later hB2) (Trees.later hB2 n HK.out) (by omega)
    have hpos : 0 < cnt (n + 1) [t] := by rw [cnt_one]; omega
    have HLN : Hid ((layF n t (-1) 0).length = cnt (n + 1) [t]) := layF_length n t (-1) 0 hdeep
    obtain ⟨N, hN⟩ : ∃ N, cnt (n + 1) [t] = N := ⟨_, rfl⟩
    rw [hN] at hc81 HSZ hpos HLN
    have HN : Hid (cnt (n + 1) [t] = N) := hN
    clear HD HE hq hrg hN hdeep
    go_wp2_with fail
    refine (Calls.mono HSZ.out ?_)
    rintro e w3 ⟨rfl, hb3⟩
    have hx3 := (hb3.block _ (blk_lt hx2)).trans hx2
    have hy3 := (hb3.block _ (blk_lt hy2)).trans hy2
    have hB3 : Below w.heap.size w w3 := hB2.trans (hb3.mono hB2.size)
    have e0 : w3.cell? ⟨w.heap.size, 0, none⟩ = some (.bool t.text) := by rw [Lib.cell_of_heap hx3]; rfl
    have e1 : w3.cell? ⟨w.heap.size, 1, none⟩ = some (.string t.s) := by rw [Lib.cell_of_heap hx3]; rfl
    have e2 : w3.cell? ⟨w.heap.size, 2, none⟩ = some (.slice aa t.attrs.length ac) := by rw [Lib.cell_of_heap hx3]; rfl
    have e3 : w3.cell? ⟨w.heap.size, 3, none⟩ = some (.slice ka t.kids.length kc) := by rw [Lib.cell_of_heap hx3]; rfl
    clear HSZ hb3 d0 d1 d2 d3 p0 f0 hx2 hy2
    have hmk : (Instr.makeSlice 31 (.int .i64 (N : Int)) (.int .i64 (N : Int))).run Try.prog w3 = .ok (.slice (some ⟨w3.heap.size, 0, none⟩) N N) (w3.alloc (.cells (rawCells (List.replicate N zeroRw)).toArray 71)) := by
      obtain ⟨i0, hi, hz0, hz1, hz2⟩ := info_parts nodeInfo
      have := run_makeSlice (P := Try.prog) w3 31 71 i0 _ Try.underlying31 hi hz0 .i64 .i64 (N : Int) (N : Int) (by omega) (Int.le_refl _) (by rw [hz1]; simp; omega) (by rw [hz2]; omega) (by omega)
      rw [this, hz1, Int.toNat_natCast, madeRaw]
    have hb5 : Below w3.heap.size w3 ((w3.alloc (.cells (rawCells (List.replicate N zeroRw)).toArray 71)).alloc (.cells #[.int .i64 0] 3)) := (Below.alloc1 w3 _).alloc (by simp) _
    have hR5 : Row w3.heap.size (List.replicate N zeroRw) ((w3.alloc (.cells (rawCells (List.replicate N zeroRw)).toArray 71)).alloc (.cells #[.int .i64 0] 3)) := by
      unfold Row
      rw [Lib.alloc_old _ _ _ (by simp)]
      exact heap_alloc_new _ _
    have hC5 : Cnt (w3.heap.size + 1) 0 ((w3.alloc (.cells (rawCells (List.replicate N zeroRw)).toArray 71)).alloc (.cells #[.int .i64 0] 3)) := by
      have e := heap_alloc_new (w3.alloc (.cells (rawCells (List.replicate N zeroRw)).toArray 71)) (.cells #[.int .i64 0] 3)
      rw [World.size_alloc] at e
      exact e
    have hz5 : ((w3.alloc (.cells (rawCells (List.replicate N zeroRw)).toArray 71)).alloc (.cells #[.int .i64 0] 3)).heap.size = w3.heap.size + 2 := by simp
    have HMK : Hid _ := hmk
    have HRP : Hid ((List.replicate N zeroRw).length = N) := by show _ = _; simp
    obtain ⟨ms0, hms0⟩ : ∃ ms0, List.replicate N zeroRw = ms0 := ⟨_, rfl⟩
    rw [hms0] at hmk hb5 hR5 hC5 hz5 HRP
    clear hms0 HMK
    have e0a : (w3.alloc (.cells (rawCells ms0).toArray 71)).cell? ⟨w.heap.size, 0, none⟩ = some (.bool t.text) := Lib.cell?_alloc_some _ e0
    have e1a : (w3.alloc (.cells (rawCells ms0).toArray 71)).cell? ⟨w.heap.size, 1, none⟩ = some (.string t.s) := Lib.cell?_alloc_some _ e1
    have e2a : (w3.alloc (.cells (rawCells ms0).toArray 71)).cell? ⟨w.heap.size, 2, none⟩ = some (.slice aa t.attrs.length ac) := Lib.cell?_alloc_some _ e2
    have e3a : (w3.alloc (.cells (rawCells ms0).toArray 71)).cell? ⟨w.heap.size, 3, none⟩ = some (.slice ka t.kids.length kc) := Lib.cell?_alloc_some _ e3
    have e0b : ((w3.alloc (.cells (rawCells ms0).toArray 71)).alloc (.cells #[.int .i64 0] 3)).cell? ⟨w.heap.size, 0, none⟩ = some (.bool t.text) := Lib.cell?_alloc_some _ e0a
    have e1b : ((w3.alloc (.cells (rawCells ms0).toArray 71)).alloc (.cells #[.int .i64 0] 3)).cell? ⟨w.heap.size, 1, none⟩ = some (.string t.s) := Lib.cell?_alloc_some _ e1a
    have e2b : ((w3.alloc (.cells (rawCells ms0).toArray 71)).alloc (.cells #[.int .i64 0] 3)).cell? ⟨w.heap.size, 2, none⟩ = some (.slice aa t.attrs.length ac) := Lib.cell?_alloc_some _ e2a
    have e3b : ((w3.alloc (.cells (rawCells ms0).toArray 71)).alloc (.cells #[.int .i64 0] 3)).cell? ⟨w.heap.size, 3, none⟩ = some (.slice ka t.kids.length kc) := Lib.cell?_alloc_some _ e3a
    have hs3 := hB3.size
    have hB5 : Below w.heap.size w _ := hB3.trans (hb5.mono hs3)
    have hcall := lay_any n S _ _ t (-1) w3.heap.size (w3.heap.size + 1) 0 ms0 _ (HA.out.later hB5) (Trees.later hB5 n HK.out) (fun b hb => ⟨by have := HS.out b hb; rw [hz5]; omega, by have := HS.out b hb; omega, by have := HS.out b hb; omega⟩) (by omega) hR5 hC5 (by rw [HN.out, HRP.out]; omega) (by rw [HRP.out]; omega) HFW.out
    rw [HRP.out] at hcall
    have HCALL : Hid _ := hcall
    have HZ5 : Hid _ := hz5
    clear hcall hR5 hC5 hz5 e0 e1 e2 e3
    go_wp2_with fail
    refine (Calls.mono HCALL.out ?_)
    rintro e w6 ⟨rfl, ms', hR6, hl6, hC6, _, hL6, hF6⟩
    have hz := HZ5.out
    have hy5 : w6.heap[w.heap.size + 1]? = some (.cells #[.slice none 0 0] 33 (0, 0)) := by
      have h1 := blk_lt hy3
      rw [hF6.frame (w.heap.size + 1) (by rw [hz]; omega) (by omega) (by omega), hb5.block _ h1]
      exact hy3
    have p0 : w6.cell? ⟨w.heap.size + 1, 0, none⟩ = some (.slice none 0 0) := by rw [Lib.cell_of_heap hy5]; rfl
    have f0 : w6.frozen? ⟨w.heap.size + 1, 0, none⟩ = false := Lib.frozen_of_heap hy5 0
    have hB6 : Below w.heap.size w w6 := ⟨hF6.below.os.trans hB5.os, hF6.below.tape.trans hB5.tape, hF6.below.output.trans hB5.output, Nat.le_trans hB5.size hF6.below.size, fun k hk => by rw [hF6.frame k (by rw [hz]; omega) (by omega) (by omega)]; exact hB5.block k hk⟩
    have hnb := blk_lt hR6
    have hlen6 : ms'.length = N := hl6
    have hND : Nodes (fun b => w.heap.size + 2 ≤ b) w6 (.slice (some ⟨w3.heap.size, 0, none⟩) N N) (layF n t (-1) 0) := by
      have h1 := blk_lt hy3
      have := nodes_of_row (S := fun b => w.heap.size + 2 ≤ b) hR6 (by rw [HLN.out, hlen6]) (hL6.carry (fun b hb _ => ⟨by have h2 : ((w3.alloc (.cells (rawCells ms0).toArray 71)).alloc (.cells #[.int .i64 0] 3)).heap.size ≤ b := hb; rw [hz] at h2; omega, rfl⟩) (fun _ _ _ => rfl)) (by show w.heap.size + 2 ≤ w3.heap.size; omega) (by omega)
      rw [hlen6] at this
      exact this
    clear HCALL hR6 hL6 hC6 hF6 hb5 e0a e1a e2a e3a e0b e1b e2b e3b hmk hB5
    go_wp2_with fail
    refine bodyPost_ret (v := .tuple #[.agg #[.slice (some ⟨w3.heap.size, 0, none⟩) N N], .int .i64 0]) (by simp [results, Try.results15, go_sem, cell_set, p0]) rfl ⟨.slice (some ⟨w3.heap.size, 0, none⟩) N N, by rw [HE2.out], ?_, ?_⟩
    · rw [HD2.out]
      exact hND.carry fun b hb => ⟨by omega, blk_set_ne (by omega)⟩
    · exact hB6.setCell (p := ⟨w.heap.size + 1, 0, none⟩) (Nat.le_succ _) _
end Go.Proofs.Ytmbmfomeiioijaa

/- What doc answers of a document that is made of a good tree: on plain data. No condition. -/
namespace Go.Proofs.Ytmbmfomeiioijaa
open Go.RowKit
set_option maxRecDepth 100000

theorem flat_lay : ∀ (d : Nat) (t : Tr) (par : Int) (at' : Nat), Deep d t.kids → (layF d t par at').flatMap txt = (if t.text then t.s.data.toList else []) ++ tell d t.kids := by
  intro d
  induction d with
  | zero => intro t par at' _; simp [layF, txt, tell]
  | succ d ih =>
    intro t par at' hd
    rw [layF, List.flatMap_cons]
    have key : ∀ (ks : List Tr) (a : Nat), Deep (d + 1) ks → (laysOf d (layF d) at' a ks).flatMap txt = tell (d + 1) ks := by
      intro ks
      induction ks with
      | nil => intro a _; rfl
      | cons k ks ihk =>
        intro a hdk
        rw [laysOf, List.flatMap_append, ih k _ _ (hdk k List.mem_cons_self), ihk _ (fun u hu => hdk u (List.mem_cons_of_mem _ hu))]
        simp [tell]
    rw [key t.kids (at' + 1) hd]
    rfl

theorem made_good {n : Nat} {t : Tr} (hd : Deep n t.kids) (hg : goodB t = true) : goodD (layF n t (-1) 0) = true ∧ growF (layF n t (-1) 0).length (layF n t (-1) 0) 0 = t ∧ endD (layF n t (-1) 0) 0 = ((cnt (n + 1) [t] : Nat) : Int) ∧ (layF n t (-1) 0).length = cnt (n + 1) [t] := by
  have hlen := layF_length n t (-1) 0 hd
  have hseg := seg_self (layF n t (-1) 0)
  have hg2 := hg
  rw [goodB_eq hd] at hg2
  simp only [Bool.and_eq_true, Bool.not_eq_true', decide_eq_true_eq] at hg2
  obtain ⟨⟨_, hc⟩, _⟩ := hg2
  have hgr := grow_lay n t (layF n t (-1) 0).length (layF n t (-1) 0) (-1) 0 hd hseg (by omega)
  have hor := ord_lay n t ((layF n t (-1) 0).length + 1) (layF n t (-1) 0) (-1) 0 hd hseg (by omega)
  have hla := last_lay n t (layF n t (-1) 0).length (layF n t (-1) 0) (-1) 0 hd hseg (by omega)
  have hgd : goodD (layF n t (-1) 0) = true := by
    unfold goodD orderly
    rw [hor, hgr, hg, hlen]
    simp
    omega
  refine ⟨hgd, hgr, ?_, hlen⟩
  unfold endD
  have hpos : 0 < cnt (n + 1) [t] := by rw [cnt_one]; omega
  have ham : amongB (layF n t (-1) 0) 0 = true := by unfold amongB; rw [hlen]; simp; omega
  rw [hgd, ham]
  simp only [Bool.and_self, if_true, Int.toNat_zero]
  omega

theorem made_str {n : Nat} {t : Tr} (hd : Deep n t.kids) (hg : goodB t = true) : strD (layF n t (-1) 0) 0 = tell (n + 1) [t] := by
  obtain ⟨_, _, he, hl⟩ := made_good hd hg
  unfold strD
  rw [he]
  have hpos : 0 < cnt (n + 1) [t] := by rw [cnt_one]; omega
  rw [if_neg (by omega), Int.toNat_natCast, ← hl, List.take_length]
  simp only [Int.toNat_zero, List.drop_zero]
  rw [flat_lay n t _ _ hd]
  simp [tell]

/-- What holds of each tree, however deep. -/
def AllN (Q : Tr → Prop) : Nat → List Tr → Prop
  | 0, _ => True
  | n + 1, ts => ∀ t ∈ ts, Q t ∧ AllN Q n t.kids

theorem lay_all {P : Nd → Prop} (Q : Tr → Prop) (hP : ∀ t p ks, Q t → P ⟨t.text, t.s, t.attrs, p, ks⟩) : ∀ (d : Nat) (t : Tr) (par : Int) (at' : Nat), (∀ e, d + 1 = e → AllN Q e [t]) → ∀ x ∈ layF d t par at', P x := by
  intro d
  induction d with
  | zero =>
    intro t par at' h x hx
    simp only [layF, List.mem_singleton] at hx
    subst hx
    exact hP t _ _ ((h 1 rfl) t List.mem_cons_self).1
  | succ d ih =>
    intro t par at' h x hx
    rw [layF, List.mem_cons] at hx
    have ht := (h (d + 1 + 1) rfl) t List.mem_cons_self
    rcases hx with rfl | hx
    · exact hP t _ _ ht.1
    · have key : ∀ (ks : List Tr) (a : Nat), AllN Q (d + 1) ks → x ∈ laysOf d (layF d) at' a ks → P x := by
        intro ks
        induction ks with
        | nil => intro a _ hx; simp [laysOf] at hx
        | cons k ks ihk =>
          intro a hq hx
          rw [laysOf, List.mem_append] at hx
          rcases hx with hx | hx
          · refine ih k _ _ (fun e he => ?_) x hx
            subst he
            intro u hu
            simp only [List.mem_singleton] at hu
            subst hu
            exact hq _ List.mem_cons_self
          · exact ihk _ (fun u hu => hq u (List.mem_cons_of_mem _ hu)) hx
      exact key t.kids _ ht.2 hx
end Go.Proofs.Ytmbmfomeiioijaa

/- The closed sentence 'docs' of the package topiarykeep is true. No condition. -/
namespace Go.Proofs.Ytmbmfomeiioijaa
open Go.ChangeShapes Go.WideShapes Go.ChangeAt Go.RowKit
set_option maxRecDepth 100000

attribute [local go_sem] cell_set

def docsT : Tr := ⟨false, ⟨#[97]⟩, [], [⟨false, ⟨#[98]⟩, [], [⟨true, ⟨#[120]⟩, [], []⟩]⟩, ⟨false, ⟨#[99]⟩, [], []⟩]⟩
def docsN : List Nd := [⟨false, ⟨#[97]⟩, [], -1, [1, 3]⟩, ⟨false, ⟨#[98]⟩, [], 0, [2]⟩, ⟨true, ⟨#[120]⟩, [], 1, []⟩, ⟨false, ⟨#[99]⟩, [], 0, []⟩]

theorem docs_good : goodB docsT = true := by kernel_rfl
theorem docs_made : makeD 2 docsT = docsN := by kernel_rfl
theorem docs_end : endD docsN 1 = 3 := by kernel_rfl
theorem docs_str : strD docsN 0 = [120] := by kernel_rfl
theorem docs_in : inD docsN 2 1 = true := by kernel_rfl

theorem docs_texts : TextsN 3 [docsT] := by
  intro t ht
  simp only [List.mem_singleton] at ht
  subst ht
  refine ⟨⟨by show 1 ≤ maxLen; unfold maxLen; omega, by intro x hx; simp [docsT] at hx⟩, fun u hu => ?_⟩
  simp only [docsT, List.mem_cons, List.not_mem_nil, or_false] at hu
  rcases hu with rfl | rfl
  · refine ⟨⟨by show 1 ≤ maxLen; unfold maxLen; omega, by intro x hx; simp at hx⟩, fun z hz => ?_⟩
    simp only [List.mem_singleton] at hz
    subst hz
    exact ⟨⟨by show 1 ≤ maxLen; unfold maxLen; omega, by intro x hx; simp at hx⟩, trivial⟩
  · exact ⟨⟨by show 1 ≤ maxLen; unfold maxLen; omega, by intro x hx; simp at hx⟩, fun z hz => by simp at hz⟩

theorem docsV {S : Nat → Prop} {w : World} {v : Value} (h : Nodes S w v docsN) (hS : ∀ b, S b → b < w.heap.size) : DocV S w v docsN := by
  refine ⟨h, hS, fun x hx => ?_, fun x hx => ?_⟩
  · simp only [docsN, List.mem_cons, List.not_mem_nil, or_false] at hx
    rcases hx with rfl | rfl | rfl | rfl <;> exact Nat.zero_le _
  · simp only [docsN, List.mem_cons, List.not_mem_nil, or_false] at hx
    rcases hx with rfl | rfl | rfl | rfl <;> exact ⟨by show 1 ≤ maxLen; unfold maxLen; omega, by intro y hy; simp at hy⟩

set_option maxHeartbeats 1000000 in
theorem docsK_any (w : World) : Calls Try.prog 16 #[] w fun e w' => e = .returned (.bool true) ∧ Below w.heap.size w w' := by
  go_enter Try.func16, Try.ntmps16
  go_wp2_with fail
  have hb1 : Below w.heap.size w ((w.alloc (.cells #[.bool true, .string ⟨#[120]⟩, .slice none 0 0, .slice none 0 0] 29)).alloc (.cells #[.bool false, .string ⟨#[98]⟩, .slice none 0 0, .slice (some ⟨w.heap.size, 0, none⟩) 1 1, .bool false, .string ⟨#[99]⟩, .slice none 0 0, .slice none 0 0] 29)) := (Below.alloc1 w _).alloc (by simp) _
  have hx1 : ((w.alloc (.cells #[.bool true, .string ⟨#[120]⟩, .slice none 0 0, .slice none 0 0] 29)).alloc (.cells #[.bool false, .string ⟨#[98]⟩, .slice none 0 0, .slice (some ⟨w.heap.size, 0, none⟩) 1 1, .bool false, .string ⟨#[99]⟩, .slice none 0 0, .slice none 0 0] 29)).heap[w.heap.size]? = some (.cells #[.bool true, .string ⟨#[120]⟩, .slice none 0 0, .slice none 0 0] 29 (0, 0)) := by
    rw [Lib.alloc_old _ _ _ (by simp)]; exact heap_alloc_new _ _
  have hy1 : ((w.alloc (.cells #[.bool true, .string ⟨#[120]⟩, .slice none 0 0, .slice none 0 0] 29)).alloc (.cells #[.bool false, .string ⟨#[98]⟩, .slice none 0 0, .slice (some ⟨w.heap.size, 0, none⟩) 1 1, .bool false, .string ⟨#[99]⟩, .slice none 0 0, .slice none 0 0] 29)).heap[w.heap.size + 1]? = some (.cells #[.bool false, .string ⟨#[98]⟩, .slice none 0 0, .slice (some ⟨w.heap.size, 0, none⟩) 1 1, .bool false, .string ⟨#[99]⟩, .slice none 0 0, .slice none 0 0] 29 (0, 0)) := by
    have e := heap_alloc_new (w.alloc (.cells #[.bool true, .string ⟨#[120]⟩, .slice none 0 0, .slice none 0 0] 29)) (.cells #[.bool false, .string ⟨#[98]⟩, .slice none 0 0, .slice (some ⟨w.heap.size, 0, none⟩) 1 1, .bool false, .string ⟨#[99]⟩, .slice none 0 0, .slice none 0 0] 29)
    rw [World.size_alloc] at e
    exact e
  have hz1 : ((w.alloc (.cells #[.bool true, .string ⟨#[120]⟩, .slice none 0 0, .slice none 0 0] 29)).alloc (.cells #[.bool false, .string ⟨#[98]⟩, .slice none 0 0, .slice (some ⟨w.heap.size, 0, none⟩) 1 1, .bool false, .string ⟨#[99]⟩, .slice none 0 0, .slice none 0 0] 29)).heap.size = w.heap.size + 2 := by simp
  generalize ((w.alloc (.cells #[.bool true, .string ⟨#[120]⟩, .slice none 0 0, .slice none 0 0] 29)).alloc (.cells #[.bool false, .string ⟨#[98]⟩, .slice none 0 0, .slice (some ⟨w.heap.size, 0, none⟩) 1 1, .bool false, .string ⟨#[99]⟩, .slice none 0 0, .slice none 0 0] 29)) = W1 at hb1 hx1 hy1 hz1 ⊢
  have hT1 : Trees (fun b => False ∨ b = w.heap.size) W1 1 (.slice (some ⟨w.heap.size, 0, none⟩) 1 1) [⟨true, ⟨#[120]⟩, [], []⟩] :=
    Trees.of_block (qs := [(true, ⟨#[120]⟩, .slice none 0 0, .slice none 0 0)]) hx1 rfl rfl rfl (Nat.le_refl _) (by unfold maxLen; omega) (by
      intro i q t hq ht
      match i, hq, ht with
      | 0, hq, ht =>
        simp at hq ht
        subst hq ht
        exact ⟨rfl, rfl, Attrs.nil, rfl, none, 0, rfl, Nat.zero_le _⟩
      | i + 1, hq, _ => simp at hq)
  have hT2 : Trees (fun b => (False ∨ b = w.heap.size) ∨ b = w.heap.size + 1) W1 2 (.slice (some ⟨w.heap.size + 1, 0, none⟩) 2 2) docsT.kids :=
    Trees.of_block (qs := [(false, ⟨#[98]⟩, .slice none 0 0, .slice (some ⟨w.heap.size, 0, none⟩) 1 1), (false, ⟨#[99]⟩, .slice none 0 0, .slice none 0 0)]) hy1 rfl rfl rfl (Nat.le_refl _) (by unfold maxLen; omega) (by
      intro i q t hq ht
      match i, hq, ht with
      | 0, hq, ht =>
        simp [docsT] at hq ht
        subst hq ht
        exact ⟨rfl, rfl, Attrs.nil, hT1⟩
      | 1, hq, ht =>
        simp [docsT] at hq ht
        subst hq ht
        exact ⟨rfl, rfl, Attrs.nil, Trees.nil _ ⟨none, 0, rfl, Nat.zero_le _⟩⟩
      | i + 2, hq, _ => simp at hq)
  have hmk := make_any _ 2 (.slice none 0 0) _ docsT W1 Attrs.nil hT2 docs_texts (by intro b hb; rw [hz1]; rcases hb with (hb | hb) | hb; exact hb.elim; omega; omega)
  rw [docs_made, show makeE docsT = 0 by unfold makeE; rw [docs_good]; rfl] at hmk
  have HMK : Hid _ := hmk
  clear hmk hT1 hT2 hx1 hy1
  refine (Calls.mono HMK.out ?_)
  rintro e w2 ⟨v, rfl, hN2, hb2⟩
  have hB2 : Below w.heap.size w w2 := hb1.trans (hb2.mono hb1.size)
  obtain ⟨na, nc, rfl, _, _⟩ := hN2.shape
  have hb3 := Below.alloc1 w2 (.cells #[.slice na docsN.length nc] 33)
  have hx3 := heap_alloc_new w2 (.cells #[.slice na docsN.length nc] 33)
  have hN3 := (hN2.later hb3).bounded
  have hV3 := docsV hN3 (fun b hb => hb.2)
  have hB3 : Below w.heap.size w _ := hB2.trans (hb3.mono hB2.size)
  have hE := endD_any _ _ docsN 1 _ hV3
  rw [docs_end] at hE
  have HE : Hid _ := hE
  clear HMK hE hN2
  go_wp2_with fail
  generalize w2.alloc (.cells #[.slice na docsN.length nc] 33) = W3 at *
  refine (Calls.mono HE.out ?_)
  rintro e w4 ⟨rfl, hb4⟩
  have hx4 := (hb4.block _ (blk_lt hx3)).trans hx3
  have d4 : w4.cell? ⟨w2.heap.size, 0, none⟩ = some (.slice na docsN.length nc) := by rw [Lib.cell_of_heap hx4]; rfl
  have hV4 := hV3.later hb4
  have hB4 : Below w.heap.size w w4 := hB3.trans (hb4.mono hB3.size)
  have hS := strD_any _ _ docsN 0 w4 hV4 (by decide)
  rw [docs_str] at hS
  have HSS : Hid _ := hS
  clear hS HE
  go_wp2_with fail
  refine (Calls.mono HSS.out ?_)
  rintro e w5 ⟨rfl, hb5⟩
  have hx5 := (hb5.block _ (blk_lt hx4)).trans hx4
  have d5 : w5.cell? ⟨w2.heap.size, 0, none⟩ = some (.slice na docsN.length nc) := by rw [Lib.cell_of_heap hx5]; rfl
  have hV5 := hV4.later hb5
  have hB5 : Below w.heap.size w w5 := hB4.trans (hb5.mono hB4.size)
  have hI := inD_any _ _ docsN 2 1 w5 hV5
  rw [docs_in] at hI
  have HI : Hid _ := hI
  clear hI HSS
  go_wp2_with fail
  refine (Calls.mono HI.out ?_)
  rintro e w6 ⟨rfl, hb6⟩
  have hB6 : Below w.heap.size w w6 := hB5.trans (hb6.mono hB5.size)
  go_wp2_with fail
  go_ret
  exact ⟨rfl, hB6⟩
end Go.Proofs.Ytmbmfomeiioijaa

/- topiarykeep.DocBack answers true. Condition: texts of at most 2^63 letters. -/
namespace Go.Proofs.Ytmbmfomeiioijaa
open Go.ChangeShapes Go.WideShapes Go.ChangeAt Go.RowKit
set_option maxRecDepth 100000

attribute [local go_sem] cell_set

theorem texts_all : ∀ (n : Nat) (ts : List Tr), TextsN n ts → AllN Texts n ts := by
  intro n
  induction n with
  | zero => intro _ _; trivial
  | succ n ih => intro ts h t ht; exact ⟨(h t ht).1, ih _ (h t ht).2⟩

theorem few_all : ∀ (n : Nat) (ts : List Tr), FewN n ts → AllN (fun t => t.attrs.length ≤ 1048576) n ts := by
  intro n
  induction n with
  | zero => intro _ _; trivial
  | succ n ih => intro ts h t ht; exact ⟨(h t ht).1, ih _ (h t ht).2⟩

theorem rgL_forty {n : Nat} (hf : ∀ k, rgt n k = true → AllN (fun t => t.s.size ≤ 40) n k) : ∀ (ts : List Tr) (p : Bool), rgL (rgt n) p ts = true → AllN (fun t => t.s.size ≤ 40) (n + 1) ts := by
  intro ts
  induction ts with
  | nil => intro p _ t ht; simp at ht
  | cons x r ih =>
    intro p h t ht
    unfold rgL at h
    simp only [Bool.and_eq_true] at h
    rw [List.mem_cons] at ht
    rcases ht with rfl | ht
    · have h1 := h.1.1.1
      unfold rightB at h1
      cases htx : t.text with
      | true =>
        simp only [htx, if_true, Bool.and_eq_true, decide_eq_true_eq] at h1
        have hk : t.kids = [] := List.eq_nil_of_length_eq_zero h1.2
        refine ⟨?_, ?_⟩
        · have h2 := h1.1.1.2
          simp only [plainB, Bool.and_eq_true, decide_eq_true_eq] at h2
          exact h2.1
        · rw [hk]
          cases n with
          | zero => trivial
          | succ n => intro u hu; simp at hu
      | false =>
        simp only [htx, Bool.false_eq_true, if_false, Bool.and_eq_true] at h1
        have h2 := h1.1
        simp only [nameB, Bool.and_eq_true, decide_eq_true_eq] at h2
        refine ⟨by show t.s.size ≤ 40; omega, hf _ ?_⟩
        have := h.1.2
        simpa [htx] using this
    · exact ih x.text h.2 t ht

theorem rgt_forty : ∀ (n : Nat) (ts : List Tr), rgt n ts = true → AllN (fun t => t.s.size ≤ 40) n ts := by
  intro n
  induction n with
  | zero => intro ts _; trivial
  | succ n ih => intro ts h; exact rgL_forty ih ts false h

theorem sum_forty (l : List Nd) (h : ∀ x ∈ l, x.s.size ≤ 40) : (l.map fun x => x.s.size).sum ≤ 40 * l.length := by
  induction l with
  | nil => simp
  | cons x r ih =>
    have h1 := ih (fun y hy => h y (List.mem_cons_of_mem _ hy))
    have h2 := h x List.mem_cons_self
    simp only [List.map_cons, List.sum_cons, List.length_cons]
    omega

/-- What is known of a document that is made of a good tree. -/
structure Made (n : Nat) (t : Tr) (N : Nat) : Prop where
  good : goodD (layF n t (-1) 0) = true
  grow : growF (layF n t (-1) 0).length (layF n t (-1) 0) 0 = t
  ends : endD (layF n t (-1) 0) 0 = (N : Int)
  len : (layF n t (-1) 0).length = N
  str : strD (layF n t (-1) 0) 0 = tell (n + 1) [t]
  few : ∀ x ∈ layF n t (-1) 0, x.attrs.length ≤ 1048576
  short : TextsD (layF n t (-1) 0)
  sum : ((layF n t (-1) 0).map fun x => x.s.size).sum ≤ 3200
  told : (tell (n + 1) [t]).length ≤ 1048576
  pos : 0 < N
  le : N ≤ 80

theorem made_all {n : Nat} {t : Tr} (hd : Deep n t.kids) (hg : goodB t = true) (hx : TextsN (n + 1) [t]) : Made n t (cnt (n + 1) [t]) := by
  obtain ⟨h1, h2, h3, h4⟩ := made_good hd hg
  have hg2 := hg
  rw [goodB_eq hd] at hg2
  simp only [Bool.and_eq_true, Bool.not_eq_true', decide_eq_true_eq] at hg2
  obtain ⟨⟨_, hc⟩, hr⟩ := hg2
  have hf := lay_all (P := fun x => x.attrs.length ≤ 1048576) (fun t => t.attrs.length ≤ 1048576) (fun t p ks h => h) n t (-1) 0 (fun e he => by subst he; exact few_all _ _ (rgt_few _ _ hr))
  have ht := lay_all (P := fun x => x.s.size ≤ maxLen ∧ ∀ y ∈ x.attrs, y.1.size ≤ maxLen ∧ y.2.size ≤ maxLen) Texts (fun t p ks h => h) n t (-1) 0 (fun e he => by subst he; exact texts_all _ _ hx)
  have hs := lay_all (P := fun x => x.s.size ≤ 40) (fun t => t.s.size ≤ 40) (fun t p ks h => h) n t (-1) 0 (fun e he => by subst he; exact rgt_forty _ _ hr)
  have hsum := sum_forty _ hs
  have hstr := made_str hd hg
  have hsum2 : ((layF n t (-1) 0).map fun x => x.s.size).sum ≤ 3200 := by rw [h4] at hsum; omega
  refine ⟨h1, h2, h3, h4, hstr, hf, ht, hsum2, ?_, by rw [cnt_one]; omega, by omega⟩
  have e : tell (n + 1) [t] = (layF n t (-1) 0).flatMap txt := by rw [flat_lay n t _ _ hd]; simp [tell]
  rw [e]
  have := flat_take (layF n t (-1) 0) (layF n t (-1) 0).length
  rw [List.take_length] at this
  omega

theorem Trees.upTo {S : Nat → Prop} {w : World} {n : Nat} {v : Value} {ts : List Tr} (h : Trees S w n v ts) : ∀ {m : Nat}, n ≤ m → Trees S w m v ts := by
  intro m hm
  induction hm with
  | refl => exact h
  | step _ ih => exact Trees.deeper _ ih

theorem sameB_any (n : Nat) : SameOk n := same_of n (sames_any n)

set_option maxHeartbeats 2000000 in
theorem docBack_any (S : Nat → Prop) (n : Nat) (va vk : Value) (t : Tr) (w : World) (hA : Attrs S w va t.attrs) (hK : Trees S w n vk t.kids) (hx : TextsN (n + 1) [t]) (hS : ∀ b, S b → b < w.heap.size) :
    Calls Try.prog 5 #[.agg #[.bool t.text, .string t.s, va, vk]] w fun e w' => e = .returned (.bool true) ∧ Below w.heap.size w w' := by
  obtain ⟨aa, ac, rfl⟩ := hA.shape
  obtain ⟨ka, kc, rfl, _, _⟩ := Trees.shape n hK
  have hb1 := Below.alloc1 w (.cells #[.bool t.text, .string t.s, .slice aa t.attrs.length ac, .slice ka t.kids.length kc] 29)
  have hX1 := Box4.start w (.bool t.text) (.string t.s) (.slice aa t.attrs.length ac) (.slice ka t.kids.length kc) 29
  have HMK : Hid _ := make_any S n _ _ t _ (hA.later hb1) (Trees.later hb1 n hK) hx (fun b hb => by have := hS b hb; have := hb1.size; omega)
  have HAK : Hid (∀ W, Below w.heap.size w W → Attrs S W (.slice aa t.attrs.length ac) t.attrs ∧ Trees S W n (.slice ka t.kids.length kc) t.kids) := fun W hW => ⟨hA.later hW, Trees.later hW n hK⟩
  have HX : Hid (TextsN (n + 1) [t]) := hx
  have HD : Hid (Deep n t.kids) := Trees.deep n hK
  clear hA hK hx
  go_enter Try.func5, Try.ntmps5
  go_wp2_with fail
  refine (Calls.mono HMK.out ?_)
  rintro e w2 ⟨v, rfl, hN2, hb2⟩
  have hB2 : Below w.heap.size w w2 := hb1.trans (hb2.mono hb1.size)
  obtain ⟨na, nc, rfl, _, _⟩ := hN2.shape
  have hX2 := hX1.later hb2 hX1.lt
  have hb3 := Below.alloc1 w2 (.cells #[.slice na (makeD n t).length nc] 33)
  have hy3 := heap_alloc_new w2 (.cells #[.slice na (makeD n t).length nc] 33)
  have hX3 := hX2.later hb3 hX2.lt
  have hB3 : Below w.heap.size w _ := hB2.trans (hb3.mono hB2.size)
  have hN3 := (hN2.later hb3).bounded
  have HDC : Hid (∀ W, Calls Try.prog 16 #[] W fun e w' => e = .returned (.bool true) ∧ Below W.heap.size W w') := docsK_any
  clear HMK hb1 hX1 hX2 hN2
  cases hg : goodB t with
  | false =>
    have HMD : Hid (makeD n t = []) := by show _ = _; unfold makeD; rw [hg]; rfl
    have hme : makeE t = 1 := by unfold makeE; rw [hg]; rfl
    rw [HMD.out] at hN3 hy3 hX3 hB3 hb3 ⊢
    rw [hme]
    have hln : ([] : List Nd).length = 0 := rfl
    rw [hln] at hy3 hX3 hB3 hb3 ⊢
    have HG : Hid _ := good_any S n _ _ t _ (HAK.out _ hB3).1 (HAK.out _ hB3).2 HX.out
    rw [hg] at HG
    have f0 := hX3.at0
    have f1 := hX3.at1
    have f2 := hX3.at2
    have f3 := hX3.at3
    clear hme hN3
    go_wp2_with fail
    refine (Calls.mono HG.out ?_)
    rintro e w4 ⟨rfl, hb4⟩
    have hB4 : Below w.heap.size w w4 := hB3.trans (hb4.mono hB3.size)
    clear HG
    go_wp2_with fail
    refine (Calls.mono (HDC.out w4) ?_)
    rintro e w5 ⟨rfl, hb5⟩
    have hB5 : Below w.heap.size w w5 := hB4.trans (hb5.mono hB4.size)
    go_wp2_with fail
    go_ret
    exact ⟨rfl, hB5⟩
  | true =>
    have HM : Hid (Made n t (cnt (n + 1) [t])) := made_all HD.out hg HX.out
    have HMD : Hid (makeD n t = layF n t (-1) 0) := by show _ = _; unfold makeD; rw [hg]; rfl
    have hme : makeE t = 0 := by unfold makeE; rw [hg]; rfl
    rw [HMD.out] at hN3 hy3 hX3 hB3 hb3 ⊢
    rw [hme]
    have HV : Hid _ := DocV.mk hN3 (fun b hb => hb.2) (fun x hx => Nat.le_trans (HM.out.few x hx) (by decide)) HM.out.short
    have HSZ : Hid (∀ W, Below w.heap.size w W → Calls Try.prog 19 #[.agg #[.bool t.text, .string t.s, .slice aa t.attrs.length ac, .slice ka t.kids.length kc]] W fun e w' => e = .returned (.tuple #[.int .i64 (dep (n + 1) [t] : Int), .int .i64 (cnt (n + 1) [t] : Int)]) ∧ Below W.heap.size W w') :=
      fun W hW => size_any S n _ _ t W (HAK.out _ hW).1 (HAK.out _ hW).2 (by have := HM.out.le; omega)
    obtain ⟨N, hN⟩ : ∃ N, cnt (n + 1) [t] = N := ⟨_, rfl⟩
    rw [hN] at HM HSZ
    obtain ⟨L, hL⟩ : ∃ L, layF n t (-1) 0 = L := ⟨_, rfl⟩
    have HML : Hid (goodD L = true ∧ growF L.length L 0 = t ∧ endD L 0 = (N : Int) ∧ L.length = N ∧ strD L 0 = tell (n + 1) [t] ∧ (L.map fun x => x.s.size).sum ≤ 3200) := by
      rw [← hL]; exact ⟨HM.out.good, HM.out.grow, HM.out.ends, HM.out.len, HM.out.str, HM.out.sum⟩
    rw [hL] at HV hy3 hX3 hB3 hb3 ⊢
    have HTR : Hid (treeD L 0 = (t, 0)) := by
      show _ = _
      unfold treeD
      have hpos := HM.out.pos
      have ham : amongB L 0 = true := by unfold amongB; rw [HML.out.2.2.2.1]; simp; omega
      rw [HML.out.1, ham]
      simp only [if_true, Int.toNat_zero]
      rw [HML.out.2.1]
    have hLN : L.length = N := HML.out.2.2.2.1
    rw [hLN] at HV hy3 hX3 hB3 hb3 ⊢
    have hTL := HM.out.told
    clear hme hN3 hL hN HMD hg
    go_wp2_with fail
    generalize w2.alloc (.cells #[.slice na N nc] 33) = W3 at *
    refine (Calls.mono (HDC.out W3) ?_)
    rintro e w4 ⟨rfl, hb4⟩
    have hX4 := hX3.later hb4 hX3.lt
    have hy4 := (hb4.block _ (blk_lt hy3)).trans hy3
    have hB4 : Below w.heap.size w w4 := hB3.trans (hb4.mono hB3.size)
    have hV4 := HV.out.later hb4
    have d4 : w4.cell? ⟨w2.heap.size, 0, none⟩ = some (.slice na N nc) := by rw [Lib.cell_of_heap hy4]; rfl
    have hT4 := treeD_any _ _ L 0 w4 hV4
    rw [HTR.out] at hT4
    have HT4 : Hid _ := hT4
    clear hT4 hX3 hy3 hB3 HV hb3
    go_wp2_with fail
    refine (Calls.mono HT4.out ?_)
    rintro e w5 ⟨va5, vk5, rfl, hA5, hK5, hb5⟩
    obtain ⟨a5, c5, rfl⟩ := hA5.shape
    obtain ⟨k5, d5, rfl, _, _⟩ := Trees.shape L.length hK5
    have hb6 := Below.alloc1 w5 (.cells #[.bool t.text, .string t.s, .slice a5 t.attrs.length c5, .slice k5 t.kids.length d5] 29)
    have hZ6 := Box4.start w5 (.bool t.text) (.string t.s) (.slice a5 t.attrs.length c5) (.slice k5 t.kids.length d5) 29
    have hX6 := (hX4.later hb5 hX4.lt).later hb6 (Nat.lt_of_lt_of_le hX4.lt hb5.size)
    have hy6 := (hb6.block _ (Nat.lt_of_lt_of_le (blk_lt hy4) hb5.size)).trans ((hb5.block _ (blk_lt hy4)).trans hy4)
    have hB6 : Below w.heap.size w _ := (hB4.trans (hb5.mono hB4.size)).trans (hb6.mono (Nat.le_trans hB4.size hb5.size))
    have hV6 := (hV4.later hb5).later hb6
    have hA6 := hA5.later hb6
    have hK6 := Trees.later hb6 L.length hK5
    have f0 := hX6.at0
    have f1 := hX6.at1
    have f2 := hX6.at2
    have f3 := hX6.at3
    clear HT4 hA5 hK5 hV4 hX4 hy4 d4 hb4 hb5
    have hZb : w5.heap.size < (w5.alloc (.cells #[.bool t.text, .string t.s, .slice a5 t.attrs.length c5, .slice k5 t.kids.length d5] 29)).heap.size := by simp
    go_wp2_with fail
    generalize w5.alloc (.cells #[.bool t.text, .string t.s, .slice a5 t.attrs.length c5, .slice k5 t.kids.length d5] 29) = W6 at *
    refine (Calls.mono (HSZ.out W6 hB6) ?_)
    rintro e W7 ⟨rfl, hb7⟩
    have HC : Hid (∀ W, Below W6.heap.size W6 W → Below W6.heap.size W6 W ∧
        W.cell? ⟨w.heap.size, 0, none⟩ = some (.bool t.text) ∧ W.cell? ⟨w.heap.size, 1, none⟩ = some (.string t.s) ∧ W.cell? ⟨w.heap.size, 2, none⟩ = some (.slice aa t.attrs.length ac) ∧ W.cell? ⟨w.heap.size, 3, none⟩ = some (.slice ka t.kids.length kc) ∧
        W.cell? ⟨w2.heap.size, 0, none⟩ = some (.slice na N nc) ∧
        W.cell? ⟨w5.heap.size, 0, none⟩ = some (.bool t.text) ∧ W.cell? ⟨w5.heap.size, 1, none⟩ = some (.string t.s) ∧ W.cell? ⟨w5.heap.size, 2, none⟩ = some (.slice a5 t.attrs.length c5) ∧ W.cell? ⟨w5.heap.size, 3, none⟩ = some (.slice k5 t.kids.length d5)) := by
      intro W h
      have hq := hX6.later h hX6.lt
      have hz := hZ6.later h hZ6.lt
      have hyw := (h.block _ (blk_lt hy6)).trans hy6
      exact ⟨h, hq.at0, hq.at1, hq.at2, hq.at3, by rw [Lib.cell_of_heap hyw]; rfl, hz.at0, hz.at1, hz.at2, hz.at3⟩
    have HW : Hid (∀ W, Below W6.heap.size W6 W → Below w.heap.size w W) := fun W h => hB6.trans (h.mono hB6.size)
    have HSM : Hid (∀ W, Below W6.heap.size W6 W → Calls Try.prog 20 #[.agg #[.bool t.text, .string t.s, .slice aa t.attrs.length ac, .slice ka t.kids.length kc], .agg #[.bool t.text, .string t.s, .slice a5 t.attrs.length c5, .slice k5 t.kids.length d5]] W fun e w' => e = .returned (.bool true) ∧ Below W.heap.size W w') :=
      fun W h => sameB_any (n + L.length) _ _ t.text t.s _ _ _ _ t.attrs t.kids W (HAK.out W (HW.out W h)).1 (hA6.later h) (Trees.upTo (HAK.out W (HW.out W h)).2 (Nat.le_add_right _ _)) (Trees.upTo (Trees.later h L.length hK6) (Nat.le_add_left _ _))
    have HGD : Hid (∀ W, Below W6.heap.size W6 W → Calls Try.prog 21 #[.agg #[.slice na N nc]] W fun e w' => e = .returned (.bool true) ∧ Below W.heap.size W w') := by
      intro W h
      have := (hV6.later h).good
      rw [HML.out.1] at this
      exact this
    have HEN : Hid (∀ W, Below W6.heap.size W6 W → Calls Try.prog 22 #[.agg #[.slice na N nc], .int .i64 0] W fun e w' => e = .returned (.int .i64 (N : Int)) ∧ Below W.heap.size W w') := by
      intro W h
      have := endD_any _ _ L 0 W (hV6.later h)
      rw [HML.out.2.2.1] at this
      exact this
    have HST : Hid (∀ W, Below W6.heap.size W6 W → Calls Try.prog 23 #[.agg #[.slice na N nc], .int .i64 0] W fun e w' => e = .returned (.string (sOf (tell (n + 1) [t]))) ∧ Below W.heap.size W w') := by
      intro W h
      have := strD_any _ _ L 0 W (hV6.later h) (by have := HML.out.2.2.2.2.2; omega)
      rw [HML.out.2.2.2.2.1] at this
      exact this
    have HTD : Hid (∀ W W', Below W6.heap.size W6 W → Below (W.alloc (.cells #[.bool t.text, .string t.s, .slice aa t.attrs.length ac, .slice ka t.kids.length kc] 29)).heap.size (W.alloc (.cells #[.bool t.text, .string t.s, .slice aa t.attrs.length ac, .slice ka t.kids.length kc] 29)) W' →
        Calls Try.prog 13 #[.slice (some ⟨W.heap.size, 0, none⟩) 1 1] W' fun e w' => e = .returned (.string (sOf (tell (n + 1) [t]))) ∧ Below W'.heap.size W' w') := by
      intro W W' h h'
      have hbb := Below.alloc1 W (.cells #[.bool t.text, .string t.s, .slice aa t.attrs.length ac, .slice ka t.kids.length kc] 29)
      have hak := HAK.out _ ((HW.out W h).trans (hbb.mono (HW.out W h).size))
      have hT := Trees.of_block (S := S) (n := n) (ts := [t]) (qs := [(t.text, t.s, .slice aa t.attrs.length ac, .slice ka t.kids.length kc)]) (heap_alloc_new W (.cells #[.bool t.text, .string t.s, .slice aa t.attrs.length ac, .slice ka t.kids.length kc] 29)) rfl rfl rfl (Nat.le_refl 1) (by unfold maxLen; omega) (by
        intro i q u hq hu
        match i, hq, hu with
        | 0, hq, hu =>
          simp at hq hu
          subst hq hu
          exact ⟨rfl, rfl, hak.1, hak.2⟩
        | i + 1, hq, _ => simp at hq)
      exact told_any (n + 1) _ _ [t] W' (Trees.later h' (n + 1) hT) hTL
    have HAL : Hid (∀ W, Below W6.heap.size W6 W → Below W6.heap.size W6 (W.alloc (.cells #[.bool t.text, .string t.s, .slice aa t.attrs.length ac, .slice ka t.kids.length kc] 29))) := fun W h => h.alloc h.size _
    have hbn := hb7.drew
    have hNN : ((N : Int) == (N : Int)) = true := by simp
    obtain ⟨ts, hts⟩ : ∃ ts, sOf (tell (n + 1) [t]) = ts := ⟨_, rfl⟩
    rw [hts] at HST HTD
    have hss : (ts.toList == ts.toList) = true := by simp
    have h7s := hb7.size
    clear hts f0 f1 f2 f3 hA6 hK6 hV6 hX6 hZ6 hy6 hB6 HSZ HM HML HTR HX HD HDC hTL hb7 hZb hb6
    go_wp2_with fail
    go_region_held3 (fun W : World => Below W6.heap.size W6 W ∧
        W.cell? ⟨w.heap.size, 0, none⟩ = some (.bool t.text) ∧ W.cell? ⟨w.heap.size, 1, none⟩ = some (.string t.s) ∧ W.cell? ⟨w.heap.size, 2, none⟩ = some (.slice aa t.attrs.length ac) ∧ W.cell? ⟨w.heap.size, 3, none⟩ = some (.slice ka t.kids.length kc) ∧
        W.cell? ⟨w2.heap.size, 0, none⟩ = some (.slice na N nc) ∧
        W.cell? ⟨w5.heap.size, 0, none⟩ = some (.bool t.text) ∧ W.cell? ⟨w5.heap.size, 1, none⟩ = some (.string t.s) ∧ W.cell? ⟨w5.heap.size, 2, none⟩ = some (.slice a5 t.attrs.length c5) ∧ W.cell? ⟨w5.heap.size, 3, none⟩ = some (.slice k5 t.kids.length d5))
      (first
        | with_reducible exact HC.out _ hbn
        | with_reducible exact HC.out _ (HAL.out _ hbn))
      (first
        | (go_at_call 20; refine (Calls.mono (HSM.out _ hbn) ?_); rintro e W8 ⟨rfl, hb8⟩; have hbn := hbn.trans (hb8.mono hbn.size))
        | (go_at_call 21; refine (Calls.mono (HGD.out _ hbn) ?_); rintro e W8 ⟨rfl, hb8⟩; have hbn := hbn.trans (hb8.mono hbn.size))
        | (go_at_call 22; refine (Calls.mono (HEN.out _ hbn) ?_); rintro e W8 ⟨rfl, hb8⟩; have hbn := hbn.trans (hb8.mono hbn.size))
        | (go_at_call 23; refine (Calls.mono (HST.out _ hbn) ?_); rintro e W8 ⟨rfl, hb8⟩; have hbn := hbn.trans (hb8.mono hbn.size))
        | (go_at_call 23; refine (Calls.mono (HST.out _ (HAL.out _ hbn)) ?_); rintro e W8 ⟨rfl, hbS⟩; have hbq := hbn; have hbn := (HAL.out _ hbn).trans (hbS.mono (HAL.out _ hbn).size))
        | (go_at_call 13; refine (Calls.mono (HTD.out _ _ hbq hbS) ?_); rintro e W8 ⟨rfl, hb8⟩; have hbn := hbn.trans (hb8.mono hbn.size))
        | (go_at_call 13; refine (Calls.mono (HTD.out _ _ hbn (Below.refl _ _)) ?_); rintro e W8 ⟨rfl, hb8⟩; have hbn := (HAL.out _ hbn).trans (hb8.mono (HAL.out _ hbn).size)))
    all_goals
      go_wp2_with fail
      go_ret
      exact ⟨rfl, HW.out _ hbn⟩
end Go.Proofs.Ytmbmfomeiioijaa

