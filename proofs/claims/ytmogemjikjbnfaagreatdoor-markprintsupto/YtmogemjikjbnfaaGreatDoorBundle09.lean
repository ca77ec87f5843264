/- Bundled: PrintT SizeM ContM Print RefSize. What each says stands ahead of it. -/
import Derived.Test.YtmogemjikjbnfaaGreatDoorBundle06
import Derived.Test.YtmogemjikjbnfaaGreatDoorBundle08
/- mark.printTree: a tree is written behind what was there. Condition: less than 2^40 letters. -/
namespace Go.Proofs.YtmogemjikjbnfaaGreatDoor
open Go.ChangeShapes Go.WideShapes Go.ChangeAt Go.RowKit
set_option maxRecDepth 100000

theorem data_append (a b : ByteArray) : (a ++ b).data.toList = a.data.toList ++ b.data.toList := by
  rw [ByteArray.data_append]; simp

theorem Bd.str {B b : Nat} {l m : List UInt8} {s : ByteArray} {v : Value} {w : World} (h : Bd B b (Lib.byteCells l ++ Lib.strCells s) v w) (hs : s.data.toList = m) : Bd B b (Lib.byteCells (l ++ m)) v w := by
  rw [Lib.byteCells_append, ← hs]; exact h

theorem markL_more (v : Bool) (l : List UInt8) : l.length ≤ (markL v l).length := by
  induction l with
  | nil => simp
  | cons c r ih =>
    have h1 : 1 ≤ (markC v c).length := by
      unfold markC
      split
      · simp
      split
      · simp
      split
      · simp
      split
      · simp
      · simp
    have h2 : (markL v (c :: r)).length = (markC v c).length + (markL v r).length := by simp [markL]
    rw [h2, List.length_cons]; omega

theorem size_data (s : ByteArray) : s.data.toList.length = s.size := rfl

/-- A box of cells of the call's own outlives what is written into a Builder. -/
theorem BFr.cell {B b : Nat} {v v' : Value} {w w' : World} (h : BFr B b v w v' w') {x o : Nat} (hx : x < w.heap.size) (hb : x ≠ b) (hv : v.ownBlock ≠ some x) : w'.cell? ⟨x, o, none⟩ = w.cell? ⟨x, o, none⟩ :=
  World.cell?_of_block (a := ⟨x, o, none⟩) (h.frame x hx hb hv)

def PrintOk (n : Nat) : Prop := ∀ (S : Nat → Prop) (B b : Nat) (bs : List UInt8) (bv : Value) (va vk : Value) (t : Tr) (w : World), (∀ x, S x → x < w.heap.size ∧ x ≠ b ∧ bv.ownBlock ≠ some x) → Attrs S w va t.attrs → Trees S w n vk t.kids → Bd B b (Lib.byteCells bs) bv w → Marks w → 0 < B → B ≤ w.heap.size → bs.length + 6 * (oneP (showL n t.kids) t).length ≤ 1099511627776 →
  Calls Tryz.prog 15 #[.pointer (some ⟨b, 0, none⟩), .agg #[.bool t.text, .string t.s, va, vk]] w fun e w' => e = .returned (.tuple #[]) ∧ ∃ bv', Bd B b (Lib.byteCells (bs ++ oneP (showL n t.kids) t)) bv' w' ∧ BFr B b bv w bv' w'

theorem flat_snoc (l : List (ByteArray × ByteArray)) (x : ByteArray × ByteArray) : (l ++ [x]).flatMap attrP = l.flatMap attrP ++ attrP x := by simp

theorem flat_le {l : List (ByteArray × ByteArray)} {k : Nat} : ((l.take k).flatMap attrP).length ≤ (l.flatMap attrP).length := by
  have e : l.flatMap attrP = (l.take k).flatMap attrP ++ (l.drop k).flatMap attrP := by rw [← List.flatMap_append, List.take_append_drop]
  rw [e, List.length_append]; omega

theorem show_le {n : Nat} {l : List Tr} {k : Nat} : (showL (n + 1) (l.take k)).length ≤ (showL (n + 1) l).length := by
  have e : showL (n + 1) l = showL (n + 1) (l.take k) ++ showL (n + 1) (l.drop k) := by unfold showL; rw [← List.flatMap_append, List.take_append_drop]
  rw [e, List.length_append]; omega

theorem attrP_len (x : ByteArray × ByteArray) : (attrP x).length = 1 + x.1.size + 2 + (markL true x.2.data.toList).length + 1 := by
  simp [attrP]; omega

theorem print_text (n : Nat) (S : Nat → Prop) (B b : Nat) (bs : List UInt8) (bv : Value) (va vk : Value) (s : ByteArray) (l : List (ByteArray × ByteArray)) (ks : List Tr) (w : World) (hA : Attrs S w va l) (hK : Trees S w n vk ks) (hBd : Bd B b (Lib.byteCells bs) bv w) (hM : Marks w) (hgB : 0 < B) (hBw : B ≤ w.heap.size)
    (hlen : bs.length + 6 * (markL false s.data.toList).length ≤ 1099511627776) :
    Calls Tryz.prog 15 #[.pointer (some ⟨b, 0, none⟩), .agg #[.bool true, .string s, va, vk]] w fun e w' => e = .returned (.tuple #[]) ∧ ∃ bv', Bd B b (Lib.byteCells (bs ++ markL false s.data.toList)) bv' w' ∧ BFr B b bv w bv' w' := by
  obtain ⟨aa, ac, rfl⟩ := hA.shape
  obtain ⟨ka, kc, rfl, _, hkm⟩ := Trees.shape n hK
  have hb1 := Below.alloc1 w (.cells #[.bool true, .string s, .slice aa l.length ac, .slice ka ks.length kc] 25)
  have HC : Hid _ := printMarked_any false B b bs s bv (w.alloc (.cells #[.bool true, .string s, .slice aa l.length ac, .slice ka ks.length kc] 25)) (hBd.later hb1) (hM.later hb1 hM.lt) hgB (by simp; omega) (by have := markL_more false s.data.toList; rw [size_data] at this; omega)
  have HF1 : Hid (BFr B b bv w bv (w.alloc (.cells #[.bool true, .string s, .slice aa l.length ac, .slice ka ks.length kc] 25))) := BFr.later hBw hb1
  clear hA hK hM hBd
  go_enter Tryz.func15, Tryz.ntmps15
  go_wp2_with fail
  refine (Calls.mono HC.out ?_)
  rintro e w2 ⟨rfl, bv2, hBd2, hF2⟩
  go_wp2_with fail
  go_returns
  exact ⟨rfl, bv2, hBd2, HF1.out.trans hF2⟩

set_option maxHeartbeats 2000000 in
theorem print_elem (n : Nat) (ih : ∀ m, n = m + 1 → PrintOk m) (S : Nat → Prop) (B b : Nat) (bs : List UInt8) (bv : Value) (va vk : Value) (s : ByteArray) (l : List (ByteArray × ByteArray)) (ks : List Tr) (w : World) (hS : ∀ x, S x → x < w.heap.size ∧ x ≠ b ∧ bv.ownBlock ≠ some x) (hA : Attrs S w va l) (hK : Trees S w n vk ks) (hBd : Bd B b (Lib.byteCells bs) bv w) (hM : Marks w) (hgB : 0 < B) (hBw : B ≤ w.heap.size)
    (hlen : bs.length + 6 * (oneP (showL n ks) ⟨false, s, l, ks⟩).length ≤ 1099511627776) :
    Calls Tryz.prog 15 #[.pointer (some ⟨b, 0, none⟩), .agg #[.bool false, .string s, va, vk]] w fun e w' => e = .returned (.tuple #[]) ∧ ∃ bv', Bd B b (Lib.byteCells (bs ++ oneP (showL n ks) ⟨false, s, l, ks⟩)) bv' w' ∧ BFr B b bv w bv' w' := by
  have HIH : Hid (∀ m, n = m + 1 → PrintOk m) := ih
  have HS : Hid (∀ x, S x → x < w.heap.size ∧ x ≠ b ∧ bv.ownBlock ≠ some x) := hS
  have HA : Hid (Attrs S w va l) := hA
  have HK : Hid (Trees S w n vk ks) := hK
  have HM : Hid (Marks w) := hM
  have hblt := hBd.lt
  have HROW : Hid (∀ x, bv.ownBlock = some x → x < w.heap.size) := hBd.rowLt
  have hL1 : bs.length + 6 * (1 + s.size + (l.flatMap attrP).length + 2) ≤ 1099511627776 := by
    have : 1 + s.size + (l.flatMap attrP).length + 2 ≤ (oneP (showL n ks) ⟨false, s, l, ks⟩).length := by
      simp only [oneP, Bool.false_eq_true, if_false, List.length_append, List.length_cons, size_data]
      cases ks with
      | nil => simp; omega
      | cons k r => simp; omega
    omega
  obtain ⟨aa, ac, rfl⟩ := hA.shape
  obtain ⟨ka, kc, rfl, _, hkm⟩ := Trees.shape n hK
  obtain ⟨_, _, hae, _, ham, hacells⟩ := hA
  injection hae with hae1 _ hac
  subst hac
  subst hae1
  have HAC : Hid (l ≠ [] → ∃ b o, aa = some ⟨b, o, none⟩ ∧ S b ∧ ∀ i x, l[i]? = some x → w.cell? ⟨b, o + i * 2, none⟩ = some (.string x.1) ∧ w.cell? ⟨b, o + i * 2 + 1, none⟩ = some (.string x.2)) := hacells
  unfold maxLen at hkm ham
  have hb1 := Below.alloc1 w (.cells #[.bool false, .string s, .slice aa l.length ac, .slice ka ks.length kc] 25)
  have hX1 := Box4.start w (.bool false) (.string s) (.slice aa l.length ac) (.slice ka ks.length kc) 25
  have hsz1 : (w.alloc (.cells #[.bool false, .string s, .slice aa l.length ac, .slice ka ks.length kc] 25)).heap.size = w.heap.size + 1 := by simp
  have HBd1 : Hid (Bd B b (Lib.byteCells bs) bv (w.alloc (.cells #[.bool false, .string s, .slice aa l.length ac, .slice ka ks.length kc] 25))) := hBd.later hb1
  have hs40 : s.size ≤ 1099511627776 := by omega
  clear ih hS hK hM hBd hacells
  go_enter Tryz.func15, Tryz.ntmps15
  go_wp2_with fail
  have HL0 : Hid (oneP (showL n ks) ⟨false, s, l, ks⟩ = 60 :: s.data.toList ++ l.flatMap attrP ++ (if ks.isEmpty then [47, 62] else 62 :: showL n ks ++ [60, 47] ++ s.data.toList ++ [62])) := rfl
  generalize w.alloc (.cells #[.bool false, .string s, .slice aa l.length ac, .slice ka ks.length kc] 25) = W1 at hb1 hX1 hsz1 HBd1 ⊢
  have hBW1 : B ≤ W1.heap.size := by omega
  have HB1 : Hid (Below w.heap.size w W1) := hb1
  have HX1 : Hid (Box4 W1 w.heap.size (.bool false) (.string s) (.slice aa l.length ac) (.slice ka ks.length kc)) := hX1
  have HBX : Hid (∀ v' w', BFr B b bv W1 v' w' → w'.cell? ⟨w.heap.size, 1, none⟩ = some (.string s) ∧ w'.cell? ⟨w.heap.size, 2, none⟩ = some (.slice aa l.length ac) ∧ w'.cell? ⟨w.heap.size, 3, none⟩ = some (.slice ka ks.length kc)) := by
    intro v' w' hF
    have h1 : w.heap.size < W1.heap.size := by omega
    have h2 : w.heap.size ≠ b := by omega
    have h3 : bv.ownBlock ≠ some w.heap.size := fun e => by have := HROW.out _ e; omega
    exact ⟨by rw [hF.cell h1 h2 h3]; exact HX1.out.at1, by rw [hF.cell h1 h2 h3]; exact HX1.out.at2, by rw [hF.cell h1 h2 h3]; exact HX1.out.at3⟩
  have HKEEP : Hid (∀ v' w', BFr B b bv W1 v' w' → ∀ x, S x → w'.heap[x]? = w.heap[x]?) := by
    intro v' w' hF x hx
    obtain ⟨h1, h2, h3⟩ := HS.out x hx
    rw [hF.frame x (by omega) h2 h3, HB1.out.block x h1]
  have HMK : Hid (∀ v' w', BFr B b bv W1 v' w' → Marks w') := fun v' w' hF => (HM.out.later HB1.out HM.out.lt).later hF.below hgB
  have HF0 : Hid (BFr B b bv w bv W1) := BFr.later hBw hb1
  have hw1 := bWrite_F B b (Lib.byteCells bs) bv (⟨#[60]⟩ ++ s) W1 HBd1.out (by
    rw [Lib.byteCells_length, ByteArray.size_append]
    show bs.length + (1 + s.size) ≤ _
    omega) hBW1
  refine (Calls.mono hw1 ?_)
  rintro e w2 ⟨rfl, bv2, hBd2, hF2⟩
  have HBd2 : Hid (Bd B b (Lib.byteCells (bs ++ 60 :: s.data.toList)) bv2 w2) := hBd2.str (by rw [data_append]; rfl)
  obtain ⟨_, y2, _⟩ := HBX.out _ _ hF2
  clear hw1 hX1 hb1 hBd2 HBd1
  go_wp2_with fail
  go_loopg [22] l.length (fun g i wr => ∃ (k : Nat) (bw : Value), k + g = l.length ∧ i = .int .i64 k ∧ Bd B b (Lib.byteCells (bs ++ 60 :: s.data.toList ++ (l.take k).flatMap attrP)) bw wr ∧ BFr B b bv W1 bw wr)
  case atStart => exact ⟨0, bv2, by omega, rfl, by simpa using HBd2.out, hF2⟩
  case round =>
    obtain ⟨k, bw, hk, rfl, hBdk, hFk⟩ := hrel
    have HBdk : Hid (Bd B b (Lib.byteCells (bs ++ 60 :: s.data.toList ++ (l.take k).flatMap attrP)) bw wr) := hBdk
    have HFk : Hid (BFr B b bv W1 bw wr) := hFk
    have hszr := hFk.below.size
    clear hBdk hFk HBd2 hF2 y2
    by_cases hlt : k < l.length
    · have hne : l ≠ [] := by intro e; subst e; simp at hlt
      obtain ⟨ab, ao, rfl, hs, hcc⟩ := HAC.out hne
      obtain ⟨x, hx⟩ : ∃ x, l[k]? = some x := ⟨l[k], by simp [hlt]⟩
      obtain ⟨c0, c1⟩ := hcc k x hx
      have hkp := HKEEP.out _ _ HFk.out ab hs
      rw [← World.cell?_of_block (a := ⟨ab, ao + k * 2, none⟩) hkp] at c0
      rw [← World.cell?_of_block (a := ⟨ab, ao + k * 2 + 1, none⟩) hkp] at c1
      have hsn : l.take (k + 1) = l.take k ++ [x] := by
        rw [List.take_succ_eq_append_getElem hlt]; congr 2; simpa [hlt] using hx
      have hq1 : ((l.take k).flatMap attrP).length + (attrP x).length ≤ (l.flatMap attrP).length := by
        have := flat_le (l := l) (k := k + 1)
        rw [hsn, flat_snoc, List.length_append] at this
        exact this
      rw [attrP_len] at hq1
      have hmm := markL_more true x.2.data.toList
      rw [size_data] at hmm
      have HSN : Hid ((l.take (k + 1)).flatMap attrP = (l.take k).flatMap attrP ++ attrP x) := by show _ = _; rw [hsn, flat_snoc]
      have hlti : (k : Int) < (l.length : Int) := by omega
      have hx1 : x.1.size ≤ 1099511627776 := by omega
      have hbk := Below.alloc1 wr (.cells #[.string x.1, .string x.2] 47)
      have HBdA : Hid (Bd B b (Lib.byteCells (bs ++ 60 :: s.data.toList ++ (l.take k).flatMap attrP)) bw (wr.alloc (.cells #[.string x.1, .string x.2] 47))) := HBdk.out.later hbk
      have HFA : Hid (BFr B b bw wr bw (wr.alloc (.cells #[.string x.1, .string x.2] 47))) := BFr.later (by omega) hbk
      have hbx1 : (wr.alloc (.cells #[.string x.1, .string x.2] 47)).cell? ⟨wr.heap.size, 1, none⟩ = some (.string x.2) := by simp
      have hszA : (wr.alloc (.cells #[.string x.1, .string x.2] 47)).heap.size = wr.heap.size + 1 := by simp
      have hrk := HBdk.out.rowLt
      have hbw : b < wr.heap.size := HBdk.out.lt
      have hrn : bw.ownBlock ≠ some wr.heap.size := fun e => by have := hrk _ e; omega
      have HRN : Hid (bw.ownBlock ≠ some wr.heap.size) := hrn
      clear hcc hx hsn hkp hrk hrn hbk
      go_wp2_with fail
      generalize wr.alloc (.cells #[.string x.1, .string x.2] 47) = WA at HBdA HFA hbx1 hszA ⊢
      have hl3 : (Lib.byteCells (bs ++ 60 :: s.data.toList ++ (l.take k).flatMap attrP)).length = bs.length + (1 + s.size) + ((l.take k).flatMap attrP).length := by
        rw [Lib.byteCells_length]; simp; omega
      have hw3 := bWrite_F B b _ bw (⟨#[32]⟩ ++ x.1 ++ ⟨#[61, 34]⟩) WA HBdA.out (by
        rw [hl3, ByteArray.size_append, ByteArray.size_append]
        show _ + (1 + x.1.size + 2) ≤ _
        omega) (by omega)
      refine (Calls.mono hw3 ?_)
      rintro e w3 ⟨rfl, bv3, hBd3, hF3⟩
      have HBd3 : Hid (Bd B b (Lib.byteCells (bs ++ 60 :: s.data.toList ++ (l.take k).flatMap attrP ++ (32 :: x.1.data.toList ++ [61, 34]))) bv3 w3) := hBd3.str (by rw [data_append, data_append]; rfl)
      have z1 : w3.cell? ⟨wr.heap.size, 1, none⟩ = some (.string x.2) := by rw [hF3.cell (by omega) (by omega) HRN.out]; exact hbx1
      have HF3 : Hid (BFr B b bv W1 bv3 w3) := HFk.out.trans (HFA.out.trans hF3)
      have hs3 := hF3.below.size
      clear hw3 hBd3 hF3
      go_wp2_with fail
      have hw4 := printMarked_any true B b _ x.2 bv3 w3 HBd3.out (HMK.out _ _ HF3.out) hgB (by omega) (by
        have e : (bs ++ 60 :: s.data.toList ++ (l.take k).flatMap attrP ++ (32 :: x.1.data.toList ++ [61, 34])).length = bs.length + (1 + s.size) + ((l.take k).flatMap attrP).length + (1 + x.1.size + 2) := by simp; omega
        rw [e]; omega)
      refine (Calls.mono hw4 ?_)
      rintro e w4 ⟨rfl, bv4, hBd4, hF4⟩
      have HBd4 : Hid _ := hBd4
      have HF4 : Hid (BFr B b bv W1 bv4 w4) := HF3.out.trans hF4
      have hs4 := hF4.below.size
      clear hw4 hBd4 hF4
      go_wp2_with fail
      have hw5 := bWrite_F B b _ bv4 ⟨#[34]⟩ w4 HBd4.out (by
        have e : (Lib.byteCells (bs ++ 60 :: s.data.toList ++ (l.take k).flatMap attrP ++ (32 :: x.1.data.toList ++ [61, 34]) ++ markL true x.2.data.toList)).length = bs.length + (1 + s.size) + ((l.take k).flatMap attrP).length + (1 + x.1.size + 2) + (markL true x.2.data.toList).length := by rw [Lib.byteCells_length]; simp; omega
        rw [e]
        show _ + 1 ≤ _
        omega) (by omega)
      refine (Calls.mono hw5 ?_)
      rintro e w5 ⟨rfl, bv5, hBd5, hF5⟩
      have HBd5 : Hid (Bd B b (Lib.byteCells (bs ++ 60 :: s.data.toList ++ (l.take (k + 1)).flatMap attrP)) bv5 w5) := by
        have h := hBd5.str (m := [34]) rfl
        show Bd _ _ _ _ _
        rw [HSN.out]
        simpa [attrP] using h
      have HF5 : Hid (BFr B b bv W1 bv5 w5) := HF4.out.trans hF5
      clear hw5 hBd5 hF5
      go_wp2_with fail
      go_roundg (l.length - (k + 1))
      case measure => omega
      case rel => exact ⟨k + 1, bv5, by omega, by go_num, HBd5.out, HF5.out⟩
    · have hkk : k = l.length := by omega
      subst hkk
      have HBdE : Hid (Bd B b (Lib.byteCells (bs ++ 60 :: s.data.toList ++ l.flatMap attrP)) bw wr) := by have := HBdk.out; rw [List.take_length] at this; exact this
      obtain ⟨wo, hwo⟩ : ∃ wo, wo = wr := ⟨_, rfl⟩
      subst hwo
      obtain ⟨y1, y2, y3⟩ := HBX.out _ _ HFk.out
      have hlE : (Lib.byteCells (bs ++ 60 :: s.data.toList ++ l.flatMap attrP)).length = bs.length + (1 + s.size) + (l.flatMap attrP).length := by
        rw [Lib.byteCells_length]; simp; omega
      clear HBdk
      by_cases hks : ks = []
      · subst hks
        simp only [List.length_nil] at y3
        have hw6 := bWrite_F B b _ bw ⟨#[47, 62]⟩ wo HBdE.out (by rw [hlE]; show _ + 2 ≤ _; omega) (by omega)
        have HW6 : Hid _ := hw6
        clear hw6
        go_wp2_with fail
        refine (Calls.mono HW6.out ?_)
        rintro e w6 ⟨rfl, bv6, hBd6, hF6⟩
        go_wp2_with fail
        go_returns
        refine ⟨rfl, bv6, ?_, HF0.out.trans (HFk.out.trans hF6)⟩
        have h := hBd6.str (m := [47, 62]) rfl
        rw [HL0.out]
        simpa using h
      · have hk0 : ((ks.length : Int) == 0) = false := by
          have : ks.length ≠ 0 := fun e => hks (List.eq_nil_of_length_eq_zero e)
          have : (ks.length : Int) ≠ 0 := by omega
          simpa using this
        cases n with
        | zero => exact absurd HK.out.1 hks
        | succ m =>
        have hemp : ks.isEmpty = false := by cases ks with
          | nil => exact absurd rfl hks
          | cons _ _ => rfl
        have HL2 : Hid (bs.length + 6 * (1 + s.size + (l.flatMap attrP).length + (1 + (showL (m + 1) ks).length + 2 + s.size + 1)) ≤ 1099511627776) := by
          show _ ≤ _
          have e : (oneP (showL (m + 1) ks) ⟨false, s, l, ks⟩).length = 1 + s.size + (l.flatMap attrP).length + (1 + (showL (m + 1) ks).length + 2 + s.size + 1) := by
            rw [HL0.out, hemp]; simp; omega
          rw [e] at hlen; exact hlen
        have hL2 := HL2.out
        have hw6 := bWrite_F B b _ bw ⟨#[62]⟩ wo HBdE.out (by rw [hlE]; show _ + 1 ≤ _; omega) (by omega)
        have HW6 : Hid _ := hw6
        clear hw6
        go_wp2_with fail
        refine (Calls.mono HW6.out ?_)
        rintro e w6 ⟨rfl, bv6, hBd6, hF6⟩
        have HBd6 : Hid (Bd B b (Lib.byteCells (bs ++ 60 :: s.data.toList ++ l.flatMap attrP ++ [62])) bv6 w6) := hBd6.str (m := [62]) rfl
        have HF6 : Hid (BFr B b bv W1 bv6 w6) := HFk.out.trans hF6
        obtain ⟨_, _, y6⟩ := HBX.out _ _ HF6.out
        clear HW6 hBd6 hF6 y1 y2 y3 HBdE
        go_wp2_with fail
        go_loopg [50] ks.length (fun g i wr => ∃ (k : Nat) (bw : Value), k + g = ks.length ∧ i = .int .i64 k ∧ Bd B b (Lib.byteCells (bs ++ 60 :: s.data.toList ++ l.flatMap attrP ++ [62] ++ showL (m + 1) (ks.take k))) bw wr ∧ BFr B b bv W1 bw wr)
        case atStart => exact ⟨0, bv6, by omega, rfl, by simpa [showL] using HBd6.out, HF6.out⟩
        case round =>
          obtain ⟨k, bx, hk2, rfl, hBdk, hFx⟩ := hrel
          have HBdx : Hid (Bd B b (Lib.byteCells (bs ++ 60 :: s.data.toList ++ l.flatMap attrP ++ [62] ++ showL (m + 1) (ks.take k))) bx wr) := hBdk
          have HFx : Hid (BFr B b bv W1 bx wr) := hFx
          have hszx := hFx.below.size
          clear hBdk hFx HBd6 y6
          by_cases hlt : k < ks.length
          · obtain ⟨_, _, hve, _, _, h4⟩ := HK.out
            obtain ⟨kb, ko, hao, hs, hcc⟩ := h4 hks
            injection hve with e1 e2 e3
            subst e1
            subst hao
            obtain ⟨t, ht⟩ : ∃ t, ks[k]? = some t := ⟨ks[k], by simp [hlt]⟩
            obtain ⟨xa, xk, c0, c1, c2, c3, hat, hkt⟩ := hcc k t ht
            have hkeep := HKEEP.out _ _ HFx.out
            have hkp := hkeep kb hs
            rw [← World.cell?_of_block (a := ⟨kb, ko + k * 4, none⟩) hkp] at c0
            rw [← World.cell?_of_block (a := ⟨kb, ko + k * 4 + 1, none⟩) hkp] at c1
            rw [← World.cell?_of_block (a := ⟨kb, ko + k * 4 + 2, none⟩) hkp] at c2
            rw [← World.cell?_of_block (a := ⟨kb, ko + k * 4 + 3, none⟩) hkp] at c3
            have hatr : Attrs S wr xa t.attrs := Attrs.carry hat fun b hb => ⟨hb, hkeep b hb⟩
            have hktr : Trees S wr m xk t.kids := Trees.carry (fun b hb => ⟨hb, hkeep b hb⟩) m hkt
            have hsn : ks.take (k + 1) = ks.take k ++ [t] := by
              rw [List.take_succ_eq_append_getElem hlt]; congr 2; simpa [hlt] using ht
            have hq1 : (showL (m + 1) (ks.take k)).length + (oneP (showL m t.kids) t).length ≤ (showL (m + 1) ks).length := by
              have := show_le (n := m) (l := ks) (k := k + 1)
              rw [hsn, showL_snoc, List.length_append] at this
              exact this
            have HSN : Hid (showL (m + 1) (ks.take (k + 1)) = showL (m + 1) (ks.take k) ++ oneP (showL m t.kids) t) := by show _ = _; rw [hsn, showL_snoc]
            have hfree : ∀ x, S x → x < wr.heap.size + 1 ∧ x ≠ b ∧ bx.ownBlock ≠ some x := by
              intro x hx
              obtain ⟨h1, h2, h3⟩ := HS.out x hx
              exact ⟨by omega, h2, HFx.out.free (by omega) h3⟩
            have hbk : ∀ o, Below wr.heap.size wr (wr.alloc o) := fun o => Below.alloc1 wr o
            obtain ⟨ya, yc, rfl⟩ := hatr.shape
            obtain ⟨yk, ykc, rfl, _, _⟩ := Trees.shape m hktr
            have HCALL : Hid _ := HIH.out m rfl S B b _ bx _ _ t (wr.alloc (.cells #[.bool t.text, .string t.s, .slice ya t.attrs.length yc, .slice yk t.kids.length ykc] 25)) (by simpa using hfree) (hatr.later (hbk _)) (Trees.later (hbk _) m hktr) (HBdx.out.later (hbk _)) (HMK.out _ _ (HFx.out.trans (BFr.later (by omega) (hbk _)))) hgB (by simp; omega) (by
              have e : (bs ++ 60 :: s.data.toList ++ l.flatMap attrP ++ [62] ++ showL (m + 1) (ks.take k)).length = bs.length + (1 + s.size) + (l.flatMap attrP).length + 1 + (showL (m + 1) (ks.take k)).length := by simp; omega
              rw [e]; omega)
            have HFA : Hid (BFr B b bx wr bx (wr.alloc (.cells #[.bool t.text, .string t.s, .slice ya t.attrs.length yc, .slice yk t.kids.length ykc] 25))) := BFr.later (by omega) (hbk _)
            have hlti : (k : Int) < (ks.length : Int) := by omega
            clear hat hkt hcc h4 ht hsn hatr hktr hkeep hkp hbk hfree e2 e3
            go_wp2_with fail
            refine (Calls.mono HCALL.out ?_)
            rintro e w7 ⟨rfl, bv7, hBd7, hF7⟩
            have HBd7 : Hid _ := hBd7
            have HF7 : Hid (BFr B b bv W1 bv7 w7) := HFx.out.trans (HFA.out.trans hF7)
            clear hBd7 hF7 HCALL
            go_wp2_with fail
            go_roundg (ks.length - (k + 1))
            case measure => omega
            case rel =>
              refine ⟨k + 1, bv7, by omega, by go_num, ?_, HF7.out⟩
              rw [HSN.out, ← List.append_assoc]
              exact HBd7.out
          · have hkk : k = ks.length := by omega
            subst hkk
            obtain ⟨y1, _, _⟩ := HBX.out _ _ HFx.out
            have HBdE : Hid (Bd B b (Lib.byteCells (bs ++ 60 :: s.data.toList ++ l.flatMap attrP ++ [62] ++ showL (m + 1) ks)) bx wr) := by have := HBdx.out; rw [List.take_length] at this; exact this
            have HW8 : Hid _ := bWrite_F B b _ bx (⟨#[60, 47]⟩ ++ s ++ ⟨#[62]⟩) wr HBdE.out (by
              have e : (Lib.byteCells (bs ++ 60 :: s.data.toList ++ l.flatMap attrP ++ [62] ++ showL (m + 1) ks)).length = bs.length + (1 + s.size) + (l.flatMap attrP).length + 1 + (showL (m + 1) ks).length := by rw [Lib.byteCells_length]; simp; omega
              rw [e, ByteArray.size_append, ByteArray.size_append]
              show _ + (2 + s.size + 1) ≤ _
              omega) (by omega)
            clear HBdx
            go_wp2_with fail
            refine (Calls.mono HW8.out ?_)
            rintro e w8 ⟨rfl, bv8, hBd8, hF8⟩
            have h := hBd8.str (m := [60, 47] ++ s.data.toList ++ [62]) (by rw [data_append, data_append])
            go_wp2_with fail
            go_returns
            refine ⟨rfl, bv8, ?_, HF0.out.trans (HFx.out.trans hF8)⟩
            rw [HL0.out, hemp]
            simpa using h

theorem print_of (n : Nat) (ih : ∀ m, n = m + 1 → PrintOk m) : PrintOk n := by
  intro S B b bs bv va vk t w hS hA hK hBd hM hgB hBw hlen
  obtain ⟨tx, s, l, ks⟩ := t
  cases tx with
  | true => exact print_text n S B b bs bv va vk s l ks w hA hK hBd hM hgB hBw hlen
  | false => exact print_elem n ih S B b bs bv va vk s l ks w hS hA hK hBd hM hgB hBw hlen

theorem print_any (n : Nat) : PrintOk n := by
  induction n with
  | zero => exact print_of 0 (fun m h => by omega)
  | succ n ih => exact print_of (n + 1) (fun m h => by obtain rfl : n = m := by omega
                                                       exact ih)
end Go.Proofs.YtmogemjikjbnfaaGreatDoor

/- How deep trees are and how many, level by level; a list of trees that grows by whole lists. No condition. -/
namespace Go.Proofs.YtmogemjikjbnfaaGreatDoor
open Go.ChangeShapes Go.WideShapes Go.ChangeAt Go.RowKit
set_option maxRecDepth 100000

def dep : Nat → List Tr → Nat
  | 0, _ => 0
  | n + 1, ts => (ts.map fun t => 1 + dep n t.kids).foldr max 0

theorem dep_nil (n : Nat) : dep n [] = 0 := by cases n <;> rfl
theorem dep_cons (n : Nat) (t : Tr) (r : List Tr) : dep (n + 1) (t :: r) = max (1 + dep n t.kids) (dep (n + 1) r) := rfl

theorem dep_append (n : Nat) (a b : List Tr) : dep n (a ++ b) = max (dep n a) (dep n b) := by
  cases n with
  | zero => rfl
  | succ n =>
    induction a with
    | nil => simp [dep_nil]
    | cons t r ih => rw [List.cons_append, dep_cons, dep_cons, ih]; omega

theorem cnt_append (n : Nat) (a b : List Tr) : cnt n (a ++ b) = cnt n a + cnt n b := by
  cases n with
  | zero => rfl
  | succ n =>
    induction a with
    | nil => simp [cnt_nil]
    | cons t r ih => rw [List.cons_append, cnt_cons, cnt_cons, ih]; omega

theorem dep_cnt : ∀ (n : Nat) (ts : List Tr), dep n ts ≤ cnt n ts := by
  intro n
  induction n with
  | zero => intro ts; exact Nat.le_refl _
  | succ n ih =>
    intro ts
    induction ts with
    | nil => rw [dep_nil]; omega
    | cons t r ihr => rw [dep_cons, cnt_cons]; have := ih t.kids; omega

/-- The next level. -/
def nx (ts : List Tr) : List Tr := ts.flatMap fun t => t.kids

theorem nx_nil : nx [] = [] := rfl
theorem nx_cons (t : Tr) (r : List Tr) : nx (t :: r) = t.kids ++ nx r := by simp [nx]
theorem nx_append (a b : List Tr) : nx (a ++ b) = nx a ++ nx b := by simp [nx]

theorem cnt_nx (n : Nat) (ts : List Tr) : cnt (n + 1) ts = ts.length + cnt n (nx ts) := by
  induction ts with
  | nil => simp [cnt_nil, nx_nil]
  | cons t r ih => rw [cnt_cons, nx_cons, cnt_append, ih, List.length_cons]; omega

theorem dep_nx (n : Nat) (ts : List Tr) (h : ts ≠ []) : dep (n + 1) ts = 1 + dep n (nx ts) := by
  induction ts with
  | nil => exact absurd rfl h
  | cons t r ih =>
    rw [dep_cons, nx_cons, dep_append]
    by_cases hr : r = []
    · subst hr; rw [dep_nil, nx_nil, dep_nil]; omega
    · rw [ih hr]; omega

theorem Deep.nx {n : Nat} {ts : List Tr} (h : Deep (n + 1) ts) : Deep n (nx ts) := by
  cases n with
  | zero =>
    show Go.Proofs.YtmogemjikjbnfaaGreatDoor.nx ts = []
    induction ts with
    | nil => rfl
    | cons t r ih =>
      rw [nx_cons, ih (fun x hx => h x (List.mem_cons_of_mem _ hx))]
      have : t.kids = [] := h t (List.mem_cons_self ..)
      rw [this]; rfl
  | succ n =>
    intro x hx
    obtain ⟨t, ht, hxt⟩ := List.mem_flatMap.1 hx
    exact h t ht x hxt

theorem Deep.len {n : Nat} {ts : List Tr} (h : Deep n ts) : ts.length ≤ cnt n ts := by
  cases n with
  | zero =>
    have : ts = [] := h
    rw [this]; exact Nat.zero_le _
  | succ n => rw [cnt_nx]; omega

theorem pick_list {α : Type} {p : Nat → α → Prop} : ∀ (n : Nat), (∀ i, i < n → ∃ y, p i y) → ∃ l : List α, l.length = n ∧ ∀ i y, l[i]? = some y → p i y := by
  intro n
  induction n with
  | zero => intro _; exact ⟨[], rfl, fun i y h => by simp at h⟩
  | succ n ih =>
    intro h
    obtain ⟨l, hl, hp⟩ := ih (fun i hi => h i (by omega))
    obtain ⟨y, hy⟩ := h n (by omega)
    refine ⟨l ++ [y], by simp [hl], fun i z hz => ?_⟩
    rcases Nat.lt_or_ge i n with hi | hi
    · rw [List.getElem?_append_left (by omega)] at hz; exact hp i z hz
    · rw [List.getElem?_append_right (by omega), hl] at hz
      rcases Nat.eq_zero_or_pos (i - n) with h0 | h0
      · rw [h0] at hz; simp at hz; subst hz
        have : i = n := by omega
        rw [this]; exact hy
      · rw [List.getElem?_eq_none (by simp; omega)] at hz; cases hz

theorem quadCells_at {ps : List (Bool × ByteArray × Value × Value)} {j : Nat} {u : Value} (h : (quadCells ps)[j]? = some u) :
    ∃ i q, ps[i]? = some q ∧ ((j = i * 4 ∧ u = .bool q.1) ∨ (j = i * 4 + 1 ∧ u = .string q.2.1) ∨ (j = i * 4 + 2 ∧ u = q.2.2.1) ∨ (j = i * 4 + 3 ∧ u = q.2.2.2)) := by
  have hj : j < (quadCells ps).length := (List.getElem?_eq_some_iff.1 h).1
  rw [quadCells_length] at hj
  have hi : j / 4 < ps.length := by omega
  have hq : ps[j / 4]? = some ps[j / 4] := by simp
  obtain ⟨g0, g1, g2, g3⟩ := quadCells_get ps (j / 4) _ hq
  refine ⟨j / 4, ps[j / 4], hq, ?_⟩
  have hm : j % 4 = 0 ∨ j % 4 = 1 ∨ j % 4 = 2 ∨ j % 4 = 3 := by omega
  rcases hm with e | e | e | e
  · have hj' : j = j / 4 * 4 := by omega
    rw [← hj', h] at g0; exact Or.inl ⟨hj', by simpa using g0⟩
  · have hj' : j = j / 4 * 4 + 1 := by omega
    rw [← hj', h] at g1; exact Or.inr (Or.inl ⟨hj', by simpa using g1⟩)
  · have hj' : j = j / 4 * 4 + 2 := by omega
    rw [← hj', h] at g2; exact Or.inr (Or.inr (Or.inl ⟨hj', by simpa using g2⟩))
  · have hj' : j = j / 4 * 4 + 3 := by omega
    rw [← hj', h] at g3; exact Or.inr (Or.inr (Or.inr ⟨hj', by simpa using g3⟩))

/-- The four cells of each tree of a list that lies somewhere. -/
theorem Trees.quads {S : Nat → Prop} {w : World} {n : Nat} {ad : Addr} {len cap : Nat} {ts : List Tr} (h : Trees S w (n + 1) (.slice (some ad) len cap) ts) :
    ∃ ps : List (Bool × ByteArray × Value × Value), ps.length = ts.length ∧ (∀ j u, (quadCells ps)[j]? = some u → w.cell? (ad.add j) = some u) ∧ (∀ u ∈ quadCells ps, u.oneCell' = true) ∧
      ∀ (i : Nat) (q : Bool × ByteArray × Value × Value) (t : Tr), ps[i]? = some q → ts[i]? = some t → q.1 = t.text ∧ q.2.1 = t.s ∧ Attrs S w q.2.2.1 t.attrs ∧ Trees S w n q.2.2.2 t.kids := by
  obtain ⟨a, c, hv, h2, h3, h4⟩ := h
  by_cases hne : ts = []
  · subst hne
    exact ⟨[], rfl, fun j u hj => by simp [quadCells] at hj, fun u hu => by simp [quadCells] at hu, fun i q t hq => by simp at hq⟩
  obtain ⟨b, o, ha, hs, hc⟩ := h4 hne
  have had : ad = ⟨b, o, none⟩ := by
    rw [ha] at hv
    injection hv with h5
    injection h5
  obtain ⟨ps, hl, hp⟩ := pick_list (α := Bool × ByteArray × Value × Value) (p := fun i q => ∀ t, ts[i]? = some t →
      w.cell? ⟨b, o + i * 4, none⟩ = some (.bool q.1) ∧ w.cell? ⟨b, o + i * 4 + 1, none⟩ = some (.string q.2.1) ∧ w.cell? ⟨b, o + i * 4 + 2, none⟩ = some q.2.2.1 ∧ w.cell? ⟨b, o + i * 4 + 3, none⟩ = some q.2.2.2 ∧
      q.1 = t.text ∧ q.2.1 = t.s ∧ Attrs S w q.2.2.1 t.attrs ∧ Trees S w n q.2.2.2 t.kids) ts.length (by
    intro i hi
    have ht : ts[i]? = some ts[i] := by simp
    obtain ⟨va, vk, c0, c1, c2, c3, hat, hkt⟩ := hc i _ ht
    refine ⟨(ts[i].text, ts[i].s, va, vk), fun t ht' => ?_⟩
    rw [ht] at ht'; cases ht'
    exact ⟨c0, c1, c2, c3, rfl, rfl, hat, hkt⟩)
  have find : ∀ (i : Nat) (q : Bool × ByteArray × Value × Value), ps[i]? = some q → ∃ t, ts[i]? = some t := by
    intro i q hq
    have : i < ps.length := (List.getElem?_eq_some_iff.1 hq).1
    exact ⟨ts[i]'(by omega), by simp⟩
  refine ⟨ps, hl, ?_, ?_, ?_⟩
  · intro j u hj
    obtain ⟨i, q, hq, hu⟩ := quadCells_at hj
    obtain ⟨t, ht⟩ := find i q hq
    obtain ⟨c0, c1, c2, c3, _⟩ := hp i q hq t ht
    subst had
    rw [Addr.add_lit]
    rcases hu with ⟨rfl, rfl⟩ | ⟨rfl, rfl⟩ | ⟨rfl, rfl⟩ | ⟨rfl, rfl⟩
    · exact c0
    · exact c1
    · exact c2
    · exact c3
  · intro u hu
    obtain ⟨j, hj⟩ := List.mem_iff_getElem?.1 hu
    obtain ⟨i, q, hq, hu⟩ := quadCells_at hj
    obtain ⟨t, ht⟩ := find i q hq
    obtain ⟨_, _, _, _, _, _, hA, hT⟩ := hp i q hq t ht
    rcases hu with ⟨_, rfl⟩ | ⟨_, rfl⟩ | ⟨_, rfl⟩ | ⟨_, rfl⟩
    · rfl
    · rfl
    · obtain ⟨x, y, e⟩ := hA.shape; rw [e]; rfl
    · obtain ⟨x, y, e, _⟩ := Trees.shape n hT; rw [e]; rfl
  · intro i q t hq ht
    obtain ⟨_, _, _, _, r⟩ := hp i q hq t ht
    exact r

theorem Grow.many {S : Nat → Prop} {n B : Nat} {w w' : World} {v v' : Value} {us ts : List Tr} {qs ps : List (Bool × ByteArray × Value × Value)}
    (h : Grow S n B w v us qs) (hl : ps.length = ts.length) (hown : w'.ownsRow B 25 4 v' (us.length + ts.length) (quadCells qs ++ quadCells ps))
    (hg : w.grownBy w' v.ownBlock) (hat : v'.ownBlock = v.ownBlock ∨ v'.ownBlock = some w.heap.size)
    (he : ∀ (i : Nat) (q : Bool × ByteArray × Value × Value) (t : Tr), ps[i]? = some q → ts[i]? = some t → q.1 = t.text ∧ q.2.1 = t.s ∧ Attrs (Oth S B w v) w q.2.2.1 t.attrs ∧ Trees (Oth S B w v) w n q.2.2.2 t.kids) : Grow S n B w' v' (us ++ ts) (qs ++ ps) := by
  have carry : ∀ b, Oth S B w v b → Oth S B w' v' b ∧ w'.heap[b]? = w.heap[b]? := by
    intro b hb
    refine ⟨⟨hb.1, Nat.lt_of_lt_of_le hb.2.1 hg.size, ?_⟩, hg.block b hb.2.1 (fun e => hb.2.2 e.symm)⟩
    rcases hat with e | e
    · rw [e]; exact hb.2.2
    · rw [e]; intro e'; cases e'; exact Nat.lt_irrefl _ hb.2.1
  refine ⟨by simp [h.len, hl], ?_, ?_⟩
  · rw [quadCells_append, List.length_append]; exact hown
  · intro i q' t' hq ht
    rcases Nat.lt_or_ge i us.length with hi | hi
    · rw [List.getElem?_append_left (by rw [h.len]; exact hi)] at hq
      rw [List.getElem?_append_left hi] at ht
      obtain ⟨a, b, c, d⟩ := h.each i q' t' hq ht
      exact ⟨a, b, c.carry carry, Trees.carry carry n d⟩
    · rw [List.getElem?_append_right (by rw [h.len]; exact hi)] at hq
      rw [List.getElem?_append_right hi] at ht
      rw [h.len] at hq
      obtain ⟨a, b, c, d⟩ := he _ q' t' hq ht
      exact ⟨a, b, c.carry carry, Trees.carry carry n d⟩

/-- A list of trees appended onto one of our own. -/
theorem wpList_append_trees {ops : Array Oper} {rest : List Oper} {o : Oper} {a : Act} {w : World} {Q : Exit → Act → World → Prop} (hgd : o.guard = none) (s x : Operand)
    (ho : o.op = .call { callee := .builtin .append, args := #[s, x], argTypes := #[23, 23] })
    (S S1 : Nat → Prop) (n B : Nat) (v vk : Value) (us ts : List Tr) (qs : List (Bool × ByteArray × Value × Value)) (hs : a.eval s = v) (hG : Grow S n B w v us qs) (hx : a.eval x = vk) (hk : Trees S1 w (n + 1) vk ts)
    (hS : ∀ b, S1 b → Oth S B w v b) (hl : us.length + ts.length ≤ 1048576) (hB : B ≤ w.heap.size)
    (h : ∀ v' w' qs', Grow S n B w' v' (us ++ ts) qs' → Below B w w' → wpList Tryz.prog ops Q rest (a.put o.dst v') w') :
    wpList Tryz.prog ops Q (o :: rest) a w := by
  obtain ⟨i0, hi, hz0, hz1, hz2⟩ := info_parts treeInfo
  obtain ⟨ka, kc, rfl, hkc, hkm⟩ := Trees.shape (n + 1) hk
  cases ka with
  | none =>
    have hn : ts = [] := by
      apply Classical.byContradiction; intro hne
      obtain ⟨a, c, hv, _, _, h4⟩ := hk
      obtain ⟨b, o, ha, _⟩ := h4 hne
      rw [ha] at hv; cases hv
    subst hn
    refine wpList_plain hgd fun K hK => ?_
    have hrun : (Builtin.append_ #[23, 23] o.type #[v, .slice none 0 kc]).run Tryz.prog w = .ok v w := by
      rcases hG.own.2 with ⟨rfl, e⟩ | ⟨g, cap, cur, rfl, _, _, hnc, _⟩
      · simp [Builtin.append_, run_underlying Tryz.underlying23, sizeOf, typeInfo, hi, Builtin.lenOf, Builtin.firstCells]
      · simp [Builtin.append_, run_underlying Tryz.underlying23, sizeOf, typeInfo, hi, Builtin.lenOf, Builtin.firstCells, hnc, storeCells]
    simp only [List.length_nil] at hx
    unfold Oper.wp
    simp [execOp, ho, resolve, invoke, builtin, hs, hx, hrun, Result.andThen]
    exact hK _ _ (h v w qs (by rw [List.append_nil]; exact hG) (Below.refl _ _))
  | some ad =>
    obtain ⟨ps, hpl, hpc, hp1, hpe⟩ := Trees.quads hk
    refine wpList_append_own_at w hgd s x 23 ho B 25 i0 _ 4 72 Tryz.underlying23 hi hz0 hz1 hz2 rfl (by decide) v us.length (quadCells qs) hs hG.own ad ts.length kc (quadCells ps) hx ?_ hpc hp1 ?_ ?_ hB ?_
    · rw [quadCells_length, hpl]
    · unfold maxLen; omega
    · omega
    · intro v' w' hown hgr _ hat
      exact h v' w' _ (hG.many hpl hown hgr hat (fun i q t hq ht => by
        obtain ⟨a, b, c, d⟩ := hpe i q t hq ht
        exact ⟨a, b, c.carry (fun b hb => ⟨hS b hb, rfl⟩), Trees.carry (fun b hb => ⟨hS b hb, rfl⟩) n d⟩)) ((Below.refl _ w).grown hgr hB (fun k hk' => (hG.own.lt k hk').1))
end Go.Proofs.YtmogemjikjbnfaaGreatDoor

/- What tree.roomBehind leaves, in terms of depth, count and what is right. No condition. -/
namespace Go.Proofs.YtmogemjikjbnfaaGreatDoor
open Go.ChangeShapes Go.WideShapes Go.ChangeAt Go.RowKit
set_option maxRecDepth 100000

theorem rgt_nil (n : Nat) : rgt n [] = true := by cases n <;> rfl

theorem right_kids {n : Nat} {t : Tr} (h : rightB t = true) : (t.text || rgt n t.kids) = rgt n t.kids := by
  cases htt : t.text with
  | false => rfl
  | true =>
    have : t.kids = [] := by
      simp [rightB, htt] at h
      exact h.2
    rw [this, rgt_nil]; rfl

theorem rl_eq (d n : Nat) (f : Int → List Tr → Int)
    (hf : ∀ room k, 0 ≤ room → Deep n k → f room k = if dep n k ≤ d ∧ (cnt n k : Int) ≤ room ∧ rgt n k = true then room - cnt n k else -1) :
    ∀ (l : List Tr) (p : Bool) (room : Int), 0 ≤ room → Deep (n + 1) l →
      rl f p room l = if dep n (nx l) ≤ d ∧ (cnt n (nx l) : Int) ≤ room ∧ rgL (rgt n) p l = true then room - cnt n (nx l) else -1 := by
  intro l
  induction l with
  | nil =>
    intro p room h0 _
    rw [nx_nil, dep_nil, cnt_nil, if_pos ⟨Nat.zero_le _, by simpa using h0, rfl⟩]
    simp [rl]
  | cons t r ih =>
    intro p room h0 hd
    have hk : Deep n t.kids := hd t (List.mem_cons_self ..)
    have hr : Deep (n + 1) r := fun x hx => hd x (List.mem_cons_of_mem _ hx)
    rw [nx_cons, dep_append, cnt_append]
    unfold rl
    have hfk := hf room t.kids h0 hk
    by_cases hA : (!rightB t || (p && t.text)) = true
    · rw [if_pos hA, if_neg]
      rintro ⟨_, _, h3⟩
      unfold rgL at h3
      cases h1 : rightB t <;> cases h2 : (p && t.text) <;> simp [h1, h2] at hA h3
    · rw [if_neg hA]
      have h1 : rightB t = true := by cases h : rightB t <;> simp [h] at hA ⊢
      have h2 : (p && t.text) = false := by cases h : (p && t.text) <;> simp [h] at hA ⊢
      have hg : rgL (rgt n) p (t :: r) = (rgt n t.kids && rgL (rgt n) t.text r) := by
        show (rightB t && !(p && t.text) && (t.text || rgt n t.kids) && rgL (rgt n) t.text r) = _
        rw [h1, h2, right_kids h1]; rfl
      rw [hg]
      by_cases hK : dep n t.kids ≤ d ∧ (cnt n t.kids : Int) ≤ room ∧ rgt n t.kids = true
      · rw [if_pos hK] at hfk
        rw [hfk, if_neg (by omega), ih t.text (room - cnt n t.kids) (by omega) hr]
        by_cases hR : dep n (nx r) ≤ d ∧ (cnt n (nx r) : Int) ≤ room - cnt n t.kids ∧ rgL (rgt n) t.text r = true
        · rw [if_pos hR, if_pos ⟨by omega, by push_cast; omega, by rw [hK.2.2, hR.2.2]; rfl⟩]
          push_cast; omega
        · rw [if_neg hR, if_neg]
          rintro ⟨a, b, c⟩
          rw [hK.2.2] at c
          exact hR ⟨by omega, by push_cast at b; omega, by simpa using c⟩
      · rw [if_neg hK] at hfk
        rw [hfk, if_pos (by decide), if_neg]
        rintro ⟨a, b, c⟩
        simp only [Bool.and_eq_true] at c
        exact hK ⟨by omega, by push_cast at b; omega, c.1⟩

theorem rb_eq : ∀ (d n : Nat) (l : List Tr) (room : Int), 0 ≤ room → Deep n l →
    rb d room l = if dep n l ≤ d ∧ (cnt n l : Int) ≤ room ∧ rgt n l = true then room - cnt n l else -1 := by
  intro d
  induction d with
  | zero =>
    intro n l room h0 hd
    unfold rb
    cases l with
    | nil => simp [dep_nil, cnt_nil, rgt_nil]; omega
    | cons t r =>
      cases n with
      | zero => cases (show t :: r = [] from hd)
      | succ n =>
        rw [if_neg (by simp), if_neg]
        rintro ⟨a, _⟩
        rw [dep_cons] at a; omega
  | succ d ih =>
    intro n l room h0 hd
    unfold rb
    cases l with
    | nil => simp [dep_nil, cnt_nil, rgt_nil]; omega
    | cons t r =>
      cases n with
      | zero => cases (show t :: r = [] from hd)
      | succ n =>
        rw [if_neg (by simp)]
        generalize hl : t :: r = l at *
        have hne : l ≠ [] := by rw [← hl]; simp
        rw [dep_nx n l hne, cnt_nx n l]
        by_cases hrm : room < (l.length : Int)
        · rw [if_pos hrm, if_neg]
          rintro ⟨_, b, _⟩
          push_cast at b; omega
        · rw [if_neg hrm, rl_eq d n (rb d) (fun room k h hk => ih n k room h hk) l false (room - l.length) (by omega) hd]
          by_cases hR : dep n (nx l) ≤ d ∧ (cnt n (nx l) : Int) ≤ room - l.length ∧ rgL (rgt n) false l = true
          · rw [if_pos hR, if_pos ⟨by omega, by push_cast; omega, hR.2.2⟩]; push_cast; omega
          · rw [if_neg hR, if_neg]
            rintro ⟨a, b, c⟩
            exact hR ⟨by omega, by push_cast at b; omega, c⟩

theorem contentB_eq {n : Nat} {l : List Tr} (hd : Deep n l) : contentB l = (decide (dep n l ≤ 8) && decide (cnt n l ≤ 80) && rgt n l) := by
  unfold contentB
  rw [rb_eq 8 n l 80 (by decide) hd]
  by_cases h : dep n l ≤ 8 ∧ (cnt n l : Int) ≤ 80 ∧ rgt n l = true
  · rw [if_pos h]
    have h2 : cnt n l ≤ 80 := by omega
    simp [h.1, h2, h.2.2]
    omega
  · rw [if_neg h]
    cases hr : rgt n l with
    | false => simp
    | true =>
      have : ¬ (dep n l ≤ 8 ∧ cnt n l ≤ 80) := fun ⟨a, b⟩ => h ⟨a, by omega, hr⟩
      by_cases h1 : dep n l ≤ 8
      · have h2 : ¬ cnt n l ≤ 80 := fun b => this ⟨h1, b⟩
        simp [h2]
      · simp [h1]

theorem goodB_eq {n : Nat} {t : Tr} (hd : Deep n t.kids) : goodB t = (!t.text && decide (dep (n + 1) [t] < 9) && decide (cnt (n + 1) [t] < 81) && rgt (n + 1) [t]) := by
  have h : Deep (n + 1) [t] := by intro x hx; simp at hx; subst hx; exact hd
  unfold goodB
  rw [contentB_eq h]
  have e1 : decide (dep (n + 1) [t] ≤ 8) = decide (dep (n + 1) [t] < 9) := by congr 1; apply propext; omega
  have e2 : decide (cnt (n + 1) [t] ≤ 80) = decide (cnt (n + 1) [t] < 81) := by congr 1; apply propext; omega
  rw [e1, e2, Bool.and_assoc, Bool.and_assoc, Bool.and_assoc]
end Go.Proofs.YtmogemjikjbnfaaGreatDoor

/- mark.Print, for every tree: what the document says, errors too. Condition: texts of at most 2^63 letters. -/
namespace Go.Proofs.YtmogemjikjbnfaaGreatDoor
open Go.ChangeShapes Go.WideShapes Go.ChangeAt Go.RowKit
set_option maxRecDepth 100000

theorem name_size {s : ByteArray} (h : nameB s = true) : s.size ≤ 8 := by
  simp only [nameB, Bool.and_eq_true, decide_eq_true_eq] at h; exact h.1.2
theorem plain_size {s : ByteArray} (h : plainB s = true) : s.size ≤ 40 := by
  simp only [plainB, Bool.and_eq_true, decide_eq_true_eq] at h; exact h.1

theorem attrs_each {l : List (ByteArray × ByteArray)} (h : attrsB l = true) : l.length ≤ 4 ∧ ∀ x ∈ l, nameB x.1 = true ∧ plainB x.2 = true := by
  simp only [attrsB, Bool.and_eq_true, decide_eq_true_eq, List.all_eq_true] at h
  refine ⟨h.1, fun x hx => ?_⟩
  obtain ⟨i, hi⟩ := List.mem_iff_getElem?.1 hx
  have hil : i < l.length := by
    rcases Nat.lt_or_ge i l.length with h' | h'
    · exact h'
    · rw [List.getElem?_eq_none h'] at hi; cases hi
  have := h.2 i (by simpa using hil)
  unfold okA at this
  rw [hi] at this
  simp only [Bool.and_eq_true] at this
  exact ⟨this.1.1, this.1.2⟩

theorem flat_bound (l : List (ByteArray × ByteArray)) (h : ∀ x ∈ l, nameB x.1 = true ∧ plainB x.2 = true) : (l.flatMap attrP).length ≤ 252 * l.length := by
  induction l with
  | nil => simp
  | cons x r ih =>
    have h1 := ih (fun y hy => h y (List.mem_cons_of_mem _ hy))
    have h2 := h x List.mem_cons_self
    have h3 := name_size h2.1
    have h4 := plain_size h2.2
    have h5 := markL_len true x.2.data.toList
    rw [size_data] at h5
    have h6 : ((x :: r).flatMap attrP).length = (attrP x).length + (r.flatMap attrP).length := by simp
    rw [h6, attrP_len, List.length_cons]; omega

theorem one_bound {inner : List UInt8} {t : Tr} (h : rightB t = true) : (oneP inner t).length ≤ 1100 + inner.length := by
  obtain ⟨tx, s, l, ks⟩ := t
  cases tx with
  | true =>
    simp only [rightB, if_true, Bool.and_eq_true] at h
    have h1 := plain_size h.1.1.2
    have h2 := markL_len false s.data.toList
    rw [size_data] at h2
    simp only [oneP, if_true]
    omega
  | false =>
    simp only [rightB, Bool.false_eq_true, if_false, Bool.and_eq_true] at h
    have h1 := name_size h.1
    obtain ⟨h2, h3⟩ := attrs_each h.2
    have h4 := flat_bound l h3
    have h5 : (oneP inner ⟨false, s, l, ks⟩).length ≤ 1 + s.size + (l.flatMap attrP).length + (1 + inner.length + 2 + s.size + 1) := by
      simp only [oneP, Bool.false_eq_true, if_false, List.length_append, List.length_cons, size_data]
      split
      · simp; omega
      · simp; omega
    omega

theorem show_bound : ∀ (n : Nat) (ts : List Tr), rgt n ts = true → (showL n ts).length ≤ 1100 * cnt n ts := by
  intro n
  induction n with
  | zero => intro ts _; simp [showL]
  | succ n ih =>
    have hl : ∀ (ts : List Tr) (p : Bool), rgL (rgt n) p ts = true → (showL (n + 1) ts).length ≤ 1100 * cnt (n + 1) ts := by
      intro ts
      induction ts with
      | nil => intro p _; simp [showL]
      | cons t r ihr =>
        intro p h
        simp only [rgL, Bool.and_eq_true] at h
        obtain ⟨⟨⟨h1, _⟩, h2⟩, h3⟩ := h
        have h4 := ihr t.text h3
        have h5 : (showL (n + 1) (t :: r)).length = (oneP (showL n t.kids) t).length + (showL (n + 1) r).length := by simp [showL]
        rw [h5, cnt_cons]
        cases htt : t.text with
        | true =>
          have h6 : (oneP (showL n t.kids) t).length ≤ 1100 := by
            have := one_bound (inner := []) h1
            have e : oneP (showL n t.kids) t = oneP [] t := by simp [oneP, htt]
            rw [e]; simpa using this
          omega
        | false =>
          rw [htt, Bool.false_or] at h2
          have h6 := ih t.kids h2
          have h7 := one_bound (inner := showL n t.kids) h1
          omega
    intro ts h
    exact hl ts false h

/-- What is printed of a good tree is short. -/
theorem good_short {n : Nat} {t : Tr} (hd : Deep n t.kids) (h : goodB t = true) : (oneP (showL n t.kids) t).length ≤ 88000 := by
  rw [goodB_eq hd] at h
  simp only [Bool.and_eq_true, decide_eq_true_eq] at h
  have h1 := show_bound (n + 1) [t] h.2
  have h2 : showL (n + 1) [t] = oneP (showL n t.kids) t := by simp [showL]
  rw [h2] at h1
  have := h.1.2
  omega

theorem shown_any (S : Nat → Prop) (n : Nat) (va vk : Value) (t : Tr) (w : World) (hA : Attrs S w va t.attrs) (hK : Trees S w n vk t.kids) (hM : Marks w) (hlen : (oneP (showL n t.kids) t).length ≤ 88000) :
    Calls Tryz.prog 9 #[.agg #[.bool t.text, .string t.s, va, vk]] w fun e w' => e = .returned (.string ⟨(oneP (showL n t.kids) t).toArray⟩) ∧ Below w.heap.size w w' := by
  have hAb := hA.bounded
  have hKb := Trees.bounded n hK
  obtain ⟨aa, ac, rfl⟩ := hA.shape
  obtain ⟨ka, kc, rfl, _, _⟩ := Trees.shape n hK
  have hb0 : ∀ X Y, Below w.heap.size w ((w.alloc X).alloc Y) := fun X Y => (Below.alloc1 w X).alloc (by simp) Y
  have hcall : ∀ X, Calls Tryz.prog 15 #[.pointer (some ⟨w.heap.size + 1, 0, none⟩), .agg #[.bool t.text, .string t.s, .slice aa t.attrs.length ac, .slice ka t.kids.length kc]] ((w.alloc X).alloc (.cells #[.pointer none, .slice none 0 0] 40)) fun e w' => e = .returned (.tuple #[]) ∧ ∃ bv', Bd w.heap.size (w.heap.size + 1) (Lib.byteCells ([] ++ oneP (showL n t.kids) t)) bv' w' ∧ Below w.heap.size w w' := by
    intro X
    have hsz : ((w.alloc X).alloc (.cells #[.pointer none, .slice none 0 0] 40)).heap.size = w.heap.size + 1 + 1 := by simp
    have hbd : Bd w.heap.size (w.heap.size + 1) (Lib.byteCells []) (.slice none 0 0) ((w.alloc X).alloc (.cells #[.pointer none, .slice none 0 0] 40)) := by
      refine ⟨by omega, ⟨_, Or.inl rfl, ?_⟩, World.ownsRow_nil _ _ _ _, by intro e; cases e⟩
      have e := heap_alloc_new (w.alloc X) (.cells #[.pointer none, .slice none 0 0] 40)
      rw [World.size_alloc] at e
      exact e
    have := print_any n (fun b => S b ∧ b < w.heap.size) w.heap.size (w.heap.size + 1) [] (.slice none 0 0) _ _ t ((w.alloc X).alloc (.cells #[.pointer none, .slice none 0 0] 40)) (fun x hx => ⟨by have := hx.2; omega, by have := hx.2; omega, by intro e; cases e⟩) (hAb.later (hb0 _ _)) (Trees.later (hb0 _ _) n hKb) hbd (hM.later (hb0 _ _) hM.lt) hM.lt (by omega) (by simp only [List.length_nil]; omega)
    refine this.mono ?_
    rintro e w' ⟨rfl, bv', h1, h2⟩
    exact ⟨rfl, bv', h1, (hb0 _ _).trans h2.below⟩
  have HC : Hid _ := hcall
  clear hcall hA hK hAb hKb hM hlen
  obtain ⟨L, hL⟩ : ∃ L, oneP (showL n t.kids) t = L := ⟨_, rfl⟩
  rw [hL] at HC ⊢
  clear hL
  go_enter Tryz.func9, Tryz.ntmps9
  go_wp2_with fail
  refine (Calls.mono (HC.out _) ?_)
  rintro e w2 ⟨rfl, bv, hBd, hB⟩
  have hsz := hB.size
  have HS : Hid _ := bString_any w.heap.size (w.heap.size + 1) ([] ++ L) w2 hBd.is hsz
  clear HC hBd
  go_wp2_with fail
  refine (Calls.mono HS.out ?_)
  rintro e w3 ⟨rfl, hb3⟩
  go_wp2_with fail
  go_ret
  exact ⟨rfl, hB.trans hb3⟩

/-- What mark.Print answers. -/
def printR (n : Nat) (t : Tr) : ByteArray × Int :=
  if goodB t then (if 2500 < (oneP (showL n t.kids) t).length then (⟨#[]⟩, 2) else (⟨(oneP (showL n t.kids) t).toArray⟩, 0)) else (⟨#[]⟩, 1)

theorem printOf_any (S : Nat → Prop) (n : Nat) (va vk : Value) (t : Tr) (w : World) (hA : Attrs S w va t.attrs) (hK : Trees S w n vk t.kids) (hM : Marks w) (hx : TextsN (n + 1) [t]) :
    Calls Tryz.prog 4 #[.agg #[.bool t.text, .string t.s, va, vk]] w fun e w' => e = .returned (.tuple #[.string (printR n t).1, .int .i64 (printR n t).2]) ∧ Below w.heap.size w w' := by
  obtain ⟨aa, ac, rfl⟩ := hA.shape
  obtain ⟨ka, kc, rfl, _, _⟩ := Trees.shape n hK
  have hX1 := Box4.start w (.bool t.text) (.string t.s) (.slice aa t.attrs.length ac) (.slice ka t.kids.length kc) 25
  have hb1 := Below.alloc1 w (.cells #[.bool t.text, .string t.s, .slice aa t.attrs.length ac, .slice ka t.kids.length kc] 25)
  have HG : Hid (∀ W, Below w.heap.size w W → Calls Tryz.prog 8 #[.agg #[.bool t.text, .string t.s, .slice aa t.attrs.length ac, .slice ka t.kids.length kc]] W fun e w' => e = .returned (.bool (goodB t)) ∧ Below W.heap.size W w') :=
    fun W hW => good_any S n _ _ t W (hA.later hW) (Trees.later hW n hK) hx
  have HP : Hid (goodB t = true → ∀ W, Below w.heap.size w W → Calls Tryz.prog 9 #[.agg #[.bool t.text, .string t.s, .slice aa t.attrs.length ac, .slice ka t.kids.length kc]] W fun e w' => e = .returned (.string ⟨(oneP (showL n t.kids) t).toArray⟩) ∧ Below W.heap.size W w') :=
    fun hg W hW => shown_any S n _ _ t W (hA.later hW) (Trees.later hW n hK) (hM.later hW hM.lt) (good_short (Trees.deep n hK) hg)
  have HSH : Hid (goodB t = true → (oneP (showL n t.kids) t).length ≤ 88000) := fun hg => good_short (Trees.deep n hK) hg
  have HR : Hid (printR n t = if goodB t then (if 2500 < (oneP (showL n t.kids) t).length then (⟨#[]⟩, 2) else (⟨(oneP (showL n t.kids) t).toArray⟩, 0)) else (⟨#[]⟩, 1)) := rfl
  clear hA hK hM hx
  obtain ⟨L, hL⟩ : ∃ L, oneP (showL n t.kids) t = L := ⟨_, rfl⟩
  obtain ⟨q, hq⟩ : ∃ q, goodB t = q := ⟨_, rfl⟩
  rw [hL] at HP HSH HR
  rw [hq] at HG HP HSH HR
  clear hL hq
  go_enter Tryz.func4, Tryz.ntmps4
  go_wp2_with fail
  generalize w.alloc (.cells #[.bool t.text, .string t.s, .slice aa t.attrs.length ac, .slice ka t.kids.length kc] 25) = W1 at hb1 hX1 ⊢
  refine (Calls.mono (HG.out _ hb1) ?_)
  rintro e w2 ⟨rfl, hb2⟩
  have hX2 := hX1.later hb2 hX1.lt
  have hB2 : Below w.heap.size w w2 := hb1.trans (hb2.mono hb1.size)
  have f0 := hX2.at0
  have f1 := hX2.at1
  have f2 := hX2.at2
  have f3 := hX2.at3
  clear hX1 hX2 hb1 hb2 HG
  cases q with
  | false =>
    go_wp2_with fail
    go_ret2
    exact ⟨by rw [HR.out]; rfl, hB2⟩
  | true =>
    have HP2 := HP.out rfl
    have HP3 : Hid _ := HP2
    have hl88 : L.length ≤ 88000 := HSH.out rfl
    clear HP HP2 HSH
    go_wp2_with fail
    refine (Calls.mono (HP3.out _ hB2) ?_)
    rintro e w3 ⟨rfl, hb3⟩
    have hB3 : Below w.heap.size w w3 := hB2.trans (hb3.mono hB2.size)
    have hsz : (ByteArray.mk L.toArray).size = L.length := by simp [ByteArray.size]
    by_cases hlong : 2500 < L.length
    · have HE : Hid (printR n t = (⟨#[]⟩, 2)) := by show _ = _; rw [HR.out]; simp [hlong]
      have hi : (2500 : Int) < (L.length : Int) := by omega
      clear HR
      go_wp2_with fail
      go_ret2
      exact ⟨by rw [HE.out]; rfl, hB3⟩
    · have HE : Hid (printR n t = (⟨L.toArray⟩, 0)) := by show _ = _; rw [HR.out]; simp [hlong]
      have hi : ¬ (2500 : Int) < (L.length : Int) := by omega
      clear HR hlong
      go_wp2_with fail
      go_ret2
      exact ⟨by rw [HE.out]; rfl, hB3⟩
end Go.Proofs.YtmogemjikjbnfaaGreatDoor

/- topiaryref.SizeOf, for every tree. Condition: at most 2^20 trees. -/
namespace Go.Proofs.YtmogemjikjbnfaaGreatDoor
open Go.ChangeShapes Go.WideShapes Go.ChangeAt Go.RowKit
set_option maxRecDepth 100000

theorem Trees.pred {S : Nat → Prop} {w : World} {m : Nat} {v : Value} {ts : List Tr} (h : Trees S w m v ts) : Trees S w (m.pred + 1) v ts := by
  cases m with
  | zero => exact Trees.deeper 0 h
  | succ m => exact h

theorem Trees.back {S : Nat → Prop} {w : World} {m : Nat} {v : Value} {ts : List Tr} (h : Trees S w (m.pred + 1) v ts) (hd : Deep m ts) : Trees S w m v ts := by
  cases m with
  | zero =>
    have : ts = [] := hd
    subst this
    obtain ⟨a, c, e, _, hc⟩ := Trees.shape 1 h
    exact ⟨rfl, a, c, e, hc⟩
  | succ m => exact h

theorem sizeOf_any (S : Nat → Prop) (n : Nat) (va vk : Value) (t : Tr) (w : World) (h : Attrs S w va t.attrs) (hk : Trees S w n vk t.kids) (hc : cnt (n + 1) [t] ≤ 1048576) :
    Calls Tryz.prog 17 #[.agg #[.bool t.text, .string t.s, va, vk]] w fun e w' => e = .returned (.tuple #[.int .i64 (dep (n + 1) [t] : Int), .int .i64 (cnt (n + 1) [t] : Int)]) ∧ Below w.heap.size w w' := by
  obtain ⟨aa, ac, rfl⟩ := h.shape
  obtain ⟨ka, kc, rfl, _, _⟩ := Trees.shape n hk
  have hb : ∀ X Y, Below w.heap.size w ((w.alloc X).alloc Y) := fun X Y => (Below.alloc1 w X).alloc (by simp) Y
  have hT : Trees (fun _ => True) ((w.alloc (.cells #[.bool t.text, .string t.s, .slice aa t.attrs.length ac, .slice ka t.kids.length kc] 25)).alloc (.cells #[.bool t.text, .string t.s, .slice aa t.attrs.length ac, .slice ka t.kids.length kc] 25)) (n + 1) (.slice (some ⟨w.heap.size + 1, 0, none⟩) 1 1) [t] := by
    refine Trees.carry (fun b _ => ⟨trivial, rfl⟩) (n + 1) (Trees.of_block (S := S) (e := 25) (fz := (0, 0)) (qs := [(t.text, t.s, .slice aa t.attrs.length ac, .slice ka t.kids.length kc)]) ?_ rfl rfl rfl (Nat.le_refl _) (by unfold maxLen; simp) ?_)
    · have := heap_alloc_new (w.alloc (.cells #[.bool t.text, .string t.s, .slice aa t.attrs.length ac, .slice ka t.kids.length kc] 25)) (.cells #[.bool t.text, .string t.s, .slice aa t.attrs.length ac, .slice ka t.kids.length kc] 25)
      rw [World.size_alloc] at this
      exact this
    · intro i q t' hq ht'
      cases i with
      | zero =>
        simp at hq ht'
        subst hq ht'
        exact ⟨rfl, rfl, h.later (hb _ _), Trees.later (hb _ _) n hk⟩
      | succ i => simp at ht'
  have HT : Hid _ := hT
  have HB : Hid (∀ X Y, Below w.heap.size w ((w.alloc X).alloc Y)) := hb
  clear hT hb h hk
  obtain ⟨D, hD⟩ : ∃ D, dep (n + 1) [t] = D := ⟨_, rfl⟩
  obtain ⟨C, hC⟩ : ∃ C, cnt (n + 1) [t] = C := ⟨_, rfl⟩
  rw [hD, hC]
  rw [hC] at hc
  have HD : Hid (dep (n + 1) [t] = D) := hD
  have HC : Hid (cnt (n + 1) [t] = C) := hC
  clear hD hC
  have hDC : D ≤ 1048576 := by have := dep_cnt (n + 1) [t]; rw [HD.out, HC.out] at this; omega
  go_enter Tryz.func17, Tryz.ntmps17
  go_wp2_with fail
  go_loopg [4, 5, 6] (n + 1) (fun g d c v wr => ∃ (dd cc : Nat) (lv : List Tr), d = .int .i64 (dd : Int) ∧ c = .int .i64 (cc : Int) ∧ Trees (fun _ => True) wr g v lv ∧ dd + dep g lv = D ∧ cc + cnt g lv = C ∧ Below w.heap.size w wr)
  case atStart => exact ⟨0, 0, [t], rfl, rfl, HT, by rw [HD.out]; omega, by rw [HC.out]; omega, HB _ _⟩
  case round =>
    obtain ⟨dd, cc, lv, rfl, rfl, hlv, hd, hcn, hB⟩ := hrel
    have hsz := hB.size
    by_cases hne : lv = []
    · subst hne
      rw [dep_nil] at hd
      rw [cnt_nil] at hcn
      obtain ⟨la, lc, rfl, _, _⟩ := Trees.shape _ hlv
      have hd' : dd = D := by omega
      have hc' : cc = C := by omega
      subst hd' hc'
      clear hlv HT HD HC
      simp only [List.length_nil]
      go_wp2_with fail
      go_ret2
      exact ⟨rfl, hB⟩
    · cases gk with
      | zero => exact absurd hlv.1 hne
      | succ m =>
        obtain ⟨wo, hwo⟩ : ∃ x, x = wr := ⟨_, rfl⟩
        subst hwo
        rw [dep_nx m lv hne] at hd
        rw [cnt_nx m lv] at hcn
        have hdeep : Deep m (nx lv) := (Trees.deep (m + 1) hlv).nx
        have hlen := hdeep.len
        have HDp : Hid (Deep m (nx lv)) := hdeep
        have hlv' := Trees.bounded (m + 1) hlv
        obtain ⟨la, lc, rfl, hlc, hlm⟩ := Trees.shape _ hlv
        obtain ⟨_, _, hve, _, _, h4⟩ := hlv'
        have hl0 : 0 < lv.length := List.length_pos_iff.2 hne
        obtain ⟨b, o, hao, hs, hcc⟩ := h4 hne
        injection hve with e1 e2 e3
        subst e1
        subst hao
        have Hd : Hid (dd + (1 + dep m (nx lv)) = D) := hd
        have Hc : Hid (cc + (lv.length + cnt m (nx lv)) = C) := hcn
        have HCC : Hid _ := hcc
        have hcb : cc + lv.length ≤ 1048576 := by omega
        have hdb : dd ≤ 1048576 := by omega
        have hnb : (nx lv).length ≤ 1048576 := by omega
        clear hdeep h4 e2 hd hcn hcc hlen hs e3 HT HD HC hlv
        unfold maxLen at hlm
        go_wp2_with fail
        go_loopg [7, 23] lv.length (fun g v i wr => ∃ (k : Nat) (qs : List (Bool × ByteArray × Value × Value)), k + g = lv.length ∧ i = .int .i64 k ∧ Grow (fun b => b < wo.heap.size) m.pred wo.heap.size wr v (nx (lv.take k)) qs ∧ Below wo.heap.size wo wr)
        case atStart => exact ⟨0, [], by omega, rfl, Grow.nil _ _ _ _, Below.refl _ _⟩
        case round =>
          obtain ⟨k, qs, hk, rfl, hG, hBq⟩ := hrel
          have hszq := hBq.size
          by_cases hlt : k < lv.length
          · obtain ⟨x, hx⟩ : ∃ x, lv[k]? = some x := ⟨lv[k], by simp [hlt]⟩
            obtain ⟨va, vk, c0, c1, c2, c3, hat, hkt⟩ := HCC.out k x hx
            obtain ⟨xa, xc, rfl⟩ := hat.shape
            obtain ⟨ya, yc, rfl, _, _⟩ := Trees.shape m hkt
            have hbl : b < wo.heap.size := World.block_lt_of_cell? wo _ c0
            rw [← hBq.cell (p := ⟨b, o + k * 4, none⟩) hbl] at c0
            rw [← hBq.cell (p := ⟨b, o + k * 4 + 1, none⟩) hbl] at c1
            rw [← hBq.cell (p := ⟨b, o + k * 4 + 2, none⟩) hbl] at c2
            rw [← hBq.cell (p := ⟨b, o + k * 4 + 3, none⟩) hbl] at c3
            have hsn : nx (lv.take (k + 1)) = nx (lv.take k) ++ x.kids := by
              have e : lv.take (k + 1) = lv.take k ++ [x] := by
                rw [List.take_succ_eq_append_getElem hlt]; congr 2; simpa [hlt] using hx
              rw [e, nx_append, nx_cons, nx_nil, List.append_nil]
            have HS : Hid (nx (lv.take (k + 1)) = nx (lv.take k) ++ x.kids) := hsn
            have hle : (nx (lv.take k) ++ x.kids).length ≤ 1048576 := by
              rw [← hsn]
              have e : nx lv = nx (lv.take (k + 1)) ++ nx (lv.drop (k + 1)) := by rw [← nx_append, List.take_append_drop]
              rw [e, List.length_append] at hnb
              omega
            rw [List.length_append] at hle
            have hblq : b < wr.heap.size := by omega
            have hG1 := hG.later (Below.alloc1 wr (.cells #[.bool x.text, .string x.s, .slice xa x.attrs.length xc, .slice ya x.kids.length yc] 25))
            have hB1 : Below wo.heap.size wo (wr.alloc (.cells #[.bool x.text, .string x.s, .slice xa x.attrs.length xc, .slice ya x.kids.length yc] 25)) := hBq.alloc hszq _
            have hK1 := (Trees.later hB1 m hkt).pred
            obtain ⟨us, hus⟩ : ∃ us, nx (lv.take k) = us := ⟨_, rfl⟩
            rw [hus] at hG1 hle HS hG
            obtain ⟨ja, jc, rfl⟩ := hG1.shape
            clear hx hsn hus hG hat hkt
            go_wp2_with (at_builtin; refine wpList_append_trees rfl _ _ rfl (fun b => b < wo.heap.size) _ m.pred wo.heap.size _ _ us x.kids qs rfl hG1 rfl hK1 ?qc1 hle ?qc2 ?_)
            case qc1 =>
              intro b hb
              refine ⟨Or.inl hb.2, Nat.lt_of_lt_of_le hb.2 (by simp; omega), fun e => ?_⟩
              have := (hG1.own.lt b e).1
              have := hb.2
              omega
            case qc2 => simp; omega
            intro v' w2 qs' hG2 hb2
            have hB2 : Below wo.heap.size wo w2 := hB1.trans hb2
            go_wp2_with fail
            go_roundg (lv.length - (k + 1))
            case measure => omega
            case rel => exact ⟨k + 1, qs', by omega, by go_num, by rw [HS.out]; exact hG2, hB2⟩
          · have hkk : k = lv.length := by omega
            subst hkk
            rw [List.take_length] at hG
            have hT2 : Trees (fun _ => True) wr m _ (nx lv) := Trees.carry (fun b _ => ⟨trivial, rfl⟩) m (hG.done.back HDp.out)
            have hBw : Below w.heap.size w wr := hB.trans (hBq.mono hsz)
            go_wp2_with fail
            go_roundg m
            case measure => omega
            case rel => exact ⟨dd + 1, cc + lv.length, nx lv, by go_num, by go_num, hT2, by have := Hd.out; omega, by have := Hc.out; omega, hBw⟩
end Go.Proofs.YtmogemjikjbnfaaGreatDoor

