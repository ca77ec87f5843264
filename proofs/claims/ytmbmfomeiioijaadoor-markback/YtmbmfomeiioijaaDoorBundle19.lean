/- Bundled: ParseM PrintT SizeM ContM Print BackM BackT. What each says stands ahead of it. -/
import Derived.Test.YtmbmfomeiioijaaDoorBundle15
import Derived.Test.YtmbmfomeiioijaaDoorBundle18
import Derived.Test.YtmbmfomeiioijaaDoorBundle12
/- What mark.Parse, Content answer, as functions; what is read is short. No condition. -/
namespace Go.Proofs.YtmbmfomeiioijaaDoor
open Go.RowKit
set_option maxRecDepth 100000

theorem whileF_all {α : Type} {more : Rs → Bool} {step : Rs → α × Rs} {P : α → Prop} {M : Nat} (hstep : ∀ r, more r = true → r.rest.length ≤ M → P (step r).1) (hle : ∀ r, more r = true → (step r).2.le r) :
    ∀ (f : Nat) (r : Rs), r.rest.length ≤ M → ∀ x ∈ (whileF more step f r).1, P x := by
  intro f
  induction f with
  | zero => intro r _ x hx; simp [whileF] at hx
  | succ f ih =>
    intro r hr x hx
    unfold whileF at hx
    split at hx
    · rename_i h
      simp only [List.mem_cons] at hx
      rcases hx with rfl | hx
      · exact hstep r h hr
      · exact ih _ (Nat.le_trans (hle r h).1 hr) x hx
    · simp at hx

theorem takeWhile_len (p : UInt8 → Bool) (l : List UInt8) : (l.takeWhile p).length ≤ l.length := by
  induction l with
  | nil => simp
  | cons c r ih => rw [List.takeWhile_cons]; split <;> simp <;> omega

theorem meant_len (ends : List UInt8) : ∀ (f : Nat) (r : Rs), (Rs.meant ends f r).1.length ≤ r.left := by
  intro f
  induction f with
  | zero => intro r; simp [Rs.meant]
  | succ f ih =>
    intro r
    unfold Rs.meant
    split
    · rename_i h
      have h1 := sign_left h
      have h2 := ih r.sign.2
      simp; omega
    · simp
theorem text_len (r : Rs) (ends : List UInt8) : (r.text ends).1.length ≤ r.rest.length + 1 := Nat.le_trans (meant_len _ _ r) (left_le r)

theorem attr_short {M : Nat} (r : Rs) (h : r.rest.length ≤ M) : r.attr.1.1.length ≤ M + 1 ∧ r.attr.1.2.length ≤ M + 1 := by
  have h1 := (skip_le r).1
  have h2 := takeWhile_len letter r.skip.rest
  have h3 := text_len (r.skip.name.must [61, 34]) valueEnds
  have h4 := ((must_le r.skip.name [61, 34]).trans ((name_le _).trans (skip_le r))).1
  exact ⟨by show (r.skip.rest.takeWhile letter).length ≤ _; omega, by show ((r.skip.name.must [61, 34]).text valueEnds).1.length ≤ _; omega⟩

def Short (M : Nat) (t : Tr) : Prop := t.s.size ≤ M ∧ ∀ x ∈ t.attrs, x.1.size ≤ M ∧ x.2.size ≤ M
def ShortN (M : Nat) : Nat → List Tr → Prop
  | 0, _ => True
  | n + 1, ts => ∀ t ∈ ts, Short M t ∧ ShortN M n t.kids

theorem ShortN.texts {M : Nat} (hM : M ≤ maxLen) : ∀ (n : Nat) (ts : List Tr), ShortN M n ts → TextsN n ts := by
  intro n
  induction n with
  | zero => intro ts _; trivial
  | succ n ih =>
    intro ts h t ht
    obtain ⟨⟨h1, h2⟩, h3⟩ := h t ht
    exact ⟨⟨Nat.le_trans h1 hM, fun x hx => ⟨Nat.le_trans (h2 x hx).1 hM, Nat.le_trans (h2 x hx).2 hM⟩⟩, ih _ h3⟩

theorem ShortN.nil (M n : Nat) : ShortN M n [] := by cases n with | zero => trivial | succ n => intro t ht; simp at ht

theorem one_short {M f : Nat} (ih : ∀ r, r.rest.length ≤ M → ShortN (M + 1) f (treesF f r).1) (r : Rs) (h : r.rest.length ≤ M) : Short (M + 1) (r.one (treesF f)).1 ∧ ShortN (M + 1) f (r.one (treesF f)).1.kids := by
  unfold Rs.one
  by_cases h2 : r.ahead [60] = true
  · rw [if_pos h2]
    unfold Rs.elem
    have h3 := (must_le r [60]).1
    have hat : ∀ x ∈ (r.must [60]).name.attrs.1, x.1.length ≤ M + 1 ∧ x.2.length ≤ M + 1 :=
      whileF_all (fun r _ hr => attr_short r hr) (fun r _ => (attr_le r).trans (skip_le r)) _ _ (by have := ((name_le (r.must [60])).trans (must_le r [60])).1; omega)
    have hnm : (bytesOf (r.must [60]).nameOf).size ≤ M + 1 := by
      rw [bytesOf_size]
      have := takeWhile_len letter (r.must [60]).rest
      show ((r.must [60]).rest.takeWhile letter).length ≤ _
      omega
    have hsh : ∀ x ∈ asB (sortA (r.must [60]).name.attrs.1), x.1.size ≤ M + 1 ∧ x.2.size ≤ M + 1 := by
      intro x hx
      simp only [asB, List.mem_map] at hx
      obtain ⟨y, hy, rfl⟩ := hx
      have := hat y ((sortA_perm _).mem_iff.1 hy)
      simp only [bytesOf_size]
      exact this
    unfold Rs.elemIn
    split
    · exact ⟨⟨hnm, hsh⟩, ShortN.nil _ _⟩
    · exact ⟨⟨hnm, hsh⟩, ih _ (by have := ((must_le (r.must [60]).name.attrs.2.skip [62]).trans ((skip_le _).trans ((attrs_le _).trans ((name_le _).trans (must_le r [60]))))).1; omega)⟩
  · rw [if_neg h2]
    refine ⟨⟨?_, by intro x hx; simp at hx⟩, ShortN.nil _ _⟩
    rw [bytesOf_size]
    have := text_len r textEnds
    omega

theorem treesF_short (M : Nat) : ∀ (f : Nat) (r : Rs), r.rest.length ≤ M → ShortN (M + 1) f (treesF f r).1 := by
  intro f
  induction f with
  | zero => intro r _; trivial
  | succ f ih =>
    intro r h
    exact whileF_all (P := fun t => Short (M + 1) t ∧ ShortN (M + 1) f t.kids) (fun r _ hr => one_short ih r hr) (fun r _ => one_le (treesF_le f) r) _ r h

def zeroT : Tr := ⟨false, ⟨#[]⟩, [], []⟩

/-- What mark.Parse answers. -/
def parseR (s : List UInt8) : Tr × Int :=
  if 2500 < s.length then (zeroT, 2)
  else if ((⟨s, false⟩ : Rs).one (treesF s.length)).2.wrong || decide (((⟨s, false⟩ : Rs).one (treesF s.length)).2.rest ≠ []) || !goodB ((⟨s, false⟩ : Rs).one (treesF s.length)).1 then (zeroT, 1)
  else (((⟨s, false⟩ : Rs).one (treesF s.length)).1, 0)

/-- What mark.Content answers. -/
def contR (s : List UInt8) : List Tr × Int :=
  if 2500 < s.length then ([], 2)
  else if (treesF (s.length + 1) ⟨s, false⟩).2.wrong || decide ((treesF (s.length + 1) ⟨s, false⟩).2.rest ≠ []) || !contentB (treesF (s.length + 1) ⟨s, false⟩).1 then ([], 1)
  else ((treesF (s.length + 1) ⟨s, false⟩).1, 0)
end Go.Proofs.YtmbmfomeiioijaaDoor

/- mark.printTree: a tree is written behind what was there. Condition: less than 2^40 letters. -/
namespace Go.Proofs.YtmbmfomeiioijaaDoor
open Go.ChangeShapes Go.WideShapes Go.ChangeAt Go.RowKit
set_option maxRecDepth 100000

theorem data_append (a b : ByteArray) : (a ++ b).data.toList = a.data.toList ++ b.data.toList := by
  rw [ByteArray.data_append]; simp

theorem Bd.str {B b : Nat} {l m : List UInt8} {s : ByteArray} {v : Value} {w : World} (h : Bd B b (Lib.byteCells l ++ Lib.strCells s) v w) (hs : s.data.toList = m) : Bd B b (Lib.byteCells (l ++ m)) v w := by
  rw [Lib.byteCells_append, ← hs]; exact h

theorem markL_more (v : Bool) (l : List UInt8) : l.length ≤ (markL v l).length := by
  induction l with
  | nil => simp
  | cons c r ih =>
    have h1 : 1 ≤ (markC v c).length := by
      unfold markC
      split
      · simp
      split
      · simp
      split
      · simp
      split
      · simp
      · simp
    have h2 : (markL v (c :: r)).length = (markC v c).length + (markL v r).length := by simp [markL]
    rw [h2, List.length_cons]; omega

theorem size_data (s : ByteArray) : s.data.toList.length = s.size := rfl

/-- A box of cells of the call's own outlives what is written into a Builder. -/
theorem BFr.cell {B b : Nat} {v v' : Value} {w w' : World} (h : BFr B b v w v' w') {x o : Nat} (hx : x < w.heap.size) (hb : x ≠ b) (hv : v.ownBlock ≠ some x) : w'.cell? ⟨x, o, none⟩ = w.cell? ⟨x, o, none⟩ :=
  World.cell?_of_block (a := ⟨x, o, none⟩) (h.frame x hx hb hv)

def PrintOk (n : Nat) : Prop := ∀ (S : Nat → Prop) (B b : Nat) (bs : List UInt8) (bv : Value) (va vk : Value) (t : Tr) (w : World), (∀ x, S x → x < w.heap.size ∧ x ≠ b ∧ bv.ownBlock ≠ some x) → Attrs S w va t.attrs → Trees S w n vk t.kids → Bd B b (Lib.byteCells bs) bv w → Marks w → 0 < B → B ≤ w.heap.size → bs.length + 6 * (oneP (showL n t.kids) t).length ≤ 1099511627776 →
  Calls Tryd.prog 85 #[.pointer (some ⟨b, 0, none⟩), .agg #[.bool t.text, .string t.s, va, vk]] w fun e w' => e = .returned (.tuple #[]) ∧ ∃ bv', Bd B b (Lib.byteCells (bs ++ oneP (showL n t.kids) t)) bv' w' ∧ BFr B b bv w bv' w'

theorem flat_snoc (l : List (ByteArray × ByteArray)) (x : ByteArray × ByteArray) : (l ++ [x]).flatMap attrP = l.flatMap attrP ++ attrP x := by simp

theorem flat_le {l : List (ByteArray × ByteArray)} {k : Nat} : ((l.take k).flatMap attrP).length ≤ (l.flatMap attrP).length := by
  have e : l.flatMap attrP = (l.take k).flatMap attrP ++ (l.drop k).flatMap attrP := by rw [← List.flatMap_append, List.take_append_drop]
  rw [e, List.length_append]; omega

theorem show_le {n : Nat} {l : List Tr} {k : Nat} : (showL (n + 1) (l.take k)).length ≤ (showL (n + 1) l).length := by
  have e : showL (n + 1) l = showL (n + 1) (l.take k) ++ showL (n + 1) (l.drop k) := by unfold showL; rw [← List.flatMap_append, List.take_append_drop]
  rw [e, List.length_append]; omega

theorem attrP_len (x : ByteArray × ByteArray) : (attrP x).length = 1 + x.1.size + 2 + (markL true x.2.data.toList).length + 1 := by
  simp [attrP]; omega

theorem print_text (n : Nat) (S : Nat → Prop) (B b : Nat) (bs : List UInt8) (bv : Value) (va vk : Value) (s : ByteArray) (l : List (ByteArray × ByteArray)) (ks : List Tr) (w : World) (hA : Attrs S w va l) (hK : Trees S w n vk ks) (hBd : Bd B b (Lib.byteCells bs) bv w) (hM : Marks w) (hgB : 0 < B) (hBw : B ≤ w.heap.size)
    (hlen : bs.length + 6 * (markL false s.data.toList).length ≤ 1099511627776) :
    Calls Tryd.prog 85 #[.pointer (some ⟨b, 0, none⟩), .agg #[.bool true, .string s, va, vk]] w fun e w' => e = .returned (.tuple #[]) ∧ ∃ bv', Bd B b (Lib.byteCells (bs ++ markL false s.data.toList)) bv' w' ∧ BFr B b bv w bv' w' := by
  obtain ⟨aa, ac, rfl⟩ := hA.shape
  obtain ⟨ka, kc, rfl, _, hkm⟩ := Trees.shape n hK
  have hb1 := Below.alloc1 w (.cells #[.bool true, .string s, .slice aa l.length ac, .slice ka ks.length kc] 25)
  have HC : Hid _ := printMarked_any false B b bs s bv (w.alloc (.cells #[.bool true, .string s, .slice aa l.length ac, .slice ka ks.length kc] 25)) (hBd.later hb1) (hM.later hb1 hM.lt) hgB (by simp; omega) (by have := markL_more false s.data.toList; rw [size_data] at this; omega)
  have HF1 : Hid (BFr B b bv w bv (w.alloc (.cells #[.bool true, .string s, .slice aa l.length ac, .slice ka ks.length kc] 25))) := BFr.later hBw hb1
  clear hA hK hM hBd
  go_enter Tryd.func85, Tryd.ntmps85
  go_wp2_with fail
  refine (Calls.mono HC.out ?_)
  rintro e w2 ⟨rfl, bv2, hBd2, hF2⟩
  go_wp2_with fail
  go_returns
  exact ⟨rfl, bv2, hBd2, HF1.out.trans hF2⟩

set_option maxHeartbeats 2000000 in
theorem print_elem (n : Nat) (ih : ∀ m, n = m + 1 → PrintOk m) (S : Nat → Prop) (B b : Nat) (bs : List UInt8) (bv : Value) (va vk : Value) (s : ByteArray) (l : List (ByteArray × ByteArray)) (ks : List Tr) (w : World) (hS : ∀ x, S x → x < w.heap.size ∧ x ≠ b ∧ bv.ownBlock ≠ some x) (hA : Attrs S w va l) (hK : Trees S w n vk ks) (hBd : Bd B b (Lib.byteCells bs) bv w) (hM : Marks w) (hgB : 0 < B) (hBw : B ≤ w.heap.size)
    (hlen : bs.length + 6 * (oneP (showL n ks) ⟨false, s, l, ks⟩).length ≤ 1099511627776) :
    Calls Tryd.prog 85 #[.pointer (some ⟨b, 0, none⟩), .agg #[.bool false, .string s, va, vk]] w fun e w' => e = .returned (.tuple #[]) ∧ ∃ bv', Bd B b (Lib.byteCells (bs ++ oneP (showL n ks) ⟨false, s, l, ks⟩)) bv' w' ∧ BFr B b bv w bv' w' := by
  have HIH : Hid (∀ m, n = m + 1 → PrintOk m) := ih
  have HS : Hid (∀ x, S x → x < w.heap.size ∧ x ≠ b ∧ bv.ownBlock ≠ some x) := hS
  have HA : Hid (Attrs S w va l) := hA
  have HK : Hid (Trees S w n vk ks) := hK
  have HM : Hid (Marks w) := hM
  have hblt := hBd.lt
  have HROW : Hid (∀ x, bv.ownBlock = some x → x < w.heap.size) := hBd.rowLt
  have hL1 : bs.length + 6 * (1 + s.size + (l.flatMap attrP).length + 2) ≤ 1099511627776 := by
    have : 1 + s.size + (l.flatMap attrP).length + 2 ≤ (oneP (showL n ks) ⟨false, s, l, ks⟩).length := by
      simp only [oneP, Bool.false_eq_true, if_false, List.length_append, List.length_cons, size_data]
      cases ks with
      | nil => simp; omega
      | cons k r => simp; omega
    omega
  obtain ⟨aa, ac, rfl⟩ := hA.shape
  obtain ⟨ka, kc, rfl, _, hkm⟩ := Trees.shape n hK
  obtain ⟨_, _, hae, _, ham, hacells⟩ := hA
  injection hae with hae1 _ hac
  subst hac
  subst hae1
  have HAC : Hid (l ≠ [] → ∃ b o, aa = some ⟨b, o, none⟩ ∧ S b ∧ ∀ i x, l[i]? = some x → w.cell? ⟨b, o + i * 2, none⟩ = some (.string x.1) ∧ w.cell? ⟨b, o + i * 2 + 1, none⟩ = some (.string x.2)) := hacells
  unfold maxLen at hkm ham
  have hb1 := Below.alloc1 w (.cells #[.bool false, .string s, .slice aa l.length ac, .slice ka ks.length kc] 25)
  have hX1 := Box4.start w (.bool false) (.string s) (.slice aa l.length ac) (.slice ka ks.length kc) 25
  have hsz1 : (w.alloc (.cells #[.bool false, .string s, .slice aa l.length ac, .slice ka ks.length kc] 25)).heap.size = w.heap.size + 1 := by simp
  have HBd1 : Hid (Bd B b (Lib.byteCells bs) bv (w.alloc (.cells #[.bool false, .string s, .slice aa l.length ac, .slice ka ks.length kc] 25))) := hBd.later hb1
  have hs40 : s.size ≤ 1099511627776 := by omega
  clear ih hS hK hM hBd hacells
  go_enter Tryd.func85, Tryd.ntmps85
  go_wp2_with fail
  have HL0 : Hid (oneP (showL n ks) ⟨false, s, l, ks⟩ = 60 :: s.data.toList ++ l.flatMap attrP ++ (if ks.isEmpty then [47, 62] else 62 :: showL n ks ++ [60, 47] ++ s.data.toList ++ [62])) := rfl
  generalize w.alloc (.cells #[.bool false, .string s, .slice aa l.length ac, .slice ka ks.length kc] 25) = W1 at hb1 hX1 hsz1 HBd1 ⊢
  have hBW1 : B ≤ W1.heap.size := by omega
  have HB1 : Hid (Below w.heap.size w W1) := hb1
  have HX1 : Hid (Box4 W1 w.heap.size (.bool false) (.string s) (.slice aa l.length ac) (.slice ka ks.length kc)) := hX1
  have HBX : Hid (∀ v' w', BFr B b bv W1 v' w' → w'.cell? ⟨w.heap.size, 1, none⟩ = some (.string s) ∧ w'.cell? ⟨w.heap.size, 2, none⟩ = some (.slice aa l.length ac) ∧ w'.cell? ⟨w.heap.size, 3, none⟩ = some (.slice ka ks.length kc)) := by
    intro v' w' hF
    have h1 : w.heap.size < W1.heap.size := by omega
    have h2 : w.heap.size ≠ b := by omega
    have h3 : bv.ownBlock ≠ some w.heap.size := fun e => by have := HROW.out _ e; omega
    exact ⟨by rw [hF.cell h1 h2 h3]; exact HX1.out.at1, by rw [hF.cell h1 h2 h3]; exact HX1.out.at2, by rw [hF.cell h1 h2 h3]; exact HX1.out.at3⟩
  have HKEEP : Hid (∀ v' w', BFr B b bv W1 v' w' → ∀ x, S x → w'.heap[x]? = w.heap[x]?) := by
    intro v' w' hF x hx
    obtain ⟨h1, h2, h3⟩ := HS.out x hx
    rw [hF.frame x (by omega) h2 h3, HB1.out.block x h1]
  have HMK : Hid (∀ v' w', BFr B b bv W1 v' w' → Marks w') := fun v' w' hF => (HM.out.later HB1.out HM.out.lt).later hF.below hgB
  have HF0 : Hid (BFr B b bv w bv W1) := BFr.later hBw hb1
  have hw1 := bWrite_F B b (Lib.byteCells bs) bv (⟨#[60]⟩ ++ s) W1 HBd1.out (by
    rw [Lib.byteCells_length, ByteArray.size_append]
    show bs.length + (1 + s.size) ≤ _
    omega) hBW1
  refine (Calls.mono hw1 ?_)
  rintro e w2 ⟨rfl, bv2, hBd2, hF2⟩
  have HBd2 : Hid (Bd B b (Lib.byteCells (bs ++ 60 :: s.data.toList)) bv2 w2) := hBd2.str (by rw [data_append]; rfl)
  obtain ⟨_, y2, _⟩ := HBX.out _ _ hF2
  clear hw1 hX1 hb1 hBd2 HBd1
  go_wp2_with fail
  go_loopg [22] l.length (fun g i wr => ∃ (k : Nat) (bw : Value), k + g = l.length ∧ i = .int .i64 k ∧ Bd B b (Lib.byteCells (bs ++ 60 :: s.data.toList ++ (l.take k).flatMap attrP)) bw wr ∧ BFr B b bv W1 bw wr)
  case atStart => exact ⟨0, bv2, by omega, rfl, by simpa using HBd2.out, hF2⟩
  case round =>
    obtain ⟨k, bw, hk, rfl, hBdk, hFk⟩ := hrel
    have HBdk : Hid (Bd B b (Lib.byteCells (bs ++ 60 :: s.data.toList ++ (l.take k).flatMap attrP)) bw wr) := hBdk
    have HFk : Hid (BFr B b bv W1 bw wr) := hFk
    have hszr := hFk.below.size
    clear hBdk hFk HBd2 hF2 y2
    by_cases hlt : k < l.length
    · have hne : l ≠ [] := by intro e; subst e; simp at hlt
      obtain ⟨ab, ao, rfl, hs, hcc⟩ := HAC.out hne
      obtain ⟨x, hx⟩ : ∃ x, l[k]? = some x := ⟨l[k], by simp [hlt]⟩
      obtain ⟨c0, c1⟩ := hcc k x hx
      have hkp := HKEEP.out _ _ HFk.out ab hs
      rw [← World.cell?_of_block (a := ⟨ab, ao + k * 2, none⟩) hkp] at c0
      rw [← World.cell?_of_block (a := ⟨ab, ao + k * 2 + 1, none⟩) hkp] at c1
      have hsn : l.take (k + 1) = l.take k ++ [x] := by
        rw [List.take_succ_eq_append_getElem hlt]; congr 2; simpa [hlt] using hx
      have hq1 : ((l.take k).flatMap attrP).length + (attrP x).length ≤ (l.flatMap attrP).length := by
        have := flat_le (l := l) (k := k + 1)
        rw [hsn, flat_snoc, List.length_append] at this
        exact this
      rw [attrP_len] at hq1
      have hmm := markL_more true x.2.data.toList
      rw [size_data] at hmm
      have HSN : Hid ((l.take (k + 1)).flatMap attrP = (l.take k).flatMap attrP ++ attrP x) := by show _ = _; rw [hsn, flat_snoc]
      have hlti : (k : Int) < (l.length : Int) := by omega
      have hx1 : x.1.size ≤ 1099511627776 := by omega
      have hbk := Below.alloc1 wr (.cells #[.string x.1, .string x.2] 65)
      have HBdA : Hid (Bd B b (Lib.byteCells (bs ++ 60 :: s.data.toList ++ (l.take k).flatMap attrP)) bw (wr.alloc (.cells #[.string x.1, .string x.2] 65))) := HBdk.out.later hbk
      have HFA : Hid (BFr B b bw wr bw (wr.alloc (.cells #[.string x.1, .string x.2] 65))) := BFr.later (by omega) hbk
      have hbx1 : (wr.alloc (.cells #[.string x.1, .string x.2] 65)).cell? ⟨wr.heap.size, 1, none⟩ = some (.string x.2) := by simp
      have hszA : (wr.alloc (.cells #[.string x.1, .string x.2] 65)).heap.size = wr.heap.size + 1 := by simp
      have hrk := HBdk.out.rowLt
      have hbw : b < wr.heap.size := HBdk.out.lt
      have hrn : bw.ownBlock ≠ some wr.heap.size := fun e => by have := hrk _ e; omega
      have HRN : Hid (bw.ownBlock ≠ some wr.heap.size) := hrn
      clear hcc hx hsn hkp hrk hrn hbk
      go_wp2_with fail
      generalize wr.alloc (.cells #[.string x.1, .string x.2] 65) = WA at HBdA HFA hbx1 hszA ⊢
      have hl3 : (Lib.byteCells (bs ++ 60 :: s.data.toList ++ (l.take k).flatMap attrP)).length = bs.length + (1 + s.size) + ((l.take k).flatMap attrP).length := by
        rw [Lib.byteCells_length]; simp; omega
      have hw3 := bWrite_F B b _ bw (⟨#[32]⟩ ++ x.1 ++ ⟨#[61, 34]⟩) WA HBdA.out (by
        rw [hl3, ByteArray.size_append, ByteArray.size_append]
        show _ + (1 + x.1.size + 2) ≤ _
        omega) (by omega)
      refine (Calls.mono hw3 ?_)
      rintro e w3 ⟨rfl, bv3, hBd3, hF3⟩
      have HBd3 : Hid (Bd B b (Lib.byteCells (bs ++ 60 :: s.data.toList ++ (l.take k).flatMap attrP ++ (32 :: x.1.data.toList ++ [61, 34]))) bv3 w3) := hBd3.str (by rw [data_append, data_append]; rfl)
      have z1 : w3.cell? ⟨wr.heap.size, 1, none⟩ = some (.string x.2) := by rw [hF3.cell (by omega) (by omega) HRN.out]; exact hbx1
      have HF3 : Hid (BFr B b bv W1 bv3 w3) := HFk.out.trans (HFA.out.trans hF3)
      have hs3 := hF3.below.size
      clear hw3 hBd3 hF3
      go_wp2_with fail
      have hw4 := printMarked_any true B b _ x.2 bv3 w3 HBd3.out (HMK.out _ _ HF3.out) hgB (by omega) (by
        have e : (bs ++ 60 :: s.data.toList ++ (l.take k).flatMap attrP ++ (32 :: x.1.data.toList ++ [61, 34])).length = bs.length + (1 + s.size) + ((l.take k).flatMap attrP).length + (1 + x.1.size + 2) := by simp; omega
        rw [e]; omega)
      refine (Calls.mono hw4 ?_)
      rintro e w4 ⟨rfl, bv4, hBd4, hF4⟩
      have HBd4 : Hid _ := hBd4
      have HF4 : Hid (BFr B b bv W1 bv4 w4) := HF3.out.trans hF4
      have hs4 := hF4.below.size
      clear hw4 hBd4 hF4
      go_wp2_with fail
      have hw5 := bWrite_F B b _ bv4 ⟨#[34]⟩ w4 HBd4.out (by
        have e : (Lib.byteCells (bs ++ 60 :: s.data.toList ++ (l.take k).flatMap attrP ++ (32 :: x.1.data.toList ++ [61, 34]) ++ markL true x.2.data.toList)).length = bs.length + (1 + s.size) + ((l.take k).flatMap attrP).length + (1 + x.1.size + 2) + (markL true x.2.data.toList).length := by rw [Lib.byteCells_length]; simp; omega
        rw [e]
        show _ + 1 ≤ _
        omega) (by omega)
      refine (Calls.mono hw5 ?_)
      rintro e w5 ⟨rfl, bv5, hBd5, hF5⟩
      have HBd5 : Hid (Bd B b (Lib.byteCells (bs ++ 60 :: s.data.toList ++ (l.take (k + 1)).flatMap attrP)) bv5 w5) := by
        have h := hBd5.str (m := [34]) rfl
        show Bd _ _ _ _ _
        rw [HSN.out]
        simpa [attrP] using h
      have HF5 : Hid (BFr B b bv W1 bv5 w5) := HF4.out.trans hF5
      clear hw5 hBd5 hF5
      go_wp2_with fail
      go_roundg (l.length - (k + 1))
      case measure => omega
      case rel => exact ⟨k + 1, bv5, by omega, by go_num, HBd5.out, HF5.out⟩
    · have hkk : k = l.length := by omega
      subst hkk
      have HBdE : Hid (Bd B b (Lib.byteCells (bs ++ 60 :: s.data.toList ++ l.flatMap attrP)) bw wr) := by have := HBdk.out; rw [List.take_length] at this; exact this
      obtain ⟨wo, hwo⟩ : ∃ wo, wo = wr := ⟨_, rfl⟩
      subst hwo
      obtain ⟨y1, y2, y3⟩ := HBX.out _ _ HFk.out
      have hlE : (Lib.byteCells (bs ++ 60 :: s.data.toList ++ l.flatMap attrP)).length = bs.length + (1 + s.size) + (l.flatMap attrP).length := by
        rw [Lib.byteCells_length]; simp; omega
      clear HBdk
      by_cases hks : ks = []
      · subst hks
        simp only [List.length_nil] at y3
        have hw6 := bWrite_F B b _ bw ⟨#[47, 62]⟩ wo HBdE.out (by rw [hlE]; show _ + 2 ≤ _; omega) (by omega)
        have HW6 : Hid _ := hw6
        clear hw6
        go_wp2_with fail
        refine (Calls.mono HW6.out ?_)
        rintro e w6 ⟨rfl, bv6, hBd6, hF6⟩
        go_wp2_with fail
        go_returns
        refine ⟨rfl, bv6, ?_, HF0.out.trans (HFk.out.trans hF6)⟩
        have h := hBd6.str (m := [47, 62]) rfl
        rw [HL0.out]
        simpa using h
      · have hk0 : ((ks.length : Int) == 0) = false := by
          have : ks.length ≠ 0 := fun e => hks (List.eq_nil_of_length_eq_zero e)
          have : (ks.length : Int) ≠ 0 := by omega
          simpa using this
        cases n with
        | zero => exact absurd HK.out.1 hks
        | succ m =>
        have hemp : ks.isEmpty = false := by cases ks with
          | nil => exact absurd rfl hks
          | cons _ _ => rfl
        have HL2 : Hid (bs.length + 6 * (1 + s.size + (l.flatMap attrP).length + (1 + (showL (m + 1) ks).length + 2 + s.size + 1)) ≤ 1099511627776) := by
          show _ ≤ _
          have e : (oneP (showL (m + 1) ks) ⟨false, s, l, ks⟩).length = 1 + s.size + (l.flatMap attrP).length + (1 + (showL (m + 1) ks).length + 2 + s.size + 1) := by
            rw [HL0.out, hemp]; simp; omega
          rw [e] at hlen; exact hlen
        have hL2 := HL2.out
        have hw6 := bWrite_F B b _ bw ⟨#[62]⟩ wo HBdE.out (by rw [hlE]; show _ + 1 ≤ _; omega) (by omega)
        have HW6 : Hid _ := hw6
        clear hw6
        go_wp2_with fail
        refine (Calls.mono HW6.out ?_)
        rintro e w6 ⟨rfl, bv6, hBd6, hF6⟩
        have HBd6 : Hid (Bd B b (Lib.byteCells (bs ++ 60 :: s.data.toList ++ l.flatMap attrP ++ [62])) bv6 w6) := hBd6.str (m := [62]) rfl
        have HF6 : Hid (BFr B b bv W1 bv6 w6) := HFk.out.trans hF6
        obtain ⟨_, _, y6⟩ := HBX.out _ _ HF6.out
        clear HW6 hBd6 hF6 y1 y2 y3 HBdE
        go_wp2_with fail
        go_loopg [50] ks.length (fun g i wr => ∃ (k : Nat) (bw : Value), k + g = ks.length ∧ i = .int .i64 k ∧ Bd B b (Lib.byteCells (bs ++ 60 :: s.data.toList ++ l.flatMap attrP ++ [62] ++ showL (m + 1) (ks.take k))) bw wr ∧ BFr B b bv W1 bw wr)
        case atStart => exact ⟨0, bv6, by omega, rfl, by simpa [showL] using HBd6.out, HF6.out⟩
        case round =>
          obtain ⟨k, bx, hk2, rfl, hBdk, hFx⟩ := hrel
          have HBdx : Hid (Bd B b (Lib.byteCells (bs ++ 60 :: s.data.toList ++ l.flatMap attrP ++ [62] ++ showL (m + 1) (ks.take k))) bx wr) := hBdk
          have HFx : Hid (BFr B b bv W1 bx wr) := hFx
          have hszx := hFx.below.size
          clear hBdk hFx HBd6 y6
          by_cases hlt : k < ks.length
          · obtain ⟨_, _, hve, _, _, h4⟩ := HK.out
            obtain ⟨kb, ko, hao, hs, hcc⟩ := h4 hks
            injection hve with e1 e2 e3
            subst e1
            subst hao
            obtain ⟨t, ht⟩ : ∃ t, ks[k]? = some t := ⟨ks[k], by simp [hlt]⟩
            obtain ⟨xa, xk, c0, c1, c2, c3, hat, hkt⟩ := hcc k t ht
            have hkeep := HKEEP.out _ _ HFx.out
            have hkp := hkeep kb hs
            rw [← World.cell?_of_block (a := ⟨kb, ko + k * 4, none⟩) hkp] at c0
            rw [← World.cell?_of_block (a := ⟨kb, ko + k * 4 + 1, none⟩) hkp] at c1
            rw [← World.cell?_of_block (a := ⟨kb, ko + k * 4 + 2, none⟩) hkp] at c2
            rw [← World.cell?_of_block (a := ⟨kb, ko + k * 4 + 3, none⟩) hkp] at c3
            have hatr : Attrs S wr xa t.attrs := Attrs.carry hat fun b hb => ⟨hb, hkeep b hb⟩
            have hktr : Trees S wr m xk t.kids := Trees.carry (fun b hb => ⟨hb, hkeep b hb⟩) m hkt
            have hsn : ks.take (k + 1) = ks.take k ++ [t] := by
              rw [List.take_succ_eq_append_getElem hlt]; congr 2; simpa [hlt] using ht
            have hq1 : (showL (m + 1) (ks.take k)).length + (oneP (showL m t.kids) t).length ≤ (showL (m + 1) ks).length := by
              have := show_le (n := m) (l := ks) (k := k + 1)
              rw [hsn, showL_snoc, List.length_append] at this
              exact this
            have HSN : Hid (showL (m + 1) (ks.take (k + 1)) = showL (m + 1) (ks.take k) ++ oneP (showL m t.kids) t) := by show _ = _; rw [hsn, showL_snoc]
            have hfree : ∀ x, S x → x < wr.heap.size + 1 ∧ x ≠ b ∧ bx.ownBlock ≠ some x := by
              intro x hx
              obtain ⟨h1, h2, h3⟩ := HS.out x hx
              exact ⟨by omega, h2, HFx.out.free (by omega) h3⟩
            have hbk : ∀ o, Below wr.heap.size wr (wr.alloc o) := fun o => Below.alloc1 wr o
            obtain ⟨ya, yc, rfl⟩ := hatr.shape
            obtain ⟨yk, ykc, rfl, _, _⟩ := Trees.shape m hktr
            have HCALL : Hid _ := HIH.out m rfl S B b _ bx _ _ t (wr.alloc (.cells #[.bool t.text, .string t.s, .slice ya t.attrs.length yc, .slice yk t.kids.length ykc] 25)) (by simpa using hfree) (hatr.later (hbk _)) (Trees.later (hbk _) m hktr) (HBdx.out.later (hbk _)) (HMK.out _ _ (HFx.out.trans (BFr.later (by omega) (hbk _)))) hgB (by simp; omega) (by
              have e : (bs ++ 60 :: s.data.toList ++ l.flatMap attrP ++ [62] ++ showL (m + 1) (ks.take k)).length = bs.length + (1 + s.size) + (l.flatMap attrP).length + 1 + (showL (m + 1) (ks.take k)).length := by simp; omega
              rw [e]; omega)
            have HFA : Hid (BFr B b bx wr bx (wr.alloc (.cells #[.bool t.text, .string t.s, .slice ya t.attrs.length yc, .slice yk t.kids.length ykc] 25))) := BFr.later (by omega) (hbk _)
            have hlti : (k : Int) < (ks.length : Int) := by omega
            clear hat hkt hcc h4 ht hsn hatr hktr hkeep hkp hbk hfree e2 e3
            go_wp2_with fail
            refine (Calls.mono HCALL.out ?_)
            rintro e w7 ⟨rfl, bv7, hBd7, hF7⟩
            have HBd7 : Hid _ := hBd7
            have HF7 : Hid (BFr B b bv W1 bv7 w7) := HFx.out.trans (HFA.out.trans hF7)
            clear hBd7 hF7 HCALL
            go_wp2_with fail
            go_roundg (ks.length - (k + 1))
            case measure => omega
            case rel =>
              refine ⟨k + 1, bv7, by omega, by go_num, ?_, HF7.out⟩
              rw [HSN.out, ← List.append_assoc]
              exact HBd7.out
          · have hkk : k = ks.length := by omega
            subst hkk
            obtain ⟨y1, _, _⟩ := HBX.out _ _ HFx.out
            have HBdE : Hid (Bd B b (Lib.byteCells (bs ++ 60 :: s.data.toList ++ l.flatMap attrP ++ [62] ++ showL (m + 1) ks)) bx wr) := by have := HBdx.out; rw [List.take_length] at this; exact this
            have HW8 : Hid _ := bWrite_F B b _ bx (⟨#[60, 47]⟩ ++ s ++ ⟨#[62]⟩) wr HBdE.out (by
              have e : (Lib.byteCells (bs ++ 60 :: s.data.toList ++ l.flatMap attrP ++ [62] ++ showL (m + 1) ks)).length = bs.length + (1 + s.size) + (l.flatMap attrP).length + 1 + (showL (m + 1) ks).length := by rw [Lib.byteCells_length]; simp; omega
              rw [e, ByteArray.size_append, ByteArray.size_append]
              show _ + (2 + s.size + 1) ≤ _
              omega) (by omega)
            clear HBdx
            go_wp2_with fail
            refine (Calls.mono HW8.out ?_)
            rintro e w8 ⟨rfl, bv8, hBd8, hF8⟩
            have h := hBd8.str (m := [60, 47] ++ s.data.toList ++ [62]) (by rw [data_append, data_append])
            go_wp2_with fail
            go_returns
            refine ⟨rfl, bv8, ?_, HF0.out.trans (HFx.out.trans hF8)⟩
            rw [HL0.out, hemp]
            simpa using h

theorem print_of (n : Nat) (ih : ∀ m, n = m + 1 → PrintOk m) : PrintOk n := by
  intro S B b bs bv va vk t w hS hA hK hBd hM hgB hBw hlen
  obtain ⟨tx, s, l, ks⟩ := t
  cases tx with
  | true => exact print_text n S B b bs bv va vk s l ks w hA hK hBd hM hgB hBw hlen
  | false => exact print_elem n ih S B b bs bv va vk s l ks w hS hA hK hBd hM hgB hBw hlen

theorem print_any (n : Nat) : PrintOk n := by
  induction n with
  | zero => exact print_of 0 (fun m h => by omega)
  | succ n ih => exact print_of (n + 1) (fun m h => by obtain rfl : n = m := by omega
                                                       exact ih)
end Go.Proofs.YtmbmfomeiioijaaDoor

/- How deep trees are and how many, level by level; a list of trees that grows by whole lists. No condition. -/
namespace Go.Proofs.YtmbmfomeiioijaaDoor
open Go.ChangeShapes Go.WideShapes Go.ChangeAt Go.RowKit
set_option maxRecDepth 100000

def dep : Nat → List Tr → Nat
  | 0, _ => 0
  | n + 1, ts => (ts.map fun t => 1 + dep n t.kids).foldr max 0

theorem dep_nil (n : Nat) : dep n [] = 0 := by cases n <;> rfl
theorem dep_cons (n : Nat) (t : Tr) (r : List Tr) : dep (n + 1) (t :: r) = max (1 + dep n t.kids) (dep (n + 1) r) := rfl

theorem dep_append (n : Nat) (a b : List Tr) : dep n (a ++ b) = max (dep n a) (dep n b) := by
  cases n with
  | zero => rfl
  | succ n =>
    induction a with
    | nil => simp [dep_nil]
    | cons t r ih => rw [List.cons_append, dep_cons, dep_cons, ih]; omega

theorem cnt_append (n : Nat) (a b : List Tr) : cnt n (a ++ b) = cnt n a + cnt n b := by
  cases n with
  | zero => rfl
  | succ n =>
    induction a with
    | nil => simp [cnt_nil]
    | cons t r ih => rw [List.cons_append, cnt_cons, cnt_cons, ih]; omega

theorem dep_cnt : ∀ (n : Nat) (ts : List Tr), dep n ts ≤ cnt n ts := by
  intro n
  induction n with
  | zero => intro ts; exact Nat.le_refl _
  | succ n ih =>
    intro ts
    induction ts with
    | nil => rw [dep_nil]; omega
    | cons t r ihr => rw [dep_cons, cnt_cons]; have := ih t.kids; omega

/-- The next level. -/
def nx (ts : List Tr) : List Tr := ts.flatMap fun t => t.kids

theorem nx_nil : nx [] = [] := rfl
theorem nx_cons (t : Tr) (r : List Tr) : nx (t :: r) = t.kids ++ nx r := by simp [nx]
theorem nx_append (a b : List Tr) : nx (a ++ b) = nx a ++ nx b := by simp [nx]

theorem cnt_nx (n : Nat) (ts : List Tr) : cnt (n + 1) ts = ts.length + cnt n (nx ts) := by
  induction ts with
  | nil => simp [cnt_nil, nx_nil]
  | cons t r ih => rw [cnt_cons, nx_cons, cnt_append, ih, List.length_cons]; omega

theorem dep_nx (n : Nat) (ts : List Tr) (h : ts ≠ []) : dep (n + 1) ts = 1 + dep n (nx ts) := by
  induction ts with
  | nil => exact absurd rfl h
  | cons t r ih =>
    rw [dep_cons, nx_cons, dep_append]
    by_cases hr : r = []
    · subst hr; rw [dep_nil, nx_nil, dep_nil]; omega
    · rw [ih hr]; omega

theorem Deep.nx {n : Nat} {ts : List Tr} (h : Deep (n + 1) ts) : Deep n (nx ts) := by
  cases n with
  | zero =>
    show Go.Proofs.YtmbmfomeiioijaaDoor.nx ts = []
    induction ts with
    | nil => rfl
    | cons t r ih =>
      rw [nx_cons, ih (fun x hx => h x (List.mem_cons_of_mem _ hx))]
      have : t.kids = [] := h t (List.mem_cons_self ..)
      rw [this]; rfl
  | succ n =>
    intro x hx
    obtain ⟨t, ht, hxt⟩ := List.mem_flatMap.1 hx
    exact h t ht x hxt

theorem Deep.len {n : Nat} {ts : List Tr} (h : Deep n ts) : ts.length ≤ cnt n ts := by
  cases n with
  | zero =>
    have : ts = [] := h
    rw [this]; exact Nat.zero_le _
  | succ n => rw [cnt_nx]; omega

theorem pick_list {α : Type} {p : Nat → α → Prop} : ∀ (n : Nat), (∀ i, i < n → ∃ y, p i y) → ∃ l : List α, l.length = n ∧ ∀ i y, l[i]? = some y → p i y := by
  intro n
  induction n with
  | zero => intro _; exact ⟨[], rfl, fun i y h => by simp at h⟩
  | succ n ih =>
    intro h
    obtain ⟨l, hl, hp⟩ := ih (fun i hi => h i (by omega))
    obtain ⟨y, hy⟩ := h n (by omega)
    refine ⟨l ++ [y], by simp [hl], fun i z hz => ?_⟩
    rcases Nat.lt_or_ge i n with hi | hi
    · rw [List.getElem?_append_left (by omega)] at hz; exact hp i z hz
    · rw [List.getElem?_append_right (by omega), hl] at hz
      rcases Nat.eq_zero_or_pos (i - n) with h0 | h0
      · rw [h0] at hz; simp at hz; subst hz
        have : i = n := by omega
        rw [this]; exact hy
      · rw [List.getElem?_eq_none (by simp; omega)] at hz; cases hz

theorem quadCells_at {ps : List (Bool × ByteArray × Value × Value)} {j : Nat} {u : Value} (h : (quadCells ps)[j]? = some u) :
    ∃ i q, ps[i]? = some q ∧ ((j = i * 4 ∧ u = .bool q.1) ∨ (j = i * 4 + 1 ∧ u = .string q.2.1) ∨ (j = i * 4 + 2 ∧ u = q.2.2.1) ∨ (j = i * 4 + 3 ∧ u = q.2.2.2)) := by
  have hj : j < (quadCells ps).length := (List.getElem?_eq_some_iff.1 h).1
  rw [quadCells_length] at hj
  have hi : j / 4 < ps.length := by omega
  have hq : ps[j / 4]? = some ps[j / 4] := by simp
  obtain ⟨g0, g1, g2, g3⟩ := quadCells_get ps (j / 4) _ hq
  refine ⟨j / 4, ps[j / 4], hq, ?_⟩
  have hm : j % 4 = 0 ∨ j % 4 = 1 ∨ j % 4 = 2 ∨ j % 4 = 3 := by omega
  rcases hm with e | e | e | e
  · have hj' : j = j / 4 * 4 := by omega
    rw [← hj', h] at g0; exact Or.inl ⟨hj', by simpa using g0⟩
  · have hj' : j = j / 4 * 4 + 1 := by omega
    rw [← hj', h] at g1; exact Or.inr (Or.inl ⟨hj', by simpa using g1⟩)
  · have hj' : j = j / 4 * 4 + 2 := by omega
    rw [← hj', h] at g2; exact Or.inr (Or.inr (Or.inl ⟨hj', by simpa using g2⟩))
  · have hj' : j = j / 4 * 4 + 3 := by omega
    rw [← hj', h] at g3; exact Or.inr (Or.inr (Or.inr ⟨hj', by simpa using g3⟩))

/-- The four cells of each tree of a list that lies somewhere. -/
theorem Trees.quads {S : Nat → Prop} {w : World} {n : Nat} {ad : Addr} {len cap : Nat} {ts : List Tr} (h : Trees S w (n + 1) (.slice (some ad) len cap) ts) :
    ∃ ps : List (Bool × ByteArray × Value × Value), ps.length = ts.length ∧ (∀ j u, (quadCells ps)[j]? = some u → w.cell? (ad.add j) = some u) ∧ (∀ u ∈ quadCells ps, u.oneCell' = true) ∧
      ∀ (i : Nat) (q : Bool × ByteArray × Value × Value) (t : Tr), ps[i]? = some q → ts[i]? = some t → q.1 = t.text ∧ q.2.1 = t.s ∧ Attrs S w q.2.2.1 t.attrs ∧ Trees S w n q.2.2.2 t.kids := by
  obtain ⟨a, c, hv, h2, h3, h4⟩ := h
  by_cases hne : ts = []
  · subst hne
    exact ⟨[], rfl, fun j u hj => by simp [quadCells] at hj, fun u hu => by simp [quadCells] at hu, fun i q t hq => by simp at hq⟩
  obtain ⟨b, o, ha, hs, hc⟩ := h4 hne
  have had : ad = ⟨b, o, none⟩ := by
    rw [ha] at hv
    injection hv with h5
    injection h5
  obtain ⟨ps, hl, hp⟩ := pick_list (α := Bool × ByteArray × Value × Value) (p := fun i q => ∀ t, ts[i]? = some t →
      w.cell? ⟨b, o + i * 4, none⟩ = some (.bool q.1) ∧ w.cell? ⟨b, o + i * 4 + 1, none⟩ = some (.string q.2.1) ∧ w.cell? ⟨b, o + i * 4 + 2, none⟩ = some q.2.2.1 ∧ w.cell? ⟨b, o + i * 4 + 3, none⟩ = some q.2.2.2 ∧
      q.1 = t.text ∧ q.2.1 = t.s ∧ Attrs S w q.2.2.1 t.attrs ∧ Trees S w n q.2.2.2 t.kids) ts.length (by
    intro i hi
    have ht : ts[i]? = some ts[i] := by simp
    obtain ⟨va, vk, c0, c1, c2, c3, hat, hkt⟩ := hc i _ ht
    refine ⟨(ts[i].text, ts[i].s, va, vk), fun t ht' => ?_⟩
    rw [ht] at ht'; cases ht'
    exact ⟨c0, c1, c2, c3, rfl, rfl, hat, hkt⟩)
  have find : ∀ (i : Nat) (q : Bool × ByteArray × Value × Value), ps[i]? = some q → ∃ t, ts[i]? = some t := by
    intro i q hq
    have : i < ps.length := (List.getElem?_eq_some_iff.1 hq).1
    exact ⟨ts[i]'(by omega), by simp⟩
  refine ⟨ps, hl, ?_, ?_, ?_⟩
  · intro j u hj
    obtain ⟨i, q, hq, hu⟩ := quadCells_at hj
    obtain ⟨t, ht⟩ := find i q hq
    obtain ⟨c0, c1, c2, c3, _⟩ := hp i q hq t ht
    subst had
    rw [Addr.add_lit]
    rcases hu with ⟨rfl, rfl⟩ | ⟨rfl, rfl⟩ | ⟨rfl, rfl⟩ | ⟨rfl, rfl⟩
    · exact c0
    · exact c1
    · exact c2
    · exact c3
  · intro u hu
    obtain ⟨j, hj⟩ := List.mem_iff_getElem?.1 hu
    obtain ⟨i, q, hq, hu⟩ := quadCells_at hj
    obtain ⟨t, ht⟩ := find i q hq
    obtain ⟨_, _, _, _, _, _, hA, hT⟩ := hp i q hq t ht
    rcases hu with ⟨_, rfl⟩ | ⟨_, rfl⟩ | ⟨_, rfl⟩ | ⟨_, rfl⟩
    · rfl
    · rfl
    · obtain ⟨x, y, e⟩ := hA.shape; rw [e]; rfl
    · obtain ⟨x, y, e, _⟩ := Trees.shape n hT; rw [e]; rfl
  · intro i q t hq ht
    obtain ⟨_, _, _, _, r⟩ := hp i q hq t ht
    exact r

theorem Grow.many {S : Nat → Prop} {n B : Nat} {w w' : World} {v v' : Value} {us ts : List Tr} {qs ps : List (Bool × ByteArray × Value × Value)}
    (h : Grow S n B w v us qs) (hl : ps.length = ts.length) (hown : w'.ownsRow B 25 4 v' (us.length + ts.length) (quadCells qs ++ quadCells ps))
    (hg : w.grownBy w' v.ownBlock) (hat : v'.ownBlock = v.ownBlock ∨ v'.ownBlock = some w.heap.size)
    (he : ∀ (i : Nat) (q : Bool × ByteArray × Value × Value) (t : Tr), ps[i]? = some q → ts[i]? = some t → q.1 = t.text ∧ q.2.1 = t.s ∧ Attrs (Oth S B w v) w q.2.2.1 t.attrs ∧ Trees (Oth S B w v) w n q.2.2.2 t.kids) : Grow S n B w' v' (us ++ ts) (qs ++ ps) := by
  have carry : ∀ b, Oth S B w v b → Oth S B w' v' b ∧ w'.heap[b]? = w.heap[b]? := by
    intro b hb
    refine ⟨⟨hb.1, Nat.lt_of_lt_of_le hb.2.1 hg.size, ?_⟩, hg.block b hb.2.1 (fun e => hb.2.2 e.symm)⟩
    rcases hat with e | e
    · rw [e]; exact hb.2.2
    · rw [e]; intro e'; cases e'; exact Nat.lt_irrefl _ hb.2.1
  refine ⟨by simp [h.len, hl], ?_, ?_⟩
  · rw [quadCells_append, List.length_append]; exact hown
  · intro i q' t' hq ht
    rcases Nat.lt_or_ge i us.length with hi | hi
    · rw [List.getElem?_append_left (by rw [h.len]; exact hi)] at hq
      rw [List.getElem?_append_left hi] at ht
      obtain ⟨a, b, c, d⟩ := h.each i q' t' hq ht
      exact ⟨a, b, c.carry carry, Trees.carry carry n d⟩
    · rw [List.getElem?_append_right (by rw [h.len]; exact hi)] at hq
      rw [List.getElem?_append_right hi] at ht
      rw [h.len] at hq
      obtain ⟨a, b, c, d⟩ := he _ q' t' hq ht
      exact ⟨a, b, c.carry carry, Trees.carry carry n d⟩

/-- A list of trees appended onto one of our own. -/
theorem wpList_append_trees {ops : Array Oper} {rest : List Oper} {o : Oper} {a : Act} {w : World} {Q : Exit → Act → World → Prop} (hgd : o.guard = none) (s x : Operand)
    (ho : o.op = .call { callee := .builtin .append, args := #[s, x], argTypes := #[23, 23] })
    (S S1 : Nat → Prop) (n B : Nat) (v vk : Value) (us ts : List Tr) (qs : List (Bool × ByteArray × Value × Value)) (hs : a.eval s = v) (hG : Grow S n B w v us qs) (hx : a.eval x = vk) (hk : Trees S1 w (n + 1) vk ts)
    (hS : ∀ b, S1 b → Oth S B w v b) (hl : us.length + ts.length ≤ 1048576) (hB : B ≤ w.heap.size)
    (h : ∀ v' w' qs', Grow S n B w' v' (us ++ ts) qs' → Below B w w' → wpList Tryd.prog ops Q rest (a.put o.dst v') w') :
    wpList Tryd.prog ops Q (o :: rest) a w := by
  obtain ⟨i0, hi, hz0, hz1, hz2⟩ := info_parts treeInfo
  obtain ⟨ka, kc, rfl, hkc, hkm⟩ := Trees.shape (n + 1) hk
  cases ka with
  | none =>
    have hn : ts = [] := by
      apply Classical.byContradiction; intro hne
      obtain ⟨a, c, hv, _, _, h4⟩ := hk
      obtain ⟨b, o, ha, _⟩ := h4 hne
      rw [ha] at hv; cases hv
    subst hn
    refine wpList_plain hgd fun K hK => ?_
    have hrun : (Builtin.append_ #[23, 23] o.type #[v, .slice none 0 kc]).run Tryd.prog w = .ok v w := by
      rcases hG.own.2 with ⟨rfl, e⟩ | ⟨g, cap, cur, rfl, _, _, hnc, _⟩
      · simp [Builtin.append_, run_underlying Tryd.underlying23, sizeOf, typeInfo, hi, Builtin.lenOf, Builtin.firstCells]
      · simp [Builtin.append_, run_underlying Tryd.underlying23, sizeOf, typeInfo, hi, Builtin.lenOf, Builtin.firstCells, hnc, storeCells]
    simp only [List.length_nil] at hx
    unfold Oper.wp
    simp [execOp, ho, resolve, invoke, builtin, hs, hx, hrun, Result.andThen]
    exact hK _ _ (h v w qs (by rw [List.append_nil]; exact hG) (Below.refl _ _))
  | some ad =>
    obtain ⟨ps, hpl, hpc, hp1, hpe⟩ := Trees.quads hk
    refine wpList_append_own_at w hgd s x 23 ho B 25 i0 _ 4 72 Tryd.underlying23 hi hz0 hz1 hz2 rfl (by decide) v us.length (quadCells qs) hs hG.own ad ts.length kc (quadCells ps) hx ?_ hpc hp1 ?_ ?_ hB ?_
    · rw [quadCells_length, hpl]
    · unfold maxLen; omega
    · omega
    · intro v' w' hown hgr _ hat
      exact h v' w' _ (hG.many hpl hown hgr hat (fun i q t hq ht => by
        obtain ⟨a, b, c, d⟩ := hpe i q t hq ht
        exact ⟨a, b, c.carry (fun b hb => ⟨hS b hb, rfl⟩), Trees.carry (fun b hb => ⟨hS b hb, rfl⟩) n d⟩)) ((Below.refl _ w).grown hgr hB (fun k hk' => (hG.own.lt k hk').1))
end Go.Proofs.YtmbmfomeiioijaaDoor

/- What tree.roomBehind leaves, in terms of depth, count and what is right. No condition. -/
namespace Go.Proofs.YtmbmfomeiioijaaDoor
open Go.ChangeShapes Go.WideShapes Go.ChangeAt Go.RowKit
set_option maxRecDepth 100000

theorem rgt_nil (n : Nat) : rgt n [] = true := by cases n <;> rfl

theorem right_kids {n : Nat} {t : Tr} (h : rightB t = true) : (t.text || rgt n t.kids) = rgt n t.kids := by
  cases htt : t.text with
  | false => rfl
  | true =>
    have : t.kids = [] := by
      simp [rightB, htt] at h
      exact h.2
    rw [this, rgt_nil]; rfl

theorem rl_eq (d n : Nat) (f : Int → List Tr → Int)
    (hf : ∀ room k, 0 ≤ room → Deep n k → f room k = if dep n k ≤ d ∧ (cnt n k : Int) ≤ room ∧ rgt n k = true then room - cnt n k else -1) :
    ∀ (l : List Tr) (p : Bool) (room : Int), 0 ≤ room → Deep (n + 1) l →
      rl f p room l = if dep n (nx l) ≤ d ∧ (cnt n (nx l) : Int) ≤ room ∧ rgL (rgt n) p l = true then room - cnt n (nx l) else -1 := by
  intro l
  induction l with
  | nil =>
    intro p room h0 _
    rw [nx_nil, dep_nil, cnt_nil, if_pos ⟨Nat.zero_le _, by simpa using h0, rfl⟩]
    simp [rl]
  | cons t r ih =>
    intro p room h0 hd
    have hk : Deep n t.kids := hd t (List.mem_cons_self ..)
    have hr : Deep (n + 1) r := fun x hx => hd x (List.mem_cons_of_mem _ hx)
    rw [nx_cons, dep_append, cnt_append]
    unfold rl
    have hfk := hf room t.kids h0 hk
    by_cases hA : (!rightB t || (p && t.text)) = true
    · rw [if_pos hA, if_neg]
      rintro ⟨_, _, h3⟩
      unfold rgL at h3
      cases h1 : rightB t <;> cases h2 : (p && t.text) <;> simp [h1, h2] at hA h3
    · rw [if_neg hA]
      have h1 : rightB t = true := by cases h : rightB t <;> simp [h] at hA ⊢
      have h2 : (p && t.text) = false := by cases h : (p && t.text) <;> simp [h] at hA ⊢
      have hg : rgL (rgt n) p (t :: r) = (rgt n t.kids && rgL (rgt n) t.text r) := by
        show (rightB t && !(p && t.text) && (t.text || rgt n t.kids) && rgL (rgt n) t.text r) = _
        rw [h1, h2, right_kids h1]; rfl
      rw [hg]
      by_cases hK : dep n t.kids ≤ d ∧ (cnt n t.kids : Int) ≤ room ∧ rgt n t.kids = true
      · rw [if_pos hK] at hfk
        rw [hfk, if_neg (by omega), ih t.text (room - cnt n t.kids) (by omega) hr]
        by_cases hR : dep n (nx r) ≤ d ∧ (cnt n (nx r) : Int) ≤ room - cnt n t.kids ∧ rgL (rgt n) t.text r = true
        · rw [if_pos hR, if_pos ⟨by omega, by push_cast; omega, by rw [hK.2.2, hR.2.2]; rfl⟩]
          push_cast; omega
        · rw [if_neg hR, if_neg]
          rintro ⟨a, b, c⟩
          rw [hK.2.2] at c
          exact hR ⟨by omega, by push_cast at b; omega, by simpa using c⟩
      · rw [if_neg hK] at hfk
        rw [hfk, if_pos (by decide), if_neg]
        rintro ⟨a, b, c⟩
        simp only [Bool.and_eq_true] at c
        exact hK ⟨by omega, by push_cast at b; omega, c.1⟩

theorem rb_eq : ∀ (d n : Nat) (l : List Tr) (room : Int), 0 ≤ room → Deep n l →
    rb d room l = if dep n l ≤ d ∧ (cnt n l : Int) ≤ room ∧ rgt n l = true then room - cnt n l else -1 := by
  intro d
  induction d with
  | zero =>
    intro n l room h0 hd
    unfold rb
    cases l with
    | nil => simp [dep_nil, cnt_nil, rgt_nil]; omega
    | cons t r =>
      cases n with
      | zero => cases (show t :: r = [] from hd)
      | succ n =>
        rw [if_neg (by simp), if_neg]
        rintro ⟨a, _⟩
        rw [dep_cons] at a; omega
  | succ d ih =>
    intro n l room h0 hd
    unfold rb
    cases l with
    | nil => simp [dep_nil, cnt_nil, rgt_nil]; omega
    | cons t r =>
      cases n with
      | zero => cases (show t :: r = [] from hd)
      | succ n =>
        rw [if_neg (by simp)]
        generalize hl : t :: r = l at *
        have hne : l ≠ [] := by rw [← hl]; simp
        rw [dep_nx n l hne, cnt_nx n l]
        by_cases hrm : room < (l.length : Int)
        · rw [if_pos hrm, if_neg]
          rintro ⟨_, b, _⟩
          push_cast at b; omega
        · rw [if_neg hrm, rl_eq d n (rb d) (fun room k h hk => ih n k room h hk) l false (room - l.length) (by omega) hd]
          by_cases hR : dep n (nx l) ≤ d ∧ (cnt n (nx l) : Int) ≤ room - l.length ∧ rgL (rgt n) false l = true
          · rw [if_pos hR, if_pos ⟨by omega, by push_cast; omega, hR.2.2⟩]; push_cast; omega
          · rw [if_neg hR, if_neg]
            rintro ⟨a, b, c⟩
            exact hR ⟨by omega, by push_cast at b; omega, c⟩

theorem contentB_eq {n : Nat} {l : List Tr} (hd : Deep n l) : contentB l = (decide (dep n l ≤ 8) && decide (cnt n l ≤ 80) && rgt n l) := by
  unfold contentB
  rw [rb_eq 8 n l 80 (by decide) hd]
  by_cases h : dep n l ≤ 8 ∧ (cnt n l : Int) ≤ 80 ∧ rgt n l = true
  · rw [if_pos h]
    have h2 : cnt n l ≤ 80 := by omega
    simp [h.1, h2, h.2.2]
    omega
  · rw [if_neg h]
    cases hr : rgt n l with
    | false => simp
    | true =>
      have : ¬ (dep n l ≤ 8 ∧ cnt n l ≤ 80) := fun ⟨a, b⟩ => h ⟨a, by omega, hr⟩
      by_cases h1 : dep n l ≤ 8
      · have h2 : ¬ cnt n l ≤ 80 := fun b => this ⟨h1, b⟩
        simp [h2]
      · simp [h1]

theorem goodB_eq {n : Nat} {t : Tr} (hd : Deep n t.kids) : goodB t = (!t.text && decide (dep (n + 1) [t] < 9) && decide (cnt (n + 1) [t] < 81) && rgt (n + 1) [t]) := by
  have h : Deep (n + 1) [t] := by intro x hx; simp at hx; subst hx; exact hd
  unfold goodB
  rw [contentB_eq h]
  have e1 : decide (dep (n + 1) [t] ≤ 8) = decide (dep (n + 1) [t] < 9) := by congr 1; apply propext; omega
  have e2 : decide (cnt (n + 1) [t] ≤ 80) = decide (cnt (n + 1) [t] < 81) := by congr 1; apply propext; omega
  rw [e1, e2, Bool.and_assoc, Bool.and_assoc, Bool.and_assoc]
end Go.Proofs.YtmbmfomeiioijaaDoor

/- mark.Print, for every tree: what the document says, errors too. Condition: texts of at most 2^63 letters. -/
namespace Go.Proofs.YtmbmfomeiioijaaDoor
open Go.ChangeShapes Go.WideShapes Go.ChangeAt Go.RowKit
set_option maxRecDepth 100000

theorem name_size {s : ByteArray} (h : nameB s = true) : s.size ≤ 8 := by
  simp only [nameB, Bool.and_eq_true, decide_eq_true_eq] at h; exact h.1.2
theorem plain_size {s : ByteArray} (h : plainB s = true) : s.size ≤ 40 := by
  simp only [plainB, Bool.and_eq_true, decide_eq_true_eq] at h; exact h.1

theorem attrs_each {l : List (ByteArray × ByteArray)} (h : attrsB l = true) : l.length ≤ 4 ∧ ∀ x ∈ l, nameB x.1 = true ∧ plainB x.2 = true := by
  simp only [attrsB, Bool.and_eq_true, decide_eq_true_eq, List.all_eq_true] at h
  refine ⟨h.1, fun x hx => ?_⟩
  obtain ⟨i, hi⟩ := List.mem_iff_getElem?.1 hx
  have hil : i < l.length := by
    rcases Nat.lt_or_ge i l.length with h' | h'
    · exact h'
    · rw [List.getElem?_eq_none h'] at hi; cases hi
  have := h.2 i (by simpa using hil)
  unfold okA at this
  rw [hi] at this
  simp only [Bool.and_eq_true] at this
  exact ⟨this.1.1, this.1.2⟩

theorem flat_bound (l : List (ByteArray × ByteArray)) (h : ∀ x ∈ l, nameB x.1 = true ∧ plainB x.2 = true) : (l.flatMap attrP).length ≤ 252 * l.length := by
  induction l with
  | nil => simp
  | cons x r ih =>
    have h1 := ih (fun y hy => h y (List.mem_cons_of_mem _ hy))
    have h2 := h x List.mem_cons_self
    have h3 := name_size h2.1
    have h4 := plain_size h2.2
    have h5 := markL_len true x.2.data.toList
    rw [size_data] at h5
    have h6 : ((x :: r).flatMap attrP).length = (attrP x).length + (r.flatMap attrP).length := by simp
    rw [h6, attrP_len, List.length_cons]; omega

theorem one_bound {inner : List UInt8} {t : Tr} (h : rightB t = true) : (oneP inner t).length ≤ 1100 + inner.length := by
  obtain ⟨tx, s, l, ks⟩ := t
  cases tx with
  | true =>
    simp only [rightB, if_true, Bool.and_eq_true] at h
    have h1 := plain_size h.1.1.2
    have h2 := markL_len false s.data.toList
    rw [size_data] at h2
    simp only [oneP, if_true]
    omega
  | false =>
    simp only [rightB, Bool.false_eq_true, if_false, Bool.and_eq_true] at h
    have h1 := name_size h.1
    obtain ⟨h2, h3⟩ := attrs_each h.2
    have h4 := flat_bound l h3
    have h5 : (oneP inner ⟨false, s, l, ks⟩).length ≤ 1 + s.size + (l.flatMap attrP).length + (1 + inner.length + 2 + s.size + 1) := by
      simp only [oneP, Bool.false_eq_true, if_false, List.length_append, List.length_cons, size_data]
      split
      · simp; omega
      · simp; omega
    omega

theorem show_bound : ∀ (n : Nat) (ts : List Tr), rgt n ts = true → (showL n ts).length ≤ 1100 * cnt n ts := by
  intro n
  induction n with
  | zero => intro ts _; simp [showL]
  | succ n ih =>
    have hl : ∀ (ts : List Tr) (p : Bool), rgL (rgt n) p ts = true → (showL (n + 1) ts).length ≤ 1100 * cnt (n + 1) ts := by
      intro ts
      induction ts with
      | nil => intro p _; simp [showL]
      | cons t r ihr =>
        intro p h
        simp only [rgL, Bool.and_eq_true] at h
        obtain ⟨⟨⟨h1, _⟩, h2⟩, h3⟩ := h
        have h4 := ihr t.text h3
        have h5 : (showL (n + 1) (t :: r)).length = (oneP (showL n t.kids) t).length + (showL (n + 1) r).length := by simp [showL]
        rw [h5, cnt_cons]
        cases htt : t.text with
        | true =>
          have h6 : (oneP (showL n t.kids) t).length ≤ 1100 := by
            have := one_bound (inner := []) h1
            have e : oneP (showL n t.kids) t = oneP [] t := by simp [oneP, htt]
            rw [e]; simpa using this
          omega
        | false =>
          rw [htt, Bool.false_or] at h2
          have h6 := ih t.kids h2
          have h7 := one_bound (inner := showL n t.kids) h1
          omega
    intro ts h
    exact hl ts false h

/-- What is printed of a good tree is short. -/
theorem good_short {n : Nat} {t : Tr} (hd : Deep n t.kids) (h : goodB t = true) : (oneP (showL n t.kids) t).length ≤ 88000 := by
  rw [goodB_eq hd] at h
  simp only [Bool.and_eq_true, decide_eq_true_eq] at h
  have h1 := show_bound (n + 1) [t] h.2
  have h2 : showL (n + 1) [t] = oneP (showL n t.kids) t := by simp [showL]
  rw [h2] at h1
  have := h.1.2
  omega

theorem shown_any (S : Nat → Prop) (n : Nat) (va vk : Value) (t : Tr) (w : World) (hA : Attrs S w va t.attrs) (hK : Trees S w n vk t.kids) (hM : Marks w) (hlen : (oneP (showL n t.kids) t).length ≤ 88000) :
    Calls Tryd.prog 56 #[.agg #[.bool t.text, .string t.s, va, vk]] w fun e w' => e = .returned (.string ⟨(oneP (showL n t.kids) t).toArray⟩) ∧ Below w.heap.size w w' := by
  have hAb := hA.bounded
  have hKb := Trees.bounded n hK
  obtain ⟨aa, ac, rfl⟩ := hA.shape
  obtain ⟨ka, kc, rfl, _, _⟩ := Trees.shape n hK
  have hb0 : ∀ X Y, Below w.heap.size w ((w.alloc X).alloc Y) := fun X Y => (Below.alloc1 w X).alloc (by simp) Y
  have hcall : ∀ X, Calls Tryd.prog 85 #[.pointer (some ⟨w.heap.size + 1, 0, none⟩), .agg #[.bool t.text, .string t.s, .slice aa t.attrs.length ac, .slice ka t.kids.length kc]] ((w.alloc X).alloc (.cells #[.pointer none, .slice none 0 0] 95)) fun e w' => e = .returned (.tuple #[]) ∧ ∃ bv', Bd w.heap.size (w.heap.size + 1) (Lib.byteCells ([] ++ oneP (showL n t.kids) t)) bv' w' ∧ Below w.heap.size w w' := by
    intro X
    have hsz : ((w.alloc X).alloc (.cells #[.pointer none, .slice none 0 0] 95)).heap.size = w.heap.size + 1 + 1 := by simp
    have hbd : Bd w.heap.size (w.heap.size + 1) (Lib.byteCells []) (.slice none 0 0) ((w.alloc X).alloc (.cells #[.pointer none, .slice none 0 0] 95)) := by
      refine ⟨by omega, ⟨_, Or.inl rfl, ?_⟩, World.ownsRow_nil _ _ _ _, by intro e; cases e⟩
      have e := heap_alloc_new (w.alloc X) (.cells #[.pointer none, .slice none 0 0] 95)
      rw [World.size_alloc] at e
      exact e
    have := print_any n (fun b => S b ∧ b < w.heap.size) w.heap.size (w.heap.size + 1) [] (.slice none 0 0) _ _ t ((w.alloc X).alloc (.cells #[.pointer none, .slice none 0 0] 95)) (fun x hx => ⟨by have := hx.2; omega, by have := hx.2; omega, by intro e; cases e⟩) (hAb.later (hb0 _ _)) (Trees.later (hb0 _ _) n hKb) hbd (hM.later (hb0 _ _) hM.lt) hM.lt (by omega) (by simp only [List.length_nil]; omega)
    refine this.mono ?_
    rintro e w' ⟨rfl, bv', h1, h2⟩
    exact ⟨rfl, bv', h1, (hb0 _ _).trans h2.below⟩
  have HC : Hid _ := hcall
  clear hcall hA hK hAb hKb hM hlen
  obtain ⟨L, hL⟩ : ∃ L, oneP (showL n t.kids) t = L := ⟨_, rfl⟩
  rw [hL] at HC ⊢
  clear hL
  go_enter Tryd.func56, Tryd.ntmps56
  go_wp2_with fail
  refine (Calls.mono (HC.out _) ?_)
  rintro e w2 ⟨rfl, bv, hBd, hB⟩
  have hsz := hB.size
  have HS : Hid _ := bString_any w.heap.size (w.heap.size + 1) ([] ++ L) w2 hBd.is hsz
  clear HC hBd
  go_wp2_with fail
  refine (Calls.mono HS.out ?_)
  rintro e w3 ⟨rfl, hb3⟩
  go_wp2_with fail
  go_ret
  exact ⟨rfl, hB.trans hb3⟩

/-- What mark.Print answers. -/
def printR (n : Nat) (t : Tr) : ByteArray × Int :=
  if goodB t then (if 2500 < (oneP (showL n t.kids) t).length then (⟨#[]⟩, 2) else (⟨(oneP (showL n t.kids) t).toArray⟩, 0)) else (⟨#[]⟩, 1)

theorem printOf_any (S : Nat → Prop) (n : Nat) (va vk : Value) (t : Tr) (w : World) (hA : Attrs S w va t.attrs) (hK : Trees S w n vk t.kids) (hM : Marks w) (hx : TextsN (n + 1) [t]) :
    Calls Tryd.prog 26 #[.agg #[.bool t.text, .string t.s, va, vk]] w fun e w' => e = .returned (.tuple #[.string (printR n t).1, .int .i64 (printR n t).2]) ∧ Below w.heap.size w w' := by
  obtain ⟨aa, ac, rfl⟩ := hA.shape
  obtain ⟨ka, kc, rfl, _, _⟩ := Trees.shape n hK
  have hX1 := Box4.start w (.bool t.text) (.string t.s) (.slice aa t.attrs.length ac) (.slice ka t.kids.length kc) 25
  have hb1 := Below.alloc1 w (.cells #[.bool t.text, .string t.s, .slice aa t.attrs.length ac, .slice ka t.kids.length kc] 25)
  have HG : Hid (∀ W, Below w.heap.size w W → Calls Tryd.prog 18 #[.agg #[.bool t.text, .string t.s, .slice aa t.attrs.length ac, .slice ka t.kids.length kc]] W fun e w' => e = .returned (.bool (goodB t)) ∧ Below W.heap.size W w') :=
    fun W hW => good_any S n _ _ t W (hA.later hW) (Trees.later hW n hK) hx
  have HP : Hid (goodB t = true → ∀ W, Below w.heap.size w W → Calls Tryd.prog 56 #[.agg #[.bool t.text, .string t.s, .slice aa t.attrs.length ac, .slice ka t.kids.length kc]] W fun e w' => e = .returned (.string ⟨(oneP (showL n t.kids) t).toArray⟩) ∧ Below W.heap.size W w') :=
    fun hg W hW => shown_any S n _ _ t W (hA.later hW) (Trees.later hW n hK) (hM.later hW hM.lt) (good_short (Trees.deep n hK) hg)
  have HSH : Hid (goodB t = true → (oneP (showL n t.kids) t).length ≤ 88000) := fun hg => good_short (Trees.deep n hK) hg
  have HR : Hid (printR n t = if goodB t then (if 2500 < (oneP (showL n t.kids) t).length then (⟨#[]⟩, 2) else (⟨(oneP (showL n t.kids) t).toArray⟩, 0)) else (⟨#[]⟩, 1)) := rfl
  clear hA hK hM hx
  obtain ⟨L, hL⟩ : ∃ L, oneP (showL n t.kids) t = L := ⟨_, rfl⟩
  obtain ⟨q, hq⟩ : ∃ q, goodB t = q := ⟨_, rfl⟩
  rw [hL] at HP HSH HR
  rw [hq] at HG HP HSH HR
  clear hL hq
  go_enter Tryd.func26, Tryd.ntmps26
  go_wp2_with fail
  generalize w.alloc (.cells #[.bool t.text, .string t.s, .slice aa t.attrs.length ac, .slice ka t.kids.length kc] 25) = W1 at hb1 hX1 ⊢
  refine (Calls.mono (HG.out _ hb1) ?_)
  rintro e w2 ⟨rfl, hb2⟩
  have hX2 := hX1.later hb2 hX1.lt
  have hB2 : Below w.heap.size w w2 := hb1.trans (hb2.mono hb1.size)
  have f0 := hX2.at0
  have f1 := hX2.at1
  have f2 := hX2.at2
  have f3 := hX2.at3
  clear hX1 hX2 hb1 hb2 HG
  cases q with
  | false =>
    go_wp2_with fail
    go_ret2
    exact ⟨by rw [HR.out]; rfl, hB2⟩
  | true =>
    have HP2 := HP.out rfl
    have HP3 : Hid _ := HP2
    have hl88 : L.length ≤ 88000 := HSH.out rfl
    clear HP HP2 HSH
    go_wp2_with fail
    refine (Calls.mono (HP3.out _ hB2) ?_)
    rintro e w3 ⟨rfl, hb3⟩
    have hB3 : Below w.heap.size w w3 := hB2.trans (hb3.mono hB2.size)
    have hsz : (ByteArray.mk L.toArray).size = L.length := by simp [ByteArray.size]
    by_cases hlong : 2500 < L.length
    · have HE : Hid (printR n t = (⟨#[]⟩, 2)) := by show _ = _; rw [HR.out]; simp [hlong]
      have hi : (2500 : Int) < (L.length : Int) := by omega
      clear HR
      go_wp2_with fail
      go_ret2
      exact ⟨by rw [HE.out]; rfl, hB3⟩
    · have HE : Hid (printR n t = (⟨L.toArray⟩, 0)) := by show _ = _; rw [HR.out]; simp [hlong]
      have hi : ¬ (2500 : Int) < (L.length : Int) := by omega
      clear HR hlong
      go_wp2_with fail
      go_ret2
      exact ⟨by rw [HE.out]; rfl, hB3⟩
end Go.Proofs.YtmbmfomeiioijaaDoor

/- What is printed of a good tree is read as it: on plain data. No condition. -/
namespace Go.Proofs.YtmbmfomeiioijaaDoor
open Go.RowKit
set_option maxRecDepth 100000

def endsOf (v : Bool) : List UInt8 := if v then valueEnds else textEnds

theorem plain_ahead {c : UInt8} {x : List UInt8} (hc : c ≠ 38) (p : List UInt8) : (⟨c :: x, false⟩ : Rs).ahead (38 :: p) = false := by
  have : ((38 : UInt8) == c) = false := by simpa using fun e => hc e.symm
  simp [Rs.ahead, List.isPrefixOf, this]

theorem sign_mark (v : Bool) (c : UInt8) (x : List UInt8) : (⟨markC v c ++ x, false⟩ : Rs).sign = (c, ⟨x, false⟩) ∧ (⟨markC v c ++ x, false⟩ : Rs).goesOn (endsOf v) = true := by
  by_cases h0 : c = 60
  · subst h0; cases v <;> exact ⟨rfl, rfl⟩
  by_cases h1 : c = 62
  · subst h1; cases v <;> exact ⟨rfl, rfl⟩
  by_cases h2 : c = 38
  · subst h2; cases v <;> exact ⟨rfl, rfl⟩
  by_cases h3 : (v && c == 34) = true
  · simp only [Bool.and_eq_true, beq_iff_eq] at h3
    obtain ⟨rfl, rfl⟩ := h3
    exact ⟨rfl, rfl⟩
  have hm : markC v c = [c] := by simp only [markC, h0, h1, h2, if_false]; rw [if_neg h3]
  rw [hm]
  constructor
  · show (⟨c :: x, false⟩ : Rs).sign = _
    unfold Rs.sign
    simp only [marksL, Rs.signFrom, plain_ahead h2, h2, Bool.false_eq_true, if_false]
  · have n0 : ((60 : UInt8) == c) = false := by simpa using fun e => h0 e.symm
    have n1 : ((62 : UInt8) == c) = false := by simpa using fun e => h1 e.symm
    cases v with
    | false => simp [Rs.goesOn, endsOf, textEnds, Lib.indexByte, n0, n1]
    | true =>
      have n3 : ((34 : UInt8) == c) = false := by
        have : ¬ c = 34 := by simpa using h3
        simpa using fun e => this e.symm
      simp [Rs.goesOn, endsOf, valueEnds, Lib.indexByte, n0, n1, n3]

theorem text_mark (v : Bool) (l x : List UInt8) (hx : (⟨x, false⟩ : Rs).goesOn (endsOf v) = false) : (⟨markL v l ++ x, false⟩ : Rs).text (endsOf v) = (l, ⟨x, false⟩) := by
  induction l with
  | nil => exact text_no hx
  | cons c l ih =>
    have e : markL v (c :: l) ++ x = markC v c ++ (markL v l ++ x) := by simp [markL]
    obtain ⟨h1, h2⟩ := sign_mark v c (markL v l ++ x)
    rw [e, text_on h2, h1, ih]

theorem letter_space {c : UInt8} (h : letter c = true) : spaceB c = false := by
  simp only [letter, Bool.and_eq_true, decide_eq_true_eq] at h
  have h1 : ¬ c = 32 := by intro e; subst e; exact absurd h.1 (by decide)
  have h2 : ¬ c = 10 := by intro e; subst e; exact absurd h.1 (by decide)
  simp [spaceB, h1, h2]

theorem takeWhile_all {p : UInt8 → Bool} : ∀ {l : List UInt8} {c : UInt8} {x : List UInt8}, l.all p = true → p c = false → (l ++ c :: x).takeWhile p = l ∧ (l ++ c :: x).dropWhile p = c :: x := by
  intro l
  induction l with
  | nil => intro c x _ hc; simp [hc]
  | cons d l ih =>
    intro c x h hc
    simp only [List.all_cons, Bool.and_eq_true] at h
    obtain ⟨h1, h2⟩ := ih (x := x) h.2 hc
    simp [h.1, h1, h2]

theorem name_parts {s : ByteArray} (h : nameB s = true) : ∃ c l, s.data.toList = c :: l ∧ letter c = true ∧ l.all letter = true := by
  simp only [nameB, Bool.and_eq_true, decide_eq_true_eq] at h
  have h1 := h.1.1
  have h2 := h.2
  cases hs : s.data.toList with
  | nil =>
    have : s.data.toList.length = 0 := by rw [hs]; rfl
    rw [Array.length_toList] at this
    have : s.size = 0 := this
    omega
  | cons c l =>
    rw [hs] at h2
    simp only [List.all_cons, Bool.and_eq_true] at h2
    exact ⟨c, l, rfl, h2.1, h2.2⟩

theorem must_on (p x : List UInt8) : (⟨p ++ x, false⟩ : Rs).must p = ⟨x, false⟩ := by
  have : (⟨p ++ x, false⟩ : Rs).ahead p = true := by simp [Rs.ahead]
  simp [Rs.must, this]

/-- An attribute as bytes. -/
def bytesA (x : ByteArray × ByteArray) : List UInt8 × List UInt8 := (x.1.data.toList, x.2.data.toList)

theorem attr_back {a : ByteArray × ByteArray} (hn : nameB a.1 = true) (y : List UInt8) : (⟨attrP a ++ y, false⟩ : Rs).attrAhead = true ∧ (⟨attrP a ++ y, false⟩ : Rs).attr = (bytesA a, ⟨y, false⟩) := by
  obtain ⟨c, l, hs, hc, hl⟩ := name_parts hn
  have hall : (c :: l).all letter = true := by simp [hc, hl]
  have e : attrP a ++ y = 32 :: ((c :: l) ++ 61 :: (34 :: (markL true a.2.data.toList ++ 34 :: y))) := by simp [attrP, hs]
  have hsk : (⟨attrP a ++ y, false⟩ : Rs).skip = ⟨(c :: l) ++ 61 :: (34 :: (markL true a.2.data.toList ++ 34 :: y)), false⟩ := by
    rw [e]
    simp only [Rs.skip]
    rw [List.dropWhile_cons, if_pos (by decide), List.cons_append, List.dropWhile_cons, if_neg (by rw [letter_space hc]; decide)]
  obtain ⟨t1, t2⟩ := takeWhile_all (c := 61) (x := 34 :: (markL true a.2.data.toList ++ 34 :: y)) hall (by decide)
  constructor
  · have hd : (attrP a ++ y).dropWhile spaceB = c :: (l ++ 61 :: (34 :: (markL true a.2.data.toList ++ 34 :: y))) := by
      have := congrArg Rs.rest hsk
      exact this
    simp only [Rs.attrAhead, hd, hc]
    rw [e]
    simp
  · unfold Rs.attr
    rw [hsk]
    have hno : (⟨(c :: l) ++ 61 :: (34 :: (markL true a.2.data.toList ++ 34 :: y)), false⟩ : Rs).nameOf = c :: l := t1
    have hna : (⟨(c :: l) ++ 61 :: (34 :: (markL true a.2.data.toList ++ 34 :: y)), false⟩ : Rs).name = ⟨[61, 34] ++ (markL true a.2.data.toList ++ 34 :: y), false⟩ := by
      simp only [Rs.name]; rw [t2]; rfl
    rw [hno, hna, must_on]
    have htx := text_mark true a.2.data.toList (34 :: y) rfl
    simp only [endsOf, if_true] at htx
    rw [htx]
    show ((c :: l, a.2.data.toList), (⟨[34] ++ y, false⟩ : Rs).must [34]) = _
    rw [must_on, ← hs]
    rfl

theorem attrs_back {l : List (ByteArray × ByteArray)} (hn : ∀ x ∈ l, nameB x.1 = true) (y : List UInt8) (hy : (⟨y, false⟩ : Rs).attrAhead = false) : (⟨l.flatMap attrP ++ y, false⟩ : Rs).attrs = (l.map bytesA, ⟨y, false⟩) := by
  induction l with
  | nil => exact attrs_no hy
  | cons a l ih =>
    have e : (a :: l).flatMap attrP ++ y = attrP a ++ (l.flatMap attrP ++ y) := by simp
    obtain ⟨h1, h2⟩ := attr_back (hn a List.mem_cons_self) (l.flatMap attrP ++ y)
    rw [e, attrs_on h1, h2, ih (fun x hx => hn x (List.mem_cons_of_mem _ hx))]
    rfl

theorem asB_bytes (l : List (ByteArray × ByteArray)) : asB (l.map bytesA) = l := by
  induction l with
  | nil => rfl
  | cons a l ih =>
    show (bytesOf a.1.data.toList, bytesOf a.2.data.toList) :: asB (l.map bytesA) = _
    rw [ih, bytesOf_of, bytesOf_of]

/-- Names of attributes that are good rise. -/
theorem attrs_rise {l : List (ByteArray × ByteArray)} (h : attrsB l = true) : (l.map bytesA).Pairwise fun x y => x.1 < y.1 := by
  simp only [attrsB, Bool.and_eq_true, decide_eq_true_eq, List.all_eq_true] at h
  have step : ∀ i, i + 1 < (l.map bytesA).length → ∀ x y, (l.map bytesA)[i]? = some x → (l.map bytesA)[i + 1]? = some y → x.1 < y.1 := by
    intro i hi x y hx hy
    have hk := h.2 (i + 1) (by simpa using hi)
    simp only [List.getElem?_map, Option.map_eq_some_iff] at hx hy
    obtain ⟨a, ha, rfl⟩ := hx
    obtain ⟨b, hb, rfl⟩ := hy
    unfold okA at hk
    rw [hb] at hk
    simp only [ha, Bool.and_eq_true] at hk
    have := hk.2
    rw [less_lt, decide_eq_true_eq, ByteArray.toList_eq, ByteArray.toList_eq] at this
    exact this
  have gen : ∀ (m : List (List UInt8 × List UInt8)), (∀ i, i + 1 < m.length → ∀ x y, m[i]? = some x → m[i + 1]? = some y → x.1 < y.1) → m.Pairwise fun x y => x.1 < y.1 := by
    intro m
    induction m with
    | nil => intro _; exact List.Pairwise.nil
    | cons a m ih =>
      intro hs
      have hm := ih (fun i hi x y hx hy => hs (i + 1) (by simpa using hi) x y (by simpa using hx) (by simpa using hy))
      rw [List.pairwise_cons]
      refine ⟨fun b hb => ?_, hm⟩
      cases m with
      | nil => simp at hb
      | cons c m =>
        have h1 : a.1 < c.1 := hs 0 (by simp) a c rfl rfl
        rw [List.mem_cons] at hb
        rcases hb with rfl | hb
        · exact h1
        · rw [List.pairwise_cons] at hm
          exact List.lt_trans h1 (hm.1 b hb)
  exact gen _ step
end Go.Proofs.YtmbmfomeiioijaaDoor

/- What is printed of good trees is read as them, however deep: on plain data. No condition. -/
namespace Go.Proofs.YtmbmfomeiioijaaDoor
open Go.RowKit
set_option maxRecDepth 100000

/-- What may stand behind trees: nothing, or an end. -/
def Stop (x : List UInt8) : Prop := x = [] ∨ ∃ y, x = 60 :: 47 :: y

theorem Stop.no {x : List UInt8} (h : Stop x) : (⟨x, false⟩ : Rs).treeAhead = false := by
  rcases h with rfl | ⟨y, rfl⟩ <;> rfl

theorem head_no {x : List UInt8} (h : x = [] ∨ ∃ y, x = 60 :: y) : (⟨x, false⟩ : Rs).goesOn textEnds = false := by
  rcases h with rfl | ⟨y, rfl⟩ <;> rfl

theorem elem_head (inner : List UInt8) (t : Tr) (h : t.text = false) (x : List UInt8) : ∃ y, oneP inner t ++ x = 60 :: y := by
  simp [oneP, h]

theorem markC_head (c : UInt8) : ∃ d l, markC false c = d :: l ∧ d ≠ 60 ∧ d ≠ 62 := by
  unfold markC
  split
  · exact ⟨_, _, rfl, by decide, by decide⟩
  split
  · exact ⟨_, _, rfl, by decide, by decide⟩
  split
  · exact ⟨_, _, rfl, by decide, by decide⟩
  · rename_i h0 h1 _
    simp only [Bool.false_and, Bool.false_eq_true, if_false]
    exact ⟨_, _, rfl, h0, h1⟩

theorem text_back {s : List UInt8} (hs : s ≠ []) (y : List UInt8) (hy : y = [] ∨ ∃ z, y = 60 :: z) (rec : Rs → List Tr × Rs) :
    (⟨markL false s ++ y, false⟩ : Rs).treeAhead = true ∧ (⟨markL false s ++ y, false⟩ : Rs).one rec = (⟨true, bytesOf s, [], []⟩, ⟨y, false⟩) := by
  cases s with
  | nil => exact absurd rfl hs
  | cons c s =>
    obtain ⟨d, l, hd, h1, h2⟩ := markC_head c
    have e : markL false (c :: s) ++ y = d :: (l ++ (markL false s ++ y)) := by simp [markL, hd]
    have n1 : ((60 : UInt8) == d) = false := by simpa using fun e => h1 e.symm
    have n2 : ((62 : UInt8) == d) = false := by simpa using fun e => h2 e.symm
    have ha : (⟨markL false (c :: s) ++ y, false⟩ : Rs).ahead [60] = false := by rw [e]; simp [Rs.ahead, List.isPrefixOf, n1]
    constructor
    · rw [e]; simp [Rs.treeAhead, Rs.ahead, List.isPrefixOf, n1, n2]
    · unfold Rs.one
      rw [if_neg (by rw [ha]; decide)]
      have htx := text_mark false (c :: s) y (head_no hy)
      simp only [endsOf, Bool.false_eq_true, if_false] at htx
      rw [htx]

theorem skip_on {c : UInt8} {l : List UInt8} (h : spaceB c = false) : (⟨c :: l, false⟩ : Rs).skip = ⟨c :: l, false⟩ := by
  simp [Rs.skip, h]

theorem elem_back {t : Tr} (ht : t.text = false) (hr : rightB t = true) (rec : Rs → List Tr × Rs) (inner y : List UInt8)
    (hrec : t.kids ≠ [] → ∀ z, rec ⟨inner ++ 60 :: 47 :: z, false⟩ = (t.kids, ⟨60 :: 47 :: z, false⟩)) :
    (⟨oneP inner t ++ y, false⟩ : Rs).treeAhead = true ∧ (⟨oneP inner t ++ y, false⟩ : Rs).one rec = (t, ⟨y, false⟩) := by
  obtain ⟨tx, s, ats, ks⟩ := t
  simp only at ht hrec
  subst ht
  simp only [rightB, Bool.false_eq_true, if_false, Bool.and_eq_true] at hr
  obtain ⟨c, l, hs, hc, hl⟩ := name_parts hr.1
  have hall : (c :: l).all letter = true := by simp [hc, hl]
  have hnames : ∀ x ∈ ats, nameB x.1 = true := by
    intro x hx
    obtain ⟨i, hi⟩ := List.mem_iff_getElem?.1 hx
    have hil : i < ats.length := by
      rcases Nat.lt_or_ge i ats.length with h' | h'
      · exact h'
      · rw [List.getElem?_eq_none h'] at hi; cases hi
    have h2 := hr.2
    simp only [attrsB, Bool.and_eq_true, decide_eq_true_eq, List.all_eq_true] at h2
    have := h2.2 i (by simpa using hil)
    unfold okA at this
    rw [hi] at this
    simp only [Bool.and_eq_true] at this
    exact this.1.1
  obtain ⟨tl, htl⟩ : ∃ tl, (if ks.isEmpty then [47, 62] else 62 :: inner ++ [60, 47] ++ s.data.toList ++ [62]) ++ y = tl := ⟨_, rfl⟩
  have htl1 : (∃ z, tl = 47 :: 62 :: z) ∨ ∃ z, tl = 62 :: z := by
    rw [← htl]
    cases ks with
    | nil => exact Or.inl ⟨y, rfl⟩
    | cons k ks => right; simp
  have e : oneP inner ⟨false, s, ats, ks⟩ ++ y = [60] ++ ((c :: l) ++ (ats.flatMap attrP ++ tl)) := by
    rw [← htl]; simp [oneP, hs]
  obtain ⟨d, z, hd, hld⟩ : ∃ d z, ats.flatMap attrP ++ tl = d :: z ∧ letter d = false := by
    cases ats with
    | nil => rcases htl1 with ⟨z, rfl⟩ | ⟨z, rfl⟩ <;> exact ⟨_, _, rfl, by decide⟩
    | cons a ats => exact ⟨32, _, by simp [attrP]; rfl, by decide⟩
  have hah : (⟨oneP inner ⟨false, s, ats, ks⟩ ++ y, false⟩ : Rs).ahead [60] = true := by rw [e]; simp [Rs.ahead]
  have hnc : ((47 : UInt8) == c) = false := by
    simp only [letter, Bool.and_eq_true, decide_eq_true_eq] at hc
    have : ¬ (47 : UInt8) = c := by intro e; subst e; exact absurd hc.1 (by decide)
    simpa using this
  refine ⟨?_, ?_⟩
  · rw [e]; simp [Rs.treeAhead, Rs.ahead, List.isPrefixOf, hnc]
  · unfold Rs.one
    rw [if_pos hah]
    unfold Rs.elem
    rw [e, must_on]
    obtain ⟨t1, t2⟩ := takeWhile_all (x := z) hall hld
    rw [← hd] at t1 t2
    have hno : (⟨(c :: l) ++ (ats.flatMap attrP ++ tl), false⟩ : Rs).nameOf = c :: l := t1
    have hna : (⟨(c :: l) ++ (ats.flatMap attrP ++ tl), false⟩ : Rs).name = ⟨ats.flatMap attrP ++ tl, false⟩ := by simp only [Rs.name]; rw [t2]
    have hat : (⟨ats.flatMap attrP ++ tl, false⟩ : Rs).attrs = (ats.map bytesA, ⟨tl, false⟩) := attrs_back hnames tl (by rcases htl1 with ⟨z, rfl⟩ | ⟨z, rfl⟩ <;> simp [Rs.attrAhead, spaceB])
    have hsk : (⟨tl, false⟩ : Rs).skip = ⟨tl, false⟩ := by rcases htl1 with ⟨z, rfl⟩ | ⟨z, rfl⟩ <;> exact skip_on (by decide)
    rw [hno, hna, hat, hsk]
    have hso : asB (sortA (ats.map bytesA)) = ats := by rw [sortA_id (attrs_rise hr.2), asB_bytes]
    have hnm : bytesOf (c :: l) = s := by rw [← hs]; exact bytesOf_of s
    unfold Rs.elemIn
    rw [hso, hnm]
    cases ks with
    | nil =>
      have htl2 : tl = [47, 62] ++ y := htl.symm
      rw [htl2]
      have h1 : (⟨[47, 62] ++ y, false⟩ : Rs).ahead [47, 62] = true := by simp [Rs.ahead]
      rw [if_pos h1]
      unfold Rs.take
      rw [if_pos h1]
      rfl
    | cons k ks =>
      have htl2 : tl = [62] ++ (inner ++ 60 :: 47 :: ((c :: l) ++ ([62] ++ y))) := by rw [← htl]; simp [hs]
      rw [htl2]
      have h1 : (⟨[62] ++ (inner ++ 60 :: 47 :: ((c :: l) ++ ([62] ++ y))), false⟩ : Rs).ahead [47, 62] = false := by simp [Rs.ahead, List.isPrefixOf]
      rw [if_neg (by rw [h1]; decide), must_on, hrec (by simp) _]
      have h2 : (⟨60 :: 47 :: ((c :: l) ++ ([62] ++ y)), false⟩ : Rs).must [60, 47] = ⟨(c :: l) ++ ([62] ++ y), false⟩ := must_on [60, 47] _
      simp only [h2]
      rw [must_on, show ([62] ++ y : List UInt8) = 62 :: y from rfl, skip_on (by decide)]
      rw [show (62 :: y : List UInt8) = [62] ++ y from rfl, must_on]

theorem back_list : ∀ (n : Nat) (f : Nat) (ts : List Tr) (p : Bool) (x : List UInt8), Deep n ts → (∀ m, n = m + 1 → rgL (rgt m) p ts = true) → dep n ts ≤ f → Stop x →
    treesF f ⟨showL n ts ++ x, false⟩ = (ts, ⟨x, false⟩) := by
  intro n
  induction n with
  | zero =>
    intro f ts p x hd _ _ hx
    have : ts = [] := hd
    subst this
    exact treesF_no hx.no
  | succ n ih =>
    intro f ts
    induction ts with
    | nil => intro p x _ _ _ hx; exact treesF_no hx.no
    | cons t r ihr =>
      intro p x hd hg hf hx
      have hg1 := hg n rfl
      unfold rgL at hg1
      simp only [Bool.and_eq_true, Bool.not_eq_true'] at hg1
      obtain ⟨⟨⟨g1, g2⟩, g3⟩, g4⟩ := hg1
      rw [dep_cons] at hf
      obtain ⟨f', rfl⟩ : ∃ f', f = f' + 1 := ⟨f - 1, by omega⟩
      have hrest := ihr t.text x (fun u hu => hd u (List.mem_cons_of_mem _ hu)) (fun m hm => by cases hm; exact g4) (by omega) hx
      have e : showL (n + 1) (t :: r) ++ x = oneP (showL n t.kids) t ++ (showL (n + 1) r ++ x) := by simp [showL]
      have hone : (⟨oneP (showL n t.kids) t ++ (showL (n + 1) r ++ x), false⟩ : Rs).treeAhead = true ∧ (⟨oneP (showL n t.kids) t ++ (showL (n + 1) r ++ x), false⟩ : Rs).one (treesF f') = (t, ⟨showL (n + 1) r ++ x, false⟩) := by
        cases htt : t.text with
        | true =>
          have hy : (showL (n + 1) r ++ x = []) ∨ ∃ z, showL (n + 1) r ++ x = 60 :: z := by
            cases r with
            | nil =>
              rcases hx with rfl | ⟨y, rfl⟩
              · exact Or.inl rfl
              · exact Or.inr ⟨_, rfl⟩
            | cons u r =>
              unfold rgL at g4
              simp only [htt, Bool.and_eq_true, Bool.not_eq_true', Bool.true_and] at g4
              obtain ⟨y, hy⟩ := elem_head (showL n u.kids) u g4.1.1.2 (showL (n + 1) r ++ x)
              exact Or.inr ⟨y, by rw [← hy]; simp [showL]⟩
          obtain ⟨tx, s, ats, ks⟩ := t
          simp only at htt
          subst htt
          simp only [rightB, if_true, Bool.and_eq_true, decide_eq_true_eq, Bool.not_eq_true'] at g1
          have ha : ats = [] := List.eq_nil_of_length_eq_zero g1.1.2
          have hk : ks = [] := List.eq_nil_of_length_eq_zero g1.2
          subst ha hk
          have hs : s.data.toList ≠ [] := by
            intro e
            have := g1.1.1.1
            rw [ByteArray.toList_eq] at this
            have e2 : s.data = #[] := by cases hh : s.data; rw [hh] at e; simp at e; subst e; rfl
            rw [e2] at this; simp at this
          have := text_back hs (showL (n + 1) r ++ x) hy (treesF f')
          rw [bytesOf_of] at this
          simpa [oneP] using this
        | false =>
          refine elem_back htt g1 _ _ _ ?_
          intro _ z
          have hk : rgt n t.kids = true := by simpa [htt] using g3
          exact ih f' t.kids false _ (hd t List.mem_cons_self) (fun m hm => by subst hm; exact hk) (by omega) (Or.inr ⟨z, rfl⟩)
      rw [e, treesF_on hone.1, hone.2, hrest]

theorem markL_pos {s : List UInt8} (h : s ≠ []) : 1 ≤ (markL false s).length := by
  cases s with
  | nil => exact absurd rfl h
  | cons c s =>
    obtain ⟨d, l, hd, _⟩ := markC_head c
    simp [markL, hd]

theorem dep_show : ∀ (n : Nat) (ts : List Tr) (p : Bool), (∀ m, n = m + 1 → rgL (rgt m) p ts = true) → dep n ts ≤ (showL n ts).length := by
  intro n
  induction n with
  | zero => intro ts p _; exact Nat.zero_le _
  | succ n ih =>
    intro ts
    induction ts with
    | nil => intro p _; rw [dep_nil]; exact Nat.zero_le _
    | cons t r ihr =>
      intro p hg
      have hg1 := hg n rfl
      unfold rgL at hg1
      simp only [Bool.and_eq_true, Bool.not_eq_true'] at hg1
      obtain ⟨⟨⟨g1, g2⟩, g3⟩, g4⟩ := hg1
      have h1 := ihr t.text (fun m hm => by cases hm; exact g4)
      have h2 : (showL (n + 1) (t :: r)).length = (oneP (showL n t.kids) t).length + (showL (n + 1) r).length := by simp [showL]
      have h3 : 1 + dep n t.kids ≤ (oneP (showL n t.kids) t).length := by
        obtain ⟨tx, s, ats, ks⟩ := t
        cases tx with
        | true =>
          simp only [rightB, if_true, Bool.and_eq_true, decide_eq_true_eq, Bool.not_eq_true'] at g1
          have hk : ks = [] := List.eq_nil_of_length_eq_zero g1.2
          have hs : s.data.toList ≠ [] := by
            intro e
            have := g1.1.1.1
            rw [ByteArray.toList_eq] at this
            have e2 : s.data = #[] := by cases hh : s.data; rw [hh] at e; simp at e; subst e; rfl
            rw [e2] at this; simp at this
          simp only [hk, dep_nil, oneP, if_true]
          exact markL_pos hs
        | false =>
          have h5 : rgt n ks = true := by simpa using g3
          have h4 := ih ks false (fun m hm => by subst hm; exact h5)
          cases ks with
          | nil => simp [oneP, dep_nil]
          | cons k ks => simp [oneP]; omega
      rw [dep_cons, h2]
      omega

/-- What is printed of a good tree is read as it. -/
theorem parse_back {n : Nat} {t : Tr} (hd : Deep n t.kids) (hg : goodB t = true) (hl : (oneP (showL n t.kids) t).length ≤ 2500) : parseR (oneP (showL n t.kids) t) = (t, 0) := by
  have hg2 := hg
  rw [goodB_eq hd] at hg2
  simp only [Bool.and_eq_true, Bool.not_eq_true', decide_eq_true_eq] at hg2
  obtain ⟨⟨⟨h1, _⟩, _⟩, h4⟩ := hg2
  have h5 : rgL (rgt n) false [t] = true := h4
  unfold rgL at h5
  simp only [Bool.and_eq_true] at h5
  have hk : rgt n t.kids = true := by simpa [h1] using h5.1.2
  have hdp : dep n t.kids ≤ (oneP (showL n t.kids) t).length := by
    have := dep_show (n + 1) [t] false (fun m hm => by cases hm; exact h4)
    rw [dep_cons] at this
    simp only [showL, List.flatMap_cons, List.flatMap_nil, List.append_nil] at this
    omega
  have hone := (elem_back h1 h5.1.1.1 (treesF (oneP (showL n t.kids) t).length) (showL n t.kids) [] (fun _ z =>
    back_list n _ t.kids false _ hd (fun m hm => by subst hm; exact hk) hdp (Or.inr ⟨z, rfl⟩))).2
  rw [List.append_nil] at hone
  unfold parseR
  rw [if_neg (by omega), hone]
  simp [hg]

/-- What is printed of trees that are content is read as them. -/
theorem cont_back {n : Nat} {ts : List Tr} (hd : Deep n ts) (hg : contentB ts = true) (hl : (showL n ts).length ≤ 2500) : contR (showL n ts) = (ts, 0) := by
  have hg2 := hg
  rw [contentB_eq hd] at hg2
  simp only [Bool.and_eq_true, decide_eq_true_eq] at hg2
  obtain ⟨⟨_, _⟩, h4⟩ := hg2
  have hr : ∀ m, n = m + 1 → rgL (rgt m) false ts = true := fun m hm => by subst hm; exact h4
  have hb := back_list n ((showL n ts).length + 1) ts false [] hd hr (by have := dep_show n ts false hr; omega) (Or.inl rfl)
  rw [List.append_nil] at hb
  unfold contR
  rw [if_neg (by omega), hb]
  simp [hg]
end Go.Proofs.YtmbmfomeiioijaaDoor

