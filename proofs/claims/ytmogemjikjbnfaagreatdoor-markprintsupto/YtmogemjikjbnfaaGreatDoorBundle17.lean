/- Bundled: RefName Reader CompL. What each says stands ahead of it. -/
import Derived.Test.YtmogemjikjbnfaaGreatDoorBundle02
import Derived.Test.YtmogemjikjbnfaaGreatDoorBundle00
import Derived.Test.YtmogemjikjbnfaaGreatDoorBundle16
import Derived.Shelf.Strings.SlTrimAscii
import Derived.Test.YtmogemjikjbnfaaGreatDoorBundle03
import Derived.WalkKit
import Derived.ProofKit
import Derived.Handy
import Derived.Shelf.Small.Strs
import Derived.Test.YtmogemjikjbnfaaGreatDoorProg
/- topiaryref.IsName, for every text: the same as tree.Named. Condition: at most 2^47 letters. -/
namespace Go.Proofs.YtmogemjikjbnfaaGreatDoor
open Go.ChangeShapes Go.WideShapes Go.ChangeAt Go.RowKit
set_option maxRecDepth 100000

def abc : List UInt8 := [97, 98, 99, 100, 101, 102, 103, 104, 105, 106, 107, 108, 109, 110, 111, 112, 113, 114, 115, 116, 117, 118, 119, 120, 121, 122]

theorem abc_letter : ∀ n : Fin 256, abc.contains (UInt8.ofNat n.val) = letter (UInt8.ofNat n.val) := by decide

theorem abc_contains (c : UInt8) : abc.contains c = letter c := by
  have h := abc_letter ⟨c.toNat, c.toNat_lt⟩
  simpa using h

theorem dropWhile_nil_iff {p : UInt8 → Bool} (l : List UInt8) : l.dropWhile p = [] ↔ l.all p = true := by
  induction l with
  | nil => simp
  | cons x r ih =>
    rw [List.dropWhile_cons]
    by_cases h : p x = true
    · rw [if_pos h, ih]; simp [h]
    · rw [if_neg h]; simp [h]

theorem trimS_abc (l : List UInt8) : Lib.trimS l abc = [] ↔ l.all letter = true := by
  unfold Lib.trimS Lib.trimLeftS
  have he : (fun x => abc.contains x) = letter := funext abc_contains
  rw [he, dropWhile_nil_iff]
  unfold Lib.trimRightS
  rw [he]
  constructor
  · intro h
    rw [List.all_reverse] at h
    have h2 : l.reverse.dropWhile letter = [] := by
      cases hd : l.reverse.dropWhile letter with
      | nil => rfl
      | cons x r =>
        have h3 := List.head_dropWhile_not (l := l.reverse) letter (by rw [hd]; simp)
        simp only [hd, List.head_cons] at h3
        rw [hd] at h
        simp [h3] at h
    rw [dropWhile_nil_iff, List.all_reverse] at h2
    exact h2
  · intro h
    have h2 : l.reverse.dropWhile letter = [] := by rw [dropWhile_nil_iff, List.all_reverse]; exact h
    rw [h2]; rfl

theorem isName_any (s : ByteArray) (w : World) (hs : s.size ≤ maxLen) :
    Calls Tryz.prog 26 #[.string s] w fun e w' => e = .returned (.bool (nameB s)) ∧ Below w.heap.size w w' := by
  have hcon := Any.strings_Trim_laid Tryz.lays160 (by kernel_rfl) s ⟨#[97, 98, 99, 100, 101, 102, 103, 104, 105, 106, 107, 108, 109, 110, 111, 112, 113, 114, 115, 116, 117, 118, 119, 120, 121, 122]⟩ w (by unfold maxLen at hs; omega) (by decide) (ascii_of_all (by decide))
  unfold maxLen at hs
  have HC : Hid (Calls Tryz.prog 37 #[.string s, .string ⟨#[97, 98, 99, 100, 101, 102, 103, 104, 105, 106, 107, 108, 109, 110, 111, 112, 113, 114, 115, 116, 117, 118, 119, 120, 121, 122]⟩] w fun e w' => e = .returned (.string ⟨(Lib.trimS s.data.toList abc).toArray⟩) ∧ Below w.heap.size w w') := hcon
  clear hcon
  by_cases h1 : s = ⟨#[]⟩
  · subst h1
    go_enter Tryz.func26, Tryz.ntmps26
    go_wp2
    go_ret
    exact ⟨rfl, Below.refl _ _⟩
  have hne : s.size ≠ 0 := by
    intro h
    apply h1
    cases s with | mk d => simp [ByteArray.size] at h; subst h; rfl
  have hie : s.toList.isEmpty = false := by
    rw [ByteArray.toList_eq]
    cases s with | mk d => cases d with | mk l => cases l with
      | nil => exact absurd rfl h1
      | cons => rfl
  clear h1
  by_cases h8 : 8 < s.size
  · go_enter Tryz.func26, Tryz.ntmps26
    go_wp2
    go_ret
    exact ⟨by simp [nameB]; omega, Below.refl _ _⟩
  · have h8' : s.size ≤ 8 := by omega
    clear h8
    go_enter Tryz.func26, Tryz.ntmps26
    go_wp2_with fail
    refine (HC.out).mono ?_
    rintro e W' ⟨rfl, hb⟩
    have HB : Hid (Below w.heap.size w W') := hb
    clear hb
    have HT : Hid ((⟨(Lib.trimS s.data.toList abc).toArray⟩ : ByteArray).toList.isEmpty = s.data.toList.all letter) := by
      show _ = _
      rw [ByteArray.toList_eq]
      show (Lib.trimS s.data.toList abc).isEmpty = _
      cases ha : s.data.toList.all letter with
      | true => rw [(trimS_abc _).2 ha]; rfl
      | false =>
        cases ht : Lib.trimS s.data.toList abc with
        | nil => rw [(trimS_abc _).1 ht] at ha; cases ha
        | cons => rfl
    generalize (⟨(Lib.trimS s.data.toList abc).toArray⟩ : ByteArray) = r at HT ⊢
    cases hr : r.toList.isEmpty with
    | true =>
      have HX : Hid (s.data.toList.all letter = true) := by have := HT.out; rw [hr] at this; exact this.symm
      clear HT
      go_wp2
      go_ret
      exact ⟨by simp [nameB, HX.out]; omega, HB⟩
    | false =>
      have HX : Hid (s.data.toList.all letter = false) := by have := HT.out; rw [hr] at this; exact this.symm
      clear HT
      go_wp2
      go_ret
      exact ⟨by simp [nameB, HX.out], HB⟩
end Go.Proofs.YtmogemjikjbnfaaGreatDoor

/- The reader's small steps: ahead, take, must, skipSpaces. Condition: at most 2^40 letters. -/
namespace Go.Proofs.YtmogemjikjbnfaaGreatDoor
open Go.ChangeShapes Go.WideShapes Go.ChangeAt Go.RowKit
set_option maxRecDepth 100000

attribute [local go_sem] cell_set

/-- A text of letters, as the model holds it. -/
def bytesOf (l : List UInt8) : ByteArray := ⟨l.toArray⟩

theorem bytesOf_size (l : List UInt8) : (bytesOf l).size = l.length := by simp [bytesOf, ByteArray.size]
theorem bytesOf_data (l : List UInt8) : (bytesOf l).data.toList = l := rfl
theorem bytesOf_toList (l : List UInt8) : (bytesOf l).toList = l := by rw [ByteArray.toList_eq]; rfl
theorem bytesOf_of (s : ByteArray) : bytesOf s.data.toList = s := rfl

theorem bytesOf_drop (l : List UInt8) (k : Nat) : (bytesOf l).extract k (bytesOf l).size = bytesOf (l.drop k) := by
  apply ByteArray.ext
  apply Array.ext'
  rw [Lib.extract_data]
  simp only [bytesOf_data, bytesOf_size]
  exact List.take_of_length_le (by simp)

theorem bytesOf_take (l : List UInt8) (k : Nat) : (bytesOf l).extract 0 k = bytesOf (l.take k) := by
  apply ByteArray.ext
  apply Array.ext'
  rw [Lib.extract_data]
  simp [bytesOf]

/-- A reader of the call's own at block rb. -/
structure Rd (B rb : Nat) (r : Rs) (w : World) : Prop where
  base : B ≤ rb
  held : w.heap[rb]? = some (.cells #[.string (bytesOf r.rest), .bool r.wrong] 50 (0, 0))

/-- What a call of a reader's leaves alone: every older block but the reader's. -/
structure RFr (B rb : Nat) (w w' : World) : Prop where
  below : Below B w w'
  frame : ∀ x, x < w.heap.size → x ≠ rb → w'.heap[x]? = w.heap[x]?

theorem Rd.lt {B rb : Nat} {r : Rs} {w : World} (h : Rd B rb r w) : rb < w.heap.size := by
  rcases Nat.lt_or_ge rb w.heap.size with h' | h'
  · exact h'
  · have := h.held; simp [Array.getElem?_eq_none h'] at this
theorem Rd.c0 {B rb : Nat} {r : Rs} {w : World} (h : Rd B rb r w) : w.cell? ⟨rb, 0, none⟩ = some (.string (bytesOf r.rest)) := by rw [Lib.cell_of_heap h.held]; rfl
theorem Rd.c1 {B rb : Nat} {r : Rs} {w : World} (h : Rd B rb r w) : w.cell? ⟨rb, 1, none⟩ = some (.bool r.wrong) := by rw [Lib.cell_of_heap h.held]; rfl
theorem Rd.f0 {B rb : Nat} {r : Rs} {w : World} (h : Rd B rb r w) : w.frozen? ⟨rb, 0, none⟩ = false := Lib.frozen_of_heap h.held 0
theorem Rd.f1 {B rb : Nat} {r : Rs} {w : World} (h : Rd B rb r w) : w.frozen? ⟨rb, 1, none⟩ = false := Lib.frozen_of_heap h.held 1
theorem Rd.later {B rb : Nat} {r : Rs} {w w' : World} (h : Rd B rb r w) (hb : Below w.heap.size w w') : Rd B rb r w' := ⟨h.base, by rw [hb.block rb h.lt]; exact h.held⟩
theorem Rd.put0 {B rb : Nat} {r : Rs} {w : World} (h : Rd B rb r w) (l : List UInt8) : Rd B rb ⟨l, r.wrong⟩ (w.setCell ⟨rb, 0, none⟩ (.string (bytesOf l))) := ⟨h.base, by simp [World.setCell, Array.getElem?_modify, h.held]⟩
theorem Rd.put1 {B rb : Nat} {r : Rs} {w : World} (h : Rd B rb r w) : Rd B rb ⟨r.rest, true⟩ (w.setCell ⟨rb, 1, none⟩ (.bool true)) := ⟨h.base, by simp [World.setCell, Array.getElem?_modify, h.held]⟩

theorem RFr.refl (B rb : Nat) (w : World) : RFr B rb w w := ⟨Below.refl _ _, fun _ _ _ => rfl⟩
theorem RFr.trans {B rb : Nat} {w w1 w2 : World} (h : RFr B rb w w1) (k : RFr B rb w1 w2) : RFr B rb w w2 :=
  ⟨h.below.trans k.below, fun x hx h1 => by rw [k.frame x (Nat.lt_of_lt_of_le hx h.below.size) h1, h.frame x hx h1]⟩
theorem RFr.later {B rb : Nat} {w w' : World} (hB : B ≤ w.heap.size) (h : Below w.heap.size w w') : RFr B rb w w' := ⟨h.mono hB, fun x hx _ => h.block x hx⟩
theorem RFr.put {B rb : Nat} {w : World} (hB : B ≤ rb) (k : Nat) (v : Value) : RFr B rb w (w.setCell ⟨rb, k, none⟩ v) := ⟨(Below.refl B w).setCell hB _, fun _ _ h1 => Below.heap_setCell _ _ _ _ h1⟩

theorem prefix_take (p l : List UInt8) : p.isPrefixOf l = (decide (p.length ≤ l.length) && (l.take p.length == p)) := by
  induction p generalizing l with
  | nil => simp
  | cons c p ih =>
    cases l with
    | nil => simp
    | cons d l =>
      rw [List.isPrefixOf, ih]
      by_cases h : c = d
      · subst h; simp
      · have h1 : (c == d) = false := by simpa using h
        have h2 : (d == c) = false := by simpa using fun e => h e.symm
        simp [h1, h2]

theorem hasPrefix_any (s p : List UInt8) (w : World) :
    Calls Tryz.prog 39 #[.string (bytesOf s), .string (bytesOf p)] w fun e w' => e = .returned (.bool (p.isPrefixOf s)) ∧ w' = w := by
  have hz := bytesOf_size s
  have hz2 := bytesOf_size p
  have hlite : Calls Tryz.prog 68 #[.string (bytesOf s), .string (bytesOf p)] w fun e w' => e = .returned (.bool (p.isPrefixOf s)) ∧ w' = w := by
    by_cases hp : p.length ≤ s.length
    · have HE : Hid (p.isPrefixOf s = (((bytesOf s).extract 0 (bytesOf p).size).toList == (bytesOf p).toList)) := by
        show _ = _
        rw [prefix_take, bytesOf_size, bytesOf_take, bytesOf_toList, bytesOf_toList]
        simp [hp]
      go_enter Tryz.func68, Tryz.ntmps68
      go_wp2
      go_ret
      exact ⟨by rw [HE.out]; rfl, rfl⟩
    · have HE : Hid (p.isPrefixOf s = false) := by show _ = _; rw [prefix_take]; simp [hp]
      go_enter Tryz.func68, Tryz.ntmps68
      go_wp2
      go_ret
      exact ⟨by rw [HE.out]; rfl, rfl⟩
  have HL : Hid _ := hlite
  clear hlite hz hz2
  go_enter Tryz.func39, Tryz.ntmps39
  go_wp2_with fail
  refine (Calls.mono HL.out ?_)
  rintro e w' ⟨rfl, rfl⟩
  go_wp2_with fail
  go_ret
  exact ⟨rfl, rfl⟩

theorem wordAhead_any (B rb : Nat) (r : Rs) (p : List UInt8) (w : World) (h : Rd B rb r w) (_hs : r.rest.length ≤ 1099511627776) :
    Calls Tryz.prog 29 #[.pointer (some ⟨rb, 0, none⟩), .string (bytesOf p)] w fun e w' => e = .returned (.bool (r.ahead p)) ∧ w' = w := by
  have c0 := h.c0
  have c1 := h.c1
  have HP : Hid _ := hasPrefix_any r.rest p w
  have HA : Hid (r.ahead p = (!r.wrong && p.isPrefixOf r.rest)) := rfl
  clear h
  cases hw : r.wrong with
  | true =>
    rw [hw] at c1
    have HF : Hid (r.ahead p = false) := by show _ = _; rw [HA.out, hw]; rfl
    go_enter Tryz.func29, Tryz.ntmps29
    go_wp2_with fail
    go_ret
    exact ⟨by rw [HF.out]; rfl, rfl⟩
  | false =>
    rw [hw] at c1
    have HF : Hid (r.ahead p = p.isPrefixOf r.rest) := by show _ = _; rw [HA.out, hw]; rfl
    go_enter Tryz.func29, Tryz.ntmps29
    go_wp2_with fail
    refine (Calls.mono HP.out ?_)
    rintro e w' ⟨rfl, rfl⟩
    go_wp2_with fail
    go_ret
    exact ⟨by rw [HF.out]; rfl, rfl⟩

theorem prefix_len {p l : List UInt8} (h : p.isPrefixOf l = true) : p.length ≤ l.length := by
  rw [prefix_take] at h; simp at h; exact h.1

theorem take_any (B rb : Nat) (r : Rs) (p : List UInt8) (w : World) (h : Rd B rb r w) (hs : r.rest.length ≤ 1099511627776) :
    Calls Tryz.prog 49 #[.pointer (some ⟨rb, 0, none⟩), .string (bytesOf p)] w fun e w' => e = .returned (.bool (r.ahead p)) ∧ Rd B rb (r.take p) w' ∧ RFr B rb w w' := by
  have c0 := h.c0
  have f0 := h.f0
  have HR : Hid (Rd B rb r w) := h
  have HA : Hid _ := wordAhead_any B rb r p w h hs
  have hz := bytesOf_size r.rest
  have hz2 := bytesOf_size p
  clear h
  obtain ⟨q, hq⟩ : ∃ q, r.ahead p = q := ⟨_, rfl⟩
  rw [hq] at HA ⊢
  cases q with
  | false =>
    have HT : Hid (r.take p = r) := by show _ = _; simp [Rs.take, hq]
    clear hq
    go_enter Tryz.func49, Tryz.ntmps49
    go_wp2_with fail
    refine (Calls.mono HA.out ?_)
    rintro e w' ⟨rfl, rfl⟩
    go_wp2_with fail
    go_ret
    exact ⟨rfl, by rw [HT.out]; exact HR.out, RFr.refl _ _ _⟩
  | true =>
    have HT : Hid (r.take p = ⟨r.rest.drop p.length, r.wrong⟩) := by show _ = _; simp [Rs.take, hq]
    have hpl : p.length ≤ r.rest.length := prefix_len (by unfold Rs.ahead at hq; simp only [Bool.and_eq_true] at hq; exact hq.2)
    have HD : Hid ((bytesOf r.rest).extract p.length r.rest.length = bytesOf (r.rest.drop p.length)) := by show _ = _; rw [← bytesOf_drop, bytesOf_size]
    clear hq
    go_enter Tryz.func49, Tryz.ntmps49
    go_wp2_with fail
    refine (Calls.mono HA.out ?_)
    rintro e w' ⟨rfl, rfl⟩
    go_wp2_with fail
    go_ret
    refine ⟨rfl, ?_, ?_⟩
    · rw [HT.out]
      have := HR.out.put0 (r.rest.drop p.length)
      rw [← HD.out] at this
      exact this
    · exact RFr.put HR.out.base _ _

theorem must_any (B rb : Nat) (r : Rs) (p : List UInt8) (w : World) (h : Rd B rb r w) (hs : r.rest.length ≤ 1099511627776) :
    Calls Tryz.prog 40 #[.pointer (some ⟨rb, 0, none⟩), .string (bytesOf p)] w fun e w' => e = .returned (.tuple #[]) ∧ Rd B rb (r.must p) w' ∧ RFr B rb w w' := by
  have HA : Hid _ := take_any B rb r p w h hs
  have HM : Hid (r.must p = if r.ahead p then r.take p else ⟨r.rest, true⟩) := by
    show _ = _; unfold Rs.must Rs.take; split <;> simp_all
  have HT : Hid (r.ahead p = false → r.take p = r) := by intro e; simp [Rs.take, e]
  have hB := h.base
  clear h
  obtain ⟨q, hq⟩ : ∃ q, r.ahead p = q := ⟨_, rfl⟩
  rw [hq] at HA HM HT
  clear hq
  cases q with
  | true =>
    go_enter Tryz.func40, Tryz.ntmps40
    go_wp2_with fail
    refine (Calls.mono HA.out ?_)
    rintro e w' ⟨rfl, h1, h2⟩
    go_wp2_with fail
    go_returns
    exact ⟨rfl, by rw [HM.out]; exact h1, h2⟩
  | false =>
    have HTT : Hid (r.take p = r) := HT.out rfl
    clear HT
    go_enter Tryz.func40, Tryz.ntmps40
    go_wp2_with fail
    refine (Calls.mono HA.out ?_)
    rintro e w' ⟨rfl, h1, h2⟩
    rw [HTT.out] at h1
    have c1 := h1.c1
    have f1 := h1.f1
    have HR : Hid _ := h1
    clear h1
    go_wp2_with fail
    go_returns
    exact ⟨rfl, by rw [HM.out]; exact HR.out.put1, h2.trans (RFr.put hB _ _)⟩

theorem skip_any (B rb : Nat) (r : Rs) (w : World) (h : Rd B rb r w) (hBw : B ≤ w.heap.size) :
    Calls Tryz.prog 48 #[.pointer (some ⟨rb, 0, none⟩)] w fun e w' => e = .returned (.tuple #[]) ∧ Rd B rb r.skip w' ∧ RFr B rb w w' := by
  have hcon := Any.strings_TrimLeft_laid Tryz.lays161 (by kernel_rfl) (bytesOf r.rest) ⟨#[32, 10]⟩ w (by decide) (ascii_of_all (by decide))
  have HC : Hid (Calls Tryz.prog 71 #[.string (bytesOf r.rest), .string ⟨#[32, 10]⟩] w fun e w' => e = .returned (.string (bytesOf (r.rest.dropWhile spaceB))) ∧ Below w.heap.size w w') := hcon
  have c0 := h.c0
  have HR : Hid (Rd B rb r w) := h
  clear hcon h
  go_enter Tryz.func48, Tryz.ntmps48
  go_wp2_with fail
  refine (Calls.mono HC.out ?_)
  rintro e w1 ⟨rfl, hb1⟩
  have HR1 : Hid (Rd B rb r w1) := HR.out.later hb1
  have d0 := HR1.out.c0
  have f0 := HR1.out.f0
  go_wp2_with fail
  go_returns
  exact ⟨rfl, HR1.out.put0 _, (RFr.later hBw hb1).trans (RFr.put HR.out.base _ _)⟩
end Go.Proofs.YtmogemjikjbnfaaGreatDoor

/-
  DERIVED: THE SHELF's CONTRACTS AT THIS DUMP, IN PLAIN WORDS (tools/lay-plain.mjs out of 'YtmogemjikjbnfaaGreatDoorCompL.lean', which tools/lay-shelf.mjs wrote): THE SAME DECLARATIONS UNDER THE SAME NAMES: 'import', 'namespace', 'open', 'def', 'theorem' AND NOTHING ELSE: no command of the shelf's: FOR A HAND-IN. Each laying: the table of numbers ('.._ren') and one theorem, a field a fact of the dump's own or the kernel's comparison; each contract: ONE APPLICATION.
-/
namespace Go.Proofs
open Go.Shelf
def Tryz.lays106_ren : Go.Shelf.Ren := ⟨fun | 106 => 47 | 213 => 74 | 265 => 98 | n => n, fun | 9 => 9 | 3 => 3 | n => n, fun | n => n⟩
theorem Tryz.lays106 : Go.Proofs.Lays.n106 Tryz.prog Tryz.lays106_ren := {
  mixed := by kernel_rfl
  f106 := Tryz.func47.trans (congrArg some (by kernel_rfl))
  f213 := Tryz.func74.trans (congrArg some (by kernel_rfl))
  f265 := Tryz.func98.trans (congrArg some (by kernel_rfl))
  t3 := Tryz.underlying3
  a3 := Tryz.isAgg3
  z3 := Tryz.sizeOf3
  v3 := Tryz.zeroValue3
  t9 := Tryz.underlying9
  a9 := Tryz.isAgg9
  z9 := Tryz.sizeOf9
  v9 := Tryz.zeroValue9 }
open Go.RowKit in
/-- strings.Compare: "Compare returns an integer comparing two strings lexicographically. The result will be 0 if a == b, -1 if a < b, and +1 if a > b.": IT RETURNS 'Lib.compareBytes a b'; the world is as it was. (LAID: no walk: one application.) -/
theorem Tryz.strings_Compare (a b : ByteArray) (w : World) :
    Calls Tryz.prog 47 #[.string a, .string b] w fun e w' => e = .returned (.int .i64 (Lib.compareBytes a.data.toList b.data.toList)) ∧ w' = w := Any.strings_Compare Tryz.lays106 a b w
end Go.Proofs

