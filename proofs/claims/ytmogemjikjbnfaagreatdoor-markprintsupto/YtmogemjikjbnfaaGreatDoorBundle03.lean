/- Bundled: Marked ReadM ReadT. What each says stands ahead of it. -/
import Derived.Test.YtmogemjikjbnfaaGreatDoorBundle01
import Derived.Test.YtmogemjikjbnfaaGreatDoorBundle02
import Derived.Maps.AppendAt
import Derived.Deep.LoopGhost
import Derived.Deep.RegionLaw
/- strings.IndexByte, (*strings.Builder).WriteByte, mark.printMarked: a marked text is written behind what was there. Condition: less than 2^40 letters. -/
namespace Go.Proofs.YtmogemjikjbnfaaGreatDoor
open Go.ChangeShapes Go.WideShapes Go.ChangeAt Go.RowKit
set_option maxRecDepth 100000

theorem indexByte_any (s : ByteArray) (c : Int) (w : World) :
    Calls Tryz.prog 33 #[.string s, .int .u8 c] w fun e w' => e = .returned (.int .i64 (Lib.indexByte s.data.toList c.toNat.toUInt8)) ∧ w' = w := by
  have hlite : Calls Tryz.prog 55 #[.string s, .int .u8 c] w fun e w' => e = .returned (.int .i64 (Lib.indexByte s.data.toList c.toNat.toUInt8)) ∧ w' = w := by
    go_enter Tryz.func55, Tryz.ntmps55
    go_wp2
    rw [run_callFunc_extern Tryz.func78 (by kernel_rfl) (by kernel_rfl) (by kernel_rfl) (e := Extern.BytealgIndexByte.indexByte) (by kernel_rfl), Lib.run_indexByteString]
    simp only [Result.andThen]
    rw [Oper.upon_value]
    go_wp2
    go_ret
    exact ⟨rfl, rfl⟩
  have HL : Hid _ := hlite
  clear hlite
  go_enter Tryz.func33, Tryz.ntmps33
  go_wp2_with fail
  refine (Calls.mono HL.out ?_)
  rintro e w' ⟨rfl, rfl⟩
  go_wp2_with fail
  go_ret
  exact ⟨rfl, rfl⟩

theorem bByte_any (B b : Nat) (bs : List Value) (c : Int) (w : World) (h : Lib.IsBuilder 40 5 B b bs w) (hlen : bs.length + 1 ≤ 140737488355328) (hBw : B ≤ w.heap.size) :
    Calls Tryz.prog 34 #[.pointer (some ⟨b, 0, none⟩), .int .u8 c] w fun e w' => e = .returned .nilIface ∧ Lib.BuilderAt 40 5 B b (.pointer (some ⟨b, 0, none⟩)) (bs ++ [.int .u8 c]) w' ∧ Below B w w' := by
  obtain ⟨i0, hi, hz0, hz1, hz2⟩ := info_parts byteInfo
  go_enter Tryz.func34, Tryz.ntmps34
  go_wp2_with (go_at_call 35; refine (copyCheck_any B b bs _ h).mono ?_)
  rintro e w1 ⟨rfl, h1, hb1⟩
  obtain ⟨hB, v, hbk, hown, hne⟩ := h1
  have c0 : w1.cell? ⟨b, 0, none⟩ = some (.pointer (some ⟨b, 0, none⟩)) := by rw [Lib.cell_of_heap hbk]; rfl
  have c1 : w1.cell? ⟨b, 1, none⟩ = some v := by rw [Lib.cell_of_heap hbk]; rfl
  have hlt : b < w1.heap.size := by
    rcases Nat.lt_or_ge b w1.heap.size with h' | h'
    · exact h'
    · simp [Array.getElem?_eq_none h'] at hbk
  have hsz1 := hb1.size
  go_wp2_with (at_builtin; refine wpList_append_own_at _ rfl _ _ 38 rfl B 5 i0 _ 1 1 Tryz.underlying38 hi hz0 hz1 hz2 rfl (by decide) _ _ _ rfl (hown.alloc _) ⟨w1.heap.size, 0, none⟩ 1 1 [.int .u8 c] rfl ?c0 ?c1 ?c2 ?c3 ?c4 ?c5 ?_)
  case c0 => rfl
  case c1 => exact cell_one_new _ _ _
  case c2 => intro u hu; simp at hu; subst hu; rfl
  case c3 => unfold maxLen; omega
  case c4 => omega
  case c5 => simp; omega
  intro v' w2 hown' hgrow _ _
  have hb2 : w2.heap[b]? = some (.cells #[.pointer (some ⟨b, 0, none⟩), v] 40 (0, 0)) := by
    rw [hgrow.block b (by simp; omega) (fun e => hne e.symm), Lib.alloc_old _ _ _ hlt]
    exact hbk
  have d0 : w2.cell? ⟨b, 0, none⟩ = some (.pointer (some ⟨b, 0, none⟩)) := by rw [Lib.cell_of_heap hb2]; rfl
  have d1 : w2.cell? ⟨b, 1, none⟩ = some v := by rw [Lib.cell_of_heap hb2]; rfl
  have f1 : w2.frozen? ⟨b, 1, none⟩ = false := Lib.frozen_of_heap hb2 1
  obtain ⟨ao, n', cap, rfl⟩ : ∃ ao n' cap, v' = .slice ao n' cap := by
    rcases hown'.2 with ⟨hv, _⟩ | ⟨g, cap, cur, hv, _⟩
    · exact ⟨_, _, _, hv⟩
    · exact ⟨_, _, _, hv⟩
  go_wp2
  go_ret
  refine ⟨rfl, ?_, ?_⟩
  · exact Lib.BuilderAt.put (T := 40) (e := 5) hB hb2 (bs' := bs ++ [.int .u8 c]) (by simpa using hown') (by decide)
  · exact ((hb1.alloc (by omega) _).grown hgrow (by simp; omega) (fun k hk => (hown.lt k hk).1)).setCell (p := ⟨b, 1, none⟩) hB _
end Go.Proofs.YtmogemjikjbnfaaGreatDoor

/- The reader of marked text, as functions on plain data. No condition. -/
namespace Go.Proofs.YtmogemjikjbnfaaGreatDoor
set_option maxRecDepth 100000

/-- What is still to be read, and whether something went wrong. -/
structure Rs where
  rest : List UInt8
  wrong : Bool

def Rs.ahead (r : Rs) (p : List UInt8) : Bool := !r.wrong && p.isPrefixOf r.rest
def Rs.take (r : Rs) (p : List UInt8) : Rs := if r.ahead p then ⟨r.rest.drop p.length, r.wrong⟩ else r
def Rs.must (r : Rs) (p : List UInt8) : Rs := if r.ahead p then ⟨r.rest.drop p.length, r.wrong⟩ else ⟨r.rest, true⟩
def spaceB (c : UInt8) : Bool := ([32, 10] : List UInt8).contains c
def Rs.skip (r : Rs) : Rs := ⟨r.rest.dropWhile spaceB, r.wrong⟩
def Rs.nameOf (r : Rs) : List UInt8 := r.rest.takeWhile letter
def Rs.name (r : Rs) : Rs := ⟨r.rest.dropWhile letter, r.wrong⟩

def marksL : List (List UInt8 × UInt8) := [([38, 108, 116, 59], 60), ([38, 103, 116, 59], 62), ([38, 97, 109, 112, 59], 38), ([38, 113, 117, 111, 116, 59], 34)]

/-- A sign read: a mark in the place of one, or a byte. -/
def Rs.signFrom (r : Rs) : List (List UInt8 × UInt8) → UInt8 × Rs
  | [] => match r.rest with
    | [] => (0, r)
    | c :: l => if c = 38 then (c, ⟨r.rest, true⟩) else (c, ⟨l, r.wrong⟩)
  | m :: ms => if r.ahead m.1 then (m.2, ⟨r.rest.drop m.1.length, r.wrong⟩) else r.signFrom ms
def Rs.sign (r : Rs) : UInt8 × Rs := r.signFrom marksL

/-- Whether a marked text goes on: there is more, and it is none of its ends. -/
def Rs.goesOn (r : Rs) (ends : List UInt8) : Bool := !r.wrong && (match r.rest with
  | [] => false
  | c :: _ => decide (Lib.indexByte ends c < 0))

/-- A marked text up to the first of its ends. -/
def Rs.meant (ends : List UInt8) : Nat → Rs → List UInt8 × Rs
  | 0, r => ([], r)
  | f + 1, r => if r.goesOn ends then (r.sign.1 :: (Rs.meant ends f r.sign.2).1, (Rs.meant ends f r.sign.2).2) else ([], r)

theorem signFrom_less (r : Rs) (ms : List (List UInt8 × UInt8)) (hm : ∀ m ∈ ms, 0 < m.1.length) (hne : r.rest ≠ []) : (r.signFrom ms).2.rest.length < r.rest.length ∨ (r.signFrom ms).2.wrong = true := by
  induction ms with
  | nil =>
    cases hr : r.rest with
    | nil => exact absurd hr hne
    | cons c l =>
      by_cases hc : c = 38
      · right; simp [Rs.signFrom, hr, hc]
      · left; simp [Rs.signFrom, hr, hc]
  | cons m ms ih =>
    by_cases h : r.ahead m.1 = true
    · left
      have h0 := hm m List.mem_cons_self
      have h1 : 0 < r.rest.length := List.length_pos_iff.2 hne
      simp only [Rs.signFrom, h, if_true, List.length_drop]
      omega
    · simp only [Rs.signFrom, h]
      exact ih (fun x hx => hm x (List.mem_cons_of_mem _ hx))

theorem sign_less (r : Rs) (hne : r.rest ≠ []) : r.sign.2.rest.length < r.rest.length ∨ r.sign.2.wrong = true :=
  signFrom_less r marksL (by decide) hne

theorem goesOn_wrong {r : Rs} {ends : List UInt8} (h : r.wrong = true) : r.goesOn ends = false := by simp [Rs.goesOn, h]
theorem goesOn_rest {r : Rs} {ends : List UInt8} (h : r.goesOn ends = true) : r.wrong = false ∧ r.rest ≠ [] := by
  unfold Rs.goesOn at h
  cases hw : r.wrong with
  | true => simp [hw] at h
  | false =>
    cases hr : r.rest with
    | nil => simp [hw, hr] at h
    | cons c l => simp

/-- With fuel enough, one step more is the same. -/
theorem meant_step {ends : List UInt8} : ∀ (f : Nat) (r : Rs), r.rest.length < f ∨ r.wrong = true → Rs.meant ends (f + 1) r = Rs.meant ends f r := by
  intro f
  induction f with
  | zero =>
    intro r h
    rcases h with h | h
    · omega
    · simp [Rs.meant, goesOn_wrong h]
  | succ f ih =>
    intro r h
    by_cases hg : r.goesOn ends = true
    · obtain ⟨h1, h2⟩ := goesOn_rest hg
      have h3 : r.sign.2.rest.length < f ∨ r.sign.2.wrong = true := by
        rcases sign_less r h2 with h4 | h4
        · rcases h with h | h
          · left; omega
          · rw [h1] at h; cases h
        · exact Or.inr h4
      rw [Rs.meant, if_pos hg, ih r.sign.2 h3]
      conv => rhs; rw [Rs.meant, if_pos hg]
    · rw [Rs.meant, if_neg hg]
      conv => rhs; rw [Rs.meant, if_neg hg]

theorem meant_upto {ends : List UInt8} (f k : Nat) (r : Rs) (h : r.rest.length < f ∨ r.wrong = true) : Rs.meant ends (f + k) r = Rs.meant ends f r := by
  induction k with
  | zero => rfl
  | succ k ih =>
    rw [show f + (k + 1) = f + k + 1 from rfl, meant_step (f + k) r (by rcases h with h | h; exact Or.inl (by omega); exact Or.inr h), ih]

/-- A marked text read, with fuel enough. -/
def Rs.text (r : Rs) (ends : List UInt8) : List UInt8 × Rs := Rs.meant ends (r.rest.length + 1) r

theorem text_no {r : Rs} {ends : List UInt8} (h : r.goesOn ends = false) : r.text ends = ([], r) := by simp [Rs.text, Rs.meant, h]

theorem text_on {r : Rs} {ends : List UInt8} (h : r.goesOn ends = true) : r.text ends = (r.sign.1 :: (r.sign.2.text ends).1, (r.sign.2.text ends).2) := by
  obtain ⟨_, h2⟩ := goesOn_rest h
  unfold Rs.text
  rw [Rs.meant, if_pos h]
  have e : Rs.meant ends r.rest.length r.sign.2 = Rs.meant ends (r.sign.2.rest.length + 1) r.sign.2 := by
    by_cases hw : r.sign.2.wrong = true
    · have h3 : ∀ f, Rs.meant ends f r.sign.2 = ([], r.sign.2) := by
        intro f
        cases f with
        | zero => rfl
        | succ f => simp [Rs.meant, goesOn_wrong hw]
      rw [h3, h3]
    · rcases sign_less r h2 with h4 | h4
      · obtain ⟨k, hk⟩ := Nat.exists_eq_add_of_le (show r.sign.2.rest.length + 1 ≤ r.rest.length by omega)
        rw [hk]
        exact meant_upto _ k _ (Or.inl (by omega))
      · exact absurd h4 hw
  rw [e]
end Go.Proofs.YtmogemjikjbnfaaGreatDoor

/- The reader's attributes, elements and trees, as functions on plain data. No condition. -/
namespace Go.Proofs.YtmogemjikjbnfaaGreatDoor
set_option maxRecDepth 100000

/-- How much is left to read: nothing where something went wrong. -/
def Rs.left (r : Rs) : Nat := if r.wrong then 0 else r.rest.length + 1

/-- All that is read while there is more of it, with fuel. -/
def whileF {α : Type} (more : Rs → Bool) (step : Rs → α × Rs) : Nat → Rs → List α × Rs
  | 0, r => ([], r)
  | f + 1, r => if more r then ((step r).1 :: (whileF more step f (step r).2).1, (whileF more step f (step r).2).2) else ([], r)

theorem whileF_step {α : Type} {more : Rs → Bool} {step : Rs → α × Rs} (hless : ∀ r, more r = true → (step r).2.left < r.left) :
    ∀ (f : Nat) (r : Rs), r.left ≤ f → whileF more step (f + 1) r = whileF more step f r := by
  intro f
  induction f with
  | zero =>
    intro r h
    have : more r = false := by
      cases hm : more r with
      | false => rfl
      | true => have := hless r hm; omega
    simp [whileF, this]
  | succ f ih =>
    intro r h
    by_cases hm : more r = true
    · have h1 := hless r hm
      rw [whileF, if_pos hm, ih (step r).2 (by omega)]
      conv => rhs; rw [whileF, if_pos hm]
    · rw [whileF, if_neg hm]
      conv => rhs; rw [whileF, if_neg hm]

theorem whileF_upto {α : Type} {more : Rs → Bool} {step : Rs → α × Rs} (hless : ∀ r, more r = true → (step r).2.left < r.left)
    (f k : Nat) (r : Rs) (h : r.left ≤ f) : whileF more step (f + k) r = whileF more step f r := by
  induction k with
  | zero => rfl
  | succ k ih => rw [show f + (k + 1) = f + k + 1 from rfl, whileF_step hless (f + k) r (by omega), ih]

/-- All that is read while there is more of it. -/
def whileR {α : Type} (more : Rs → Bool) (step : Rs → α × Rs) (r : Rs) : List α × Rs := whileF more step (r.left + 1) r

theorem whileR_no {α : Type} {more : Rs → Bool} {step : Rs → α × Rs} {r : Rs} (h : more r = false) : whileR more step r = ([], r) := by
  simp [whileR, whileF, h]

theorem whileR_on {α : Type} {more : Rs → Bool} {step : Rs → α × Rs} (hless : ∀ r, more r = true → (step r).2.left < r.left) {r : Rs} (h : more r = true) :
    whileR more step r = ((step r).1 :: (whileR more step (step r).2).1, (whileR more step (step r).2).2) := by
  have h1 := hless r h
  unfold whileR
  rw [whileF, if_pos h]
  have e : whileF more step r.left (step r).2 = whileF more step ((step r).2.left + 1) (step r).2 := by
    obtain ⟨k, hk⟩ := Nat.exists_eq_add_of_le (show (step r).2.left + 1 ≤ r.left by omega)
    rw [hk]
    exact whileF_upto hless _ k _ (by omega)
  rw [e]

/-- What may follow a reader: no more is left, and what went wrong stays so. -/
def Rs.le (r' r : Rs) : Prop := r'.rest.length ≤ r.rest.length ∧ (r.wrong = true → r'.wrong = true)

theorem Rs.le.refl (r : Rs) : r.le r := ⟨Nat.le_refl _, id⟩
theorem Rs.le.trans {a b c : Rs} (h : a.le b) (k : b.le c) : a.le c := ⟨Nat.le_trans h.1 k.1, fun e => h.2 (k.2 e)⟩
theorem Rs.le.left {a b : Rs} (h : a.le b) : a.left ≤ b.left := by
  unfold Rs.left
  cases ha : a.wrong with
  | true => simp
  | false =>
    cases hb : b.wrong with
    | true => rw [h.2 hb] at ha; cases ha
    | false => have := h.1; simp; omega
theorem left_lt {a b : Rs} (h : a.rest.length < b.rest.length) (hb : b.wrong = false) : a.left < b.left := by
  unfold Rs.left
  rw [hb]
  cases a.wrong <;> simp <;> omega

theorem dropWhile_le (p : UInt8 → Bool) (l : List UInt8) : (l.dropWhile p).length ≤ l.length := by
  induction l with
  | nil => simp
  | cons c r ih => rw [List.dropWhile_cons]; split <;> simp <;> omega

theorem take_le (r : Rs) (p : List UInt8) : (r.take p).le r := by
  unfold Rs.take
  split
  · exact ⟨by simp, id⟩
  · exact Rs.le.refl r
theorem must_le (r : Rs) (p : List UInt8) : (r.must p).le r := by
  unfold Rs.must
  split
  · exact ⟨by simp, id⟩
  · exact ⟨Nat.le_refl _, fun _ => rfl⟩
theorem skip_le (r : Rs) : r.skip.le r := ⟨dropWhile_le _ _, id⟩
theorem name_le (r : Rs) : r.name.le r := ⟨dropWhile_le _ _, id⟩

theorem signFrom_le (r : Rs) : ∀ ms, (r.signFrom ms).2.le r := by
  intro ms
  induction ms with
  | nil =>
    unfold Rs.signFrom
    split
    · exact Rs.le.refl r
    · rename_i c l hl
      split
      · exact ⟨Nat.le_refl _, fun _ => rfl⟩
      · exact ⟨by rw [hl]; simp, id⟩
  | cons m ms ih =>
    unfold Rs.signFrom
    split
    · exact ⟨by simp, id⟩
    · exact ih
theorem sign_le (r : Rs) : r.sign.2.le r := signFrom_le r _

theorem meant_le (ends : List UInt8) : ∀ (f : Nat) (r : Rs), (Rs.meant ends f r).2.le r := by
  intro f
  induction f with
  | zero => intro r; exact Rs.le.refl r
  | succ f ih =>
    intro r
    unfold Rs.meant
    split
    · exact (ih _).trans (sign_le r)
    · exact Rs.le.refl r
theorem text_le (r : Rs) (ends : List UInt8) : (r.text ends).2.le r := meant_le _ _ _

def valueEnds : List UInt8 := [60, 62, 34]
def textEnds : List UInt8 := [60, 62]

def Rs.attrAhead (r : Rs) : Bool := !r.wrong && decide ((r.rest.dropWhile spaceB).length < r.rest.length) && (match r.rest.dropWhile spaceB with
  | [] => false
  | c :: _ => letter c)

/-- An attribute read: its name and value, and what is left. -/
def Rs.attr (r : Rs) : (List UInt8 × List UInt8) × Rs :=
  ((r.skip.nameOf, ((r.skip.name.must [61, 34]).text valueEnds).1), ((r.skip.name.must [61, 34]).text valueEnds).2.must [34])

theorem attr_le (r : Rs) : r.attr.2.le r.skip := (must_le _ _).trans ((text_le _ _).trans ((must_le _ _).trans (name_le _)))

theorem attr_less (r : Rs) (h : r.attrAhead = true) : r.attr.2.left < r.left := by
  unfold Rs.attrAhead at h
  simp only [Bool.and_eq_true, decide_eq_true_eq, Bool.not_eq_true'] at h
  exact Nat.lt_of_le_of_lt (attr_le r).left (left_lt (show r.skip.rest.length < r.rest.length from h.1.2) h.1.1)

def Rs.attrs (r : Rs) : List (List UInt8 × List UInt8) × Rs := whileR Rs.attrAhead Rs.attr r

theorem attrs_no {r : Rs} (h : r.attrAhead = false) : r.attrs = ([], r) := whileR_no h
theorem attrs_on {r : Rs} (h : r.attrAhead = true) : r.attrs = (r.attr.1 :: r.attr.2.attrs.1, r.attr.2.attrs.2) := whileR_on attr_less h

theorem whileF_le {α : Type} {more : Rs → Bool} {step : Rs → α × Rs} (hs : ∀ r, more r = true → (step r).2.le r) : ∀ (f : Nat) (r : Rs), (whileF more step f r).2.le r := by
  intro f
  induction f with
  | zero => intro r; exact Rs.le.refl r
  | succ f ih =>
    intro r
    unfold whileF
    split
    · rename_i h; exact (ih _).trans (hs r h)
    · exact Rs.le.refl r
theorem attrs_le (r : Rs) : r.attrs.2.le r := whileF_le (fun r _ => (attr_le r).trans (skip_le r)) _ r

def Rs.treeAhead (r : Rs) : Bool := !r.wrong && decide (r.rest ≠ []) && !r.ahead [60, 47] && !r.ahead [62]
end Go.Proofs.YtmogemjikjbnfaaGreatDoor

