/- Bundled: ParseM BackM BackT. What each says stands ahead of it. -/
import Derived.Test.YtmogemjikjbnfaaGreatDoorBundle25
import Derived.Test.YtmogemjikjbnfaaGreatDoorBundle08
import Derived.Test.YtmogemjikjbnfaaGreatDoorBundle09
/- What mark.Parse, Content answer, as functions; what is read is short. No condition. -/
namespace Go.Proofs.YtmogemjikjbnfaaGreatDoor
open Go.RowKit
set_option maxRecDepth 100000

theorem whileF_all {α : Type} {more : Rs → Bool} {step : Rs → α × Rs} {P : α → Prop} {M : Nat} (hstep : ∀ r, more r = true → r.rest.length ≤ M → P (step r).1) (hle : ∀ r, more r = true → (step r).2.le r) :
    ∀ (f : Nat) (r : Rs), r.rest.length ≤ M → ∀ x ∈ (whileF more step f r).1, P x := by
  intro f
  induction f with
  | zero => intro r _ x hx; simp [whileF] at hx
  | succ f ih =>
    intro r hr x hx
    unfold whileF at hx
    split at hx
    · rename_i h
      simp only [List.mem_cons] at hx
      rcases hx with rfl | hx
      · exact hstep r h hr
      · exact ih _ (Nat.le_trans (hle r h).1 hr) x hx
    · simp at hx

theorem takeWhile_len (p : UInt8 → Bool) (l : List UInt8) : (l.takeWhile p).length ≤ l.length := by
  induction l with
  | nil => simp
  | cons c r ih => rw [List.takeWhile_cons]; split <;> simp <;> omega

theorem meant_len (ends : List UInt8) : ∀ (f : Nat) (r : Rs), (Rs.meant ends f r).1.length ≤ r.left := by
  intro f
  induction f with
  | zero => intro r; simp [Rs.meant]
  | succ f ih =>
    intro r
    unfold Rs.meant
    split
    · rename_i h
      have h1 := sign_left h
      have h2 := ih r.sign.2
      simp; omega
    · simp
theorem text_len (r : Rs) (ends : List UInt8) : (r.text ends).1.length ≤ r.rest.length + 1 := Nat.le_trans (meant_len _ _ r) (left_le r)

theorem attr_short {M : Nat} (r : Rs) (h : r.rest.length ≤ M) : r.attr.1.1.length ≤ M + 1 ∧ r.attr.1.2.length ≤ M + 1 := by
  have h1 := (skip_le r).1
  have h2 := takeWhile_len letter r.skip.rest
  have h3 := text_len (r.skip.name.must [61, 34]) valueEnds
  have h4 := ((must_le r.skip.name [61, 34]).trans ((name_le _).trans (skip_le r))).1
  exact ⟨by show (r.skip.rest.takeWhile letter).length ≤ _; omega, by show ((r.skip.name.must [61, 34]).text valueEnds).1.length ≤ _; omega⟩

def Short (M : Nat) (t : Tr) : Prop := t.s.size ≤ M ∧ ∀ x ∈ t.attrs, x.1.size ≤ M ∧ x.2.size ≤ M
def ShortN (M : Nat) : Nat → List Tr → Prop
  | 0, _ => True
  | n + 1, ts => ∀ t ∈ ts, Short M t ∧ ShortN M n t.kids

theorem ShortN.texts {M : Nat} (hM : M ≤ maxLen) : ∀ (n : Nat) (ts : List Tr), ShortN M n ts → TextsN n ts := by
  intro n
  induction n with
  | zero => intro ts _; trivial
  | succ n ih =>
    intro ts h t ht
    obtain ⟨⟨h1, h2⟩, h3⟩ := h t ht
    exact ⟨⟨Nat.le_trans h1 hM, fun x hx => ⟨Nat.le_trans (h2 x hx).1 hM, Nat.le_trans (h2 x hx).2 hM⟩⟩, ih _ h3⟩

theorem ShortN.nil (M n : Nat) : ShortN M n [] := by cases n with | zero => trivial | succ n => intro t ht; simp at ht

theorem one_short {M f : Nat} (ih : ∀ r, r.rest.length ≤ M → ShortN (M + 1) f (treesF f r).1) (r : Rs) (h : r.rest.length ≤ M) : Short (M + 1) (r.one (treesF f)).1 ∧ ShortN (M + 1) f (r.one (treesF f)).1.kids := by
  unfold Rs.one
  by_cases h2 : r.ahead [60] = true
  · rw [if_pos h2]
    unfold Rs.elem
    have h3 := (must_le r [60]).1
    have hat : ∀ x ∈ (r.must [60]).name.attrs.1, x.1.length ≤ M + 1 ∧ x.2.length ≤ M + 1 :=
      whileF_all (fun r _ hr => attr_short r hr) (fun r _ => (attr_le r).trans (skip_le r)) _ _ (by have := ((name_le (r.must [60])).trans (must_le r [60])).1; omega)
    have hnm : (bytesOf (r.must [60]).nameOf).size ≤ M + 1 := by
      rw [bytesOf_size]
      have := takeWhile_len letter (r.must [60]).rest
      show ((r.must [60]).rest.takeWhile letter).length ≤ _
      omega
    have hsh : ∀ x ∈ asB (sortA (r.must [60]).name.attrs.1), x.1.size ≤ M + 1 ∧ x.2.size ≤ M + 1 := by
      intro x hx
      simp only [asB, List.mem_map] at hx
      obtain ⟨y, hy, rfl⟩ := hx
      have := hat y ((sortA_perm _).mem_iff.1 hy)
      simp only [bytesOf_size]
      exact this
    unfold Rs.elemIn
    split
    · exact ⟨⟨hnm, hsh⟩, ShortN.nil _ _⟩
    · exact ⟨⟨hnm, hsh⟩, ih _ (by have := ((must_le (r.must [60]).name.attrs.2.skip [62]).trans ((skip_le _).trans ((attrs_le _).trans ((name_le _).trans (must_le r [60]))))).1; omega)⟩
  · rw [if_neg h2]
    refine ⟨⟨?_, by intro x hx; simp at hx⟩, ShortN.nil _ _⟩
    rw [bytesOf_size]
    have := text_len r textEnds
    omega

theorem treesF_short (M : Nat) : ∀ (f : Nat) (r : Rs), r.rest.length ≤ M → ShortN (M + 1) f (treesF f r).1 := by
  intro f
  induction f with
  | zero => intro r _; trivial
  | succ f ih =>
    intro r h
    exact whileF_all (P := fun t => Short (M + 1) t ∧ ShortN (M + 1) f t.kids) (fun r _ hr => one_short ih r hr) (fun r _ => one_le (treesF_le f) r) _ r h

def zeroT : Tr := ⟨false, ⟨#[]⟩, [], []⟩

/-- What mark.Parse answers. -/
def parseR (s : List UInt8) : Tr × Int :=
  if 2500 < s.length then (zeroT, 2)
  else if ((⟨s, false⟩ : Rs).one (treesF s.length)).2.wrong || decide (((⟨s, false⟩ : Rs).one (treesF s.length)).2.rest ≠ []) || !goodB ((⟨s, false⟩ : Rs).one (treesF s.length)).1 then (zeroT, 1)
  else (((⟨s, false⟩ : Rs).one (treesF s.length)).1, 0)

/-- What mark.Content answers. -/
def contR (s : List UInt8) : List Tr × Int :=
  if 2500 < s.length then ([], 2)
  else if (treesF (s.length + 1) ⟨s, false⟩).2.wrong || decide ((treesF (s.length + 1) ⟨s, false⟩).2.rest ≠ []) || !contentB (treesF (s.length + 1) ⟨s, false⟩).1 then ([], 1)
  else ((treesF (s.length + 1) ⟨s, false⟩).1, 0)
end Go.Proofs.YtmogemjikjbnfaaGreatDoor

/- What is printed of a good tree is read as it: on plain data. No condition. -/
namespace Go.Proofs.YtmogemjikjbnfaaGreatDoor
open Go.RowKit
set_option maxRecDepth 100000

def endsOf (v : Bool) : List UInt8 := if v then valueEnds else textEnds

theorem plain_ahead {c : UInt8} {x : List UInt8} (hc : c ≠ 38) (p : List UInt8) : (⟨c :: x, false⟩ : Rs).ahead (38 :: p) = false := by
  have : ((38 : UInt8) == c) = false := by simpa using fun e => hc e.symm
  simp [Rs.ahead, List.isPrefixOf, this]

theorem sign_mark (v : Bool) (c : UInt8) (x : List UInt8) : (⟨markC v c ++ x, false⟩ : Rs).sign = (c, ⟨x, false⟩) ∧ (⟨markC v c ++ x, false⟩ : Rs).goesOn (endsOf v) = true := by
  by_cases h0 : c = 60
  · subst h0; cases v <;> exact ⟨rfl, rfl⟩
  by_cases h1 : c = 62
  · subst h1; cases v <;> exact ⟨rfl, rfl⟩
  by_cases h2 : c = 38
  · subst h2; cases v <;> exact ⟨rfl, rfl⟩
  by_cases h3 : (v && c == 34) = true
  · simp only [Bool.and_eq_true, beq_iff_eq] at h3
    obtain ⟨rfl, rfl⟩ := h3
    exact ⟨rfl, rfl⟩
  have hm : markC v c = [c] := by simp only [markC, h0, h1, h2, if_false]; rw [if_neg h3]
  rw [hm]
  constructor
  · show (⟨c :: x, false⟩ : Rs).sign = _
    unfold Rs.sign
    simp only [marksL, Rs.signFrom, plain_ahead h2, h2, Bool.false_eq_true, if_false]
  · have n0 : ((60 : UInt8) == c) = false := by simpa using fun e => h0 e.symm
    have n1 : ((62 : UInt8) == c) = false := by simpa using fun e => h1 e.symm
    cases v with
    | false => simp [Rs.goesOn, endsOf, textEnds, Lib.indexByte, n0, n1]
    | true =>
      have n3 : ((34 : UInt8) == c) = false := by
        have : ¬ c = 34 := by simpa using h3
        simpa using fun e => this e.symm
      simp [Rs.goesOn, endsOf, valueEnds, Lib.indexByte, n0, n1, n3]

theorem text_mark (v : Bool) (l x : List UInt8) (hx : (⟨x, false⟩ : Rs).goesOn (endsOf v) = false) : (⟨markL v l ++ x, false⟩ : Rs).text (endsOf v) = (l, ⟨x, false⟩) := by
  induction l with
  | nil => exact text_no hx
  | cons c l ih =>
    have e : markL v (c :: l) ++ x = markC v c ++ (markL v l ++ x) := by simp [markL]
    obtain ⟨h1, h2⟩ := sign_mark v c (markL v l ++ x)
    rw [e, text_on h2, h1, ih]

theorem letter_space {c : UInt8} (h : letter c = true) : spaceB c = false := by
  simp only [letter, Bool.and_eq_true, decide_eq_true_eq] at h
  have h1 : ¬ c = 32 := by intro e; subst e; exact absurd h.1 (by decide)
  have h2 : ¬ c = 10 := by intro e; subst e; exact absurd h.1 (by decide)
  simp [spaceB, h1, h2]

theorem takeWhile_all {p : UInt8 → Bool} : ∀ {l : List UInt8} {c : UInt8} {x : List UInt8}, l.all p = true → p c = false → (l ++ c :: x).takeWhile p = l ∧ (l ++ c :: x).dropWhile p = c :: x := by
  intro l
  induction l with
  | nil => intro c x _ hc; simp [hc]
  | cons d l ih =>
    intro c x h hc
    simp only [List.all_cons, Bool.and_eq_true] at h
    obtain ⟨h1, h2⟩ := ih (x := x) h.2 hc
    simp [h.1, h1, h2]

theorem name_parts {s : ByteArray} (h : nameB s = true) : ∃ c l, s.data.toList = c :: l ∧ letter c = true ∧ l.all letter = true := by
  simp only [nameB, Bool.and_eq_true, decide_eq_true_eq] at h
  have h1 := h.1.1
  have h2 := h.2
  cases hs : s.data.toList with
  | nil =>
    have : s.data.toList.length = 0 := by rw [hs]; rfl
    rw [Array.length_toList] at this
    have : s.size = 0 := this
    omega
  | cons c l =>
    rw [hs] at h2
    simp only [List.all_cons, Bool.and_eq_true] at h2
    exact ⟨c, l, rfl, h2.1, h2.2⟩

theorem must_on (p x : List UInt8) : (⟨p ++ x, false⟩ : Rs).must p = ⟨x, false⟩ := by
  have : (⟨p ++ x, false⟩ : Rs).ahead p = true := by simp [Rs.ahead]
  simp [Rs.must, this]

/-- An attribute as bytes. -/
def bytesA (x : ByteArray × ByteArray) : List UInt8 × List UInt8 := (x.1.data.toList, x.2.data.toList)

theorem attr_back {a : ByteArray × ByteArray} (hn : nameB a.1 = true) (y : List UInt8) : (⟨attrP a ++ y, false⟩ : Rs).attrAhead = true ∧ (⟨attrP a ++ y, false⟩ : Rs).attr = (bytesA a, ⟨y, false⟩) := by
  obtain ⟨c, l, hs, hc, hl⟩ := name_parts hn
  have hall : (c :: l).all letter = true := by simp [hc, hl]
  have e : attrP a ++ y = 32 :: ((c :: l) ++ 61 :: (34 :: (markL true a.2.data.toList ++ 34 :: y))) := by simp [attrP, hs]
  have hsk : (⟨attrP a ++ y, false⟩ : Rs).skip = ⟨(c :: l) ++ 61 :: (34 :: (markL true a.2.data.toList ++ 34 :: y)), false⟩ := by
    rw [e]
    simp only [Rs.skip]
    rw [List.dropWhile_cons, if_pos (by decide), List.cons_append, List.dropWhile_cons, if_neg (by rw [letter_space hc]; decide)]
  obtain ⟨t1, t2⟩ := takeWhile_all (c := 61) (x := 34 :: (markL true a.2.data.toList ++ 34 :: y)) hall (by decide)
  constructor
  · have hd : (attrP a ++ y).dropWhile spaceB = c :: (l ++ 61 :: (34 :: (markL true a.2.data.toList ++ 34 :: y))) := by
      have := congrArg Rs.rest hsk
      exact this
    simp only [Rs.attrAhead, hd, hc]
    rw [e]
    simp
  · unfold Rs.attr
    rw [hsk]
    have hno : (⟨(c :: l) ++ 61 :: (34 :: (markL true a.2.data.toList ++ 34 :: y)), false⟩ : Rs).nameOf = c :: l := t1
    have hna : (⟨(c :: l) ++ 61 :: (34 :: (markL true a.2.data.toList ++ 34 :: y)), false⟩ : Rs).name = ⟨[61, 34] ++ (markL true a.2.data.toList ++ 34 :: y), false⟩ := by
      simp only [Rs.name]; rw [t2]; rfl
    rw [hno, hna, must_on]
    have htx := text_mark true a.2.data.toList (34 :: y) rfl
    simp only [endsOf, if_true] at htx
    rw [htx]
    show ((c :: l, a.2.data.toList), (⟨[34] ++ y, false⟩ : Rs).must [34]) = _
    rw [must_on, ← hs]
    rfl

theorem attrs_back {l : List (ByteArray × ByteArray)} (hn : ∀ x ∈ l, nameB x.1 = true) (y : List UInt8) (hy : (⟨y, false⟩ : Rs).attrAhead = false) : (⟨l.flatMap attrP ++ y, false⟩ : Rs).attrs = (l.map bytesA, ⟨y, false⟩) := by
  induction l with
  | nil => exact attrs_no hy
  | cons a l ih =>
    have e : (a :: l).flatMap attrP ++ y = attrP a ++ (l.flatMap attrP ++ y) := by simp
    obtain ⟨h1, h2⟩ := attr_back (hn a List.mem_cons_self) (l.flatMap attrP ++ y)
    rw [e, attrs_on h1, h2, ih (fun x hx => hn x (List.mem_cons_of_mem _ hx))]
    rfl

theorem asB_bytes (l : List (ByteArray × ByteArray)) : asB (l.map bytesA) = l := by
  induction l with
  | nil => rfl
  | cons a l ih =>
    show (bytesOf a.1.data.toList, bytesOf a.2.data.toList) :: asB (l.map bytesA) = _
    rw [ih, bytesOf_of, bytesOf_of]

/-- Names of attributes that are good rise. -/
theorem attrs_rise {l : List (ByteArray × ByteArray)} (h : attrsB l = true) : (l.map bytesA).Pairwise fun x y => x.1 < y.1 := by
  simp only [attrsB, Bool.and_eq_true, decide_eq_true_eq, List.all_eq_true] at h
  have step : ∀ i, i + 1 < (l.map bytesA).length → ∀ x y, (l.map bytesA)[i]? = some x → (l.map bytesA)[i + 1]? = some y → x.1 < y.1 := by
    intro i hi x y hx hy
    have hk := h.2 (i + 1) (by simpa using hi)
    simp only [List.getElem?_map, Option.map_eq_some_iff] at hx hy
    obtain ⟨a, ha, rfl⟩ := hx
    obtain ⟨b, hb, rfl⟩ := hy
    unfold okA at hk
    rw [hb] at hk
    simp only [ha, Bool.and_eq_true] at hk
    have := hk.2
    rw [less_lt, decide_eq_true_eq, ByteArray.toList_eq, ByteArray.toList_eq] at this
    exact this
  have gen : ∀ (m : List (List UInt8 × List UInt8)), (∀ i, i + 1 < m.length → ∀ x y, m[i]? = some x → m[i + 1]? = some y → x.1 < y.1) → m.Pairwise fun x y => x.1 < y.1 := by
    intro m
    induction m with
    | nil => intro _; exact List.Pairwise.nil
    | cons a m ih =>
      intro hs
      have hm := ih (fun i hi x y hx hy => hs (i + 1) (by simpa using hi) x y (by simpa using hx) (by simpa using hy))
      rw [List.pairwise_cons]
      refine ⟨fun b hb => ?_, hm⟩
      cases m with
      | nil => simp at hb
      | cons c m =>
        have h1 : a.1 < c.1 := hs 0 (by simp) a c rfl rfl
        rw [List.mem_cons] at hb
        rcases hb with rfl | hb
        · exact h1
        · rw [List.pairwise_cons] at hm
          exact List.lt_trans h1 (hm.1 b hb)
  exact gen _ step
end Go.Proofs.YtmogemjikjbnfaaGreatDoor

/- What is printed of good trees is read as them, however deep: on plain data. No condition. -/
namespace Go.Proofs.YtmogemjikjbnfaaGreatDoor
open Go.RowKit
set_option maxRecDepth 100000

/-- What may stand behind trees: nothing, or an end. -/
def Stop (x : List UInt8) : Prop := x = [] ∨ ∃ y, x = 60 :: 47 :: y

theorem Stop.no {x : List UInt8} (h : Stop x) : (⟨x, false⟩ : Rs).treeAhead = false := by
  rcases h with rfl | ⟨y, rfl⟩ <;> rfl

theorem head_no {x : List UInt8} (h : x = [] ∨ ∃ y, x = 60 :: y) : (⟨x, false⟩ : Rs).goesOn textEnds = false := by
  rcases h with rfl | ⟨y, rfl⟩ <;> rfl

theorem elem_head (inner : List UInt8) (t : Tr) (h : t.text = false) (x : List UInt8) : ∃ y, oneP inner t ++ x = 60 :: y := by
  simp [oneP, h]

theorem markC_head (c : UInt8) : ∃ d l, markC false c = d :: l ∧ d ≠ 60 ∧ d ≠ 62 := by
  unfold markC
  split
  · exact ⟨_, _, rfl, by decide, by decide⟩
  split
  · exact ⟨_, _, rfl, by decide, by decide⟩
  split
  · exact ⟨_, _, rfl, by decide, by decide⟩
  · rename_i h0 h1 _
    simp only [Bool.false_and, Bool.false_eq_true, if_false]
    exact ⟨_, _, rfl, h0, h1⟩

theorem text_back {s : List UInt8} (hs : s ≠ []) (y : List UInt8) (hy : y = [] ∨ ∃ z, y = 60 :: z) (rec : Rs → List Tr × Rs) :
    (⟨markL false s ++ y, false⟩ : Rs).treeAhead = true ∧ (⟨markL false s ++ y, false⟩ : Rs).one rec = (⟨true, bytesOf s, [], []⟩, ⟨y, false⟩) := by
  cases s with
  | nil => exact absurd rfl hs
  | cons c s =>
    obtain ⟨d, l, hd, h1, h2⟩ := markC_head c
    have e : markL false (c :: s) ++ y = d :: (l ++ (markL false s ++ y)) := by simp [markL, hd]
    have n1 : ((60 : UInt8) == d) = false := by simpa using fun e => h1 e.symm
    have n2 : ((62 : UInt8) == d) = false := by simpa using fun e => h2 e.symm
    have ha : (⟨markL false (c :: s) ++ y, false⟩ : Rs).ahead [60] = false := by rw [e]; simp [Rs.ahead, List.isPrefixOf, n1]
    constructor
    · rw [e]; simp [Rs.treeAhead, Rs.ahead, List.isPrefixOf, n1, n2]
    · unfold Rs.one
      rw [if_neg (by rw [ha]; decide)]
      have htx := text_mark false (c :: s) y (head_no hy)
      simp only [endsOf, Bool.false_eq_true, if_false] at htx
      rw [htx]

theorem skip_on {c : UInt8} {l : List UInt8} (h : spaceB c = false) : (⟨c :: l, false⟩ : Rs).skip = ⟨c :: l, false⟩ := by
  simp [Rs.skip, h]

theorem elem_back {t : Tr} (ht : t.text = false) (hr : rightB t = true) (rec : Rs → List Tr × Rs) (inner y : List UInt8)
    (hrec : t.kids ≠ [] → ∀ z, rec ⟨inner ++ 60 :: 47 :: z, false⟩ = (t.kids, ⟨60 :: 47 :: z, false⟩)) :
    (⟨oneP inner t ++ y, false⟩ : Rs).treeAhead = true ∧ (⟨oneP inner t ++ y, false⟩ : Rs).one rec = (t, ⟨y, false⟩) := by
  obtain ⟨tx, s, ats, ks⟩ := t
  simp only at ht hrec
  subst ht
  simp only [rightB, Bool.false_eq_true, if_false, Bool.and_eq_true] at hr
  obtain ⟨c, l, hs, hc, hl⟩ := name_parts hr.1
  have hall : (c :: l).all letter = true := by simp [hc, hl]
  have hnames : ∀ x ∈ ats, nameB x.1 = true := by
    intro x hx
    obtain ⟨i, hi⟩ := List.mem_iff_getElem?.1 hx
    have hil : i < ats.length := by
      rcases Nat.lt_or_ge i ats.length with h' | h'
      · exact h'
      · rw [List.getElem?_eq_none h'] at hi; cases hi
    have h2 := hr.2
    simp only [attrsB, Bool.and_eq_true, decide_eq_true_eq, List.all_eq_true] at h2
    have := h2.2 i (by simpa using hil)
    unfold okA at this
    rw [hi] at this
    simp only [Bool.and_eq_true] at this
    exact this.1.1
  obtain ⟨tl, htl⟩ : ∃ tl, (if ks.isEmpty then [47, 62] else 62 :: inner ++ [60, 47] ++ s.data.toList ++ [62]) ++ y = tl := ⟨_, rfl⟩
  have htl1 : (∃ z, tl = 47 :: 62 :: z) ∨ ∃ z, tl = 62 :: z := by
    rw [← htl]
    cases ks with
    | nil => exact Or.inl ⟨y, rfl⟩
    | cons k ks => right; simp
  have e : oneP inner ⟨false, s, ats, ks⟩ ++ y = [60] ++ ((c :: l) ++ (ats.flatMap attrP ++ tl)) := by
    rw [← htl]; simp [oneP, hs]
  obtain ⟨d, z, hd, hld⟩ : ∃ d z, ats.flatMap attrP ++ tl = d :: z ∧ letter d = false := by
    cases ats with
    | nil => rcases htl1 with ⟨z, rfl⟩ | ⟨z, rfl⟩ <;> exact ⟨_, _, rfl, by decide⟩
    | cons a ats => exact ⟨32, _, by simp [attrP]; rfl, by decide⟩
  have hah : (⟨oneP inner ⟨false, s, ats, ks⟩ ++ y, false⟩ : Rs).ahead [60] = true := by rw [e]; simp [Rs.ahead]
  have hnc : ((47 : UInt8) == c) = false := by
    simp only [letter, Bool.and_eq_true, decide_eq_true_eq] at hc
    have : ¬ (47 : UInt8) = c := by intro e; subst e; exact absurd hc.1 (by decide)
    simpa using this
  refine ⟨?_, ?_⟩
  · rw [e]; simp [Rs.treeAhead, Rs.ahead, List.isPrefixOf, hnc]
  · unfold Rs.one
    rw [if_pos hah]
    unfold Rs.elem
    rw [e, must_on]
    obtain ⟨t1, t2⟩ := takeWhile_all (x := z) hall hld
    rw [← hd] at t1 t2
    have hno : (⟨(c :: l) ++ (ats.flatMap attrP ++ tl), false⟩ : Rs).nameOf = c :: l := t1
    have hna : (⟨(c :: l) ++ (ats.flatMap attrP ++ tl), false⟩ : Rs).name = ⟨ats.flatMap attrP ++ tl, false⟩ := by simp only [Rs.name]; rw [t2]
    have hat : (⟨ats.flatMap attrP ++ tl, false⟩ : Rs).attrs = (ats.map bytesA, ⟨tl, false⟩) := attrs_back hnames tl (by rcases htl1 with ⟨z, rfl⟩ | ⟨z, rfl⟩ <;> simp [Rs.attrAhead, spaceB])
    have hsk : (⟨tl, false⟩ : Rs).skip = ⟨tl, false⟩ := by rcases htl1 with ⟨z, rfl⟩ | ⟨z, rfl⟩ <;> exact skip_on (by decide)
    rw [hno, hna, hat, hsk]
    have hso : asB (sortA (ats.map bytesA)) = ats := by rw [sortA_id (attrs_rise hr.2), asB_bytes]
    have hnm : bytesOf (c :: l) = s := by rw [← hs]; exact bytesOf_of s
    unfold Rs.elemIn
    rw [hso, hnm]
    cases ks with
    | nil =>
      have htl2 : tl = [47, 62] ++ y := htl.symm
      rw [htl2]
      have h1 : (⟨[47, 62] ++ y, false⟩ : Rs).ahead [47, 62] = true := by simp [Rs.ahead]
      rw [if_pos h1]
      unfold Rs.take
      rw [if_pos h1]
      rfl
    | cons k ks =>
      have htl2 : tl = [62] ++ (inner ++ 60 :: 47 :: ((c :: l) ++ ([62] ++ y))) := by rw [← htl]; simp [hs]
      rw [htl2]
      have h1 : (⟨[62] ++ (inner ++ 60 :: 47 :: ((c :: l) ++ ([62] ++ y))), false⟩ : Rs).ahead [47, 62] = false := by simp [Rs.ahead, List.isPrefixOf]
      rw [if_neg (by rw [h1]; decide), must_on, hrec (by simp) _]
      have h2 : (⟨60 :: 47 :: ((c :: l) ++ ([62] ++ y)), false⟩ : Rs).must [60, 47] = ⟨(c :: l) ++ ([62] ++ y), false⟩ := must_on [60, 47] _
      simp only [h2]
      rw [must_on, show ([62] ++ y : List UInt8) = 62 :: y from rfl, skip_on (by decide)]
      rw [show (62 :: y : List UInt8) = [62] ++ y from rfl, must_on]

theorem back_list : ∀ (n : Nat) (f : Nat) (ts : List Tr) (p : Bool) (x : List UInt8), Deep n ts → (∀ m, n = m + 1 → rgL (rgt m) p ts = true) → dep n ts ≤ f → Stop x →
    treesF f ⟨showL n ts ++ x, false⟩ = (ts, ⟨x, false⟩) := by
  intro n
  induction n with
  | zero =>
    intro f ts p x hd _ _ hx
    have : ts = [] := hd
    subst this
    exact treesF_no hx.no
  | succ n ih =>
    intro f ts
    induction ts with
    | nil => intro p x _ _ _ hx; exact treesF_no hx.no
    | cons t r ihr =>
      intro p x hd hg hf hx
      have hg1 := hg n rfl
      unfold rgL at hg1
      simp only [Bool.and_eq_true, Bool.not_eq_true'] at hg1
      obtain ⟨⟨⟨g1, g2⟩, g3⟩, g4⟩ := hg1
      rw [dep_cons] at hf
      obtain ⟨f', rfl⟩ : ∃ f', f = f' + 1 := ⟨f - 1, by omega⟩
      have hrest := ihr t.text x (fun u hu => hd u (List.mem_cons_of_mem _ hu)) (fun m hm => by cases hm; exact g4) (by omega) hx
      have e : showL (n + 1) (t :: r) ++ x = oneP (showL n t.kids) t ++ (showL (n + 1) r ++ x) := by simp [showL]
      have hone : (⟨oneP (showL n t.kids) t ++ (showL (n + 1) r ++ x), false⟩ : Rs).treeAhead = true ∧ (⟨oneP (showL n t.kids) t ++ (showL (n + 1) r ++ x), false⟩ : Rs).one (treesF f') = (t, ⟨showL (n + 1) r ++ x, false⟩) := by
        cases htt : t.text with
        | true =>
          have hy : (showL (n + 1) r ++ x = []) ∨ ∃ z, showL (n + 1) r ++ x = 60 :: z := by
            cases r with
            | nil =>
              rcases hx with rfl | ⟨y, rfl⟩
              · exact Or.inl rfl
              · exact Or.inr ⟨_, rfl⟩
            | cons u r =>
              unfold rgL at g4
              simp only [htt, Bool.and_eq_true, Bool.not_eq_true', Bool.true_and] at g4
              obtain ⟨y, hy⟩ := elem_head (showL n u.kids) u g4.1.1.2 (showL (n + 1) r ++ x)
              exact Or.inr ⟨y, by rw [← hy]; simp [showL]⟩
          obtain ⟨tx, s, ats, ks⟩ := t
          simp only at htt
          subst htt
          simp only [rightB, if_true, Bool.and_eq_true, decide_eq_true_eq, Bool.not_eq_true'] at g1
          have ha : ats = [] := List.eq_nil_of_length_eq_zero g1.1.2
          have hk : ks = [] := List.eq_nil_of_length_eq_zero g1.2
          subst ha hk
          have hs : s.data.toList ≠ [] := by
            intro e
            have := g1.1.1.1
            rw [ByteArray.toList_eq] at this
            have e2 : s.data = #[] := by cases hh : s.data; rw [hh] at e; simp at e; subst e; rfl
            rw [e2] at this; simp at this
          have := text_back hs (showL (n + 1) r ++ x) hy (treesF f')
          rw [bytesOf_of] at this
          simpa [oneP] using this
        | false =>
          refine elem_back htt g1 _ _ _ ?_
          intro _ z
          have hk : rgt n t.kids = true := by simpa [htt] using g3
          exact ih f' t.kids false _ (hd t List.mem_cons_self) (fun m hm => by subst hm; exact hk) (by omega) (Or.inr ⟨z, rfl⟩)
      rw [e, treesF_on hone.1, hone.2, hrest]

theorem markL_pos {s : List UInt8} (h : s ≠ []) : 1 ≤ (markL false s).length := by
  cases s with
  | nil => exact absurd rfl h
  | cons c s =>
    obtain ⟨d, l, hd, _⟩ := markC_head c
    simp [markL, hd]

theorem dep_show : ∀ (n : Nat) (ts : List Tr) (p : Bool), (∀ m, n = m + 1 → rgL (rgt m) p ts = true) → dep n ts ≤ (showL n ts).length := by
  intro n
  induction n with
  | zero => intro ts p _; exact Nat.zero_le _
  | succ n ih =>
    intro ts
    induction ts with
    | nil => intro p _; rw [dep_nil]; exact Nat.zero_le _
    | cons t r ihr =>
      intro p hg
      have hg1 := hg n rfl
      unfold rgL at hg1
      simp only [Bool.and_eq_true, Bool.not_eq_true'] at hg1
      obtain ⟨⟨⟨g1, g2⟩, g3⟩, g4⟩ := hg1
      have h1 := ihr t.text (fun m hm => by cases hm; exact g4)
      have h2 : (showL (n + 1) (t :: r)).length = (oneP (showL n t.kids) t).length + (showL (n + 1) r).length := by simp [showL]
      have h3 : 1 + dep n t.kids ≤ (oneP (showL n t.kids) t).length := by
        obtain ⟨tx, s, ats, ks⟩ := t
        cases tx with
        | true =>
          simp only [rightB, if_true, Bool.and_eq_true, decide_eq_true_eq, Bool.not_eq_true'] at g1
          have hk : ks = [] := List.eq_nil_of_length_eq_zero g1.2
          have hs : s.data.toList ≠ [] := by
            intro e
            have := g1.1.1.1
            rw [ByteArray.toList_eq] at this
            have e2 : s.data = #[] := by cases hh : s.data; rw [hh] at e; simp at e; subst e; rfl
            rw [e2] at this; simp at this
          simp only [hk, dep_nil, oneP, if_true]
          exact markL_pos hs
        | false =>
          have h5 : rgt n ks = true := by simpa using g3
          have h4 := ih ks false (fun m hm => by subst hm; exact h5)
          cases ks with
          | nil => simp [oneP, dep_nil]
          | cons k ks => simp [oneP]; omega
      rw [dep_cons, h2]
      omega

/-- What is printed of a good tree is read as it. -/
theorem parse_back {n : Nat} {t : Tr} (hd : Deep n t.kids) (hg : goodB t = true) (hl : (oneP (showL n t.kids) t).length ≤ 2500) : parseR (oneP (showL n t.kids) t) = (t, 0) := by
  have hg2 := hg
  rw [goodB_eq hd] at hg2
  simp only [Bool.and_eq_true, Bool.not_eq_true', decide_eq_true_eq] at hg2
  obtain ⟨⟨⟨h1, _⟩, _⟩, h4⟩ := hg2
  have h5 : rgL (rgt n) false [t] = true := h4
  unfold rgL at h5
  simp only [Bool.and_eq_true] at h5
  have hk : rgt n t.kids = true := by simpa [h1] using h5.1.2
  have hdp : dep n t.kids ≤ (oneP (showL n t.kids) t).length := by
    have := dep_show (n + 1) [t] false (fun m hm => by cases hm; exact h4)
    rw [dep_cons] at this
    simp only [showL, List.flatMap_cons, List.flatMap_nil, List.append_nil] at this
    omega
  have hone := (elem_back h1 h5.1.1.1 (treesF (oneP (showL n t.kids) t).length) (showL n t.kids) [] (fun _ z =>
    back_list n _ t.kids false _ hd (fun m hm => by subst hm; exact hk) hdp (Or.inr ⟨z, rfl⟩))).2
  rw [List.append_nil] at hone
  unfold parseR
  rw [if_neg (by omega), hone]
  simp [hg]

/-- What is printed of trees that are content is read as them. -/
theorem cont_back {n : Nat} {ts : List Tr} (hd : Deep n ts) (hg : contentB ts = true) (hl : (showL n ts).length ≤ 2500) : contR (showL n ts) = (ts, 0) := by
  have hg2 := hg
  rw [contentB_eq hd] at hg2
  simp only [Bool.and_eq_true, decide_eq_true_eq] at hg2
  obtain ⟨⟨_, _⟩, h4⟩ := hg2
  have hr : ∀ m, n = m + 1 → rgL (rgt m) false ts = true := fun m hm => by subst hm; exact h4
  have hb := back_list n ((showL n ts).length + 1) ts false [] hd hr (by have := dep_show n ts false hr; omega) (Or.inl rfl)
  rw [List.append_nil] at hb
  unfold contR
  rw [if_neg (by omega), hb]
  simp [hg]
end Go.Proofs.YtmogemjikjbnfaaGreatDoor

