/- Bundled: ParseM SizeM. What each says stands ahead of it. -/
import Derived.Test.YteombjonhbcikaaDoorBundle15
import Derived.Test.YteombjonhbcikaaDoorBundle18
import Derived.Test.YteombjonhbcikaaDoorBundle12
/- What mark.Parse, Content answer, as functions; what is read is short. No condition. -/
namespace Go.Proofs.YteombjonhbcikaaDoor
open Go.RowKit
set_option maxRecDepth 100000

theorem whileF_all {α : Type} {more : Rs → Bool} {step : Rs → α × Rs} {P : α → Prop} {M : Nat} (hstep : ∀ r, more r = true → r.rest.length ≤ M → P (step r).1) (hle : ∀ r, more r = true → (step r).2.le r) :
    ∀ (f : Nat) (r : Rs), r.rest.length ≤ M → ∀ x ∈ (whileF more step f r).1, P x := by
  intro f
  induction f with
  | zero => intro r _ x hx; simp [whileF] at hx
  | succ f ih =>
    intro r hr x hx
    unfold whileF at hx
    split at hx
    · rename_i h
      simp only [List.mem_cons] at hx
      rcases hx with rfl | hx
      · exact hstep r h hr
      · exact ih _ (Nat.le_trans (hle r h).1 hr) x hx
    · simp at hx

theorem takeWhile_len (p : UInt8 → Bool) (l : List UInt8) : (l.takeWhile p).length ≤ l.length := by
  induction l with
  | nil => simp
  | cons c r ih => rw [List.takeWhile_cons]; split <;> simp <;> omega

theorem meant_len (ends : List UInt8) : ∀ (f : Nat) (r : Rs), (Rs.meant ends f r).1.length ≤ r.left := by
  intro f
  induction f with
  | zero => intro r; simp [Rs.meant]
  | succ f ih =>
    intro r
    unfold Rs.meant
    split
    · rename_i h
      have h1 := sign_left h
      have h2 := ih r.sign.2
      simp; omega
    · simp
theorem text_len (r : Rs) (ends : List UInt8) : (r.text ends).1.length ≤ r.rest.length + 1 := Nat.le_trans (meant_len _ _ r) (left_le r)

theorem attr_short {M : Nat} (r : Rs) (h : r.rest.length ≤ M) : r.attr.1.1.length ≤ M + 1 ∧ r.attr.1.2.length ≤ M + 1 := by
  have h1 := (skip_le r).1
  have h2 := takeWhile_len letter r.skip.rest
  have h3 := text_len (r.skip.name.must [61, 34]) valueEnds
  have h4 := ((must_le r.skip.name [61, 34]).trans ((name_le _).trans (skip_le r))).1
  exact ⟨by show (r.skip.rest.takeWhile letter).length ≤ _; omega, by show ((r.skip.name.must [61, 34]).text valueEnds).1.length ≤ _; omega⟩

def Short (M : Nat) (t : Tr) : Prop := t.s.size ≤ M ∧ ∀ x ∈ t.attrs, x.1.size ≤ M ∧ x.2.size ≤ M
def ShortN (M : Nat) : Nat → List Tr → Prop
  | 0, _ => True
  | n + 1, ts => ∀ t ∈ ts, Short M t ∧ ShortN M n t.kids

theorem ShortN.texts {M : Nat} (hM : M ≤ maxLen) : ∀ (n : Nat) (ts : List Tr), ShortN M n ts → TextsN n ts := by
  intro n
  induction n with
  | zero => intro ts _; trivial
  | succ n ih =>
    intro ts h t ht
    obtain ⟨⟨h1, h2⟩, h3⟩ := h t ht
    exact ⟨⟨Nat.le_trans h1 hM, fun x hx => ⟨Nat.le_trans (h2 x hx).1 hM, Nat.le_trans (h2 x hx).2 hM⟩⟩, ih _ h3⟩

theorem ShortN.nil (M n : Nat) : ShortN M n [] := by cases n with | zero => trivial | succ n => intro t ht; simp at ht

theorem one_short {M f : Nat} (ih : ∀ r, r.rest.length ≤ M → ShortN (M + 1) f (treesF f r).1) (r : Rs) (h : r.rest.length ≤ M) : Short (M + 1) (r.one (treesF f)).1 ∧ ShortN (M + 1) f (r.one (treesF f)).1.kids := by
  unfold Rs.one
  by_cases h2 : r.ahead [60] = true
  · rw [if_pos h2]
    unfold Rs.elem
    have h3 := (must_le r [60]).1
    have hat : ∀ x ∈ (r.must [60]).name.attrs.1, x.1.length ≤ M + 1 ∧ x.2.length ≤ M + 1 :=
      whileF_all (fun r _ hr => attr_short r hr) (fun r _ => (attr_le r).trans (skip_le r)) _ _ (by have := ((name_le (r.must [60])).trans (must_le r [60])).1; omega)
    have hnm : (bytesOf (r.must [60]).nameOf).size ≤ M + 1 := by
      rw [bytesOf_size]
      have := takeWhile_len letter (r.must [60]).rest
      show ((r.must [60]).rest.takeWhile letter).length ≤ _
      omega
    have hsh : ∀ x ∈ asB (sortA (r.must [60]).name.attrs.1), x.1.size ≤ M + 1 ∧ x.2.size ≤ M + 1 := by
      intro x hx
      simp only [asB, List.mem_map] at hx
      obtain ⟨y, hy, rfl⟩ := hx
      have := hat y ((sortA_perm _).mem_iff.1 hy)
      simp only [bytesOf_size]
      exact this
    unfold Rs.elemIn
    split
    · exact ⟨⟨hnm, hsh⟩, ShortN.nil _ _⟩
    · exact ⟨⟨hnm, hsh⟩, ih _ (by have := ((must_le (r.must [60]).name.attrs.2.skip [62]).trans ((skip_le _).trans ((attrs_le _).trans ((name_le _).trans (must_le r [60]))))).1; omega)⟩
  · rw [if_neg h2]
    refine ⟨⟨?_, by intro x hx; simp at hx⟩, ShortN.nil _ _⟩
    rw [bytesOf_size]
    have := text_len r textEnds
    omega

theorem treesF_short (M : Nat) : ∀ (f : Nat) (r : Rs), r.rest.length ≤ M → ShortN (M + 1) f (treesF f r).1 := by
  intro f
  induction f with
  | zero => intro r _; trivial
  | succ f ih =>
    intro r h
    exact whileF_all (P := fun t => Short (M + 1) t ∧ ShortN (M + 1) f t.kids) (fun r _ hr => one_short ih r hr) (fun r _ => one_le (treesF_le f) r) _ r h

def zeroT : Tr := ⟨false, ⟨#[]⟩, [], []⟩

/-- What mark.Parse answers. -/
def parseR (s : List UInt8) : Tr × Int :=
  if 2500 < s.length then (zeroT, 2)
  else if ((⟨s, false⟩ : Rs).one (treesF s.length)).2.wrong || decide (((⟨s, false⟩ : Rs).one (treesF s.length)).2.rest ≠ []) || !goodB ((⟨s, false⟩ : Rs).one (treesF s.length)).1 then (zeroT, 1)
  else (((⟨s, false⟩ : Rs).one (treesF s.length)).1, 0)

/-- What mark.Content answers. -/
def contR (s : List UInt8) : List Tr × Int :=
  if 2500 < s.length then ([], 2)
  else if (treesF (s.length + 1) ⟨s, false⟩).2.wrong || decide ((treesF (s.length + 1) ⟨s, false⟩).2.rest ≠ []) || !contentB (treesF (s.length + 1) ⟨s, false⟩).1 then ([], 1)
  else ((treesF (s.length + 1) ⟨s, false⟩).1, 0)
end Go.Proofs.YteombjonhbcikaaDoor

/- How deep trees are and how many, level by level; a list of trees that grows by whole lists. No condition. -/
namespace Go.Proofs.YteombjonhbcikaaDoor
open Go.ChangeShapes Go.WideShapes Go.ChangeAt Go.RowKit
set_option maxRecDepth 100000

def dep : Nat → List Tr → Nat
  | 0, _ => 0
  | n + 1, ts => (ts.map fun t => 1 + dep n t.kids).foldr max 0

theorem dep_nil (n : Nat) : dep n [] = 0 := by cases n <;> rfl
theorem dep_cons (n : Nat) (t : Tr) (r : List Tr) : dep (n + 1) (t :: r) = max (1 + dep n t.kids) (dep (n + 1) r) := rfl

theorem dep_append (n : Nat) (a b : List Tr) : dep n (a ++ b) = max (dep n a) (dep n b) := by
  cases n with
  | zero => rfl
  | succ n =>
    induction a with
    | nil => simp [dep_nil]
    | cons t r ih => rw [List.cons_append, dep_cons, dep_cons, ih]; omega

theorem cnt_append (n : Nat) (a b : List Tr) : cnt n (a ++ b) = cnt n a + cnt n b := by
  cases n with
  | zero => rfl
  | succ n =>
    induction a with
    | nil => simp [cnt_nil]
    | cons t r ih => rw [List.cons_append, cnt_cons, cnt_cons, ih]; omega

theorem dep_cnt : ∀ (n : Nat) (ts : List Tr), dep n ts ≤ cnt n ts := by
  intro n
  induction n with
  | zero => intro ts; exact Nat.le_refl _
  | succ n ih =>
    intro ts
    induction ts with
    | nil => rw [dep_nil]; omega
    | cons t r ihr => rw [dep_cons, cnt_cons]; have := ih t.kids; omega

/-- The next level. -/
def nx (ts : List Tr) : List Tr := ts.flatMap fun t => t.kids

theorem nx_nil : nx [] = [] := rfl
theorem nx_cons (t : Tr) (r : List Tr) : nx (t :: r) = t.kids ++ nx r := by simp [nx]
theorem nx_append (a b : List Tr) : nx (a ++ b) = nx a ++ nx b := by simp [nx]

theorem cnt_nx (n : Nat) (ts : List Tr) : cnt (n + 1) ts = ts.length + cnt n (nx ts) := by
  induction ts with
  | nil => simp [cnt_nil, nx_nil]
  | cons t r ih => rw [cnt_cons, nx_cons, cnt_append, ih, List.length_cons]; omega

theorem dep_nx (n : Nat) (ts : List Tr) (h : ts ≠ []) : dep (n + 1) ts = 1 + dep n (nx ts) := by
  induction ts with
  | nil => exact absurd rfl h
  | cons t r ih =>
    rw [dep_cons, nx_cons, dep_append]
    by_cases hr : r = []
    · subst hr; rw [dep_nil, nx_nil, dep_nil]; omega
    · rw [ih hr]; omega

theorem Deep.nx {n : Nat} {ts : List Tr} (h : Deep (n + 1) ts) : Deep n (nx ts) := by
  cases n with
  | zero =>
    show Go.Proofs.YteombjonhbcikaaDoor.nx ts = []
    induction ts with
    | nil => rfl
    | cons t r ih =>
      rw [nx_cons, ih (fun x hx => h x (List.mem_cons_of_mem _ hx))]
      have : t.kids = [] := h t (List.mem_cons_self ..)
      rw [this]; rfl
  | succ n =>
    intro x hx
    obtain ⟨t, ht, hxt⟩ := List.mem_flatMap.1 hx
    exact h t ht x hxt

theorem Deep.len {n : Nat} {ts : List Tr} (h : Deep n ts) : ts.length ≤ cnt n ts := by
  cases n with
  | zero =>
    have : ts = [] := h
    rw [this]; exact Nat.zero_le _
  | succ n => rw [cnt_nx]; omega

theorem pick_list {α : Type} {p : Nat → α → Prop} : ∀ (n : Nat), (∀ i, i < n → ∃ y, p i y) → ∃ l : List α, l.length = n ∧ ∀ i y, l[i]? = some y → p i y := by
  intro n
  induction n with
  | zero => intro _; exact ⟨[], rfl, fun i y h => by simp at h⟩
  | succ n ih =>
    intro h
    obtain ⟨l, hl, hp⟩ := ih (fun i hi => h i (by omega))
    obtain ⟨y, hy⟩ := h n (by omega)
    refine ⟨l ++ [y], by simp [hl], fun i z hz => ?_⟩
    rcases Nat.lt_or_ge i n with hi | hi
    · rw [List.getElem?_append_left (by omega)] at hz; exact hp i z hz
    · rw [List.getElem?_append_right (by omega), hl] at hz
      rcases Nat.eq_zero_or_pos (i - n) with h0 | h0
      · rw [h0] at hz; simp at hz; subst hz
        have : i = n := by omega
        rw [this]; exact hy
      · rw [List.getElem?_eq_none (by simp; omega)] at hz; cases hz

theorem quadCells_at {ps : List (Bool × ByteArray × Value × Value)} {j : Nat} {u : Value} (h : (quadCells ps)[j]? = some u) :
    ∃ i q, ps[i]? = some q ∧ ((j = i * 4 ∧ u = .bool q.1) ∨ (j = i * 4 + 1 ∧ u = .string q.2.1) ∨ (j = i * 4 + 2 ∧ u = q.2.2.1) ∨ (j = i * 4 + 3 ∧ u = q.2.2.2)) := by
  have hj : j < (quadCells ps).length := (List.getElem?_eq_some_iff.1 h).1
  rw [quadCells_length] at hj
  have hi : j / 4 < ps.length := by omega
  have hq : ps[j / 4]? = some ps[j / 4] := by simp
  obtain ⟨g0, g1, g2, g3⟩ := quadCells_get ps (j / 4) _ hq
  refine ⟨j / 4, ps[j / 4], hq, ?_⟩
  have hm : j % 4 = 0 ∨ j % 4 = 1 ∨ j % 4 = 2 ∨ j % 4 = 3 := by omega
  rcases hm with e | e | e | e
  · have hj' : j = j / 4 * 4 := by omega
    rw [← hj', h] at g0; exact Or.inl ⟨hj', by simpa using g0⟩
  · have hj' : j = j / 4 * 4 + 1 := by omega
    rw [← hj', h] at g1; exact Or.inr (Or.inl ⟨hj', by simpa using g1⟩)
  · have hj' : j = j / 4 * 4 + 2 := by omega
    rw [← hj', h] at g2; exact Or.inr (Or.inr (Or.inl ⟨hj', by simpa using g2⟩))
  · have hj' : j = j / 4 * 4 + 3 := by omega
    rw [← hj', h] at g3; exact Or.inr (Or.inr (Or.inr ⟨hj', by simpa using g3⟩))

/-- The four cells of each tree of a list that lies somewhere. -/
theorem Trees.quads {S : Nat → Prop} {w : World} {n : Nat} {ad : Addr} {len cap : Nat} {ts : List Tr} (h : Trees S w (n + 1) (.slice (some ad) len cap) ts) :
    ∃ ps : List (Bool × ByteArray × Value × Value), ps.length = ts.length ∧ (∀ j u, (quadCells ps)[j]? = some u → w.cell? (ad.add j) = some u) ∧ (∀ u ∈ quadCells ps, u.oneCell' = true) ∧
      ∀ (i : Nat) (q : Bool × ByteArray × Value × Value) (t : Tr), ps[i]? = some q → ts[i]? = some t → q.1 = t.text ∧ q.2.1 = t.s ∧ Attrs S w q.2.2.1 t.attrs ∧ Trees S w n q.2.2.2 t.kids := by
  obtain ⟨a, c, hv, h2, h3, h4⟩ := h
  by_cases hne : ts = []
  · subst hne
    exact ⟨[], rfl, fun j u hj => by simp [quadCells] at hj, fun u hu => by simp [quadCells] at hu, fun i q t hq => by simp at hq⟩
  obtain ⟨b, o, ha, hs, hc⟩ := h4 hne
  have had : ad = ⟨b, o, none⟩ := by
    rw [ha] at hv
    injection hv with h5
    injection h5
  obtain ⟨ps, hl, hp⟩ := pick_list (α := Bool × ByteArray × Value × Value) (p := fun i q => ∀ t, ts[i]? = some t →
      w.cell? ⟨b, o + i * 4, none⟩ = some (.bool q.1) ∧ w.cell? ⟨b, o + i * 4 + 1, none⟩ = some (.string q.2.1) ∧ w.cell? ⟨b, o + i * 4 + 2, none⟩ = some q.2.2.1 ∧ w.cell? ⟨b, o + i * 4 + 3, none⟩ = some q.2.2.2 ∧
      q.1 = t.text ∧ q.2.1 = t.s ∧ Attrs S w q.2.2.1 t.attrs ∧ Trees S w n q.2.2.2 t.kids) ts.length (by
    intro i hi
    have ht : ts[i]? = some ts[i] := by simp
    obtain ⟨va, vk, c0, c1, c2, c3, hat, hkt⟩ := hc i _ ht
    refine ⟨(ts[i].text, ts[i].s, va, vk), fun t ht' => ?_⟩
    rw [ht] at ht'; cases ht'
    exact ⟨c0, c1, c2, c3, rfl, rfl, hat, hkt⟩)
  have find : ∀ (i : Nat) (q : Bool × ByteArray × Value × Value), ps[i]? = some q → ∃ t, ts[i]? = some t := by
    intro i q hq
    have : i < ps.length := (List.getElem?_eq_some_iff.1 hq).1
    exact ⟨ts[i]'(by omega), by simp⟩
  refine ⟨ps, hl, ?_, ?_, ?_⟩
  · intro j u hj
    obtain ⟨i, q, hq, hu⟩ := quadCells_at hj
    obtain ⟨t, ht⟩ := find i q hq
    obtain ⟨c0, c1, c2, c3, _⟩ := hp i q hq t ht
    subst had
    rw [Addr.add_lit]
    rcases hu with ⟨rfl, rfl⟩ | ⟨rfl, rfl⟩ | ⟨rfl, rfl⟩ | ⟨rfl, rfl⟩
    · exact c0
    · exact c1
    · exact c2
    · exact c3
  · intro u hu
    obtain ⟨j, hj⟩ := List.mem_iff_getElem?.1 hu
    obtain ⟨i, q, hq, hu⟩ := quadCells_at hj
    obtain ⟨t, ht⟩ := find i q hq
    obtain ⟨_, _, _, _, _, _, hA, hT⟩ := hp i q hq t ht
    rcases hu with ⟨_, rfl⟩ | ⟨_, rfl⟩ | ⟨_, rfl⟩ | ⟨_, rfl⟩
    · rfl
    · rfl
    · obtain ⟨x, y, e⟩ := hA.shape; rw [e]; rfl
    · obtain ⟨x, y, e, _⟩ := Trees.shape n hT; rw [e]; rfl
  · intro i q t hq ht
    obtain ⟨_, _, _, _, r⟩ := hp i q hq t ht
    exact r

theorem Grow.many {S : Nat → Prop} {n B : Nat} {w w' : World} {v v' : Value} {us ts : List Tr} {qs ps : List (Bool × ByteArray × Value × Value)}
    (h : Grow S n B w v us qs) (hl : ps.length = ts.length) (hown : w'.ownsRow B 25 4 v' (us.length + ts.length) (quadCells qs ++ quadCells ps))
    (hg : w.grownBy w' v.ownBlock) (hat : v'.ownBlock = v.ownBlock ∨ v'.ownBlock = some w.heap.size)
    (he : ∀ (i : Nat) (q : Bool × ByteArray × Value × Value) (t : Tr), ps[i]? = some q → ts[i]? = some t → q.1 = t.text ∧ q.2.1 = t.s ∧ Attrs (Oth S B w v) w q.2.2.1 t.attrs ∧ Trees (Oth S B w v) w n q.2.2.2 t.kids) : Grow S n B w' v' (us ++ ts) (qs ++ ps) := by
  have carry : ∀ b, Oth S B w v b → Oth S B w' v' b ∧ w'.heap[b]? = w.heap[b]? := by
    intro b hb
    refine ⟨⟨hb.1, Nat.lt_of_lt_of_le hb.2.1 hg.size, ?_⟩, hg.block b hb.2.1 (fun e => hb.2.2 e.symm)⟩
    rcases hat with e | e
    · rw [e]; exact hb.2.2
    · rw [e]; intro e'; cases e'; exact Nat.lt_irrefl _ hb.2.1
  refine ⟨by simp [h.len, hl], ?_, ?_⟩
  · rw [quadCells_append, List.length_append]; exact hown
  · intro i q' t' hq ht
    rcases Nat.lt_or_ge i us.length with hi | hi
    · rw [List.getElem?_append_left (by rw [h.len]; exact hi)] at hq
      rw [List.getElem?_append_left hi] at ht
      obtain ⟨a, b, c, d⟩ := h.each i q' t' hq ht
      exact ⟨a, b, c.carry carry, Trees.carry carry n d⟩
    · rw [List.getElem?_append_right (by rw [h.len]; exact hi)] at hq
      rw [List.getElem?_append_right hi] at ht
      rw [h.len] at hq
      obtain ⟨a, b, c, d⟩ := he _ q' t' hq ht
      exact ⟨a, b, c.carry carry, Trees.carry carry n d⟩

/-- A list of trees appended onto one of our own. -/
theorem wpList_append_trees {ops : Array Oper} {rest : List Oper} {o : Oper} {a : Act} {w : World} {Q : Exit → Act → World → Prop} (hgd : o.guard = none) (s x : Operand)
    (ho : o.op = .call { callee := .builtin .append, args := #[s, x], argTypes := #[23, 23] })
    (S S1 : Nat → Prop) (n B : Nat) (v vk : Value) (us ts : List Tr) (qs : List (Bool × ByteArray × Value × Value)) (hs : a.eval s = v) (hG : Grow S n B w v us qs) (hx : a.eval x = vk) (hk : Trees S1 w (n + 1) vk ts)
    (hS : ∀ b, S1 b → Oth S B w v b) (hl : us.length + ts.length ≤ 1048576) (hB : B ≤ w.heap.size)
    (h : ∀ v' w' qs', Grow S n B w' v' (us ++ ts) qs' → Below B w w' → wpList Tryd.prog ops Q rest (a.put o.dst v') w') :
    wpList Tryd.prog ops Q (o :: rest) a w := by
  obtain ⟨i0, hi, hz0, hz1, hz2⟩ := info_parts treeInfo
  obtain ⟨ka, kc, rfl, hkc, hkm⟩ := Trees.shape (n + 1) hk
  cases ka with
  | none =>
    have hn : ts = [] := by
      apply Classical.byContradiction; intro hne
      obtain ⟨a, c, hv, _, _, h4⟩ := hk
      obtain ⟨b, o, ha, _⟩ := h4 hne
      rw [ha] at hv; cases hv
    subst hn
    refine wpList_plain hgd fun K hK => ?_
    have hrun : (Builtin.append_ #[23, 23] o.type #[v, .slice none 0 kc]).run Tryd.prog w = .ok v w := by
      rcases hG.own.2 with ⟨rfl, e⟩ | ⟨g, cap, cur, rfl, _, _, hnc, _⟩
      · simp [Builtin.append_, run_underlying Tryd.underlying23, sizeOf, typeInfo, hi, Builtin.lenOf, Builtin.firstCells]
      · simp [Builtin.append_, run_underlying Tryd.underlying23, sizeOf, typeInfo, hi, Builtin.lenOf, Builtin.firstCells, hnc, storeCells]
    simp only [List.length_nil] at hx
    unfold Oper.wp
    simp [execOp, ho, resolve, invoke, builtin, hs, hx, hrun, Result.andThen]
    exact hK _ _ (h v w qs (by rw [List.append_nil]; exact hG) (Below.refl _ _))
  | some ad =>
    obtain ⟨ps, hpl, hpc, hp1, hpe⟩ := Trees.quads hk
    refine wpList_append_own_at w hgd s x 23 ho B 25 i0 _ 4 72 Tryd.underlying23 hi hz0 hz1 hz2 rfl (by decide) v us.length (quadCells qs) hs hG.own ad ts.length kc (quadCells ps) hx ?_ hpc hp1 ?_ ?_ hB ?_
    · rw [quadCells_length, hpl]
    · unfold maxLen; omega
    · omega
    · intro v' w' hown hgr _ hat
      exact h v' w' _ (hG.many hpl hown hgr hat (fun i q t hq ht => by
        obtain ⟨a, b, c, d⟩ := hpe i q t hq ht
        exact ⟨a, b, c.carry (fun b hb => ⟨hS b hb, rfl⟩), Trees.carry (fun b hb => ⟨hS b hb, rfl⟩) n d⟩)) ((Below.refl _ w).grown hgr hB (fun k hk' => (hG.own.lt k hk').1))
end Go.Proofs.YteombjonhbcikaaDoor

