/- Bundled: One Math JoinT. What each says stands ahead of it. -/
import Derived.Test.YtmogemjikjbnfaaGreatDoorBundle04
import Derived.Test.YtmogemjikjbnfaaGreatDoorBundle02
import Derived.Deep.LoopGhost
/- tree.oneText: the text that texts beside one another make. Condition: at most 2^20 letters and texts. -/
namespace Go.Proofs.YtmogemjikjbnfaaGreatDoor
open Go.ChangeShapes Go.WideShapes Go.ChangeAt Go.RowKit
set_option maxRecDepth 100000

def catL : List Tr → List UInt8
  | [] => []
  | t :: r => t.s.data.toList ++ catL r

theorem catL_append (a b : List Tr) : catL (a ++ b) = catL a ++ catL b := by
  induction a with
  | nil => rfl
  | cons t r ih => simp [catL, ih]

/-- The first one whose S is not empty. -/
def firstNE : List Tr → Option Tr
  | [] => none
  | t :: r => if t.s.data.toList = [] then firstNE r else some t

theorem firstNE_append (a b : List Tr) : firstNE (a ++ b) = (firstNE a).or (firstNE b) := by
  induction a with
  | nil => simp [firstNE]
  | cons t r ih =>
    show (if t.s.data.toList = [] then firstNE (r ++ b) else some t) = (if t.s.data.toList = [] then firstNE r else some t).or (firstNE b)
    split
    · exact ih
    · simp

theorem firstNE_none (a : List Tr) : firstNE a = none ↔ catL a = [] := by
  induction a with
  | nil => simp [firstNE, catL]
  | cons t r ih => unfold firstNE catL; split <;> simp_all

theorem IsBuilder.alloc {T e : TypeId} {B b : Nat} {bs : List Value} {w : World} (h : Lib.IsBuilder T e B b bs w) (o : Obj) : Lib.IsBuilder T e B b bs (w.alloc o) := by
  have key : ∀ p, Lib.BuilderAt T e B b p bs w → Lib.BuilderAt T e B b p bs (w.alloc o) := by
    intro p h
    have hlt := h.lt
    obtain ⟨hB, v, hb, hown, hne⟩ := h
    exact ⟨hB, v, by rw [Lib.alloc_old w o b hlt]; exact hb, hown.alloc o, hne⟩
  exact h.elim (fun h => Or.inl (key _ h)) (fun h => Or.inr (key _ h))

theorem IsBuilder.setCell {T e : TypeId} {B b : Nat} {bs : List Value} {w : World} (h : Lib.IsBuilder T e B b bs w) {a : Addr} (ha : a.block < B) (u : Value) : Lib.IsBuilder T e B b bs (w.setCell a u) := by
  have key : ∀ p, Lib.BuilderAt T e B b p bs w → Lib.BuilderAt T e B b p bs (w.setCell a u) := by
    intro p h
    obtain ⟨hB, v, hb, hown, hne⟩ := h
    exact ⟨hB, v, by rw [Below.heap_setCell _ _ _ _ (by omega)]; exact hb, ownsRow_setCell_below hown ha u, hne⟩
  exact h.elim (fun h => Or.inl (key _ h)) (fun h => Or.inr (key _ h))

/-- The loop's state behind k texts: W the world when the call began. -/
structure OneInv (S : Nat → Prop) (n : Nat) (ts : List Tr) (W : World) (k : Nat) (w : World) : Prop where
  below : Below W.heap.size W w
  size : W.heap.size + 3 ≤ w.heap.size
  res : w.heap[W.heap.size]? = some (.cells #[.bool false, .string ⟨#[]⟩, .slice none 0 0, .slice none 0 0] 25 (0, 0))
  first : ∃ fb fs fa fal fac fk fkl fkc, w.heap[W.heap.size + 1]? = some (.cells #[.bool fb, .string fs, .slice fa fal fac, .slice fk fkl fkc] 25 (0, 0)) ∧
    ∃ l, Attrs S W (.slice fa fal fac) l ∧ l.length ≤ 1048576 ∧ (∀ t, firstNE (ts.take k) = some t → fb = t.text ∧ l = t.attrs ∧ Trees S W n (.slice fk fkl fkc) t.kids)
  build : Lib.IsBuilder 40 5 (W.heap.size + 1 + 1) (W.heap.size + 1 + 1) (Lib.byteCells (catL (ts.take k))) w

theorem one_start (S : Nat → Prop) (n : Nat) (ts : List Tr) (w : World) :
    OneInv S n ts w 0 (((w.alloc (.cells #[.bool false, .string ⟨#[]⟩, .slice none 0 0, .slice none 0 0] 25)).alloc (.cells #[.bool false, .string ⟨#[]⟩, .slice none 0 0, .slice none 0 0] 25)).alloc (.cells #[.pointer none, .slice none 0 0] 40)) where
  below := ((Below.alloc1 w _).alloc (by simp) _).alloc (by simp; omega) _
  size := by simp
  res := by
    rw [Lib.alloc_old _ _ _ (by simp; omega), Lib.alloc_old _ _ _ (by simp)]
    exact heap_alloc_new w _
  first := ⟨false, ⟨#[]⟩, none, 0, 0, none, 0, 0, by
    rw [Lib.alloc_old _ _ _ (by simp)]
    have := heap_alloc_new (w.alloc (.cells #[.bool false, .string ⟨#[]⟩, .slice none 0 0, .slice none 0 0] 25)) (.cells #[.bool false, .string ⟨#[]⟩, .slice none 0 0, .slice none 0 0] 25)
    simpa using this, [], ⟨none, 0, rfl, Nat.le_refl _, Nat.zero_le _, fun hne => absurd rfl hne⟩, by simp, by intro t h; simp [firstNE] at h⟩
  build := by
    have := Lib.fresh_isBuilder 40 5 ((w.alloc (.cells #[.bool false, .string ⟨#[]⟩, .slice none 0 0, .slice none 0 0] 25)).alloc (.cells #[.bool false, .string ⟨#[]⟩, .slice none 0 0, .slice none 0 0] 25))
    simpa [catL, Lib.byteCells] using this

theorem heap_set4 {w : World} {F : Nat} {a b c d a' b' c' d' : Value} {T : TypeId} {fz : Nat × Nat} (h : w.heap[F]? = some (.cells #[a, b, c, d] T fz)) :
    ((((w.setCell ⟨F, 0, none⟩ a').setCell ⟨F, 1, none⟩ b').setCell ⟨F, 2, none⟩ c').setCell ⟨F, 3, none⟩ d').heap[F]? = some (.cells #[a', b', c', d'] T fz) := by
  simp [World.setCell, Array.getElem?_modify, h]

theorem heap_set4_ne {w : World} {F k : Nat} {a' b' c' d' : Value} (h : k ≠ F) :
    ((((w.setCell ⟨F, 0, none⟩ a').setCell ⟨F, 1, none⟩ b').setCell ⟨F, 2, none⟩ c').setCell ⟨F, 3, none⟩ d').heap[k]? = w.heap[k]? := by
  rw [Below.heap_setCell _ _ _ _ h, Below.heap_setCell _ _ _ _ h, Below.heap_setCell _ _ _ _ h, Below.heap_setCell _ _ _ _ h]

theorem one_next {S : Nat → Prop} {n : Nat} {ts : List Tr} {W : World} {k : Nat} {t : Tr} {w0 w1 : World} {fb : Bool} {fs : ByteArray} {fa fk : Option Addr} {fal fac fkl fkc : Nat} {l : List (ByteArray × ByteArray)}
    (hsn : ts.take (k + 1) = ts.take k ++ [t])
    (hB : Below W.heap.size W w0) (hsz : W.heap.size + 3 ≤ w0.heap.size)
    (hres : w0.heap[W.heap.size]? = some (.cells #[.bool false, .string ⟨#[]⟩, .slice none 0 0, .slice none 0 0] 25 (0, 0)))
    (hF : w0.heap[W.heap.size + 1]? = some (.cells #[.bool fb, .string fs, .slice fa fal fac, .slice fk fkl fkc] 25 (0, 0)))
    (hal : Attrs S W (.slice fa fal fac) l) (hll : l.length ≤ 1048576)
    (hfirst : ∀ u, firstNE (ts.take k ++ [t]) = some u → fb = u.text ∧ l = u.attrs ∧ Trees S W n (.slice fk fkl fkc) u.kids)
    (hb : Below (W.heap.size + 1 + 1) w0 w1)
    (hbd : Lib.BuilderAt 40 5 (W.heap.size + 1 + 1) (W.heap.size + 1 + 1) (.pointer (some ⟨W.heap.size + 1 + 1, 0, none⟩)) (Lib.byteCells (catL (ts.take k)) ++ Lib.strCells t.s) w1) :
    OneInv S n ts W (k + 1) w1 where
  below := hB.trans (hb.mono (by omega))
  size := Nat.le_trans hsz hb.size
  res := by rw [hb.block _ (by omega)]; exact hres
  first := ⟨fb, fs, fa, fal, fac, fk, fkl, fkc, by rw [hb.block _ (by omega)]; exact hF, l, hal, hll, by rw [hsn]; exact hfirst⟩
  build := Or.inr (by
    rw [hsn, catL_append, Lib.byteCells_append]
    simpa [catL, Lib.strCells_eq] using hbd)

attribute [local go_sem] cell_set

end Go.Proofs.YtmogemjikjbnfaaGreatDoor

/- Joined lists of trees as plain functions, and what holds of them. No condition. -/
namespace Go.Proofs.YtmogemjikjbnfaaGreatDoor

def sOf (l : List UInt8) : ByteArray := ⟨l.toArray⟩

theorem sOf_toList (s : ByteArray) : sOf s.data.toList = s := by cases s; simp [sOf]

theorem sOf_append (a b : List UInt8) : sOf a ++ sOf b = sOf (a ++ b) := by
  apply ByteArray.ext
  simp [sOf, ByteArray.data_append]

theorem size_list (s : ByteArray) : s.size = s.data.toList.length := by rw [Array.length_toList]; rfl

theorem sOf_size (l : List UInt8) : (sOf l).size = l.length := by rw [size_list]; simp [sOf]

/-- Texts beside one another joined, empty ones left out; kids as they are. -/
def jt : List Tr → List Tr
  | [] => []
  | t :: r =>
    if t.text then
      if t.s.data.toList = [] then jt r
      else match jt r with
        | [] => [t]
        | u :: r' => if u.text then { t with s := sOf (t.s.data.toList ++ u.s.data.toList) } :: r' else t :: u :: r'
    else t :: jt r

theorem jt_text (t : Tr) (r : List Tr) (ht : t.text = true) : jt (t :: r) =
    if t.s.data.toList = [] then jt r
    else match jt r with
      | [] => [t]
      | u :: r' => if u.text then { t with s := sOf (t.s.data.toList ++ u.s.data.toList) } :: r' else t :: u :: r' := by
  show (if t.text then _ else _) = _
  rw [if_pos ht]

def joinHead (p : List Tr) : List Tr :=
  match firstNE p with
  | none => []
  | some t => [{ t with s := sOf (catL p) }]

theorem firstNE_mem {p : List Tr} {t : Tr} (h : firstNE p = some t) : t ∈ p := by
  induction p with
  | nil => simp [firstNE] at h
  | cons u r ih =>
    unfold firstNE at h
    split at h
    · exact List.mem_cons_of_mem _ (ih h)
    · cases h; exact List.mem_cons_self

theorem jt_head {q : List Tr} (hq : ∀ u r, q = u :: r → u.text = false) : ∀ u r, jt q = u :: r → u.text = false := by
  intro u r h
  cases q with
  | nil => simp [jt] at h
  | cons x q' =>
    have hx := hq x q' rfl
    unfold jt at h
    simp only [hx] at h
    simp at h
    rw [← h.1]; exact hx

theorem jt_run (p q : List Tr) (hp : ∀ t ∈ p, t.text = true) (hq : ∀ u r, q = u :: r → u.text = false) : jt (p ++ q) = joinHead p ++ jt q := by
  induction p with
  | nil => simp [joinHead, firstNE]
  | cons t p' ih =>
    have ih' := ih (fun u hu => hp u (List.mem_cons_of_mem _ hu))
    have ht : t.text = true := hp t List.mem_cons_self
    rw [List.cons_append]
    rw [jt_text t _ ht]
    by_cases hs : t.s.data.toList = []
    · rw [if_pos hs, ih']
      have e1 : firstNE (t :: p') = firstNE p' := by show (if _ then _ else _) = _; rw [if_pos hs]
      have e2 : catL (t :: p') = catL p' := by show _ ++ _ = _; rw [hs]; rfl
      unfold joinHead
      rw [e1, e2]
    · rw [if_neg hs, ih']
      have e1 : firstNE (t :: p') = some t := by show (if _ then _ else _) = _; rw [if_neg hs]
      have e2 : catL (t :: p') = t.s.data.toList ++ catL p' := rfl
      have e3 : joinHead (t :: p') = [{ t with s := sOf (t.s.data.toList ++ catL p') }] := by unfold joinHead; rw [e1, e2]
      rw [e3]
      cases hf : firstNE p' with
      | none =>
        have hc := (firstNE_none p').1 hf
        have ej : joinHead p' = [] := by unfold joinHead; rw [hf]
        rw [ej, hc, List.append_nil, sOf_toList]
        simp only [List.nil_append, List.cons_append]
        cases hj : jt q with
        | nil => cases t; rfl
        | cons u r => simp only [jt_head hq u r hj]; cases t; simp
      | some x =>
        have hx : x.text = true := hp x (List.mem_cons_of_mem _ (firstNE_mem hf))
        have ej : joinHead p' = [{ x with s := sOf (catL p') }] := by unfold joinHead; rw [hf]
        rw [ej]
        simp only [List.cons_append, List.nil_append, hx, if_true]
        simp [sOf]

theorem ahead_run (ts : List Tr) : (∀ t ∈ ts.take (ahead ts), t.text = true) ∧ (∀ u r, ts.drop (ahead ts) = u :: r → u.text = false) := by
  induction ts with
  | nil => simp [ahead]
  | cons t r ih =>
    unfold ahead
    by_cases ht : t.text = true
    · rw [if_pos ht]
      refine ⟨fun x hx => ?_, fun u q hu => ih.2 u q (by simpa using hu)⟩
      simp only [List.take_succ_cons, List.mem_cons] at hx
      rcases hx with rfl | hx
      · exact ht
      · exact ih.1 x hx
    · rw [if_neg ht]
      refine ⟨by simp, fun u q hu => ?_⟩
      simp at hu
      rw [← hu.1]; simpa using ht

theorem jt_ahead (ts : List Tr) : jt ts = joinHead (ts.take (ahead ts)) ++ jt (ts.drop (ahead ts)) := by
  have h := ahead_run ts
  have := jt_run _ _ h.1 h.2
  rw [List.take_append_drop] at this
  exact this

theorem jt_elem (t : Tr) (r : List Tr) (h : t.text = false) : jt (t :: r) = t :: jt r := by
  show (if t.text then _ else _) = _
  rw [h]; rfl

/-- Bounds on every list of a forest, n deep. -/
def Small : Nat → List Tr → Prop
  | 0, _ => True
  | n + 1, ts => ts.length ≤ 1048576 ∧ (catL ts).length ≤ 1099511627776 ∧ ∀ t ∈ ts, t.attrs.length ≤ 1048576 ∧ t.s.size ≤ 1099511627776 ∧ Small n t.kids

theorem Small.sub {n : Nat} {a b c : List Tr} (h : Small (n + 1) (a ++ b ++ c)) : Small (n + 1) b := by
  obtain ⟨h1, h2, h3⟩ := h
  rw [catL_append, catL_append] at h2
  simp only [List.length_append] at h1 h2
  exact ⟨by omega, by omega, fun t ht => h3 t (by simp [ht])⟩

theorem Small.drop {n k : Nat} {ts : List Tr} (h : Small (n + 1) ts) : Small (n + 1) (ts.drop k) :=
  Small.sub (a := ts.take k) (c := []) (by simpa using h)
theorem Small.take {n k : Nat} {ts : List Tr} (h : Small (n + 1) ts) : Small (n + 1) (ts.take k) :=
  Small.sub (a := []) (c := ts.drop k) (by simpa using h)

theorem jt_length (ts : List Tr) : (jt ts).length ≤ ts.length := by
  induction ts with
  | nil => simp [jt]
  | cons t r ih =>
    unfold jt
    split
    · split
      · simp; omega
      · split
        · simp
        · rename_i u r' hj
          rw [hj] at ih
          split <;> simp at * <;> omega
    · simp; omega

theorem jt_cat (ts : List Tr) : (catL (jt ts)).length ≤ (catL ts).length := by
  induction ts with
  | nil => simp [jt]
  | cons t r ih =>
    unfold jt
    split
    · split
      · simp [catL]; omega
      · split
        · simp [catL]
        · rename_i u r' hj
          rw [hj] at ih
          split <;> simp [catL, sOf] at * <;> omega
    · simp [catL]; omega

theorem jt_small {n : Nat} {ts : List Tr} (h : Small (n + 1) ts) : Small (n + 1) (jt ts) := by
  obtain ⟨h1, h2, h3⟩ := h
  refine ⟨Nat.le_trans (jt_length ts) h1, Nat.le_trans (jt_cat ts) h2, ?_⟩
  clear h1
  induction ts with
  | nil => simp [jt]
  | cons t r ih =>
    have hc : (catL (t :: r)).length = t.s.data.toList.length + (catL r).length := by simp [catL]
    have ih' := ih (by omega) (fun x hx => h3 x (List.mem_cons_of_mem _ hx))
    have ht := h3 t List.mem_cons_self
    intro x hx
    unfold jt at hx
    split at hx
    · split at hx
      · exact ih' x hx
      · split at hx
        · simp at hx; subst hx; exact ht
        · rename_i u r' hj
          rw [hj] at ih'
          split at hx
          · rcases List.mem_cons.1 hx with rfl | hx
            · refine ⟨ht.1, ?_, ht.2.2⟩
              have hcu := jt_cat r
              rw [hj] at hcu
              have e : (catL (u :: r')).length = u.s.data.toList.length + (catL r').length := by simp [catL]
              show (t.s.data.toList ++ u.s.data.toList).toArray.size ≤ _
              simp only [List.size_toArray, List.length_append]
              omega
            · exact ih' x (List.mem_cons_of_mem _ hx)
          · rcases List.mem_cons.1 hx with rfl | hx
            · exact ht
            · exact ih' x hx
    · rcases List.mem_cons.1 hx with rfl | hx
      · exact ht
      · exact ih' x hx

end Go.Proofs.YtmogemjikjbnfaaGreatDoor

/- tree.joinTexts: a new list in which the texts are joined; the kids of its trees are still those that were handed in. Condition: at most 2^20 letters, texts, attributes in each list. -/
namespace Go.Proofs.YtmogemjikjbnfaaGreatDoor
open Go.ChangeShapes Go.WideShapes Go.ChangeAt Go.RowKit
set_option maxRecDepth 100000

/-- A new list of trees: its own row, its own attributes; the kids lie in S still. -/
structure Raw (S : Nat → Prop) (n B : Nat) (w : World) (v : Value) (us : List Tr) (qs : List (Bool × ByteArray × Value × Value)) : Prop where
  len : qs.length = us.length
  own : w.ownsRow B 25 4 v us.length (quadCells qs)
  each : ∀ (i : Nat) (q : Bool × ByteArray × Value × Value) (t : Tr), qs[i]? = some q → us[i]? = some t → q.1 = t.text ∧ q.2.1 = t.s ∧ Attrs (OwnS B 47 w) w q.2.2.1 t.attrs ∧ Trees S w n q.2.2.2 t.kids

theorem Raw.nil (S : Nat → Prop) (n B : Nat) (w : World) : Raw S n B w (.slice none 0 0) [] [] :=
  ⟨rfl, World.ownsRow_nil _ _ _ _, fun i q t h => by simp at h⟩

theorem ownsRow_later {w w' : World} {B : Nat} {e : TypeId} {size : Nat} {v : Value} {k : Nat} {xs : List Value} (h : w.ownsRow B e size v k xs) (hb : Below w.heap.size w w') : w'.ownsRow B e size v k xs := by
  obtain ⟨h1, h2⟩ := h
  refine ⟨h1, ?_⟩
  rcases h2 with h2 | ⟨g, cap, cur, hv, hg, hh, r⟩
  · exact Or.inl h2
  · refine Or.inr ⟨g, cap, cur, hv, hg, ?_, r⟩
    rw [hb.block g ?_]
    · exact hh
    · rcases Nat.lt_or_ge g w.heap.size with h' | h'
      · exact h'
      · simp [Array.getElem?_eq_none h'] at hh

theorem ownsRow_heap {w w' : World} {B : Nat} {e : TypeId} {size : Nat} {v : Value} {k : Nat} {xs : List Value} (h : w.ownsRow B e size v k xs) (hb : ∀ g, v.ownBlock = some g → w'.heap[g]? = w.heap[g]?) : w'.ownsRow B e size v k xs := by
  obtain ⟨h1, h2⟩ := h
  refine ⟨h1, ?_⟩
  rcases h2 with h2 | ⟨g, cap, cur, rfl, hg, hh, r⟩
  · exact Or.inl h2
  · exact Or.inr ⟨g, cap, cur, rfl, hg, by rw [hb g rfl]; exact hh, r⟩

/-- The block of a row is a row of its type. -/
theorem ownsRow_type {w : World} {B : Nat} {e : TypeId} {size : Nat} {v : Value} {k : Nat} {xs : List Value} (h : w.ownsRow B e size v k xs) {g : Nat} (hg : v.ownBlock = some g) : OwnS B e w g := by
  rcases h.2 with ⟨rfl, _⟩ | ⟨g', cap, cur, rfl, hb, hh, _⟩
  · cases hg
  · cases hg; exact ⟨hb, _, _, hh⟩

theorem Attrs.own_later {w w' : World} {B : Nat} {e : TypeId} {v : Value} {l : List (ByteArray × ByteArray)} (h : Attrs (OwnS B e w) w v l) (hb : Below w.heap.size w w') : Attrs (OwnS B e w') w' v l :=
  h.carry fun b hs => ⟨hs.to (Nat.le_refl _) (hb.block b hs.lt), hb.block b hs.lt⟩

theorem Raw.later {S : Nat → Prop} {n B : Nat} {w w' : World} {v : Value} {us : List Tr} {qs : List (Bool × ByteArray × Value × Value)} (h : Raw S n B w v us qs) (hb : Below w.heap.size w w') : Raw S n B w' v us qs :=
  ⟨h.len, ownsRow_later h.own hb, fun i q t hq ht => by
    obtain ⟨a, b, c, d⟩ := h.each i q t hq ht
    exact ⟨a, b, c.own_later hb, Trees.later hb n d⟩⟩

/-- A block of another type than the row's is not the row's. -/
theorem ownBlock_ne_type {w : World} {B : Nat} {e e' : TypeId} {size : Nat} {v : Value} {k : Nat} {xs : List Value} {b B' : Nat} (h : w.ownsRow B e size v k xs) (hs : OwnS B' e' w b) (hne : e' ≠ e) : some b ≠ v.ownBlock := by
  rcases h.2 with ⟨rfl, _⟩ | ⟨g, cap, cur, rfl, _, hg, _⟩
  · simp [Value.ownBlock]
  · intro hb
    simp only [Value.ownBlock, Option.some.injEq] at hb
    subst hb
    obtain ⟨_, c, fz, hc⟩ := hs
    rw [hg] at hc
    simp only [Option.some.injEq, Obj.cells.injEq] at hc
    exact hne hc.2.1.symm

theorem Raw.snoc {S : Nat → Prop} {n B : Nat} {w w' : World} {v v' : Value} {us : List Tr} {qs : List (Bool × ByteArray × Value × Value)} {t : Tr} {q : Bool × ByteArray × Value × Value}
    (h : Raw S n B w v us qs) (hS : ∀ b, S b → b < B ∧ b < w.heap.size) (hown : w'.ownsRow B 25 4 v' (us.length + 1) (quadCells qs ++ [.bool q.1, .string q.2.1, q.2.2.1, q.2.2.2]))
    (hg : w.grownBy w' v.ownBlock) (h1 : q.1 = t.text) (h2 : q.2.1 = t.s) (ha : Attrs (OwnS B 47 w) w q.2.2.1 t.attrs) (hk : Trees S w n q.2.2.2 t.kids) : Raw S n B w' v' (us ++ [t]) (qs ++ [q]) := by
  have carryA : ∀ {x l}, Attrs (OwnS B 47 w) w x l → Attrs (OwnS B 47 w') w' x l := fun hx =>
    hx.carry fun b hs => by
      have e := hg.block b hs.lt (ownBlock_ne_type h.own hs (by decide))
      exact ⟨hs.to (Nat.le_refl _) e, e⟩
  have carryT : ∀ {x l}, Trees S w n x l → Trees S w' n x l := fun hx =>
    Trees.carry (fun b hs => ⟨hs, hg.block b (hS b hs).2 (fun e => by have := h.own.lt b e.symm; have := (hS b hs).1; omega)⟩) n hx
  refine ⟨by simp [h.len], ?_, ?_⟩
  · rw [quadCells_append, List.length_append]; exact hown
  · intro i q' t' hq ht
    rcases Nat.lt_or_ge i us.length with hi | hi
    · rw [List.getElem?_append_left (by rw [h.len]; exact hi)] at hq
      rw [List.getElem?_append_left hi] at ht
      obtain ⟨a, b, c, d⟩ := h.each i q' t' hq ht
      exact ⟨a, b, carryA c, carryT d⟩
    · rw [List.getElem?_append_right (by rw [h.len]; exact hi)] at hq
      rw [List.getElem?_append_right hi] at ht
      rw [h.len] at hq
      have hz : i - us.length = 0 := by
        rcases Nat.eq_zero_or_pos (i - us.length) with h' | h'
        · exact h'
        · rw [List.getElem?_eq_none (by simp; omega)] at ht; cases ht
      rw [hz] at hq ht
      simp at hq ht
      subst hq ht
      exact ⟨h1, h2, carryA ha, carryT hk⟩

theorem treeInfo : (Tryz.prog.info? 25).map (fun i => (i.zero, i.size, i.bytes)) = some (some (.agg #[.bool false, .string ⟨#[]⟩, .slice none 0 0, .slice none 0 0]), 4, 72) := by kernel_rfl

theorem Raw.shape {S : Nat → Prop} {n B : Nat} {w : World} {v : Value} {us : List Tr} {qs : List (Bool × ByteArray × Value × Value)} (h : Raw S n B w v us qs) : ∃ a c, v = .slice a us.length c := by
  rcases h.own.2 with ⟨hv, h0⟩ | ⟨g, cap, cur, hv, _⟩
  · exact ⟨none, 0, by rw [hv, h0]⟩
  · exact ⟨_, _, hv⟩

theorem Trees.drop {S : Nat → Prop} {w : World} {n : Nat} {b o len cap : Nat} {ts : List Tr} (h : Trees S w (n + 1) (.slice (some ⟨b, o, none⟩) len cap) ts) (k : Nat) (hk : k ≤ ts.length) (hs : S b)  :
    Trees S w (n + 1) (.slice (some ⟨b, o + k * 4, none⟩) (len - k) (cap - k)) (ts.drop k) := by
  obtain ⟨a, c, h1, h2, h3, h4⟩ := h
  cases h1
  refine ⟨_, _, by rw [List.length_drop], by rw [List.length_drop]; omega, by omega, fun hne => ⟨b, o + k * 4, rfl, hs, fun i t ht => ?_⟩⟩
  have hne' : ts ≠ [] := by intro e; subst e; simp at hne
  obtain ⟨b', o', ha, _, hc⟩ := h4 hne'
  cases ha
  rw [List.getElem?_drop] at ht
  have := hc (k + i) t ht
  rw [Nat.add_mul, ← Nat.add_assoc] at this
  exact this

theorem Trees.take {S : Nat → Prop} {w : World} {n : Nat} {b o len cap : Nat} {ts : List Tr} (h : Trees S w (n + 1) (.slice (some ⟨b, o, none⟩) len cap) ts) (k : Nat) (hk : k ≤ ts.length) :
    Trees S w (n + 1) (.slice (some ⟨b, o, none⟩) k cap) (ts.take k) := by
  obtain ⟨a, c, h1, h2, h3, h4⟩ := h
  cases h1
  refine ⟨_, _, by rw [List.length_take, Nat.min_eq_left hk], by rw [List.length_take]; omega, h3, fun hne => ?_⟩
  have hne' : ts ≠ [] := by intro e; subst e; simp at hne
  obtain ⟨b', o', ha, hs, hc⟩ := h4 hne'
  cases ha
  refine ⟨b, o, rfl, hs, fun i t ht => hc i t ?_⟩
  rw [List.getElem?_take] at ht
  split at ht
  · exact ht
  · cases ht

theorem new_quad (w : World) (a b c d : Value) (e : TypeId) : ∀ (j : Nat) (u : Value), ([a, b, c, d] : List Value)[j]? = some u → (w.alloc (.cells #[a, b, c, d] e)).cell? ((⟨w.heap.size, 0, none⟩ : Addr).add j) = some u := by
  intro j u hj
  match j, hj with
  | 0, hj | 1, hj | 2, hj | 3, hj => simp at hj; subst hj; simp [Addr.add]

theorem notEmptyL {s : ByteArray} (h : s.data.toList ≠ []) : s.toList.isEmpty = false := by
  rw [ByteArray.toList_eq]
  cases hl : s.data.toList with
  | nil => exact absurd hl h
  | cons _ _ => rfl

theorem notEmpty {s : ByteArray} (h : s ≠ ⟨#[]⟩) : s.toList.isEmpty = false := by
  rw [ByteArray.toList_eq]
  cases hl : s.data.toList with
  | nil => exact absurd (by cases s; simp at hl; subst hl; rfl) h
  | cons _ _ => rfl

attribute [local go_sem] cell_set

end Go.Proofs.YtmogemjikjbnfaaGreatDoor

