/- Bundled: LayM DocK DocT DocU LayB DocN SizeM ContM Fam DocS CountT Count. What each says stands ahead of it. -/
import Derived.Test.YtlchbhlmbphkpaaBundle07
import Derived.Test.YtlchbhlmbphkpaaBundle10
import Derived.Test.YtlchbhlmbphkpaaBundle06
import Derived.Test.YtlchbhlmbphkpaaBundle08
import Derived.Deep.RegionLaw
import Derived.BigRegion
/- A document made of a tree, as a function; rows of nodes under way. No condition. -/
namespace Go.Proofs.Ytlchbhlmbphkpaa
open Go.ChangeShapes Go.WideShapes Go.ChangeAt Go.RowKit
set_option maxRecDepth 100000

/-- The numbers of kids, from a number on. -/
def startsOf (d : Nat) : Nat → List Tr → List Int
  | _, [] => []
  | at', k :: ks => (at' : Int) :: startsOf d (at' + cnt (d + 1) [k]) ks

/-- Nodes of trees beside one another, by what is known of each. -/
def laysOf (d : Nat) (g : Tr → Int → Nat → List Nd) (par : Nat) : Nat → List Tr → List Nd
  | _, [] => []
  | at', k :: ks => g k par at' ++ laysOf d g par (at' + cnt (d + 1) [k]) ks

/-- The nodes of a tree, from a number on. -/
def layF : Nat → Tr → Int → Nat → List Nd
  | 0, t, par, _ => [⟨t.text, t.s, t.attrs, par, []⟩]
  | d + 1, t, par, at' => ⟨t.text, t.s, t.attrs, par, startsOf d (at' + 1) t.kids⟩ :: laysOf d (layF d) at' (at' + 1) t.kids

theorem cnt_one (d : Nat) (t : Tr) : cnt (d + 1) [t] = 1 + cnt d t.kids := by simp [cnt]
theorem cnt_more (d : Nat) (t : Tr) (r : List Tr) : cnt (d + 1) (t :: r) = cnt (d + 1) [t] + cnt (d + 1) r := by simp [cnt]

theorem laysOf_append (d : Nat) (g : Tr → Int → Nat → List Nd) (par : Nat) : ∀ (a b : List Tr) (at' : Nat), laysOf d g par at' (a ++ b) = laysOf d g par at' a ++ laysOf d g par (at' + cnt (d + 1) a) b := by
  intro a
  induction a with
  | nil => intro b at'; simp [laysOf, cnt]
  | cons k a ih =>
    intro b at'
    rw [List.cons_append, laysOf, laysOf, ih, cnt_more d k a, List.append_assoc, Nat.add_assoc]
theorem startsOf_append (d : Nat) : ∀ (a b : List Tr) (at' : Nat), startsOf d at' (a ++ b) = startsOf d at' a ++ startsOf d (at' + cnt (d + 1) a) b := by
  intro a
  induction a with
  | nil => intro b at'; simp [startsOf, cnt]
  | cons k a ih =>
    intro b at'
    rw [List.cons_append, startsOf, startsOf, ih, cnt_more d k a, List.cons_append, Nat.add_assoc]

theorem startsOf_length (d : Nat) : ∀ (a : List Tr) (at' : Nat), (startsOf d at' a).length = a.length := by
  intro a
  induction a with
  | nil => intro _; rfl
  | cons k a ih => intro at'; simp [startsOf, ih]

theorem laysOf_length {d : Nat} {g : Tr → Int → Nat → List Nd} {par : Nat} (hg : ∀ t p a, (g t p a).length = cnt (d + 1) [t]) : ∀ (ts : List Tr) (at' : Nat), (laysOf d g par at' ts).length = cnt (d + 1) ts := by
  intro ts
  induction ts with
  | nil => intro _; rfl
  | cons k ts ih => intro at'; rw [laysOf, List.length_append, hg, ih, cnt_more d k ts]

theorem layF_length : ∀ (d : Nat) (t : Tr) (par : Int) (at' : Nat), Deep d t.kids → (layF d t par at').length = cnt (d + 1) [t] := by
  intro d
  induction d with
  | zero =>
    intro t par at' h
    have : t.kids = [] := h
    rw [cnt_one, this]
    rfl
  | succ d ih =>
    intro t par at' h
    rw [layF, List.length_cons, cnt_one]
    have : ∀ (ts : List Tr) (a : Nat), Deep (d + 1) ts → (laysOf d (layF d) at' a ts).length = cnt (d + 1) ts := by
      intro ts
      induction ts with
      | nil => intro _ _; rfl
      | cons k ts ih2 =>
        intro a hd
        rw [laysOf, List.length_append, ih k _ _ (hd k List.mem_cons_self), ih2 _ (fun u hu => hd u (List.mem_cons_of_mem _ hu)), cnt_more d k ts]
    rw [this t.kids (at' + 1) h]
    omega

structure Rw where
  text : Bool
  s : ByteArray
  va : Value
  par : Int
  vk : Value

def rawCells : List Rw → List Value
  | [] => []
  | r :: l => .bool r.text :: .string r.s :: r.va :: .int .i64 r.par :: r.vk :: rawCells l

theorem rawCells_length (l : List Rw) : (rawCells l).length = l.length * 5 := by
  induction l with
  | nil => rfl
  | cons x r ih => simp [rawCells, ih]; omega

theorem rawCells_get (l : List Rw) : ∀ i r, l[i]? = some r → (rawCells l)[i * 5]? = some (.bool r.text) ∧ (rawCells l)[i * 5 + 1]? = some (.string r.s) ∧ (rawCells l)[i * 5 + 2]? = some r.va ∧ (rawCells l)[i * 5 + 3]? = some (.int .i64 r.par) ∧ (rawCells l)[i * 5 + 4]? = some r.vk := by
  induction l with
  | nil => intro i x h; simp at h
  | cons y r ih =>
    intro i x h
    cases i with
    | zero => simp at h; subst h; simp [rawCells]
    | succ i =>
      have := ih i x (by simpa using h)
      rw [show (i + 1) * 5 = i * 5 + 5 from by omega]
      simpa [rawCells] using this

theorem rawCells_set (l : List Rw) : ∀ (i : Nat) (r : Rw), i < l.length → rawCells (l.set i r) = (((((rawCells l).set (i * 5) (.bool r.text)).set (i * 5 + 1) (.string r.s)).set (i * 5 + 2) r.va).set (i * 5 + 3) (.int .i64 r.par)).set (i * 5 + 4) r.vk := by
  induction l with
  | nil => intro i r h; simp at h
  | cons y l ih =>
    intro i r h
    cases i with
    | zero => simp [rawCells]
    | succ i =>
      rw [List.set_cons_succ, rawCells, ih i r (by simpa using h), show (i + 1) * 5 = i * 5 + 5 from by omega, rawCells]
      rfl

theorem rawCells_setK (l : List Rw) : ∀ (i : Nat) (r : Rw) (v : Value), l[i]? = some r → rawCells (l.set i { r with vk := v }) = (rawCells l).set (i * 5 + 4) v := by
  induction l with
  | nil => intro i r v h; simp at h
  | cons y l ih =>
    intro i r v h
    cases i with
    | zero => simp at h; subst h; simp [rawCells]
    | succ i =>
      rw [List.set_cons_succ, rawCells, ih i r v (by simpa using h), show (i + 1) * 5 = i * 5 + 5 from by omega, rawCells]
      rfl

/-- A row of nodes under way. -/
def Row (nb : Nat) (ms : List Rw) (w : World) : Prop := w.heap[nb]? = some (.cells (rawCells ms).toArray 42 (0, 0))

theorem Row.cells {nb : Nat} {ms : List Rw} {w : World} (h : Row nb ms w) {i : Nat} {r : Rw} (hr : ms[i]? = some r) : w.cell? ⟨nb, i * 5, none⟩ = some (.bool r.text) ∧ w.cell? ⟨nb, i * 5 + 1, none⟩ = some (.string r.s) ∧ w.cell? ⟨nb, i * 5 + 2, none⟩ = some r.va ∧ w.cell? ⟨nb, i * 5 + 3, none⟩ = some (.int .i64 r.par) ∧ w.cell? ⟨nb, i * 5 + 4, none⟩ = some r.vk := by
  obtain ⟨g0, g1, g2, g3, g4⟩ := rawCells_get ms i r hr
  refine ⟨?_, ?_, ?_, ?_, ?_⟩ <;> rw [Lib.cell_of_heap h] <;> simpa

theorem Row.frozen {nb : Nat} {ms : List Rw} {w : World} (h : Row nb ms w) (k : Nat) : w.frozen? ⟨nb, k, none⟩ = false := Lib.frozen_of_heap h k

theorem Row.set1 {nb : Nat} {cs : List Value} {w : World} {e : TypeId} (h : w.heap[nb]? = some (.cells cs.toArray e (0, 0))) (k : Nat) (v : Value) : (w.setCell ⟨nb, k, none⟩ v).heap[nb]? = some (.cells (cs.set k v).toArray e (0, 0)) := by
  simp [World.setCell, Array.getElem?_modify, h]

theorem Row.put {nb : Nat} {ms : List Rw} {w : World} (h : Row nb ms w) {i : Nat} (hi : i < ms.length) (r : Rw) : Row nb (ms.set i r) (((((w.setCell ⟨nb, i * 5, none⟩ (.bool r.text)).setCell ⟨nb, i * 5 + 1, none⟩ (.string r.s)).setCell ⟨nb, i * 5 + 2, none⟩ r.va).setCell ⟨nb, i * 5 + 3, none⟩ (.int .i64 r.par)).setCell ⟨nb, i * 5 + 4, none⟩ r.vk) := by
  unfold Row
  rw [rawCells_set ms i r hi]
  exact Row.set1 (Row.set1 (Row.set1 (Row.set1 (Row.set1 h _ _) _ _) _ _) _ _) _ _

theorem Row.putK {nb : Nat} {ms : List Rw} {w : World} (h : Row nb ms w) {i : Nat} {r : Rw} (hr : ms[i]? = some r) (v : Value) : Row nb (ms.set i { r with vk := v }) (w.setCell ⟨nb, i * 5 + 4, none⟩ v) := by
  unfold Row
  rw [rawCells_setK ms i r v hr]
  exact Row.set1 h _ _

/-- A node under way is a node. -/
def RawIs (S : Nat → Prop) (w : World) (r : Rw) (x : Nd) : Prop := r.text = x.text ∧ r.s = x.s ∧ r.par = x.parent ∧ Attrs S w r.va x.attrs ∧ Ints S w r.vk x.kids

def Laid (S : Nat → Prop) (w : World) (ms : List Rw) (at' : Nat) (L : List Nd) : Prop := ∀ (i : Nat) (x : Nd), L[i]? = some x → ∃ r, ms[at' + i]? = some r ∧ RawIs S w r x

theorem RawIs.carry {S S' : Nat → Prop} {w w' : World} {r : Rw} {x : Nd} (h : RawIs S w r x) (hw : ∀ b, S b → S' b ∧ w'.heap[b]? = w.heap[b]?) : RawIs S' w' r x :=
  ⟨h.1, h.2.1, h.2.2.1, h.2.2.2.1.carry hw, h.2.2.2.2.carry hw⟩

theorem RawIs.bounded {S : Nat → Prop} {w : World} {r : Rw} {x : Nd} (h : RawIs S w r x) : RawIs (fun b => S b ∧ b < w.heap.size) w r x :=
  ⟨h.1, h.2.1, h.2.2.1, h.2.2.2.1.bounded, h.2.2.2.2.bounded⟩

theorem Laid.carry {S S' : Nat → Prop} {w w' : World} {ms ms' : List Rw} {at' : Nat} {L : List Nd} (h : Laid S w ms at' L) (hw : ∀ b, S b → b < w.heap.size → S' b ∧ w'.heap[b]? = w.heap[b]?) (hm : ∀ i, at' ≤ i → i < at' + L.length → ms'[i]? = ms[i]?) : Laid S' w' ms' at' L := by
  intro i x hx
  obtain ⟨r, hr, hR⟩ := h i x hx
  have hi : i < L.length := by
    rcases Nat.lt_or_ge i L.length with h' | h'
    · exact h'
    · rw [List.getElem?_eq_none h'] at hx; cases hx
  exact ⟨r, by rw [hm _ (by omega) (by omega)]; exact hr, hR.bounded.carry fun b hb => hw b hb.1 hb.2⟩

theorem Laid.append {S : Nat → Prop} {w : World} {ms : List Rw} {at' : Nat} {L M : List Nd} (h : Laid S w ms at' L) (k : Laid S w ms (at' + L.length) M) : Laid S w ms at' (L ++ M) := by
  intro i x hx
  rcases Nat.lt_or_ge i L.length with h' | h'
  · rw [List.getElem?_append_left h'] at hx; exact h i x hx
  · rw [List.getElem?_append_right h'] at hx
    obtain ⟨r, hr, hR⟩ := k (i - L.length) x hx
    exact ⟨r, by rw [show at' + i = at' + L.length + (i - L.length) by omega]; exact hr, hR⟩

/-- What a call leaves alone that writes into two older blocks alone. -/
structure LFr (nb cb : Nat) (w w' : World) : Prop where
  below : Below 0 w w'
  frame : ∀ x, x < w.heap.size → x ≠ nb → x ≠ cb → w'.heap[x]? = w.heap[x]?

theorem LFr.refl (nb cb : Nat) (w : World) : LFr nb cb w w := ⟨Below.refl _ _, fun _ _ _ _ => rfl⟩
theorem LFr.trans {nb cb : Nat} {w w1 w2 : World} (h : LFr nb cb w w1) (k : LFr nb cb w1 w2) : LFr nb cb w w2 :=
  ⟨h.below.trans k.below, fun x hx h1 h2 => by rw [k.frame x (Nat.lt_of_lt_of_le hx h.below.size) h1 h2, h.frame x hx h1 h2]⟩
theorem LFr.later {nb cb : Nat} {w w' : World} (h : Below w.heap.size w w') : LFr nb cb w w' := ⟨h.mono (Nat.zero_le _), fun x hx _ _ => h.block x hx⟩
theorem LFr.putN (nb cb : Nat) (w : World) (k : Nat) (v : Value) : LFr nb cb w (w.setCell ⟨nb, k, none⟩ v) := ⟨(Below.refl 0 w).setCell (Nat.zero_le _) _, fun _ _ h1 _ => Below.heap_setCell _ _ _ _ h1⟩
theorem LFr.putC (nb cb : Nat) (w : World) (k : Nat) (v : Value) : LFr nb cb w (w.setCell ⟨cb, k, none⟩ v) := ⟨(Below.refl 0 w).setCell (Nat.zero_le _) _, fun _ _ _ h2 => Below.heap_setCell _ _ _ _ h2⟩

/-- Not too many attributes, however deep. -/
def FewN : Nat → List Tr → Prop
  | 0, _ => True
  | n + 1, ts => ∀ t ∈ ts, t.attrs.length ≤ 1048576 ∧ FewN n t.kids
end Go.Proofs.Ytlchbhlmbphkpaa

/- Documents in order: their kids are later nodes, their texts are as short as the nodes' are. No condition. -/
namespace Go.Proofs.Ytlchbhlmbphkpaa
open Go.RowKit
set_option maxRecDepth 100000

def KidsAt (ns : List Nd) (i : Nat) : Prop := ∀ x, ns[i]? = some x → x.kids.length ≤ ns.length ∧ ∀ k ∈ x.kids, (i : Int) < k ∧ k < ns.length

/-- What nodes in order, from a number on, are known to be. -/
def InSeg (ns : List Nd) (a b : Nat) : Prop := a ≤ b ∧ b ≤ ns.length ∧ ∀ i, a ≤ i → i < b → KidsAt ns i

theorem ordKids_seg {ns : List Nd} {G : Nat → Bool × Nat} (hG : ∀ m, (G m).1 = true → m < (G m).2 ∧ InSeg ns m (G m).2) :
    ∀ (ks : List Int) (m : Nat), m ≤ ns.length → (ordKids G ks m).1 = true → InSeg ns m (ordKids G ks m).2 ∧ ks.length + m ≤ (ordKids G ks m).2 ∧ ∀ k ∈ ks, (m : Int) ≤ k ∧ k < (ordKids G ks m).2 := by
  intro ks
  induction ks with
  | nil => intro m hm _; exact ⟨⟨Nat.le_refl _, hm, fun i h1 h2 => absurd h1 (by have : i < m := h2; omega)⟩, by simp [ordKids], by intro k hk; simp at hk⟩
  | cons k ks ih =>
    intro m _ h
    unfold ordKids at h ⊢
    by_cases hc : k = (m : Int) ∧ (G m).1 = true
    · rw [if_pos hc] at h ⊢
      obtain ⟨h1, h2, h3, h4⟩ := hG m hc.2
      obtain ⟨⟨k1, k2, k3⟩, k4, k5⟩ := ih (G m).2 h3 h
      refine ⟨⟨by omega, k2, fun i hi1 hi2 => ?_⟩, by simp; omega, fun k' hk' => ?_⟩
      · rcases Nat.lt_or_ge i (G m).2 with h' | h'
        · exact h4 i hi1 h'
        · exact k3 i h' hi2
      · rw [List.mem_cons] at hk'
        rcases hk' with rfl | hk'
        · rw [hc.1]; omega
        · have := k5 k' hk'; omega
    · rw [if_neg hc] at h; simp at h

theorem ordF_seg : ∀ (f : Nat) (ns : List Nd) (par : Int) (nx : Nat), (ordF f ns par nx).1 = true → nx < (ordF f ns par nx).2 ∧ InSeg ns nx (ordF f ns par nx).2 := by
  intro f
  induction f with
  | zero => intro ns par nx h; simp [ordF] at h
  | succ f ih =>
    intro ns par nx h
    unfold ordF at h ⊢
    cases hx : ns[nx]? with
    | none => simp [hx] at h
    | some x =>
      simp only [hx] at h ⊢
      have hlt : nx < ns.length := by
        rcases Nat.lt_or_ge nx ns.length with h' | h'
        · exact h'
        · rw [List.getElem?_eq_none h'] at hx; cases hx
      by_cases hp : x.parent = par
      · rw [if_pos hp] at h ⊢
        obtain ⟨⟨k1, k2, k3⟩, k4, k5⟩ := ordKids_seg (fun m hm => ih ns nx m hm) x.kids (nx + 1) (by omega) h
        refine ⟨by omega, by omega, k2, fun i hi1 hi2 => ?_⟩
        rcases Nat.lt_or_ge nx i with h' | h'
        · exact k3 i h' hi2
        · have : i = nx := by omega
          subst this
          intro y hy
          rw [hx] at hy
          cases hy
          refine ⟨by omega, fun k hk => ?_⟩
          have := k5 k hk
          omega
      · rw [if_neg hp] at h; simp at h

/-- A document in order has kids that are later nodes. -/
theorem ord_kidsIn {f : Nat} {ns : List Nd} (h : ordF f ns (-1) 0 = (true, ns.length)) (hl : ns.length ≤ 80) (ha : ∀ x ∈ ns, x.attrs.length ≤ 4398046511104) : KidsIn ns := by
  have h1 := ordF_seg f ns (-1) 0 (by rw [h])
  rw [h] at h1
  intro n x hx
  have hlt : n < ns.length := by
    rcases Nat.lt_or_ge n ns.length with h' | h'
    · exact h'
    · rw [List.getElem?_eq_none h'] at hx; cases hx
  obtain ⟨k1, k2⟩ := h1.2.2.2 n (Nat.zero_le _) hlt x hx
  exact ⟨ha x (List.mem_of_getElem? hx), by omega, k2⟩

def TextsD (ns : List Nd) : Prop := ∀ x ∈ ns, x.s.size ≤ maxLen ∧ ∀ y ∈ x.attrs, y.1.size ≤ maxLen ∧ y.2.size ≤ maxLen

theorem grow_texts {ns : List Nd} (h : TextsD ns) : ∀ (f n : Nat), Texts (growF f ns n) ∧ TextsN f (growF f ns n).kids := by
  intro f
  induction f with
  | zero => intro n; exact ⟨⟨Nat.zero_le _, by intro y hy; simp [growF] at hy⟩, trivial⟩
  | succ f ih =>
    intro n
    rw [growF]
    cases hx : ns[n]? with
    | none => exact ⟨⟨Nat.zero_le _, by intro y hy; simp at hy⟩, by intro t ht; simp at ht⟩
    | some x =>
      refine ⟨h x (List.mem_of_getElem? hx), fun t ht => ?_⟩
      simp only [List.mem_map] at ht
      obtain ⟨k, _, rfl⟩ := ht
      exact ih _
end Go.Proofs.Ytlchbhlmbphkpaa

/- doc.Good, for every document whose texts are no longer than a text may be. Condition: at most 2^20 attributes of a node. -/
namespace Go.Proofs.Ytlchbhlmbphkpaa
open Go.ChangeShapes Go.WideShapes Go.ChangeAt Go.RowKit
set_option maxRecDepth 100000

attribute [local go_sem] cell_set

def orderly (ns : List Nd) : Bool := (ordF (ns.length + 1) ns (-1) 0).1 && decide ((ordF (ns.length + 1) ns (-1) 0).2 = ns.length)

/-- What doc.Good answers. -/
def goodD (ns : List Nd) : Bool := decide (ns.length ≤ 80) && orderly ns && goodB (growF ns.length ns 0)

theorem orderly_eq {ns : List Nd} (h : orderly ns = true) : ordF (ns.length + 1) ns (-1) 0 = (true, ns.length) := by
  simp only [orderly, Bool.and_eq_true, decide_eq_true_eq] at h
  exact Prod.ext h.1 h.2

theorem orderly_ne {ns : List Nd} (h : orderly ns = true) : 0 < ns.length := by
  have h1 := ordF_seg (ns.length + 1) ns (-1) 0 (by rw [orderly_eq h])
  rw [orderly_eq h] at h1
  exact h1.1

set_option maxHeartbeats 1000000 in
theorem goodD_any (S : Nat → Prop) (v : Value) (ns : List Nd) (w : World) (hN : Nodes S w v ns) (hS : ∀ b, S b → b < w.heap.size) (ha : ∀ x ∈ ns, x.attrs.length ≤ 4398046511104) (hx : TextsD ns) :
    Calls Try.prog 12 #[.agg #[v]] w fun e w' => e = .returned (.bool (goodD ns)) ∧ Below w.heap.size w w' := by
  obtain ⟨a, cap, rfl, hlc, hcm⟩ := hN.shape
  unfold maxLen at hcm
  have HG : Hid (goodD ns = (decide (ns.length ≤ 80) && orderly ns && goodB (growF ns.length ns 0))) := rfl
  by_cases h80 : ns.length ≤ 80
  · have hi80 : ¬ (80 : Int) < (ns.length : Int) := by omega
    have HG2 : Hid (goodD ns = (orderly ns && goodB (growF ns.length ns 0))) := by show _ = _; rw [HG.out]; simp [h80]
    clear HG
    have hb2 : Below w.heap.size w ((w.alloc (.cells #[.slice a ns.length cap] 24)).alloc (.cells #[.int .i64 0] 3)) := (Below.alloc1 w _).alloc (by simp) _
    have hC2 : Cnt (w.heap.size + 1) 0 ((w.alloc (.cells #[.slice a ns.length cap] 24)).alloc (.cells #[.int .i64 0] 3)) := by
      have e := heap_alloc_new (w.alloc (.cells #[.slice a ns.length cap] 24)) (.cells #[.int .i64 0] 3)
      rw [World.size_alloc] at e
      exact e
    have hx2 : ((w.alloc (.cells #[.slice a ns.length cap] 24)).alloc (.cells #[.int .i64 0] 3)).heap[w.heap.size]? = some (.cells #[.slice a ns.length cap] 24 (0, 0)) := by
      rw [Lib.alloc_old _ _ _ (by simp)]; exact heap_alloc_new _ _
    have HO : Hid _ := ord_any (ns.length + 1) S _ ns (-1) (w.heap.size + 1) 0 _ (hN.later hb2) (fun b hb => by have := hS b hb; omega) hC2 h80 (by omega)
    have HN : Hid (Nodes S w (.slice a ns.length cap) ns) := hN
    have HA : Hid (∀ x ∈ ns, x.attrs.length ≤ 4398046511104) := ha
    have HX : Hid (TextsD ns) := hx
    have HS : Hid (∀ b, S b → b < w.heap.size) := hS
    have HOR : Hid (orderly ns = ((ordF (ns.length + 1) ns (-1) 0).1 && decide ((ordF (ns.length + 1) ns (-1) 0).2 = ns.length))) := rfl
    clear hN hC2 ha hx hS
    go_enter Try.func12, Try.ntmps12
    go_wp2_with fail
    refine (Calls.mono HO.out ?_)
    rintro e w3 ⟨rfl, hC3, hF3⟩
    have hx3 : w3.heap[w.heap.size]? = some (.cells #[.slice a ns.length cap] 24 (0, 0)) := by
      rw [hF3.frame w.heap.size (by simp; omega) (by omega)]; exact hx2
    have hB3 : Below w.heap.size w w3 := ⟨hF3.below.os.trans hb2.os, hF3.below.tape.trans hb2.tape, hF3.below.output.trans hb2.output, Nat.le_trans hb2.size hF3.below.size, fun k hk => by rw [hF3.frame k (by simp; omega) (by omega)]; exact hb2.block k hk⟩
    have d0 : w3.cell? ⟨w.heap.size, 0, none⟩ = some (.slice a ns.length cap) := by rw [Lib.cell_of_heap hx3]; rfl
    have e0 := hC3.c0
    have hlt3 := blk_lt hx3
    clear HO hb2 hx2 hF3
    obtain ⟨q, hq⟩ : ∃ q, ordF (ns.length + 1) ns (-1) 0 = q := ⟨_, rfl⟩
    rw [hq] at HOR e0 hC3 ⊢
    have HQ : Hid (ordF (ns.length + 1) ns (-1) 0 = q) := hq
    clear hq
    obtain ⟨q1, q2⟩ := q
    simp only at HOR e0 hC3 ⊢
    cases q1 with
    | false =>
      have HE : Hid (goodD ns = false) := by show _ = _; rw [HG2.out, HOR.out]; rfl
      clear HG2 HOR
      go_wp2_with fail
      go_ret
      exact ⟨by rw [HE.out]; rfl, hB3⟩
    | true =>
      by_cases hql : q2 = ns.length
      · have hne : ((q2 : Int) != (ns.length : Int)) = false := by simp [hql]
        have hor : orderly ns = true := by rw [HOR.out, hql]; simp
        have HE : Hid (goodD ns = goodB (growF ns.length ns 0)) := by show _ = _; rw [HG2.out, hor]; rfl
        have hpos := orderly_ne hor
        have HGR : Hid _ := grown_any ns.length S _ ns 0 w3 (HN.out.later hB3) (ord_kidsIn (orderly_eq hor) h80 HA.out) hpos (by omega)
        have HTX : Hid (TextsN (ns.length + 1) [growF ns.length ns 0]) := by
          intro t ht
          simp only [List.mem_singleton] at ht
          subst ht
          exact grow_texts HX.out _ _
        clear HG2 HOR hor hql
        go_wp2_with fail
        refine (Calls.mono HGR.out ?_)
        rintro e w4 ⟨va4, vk4, rfl, hA4, hK4, hb4⟩
        have hB4 : Below w.heap.size w w4 := hB3.trans (hb4.mono hB3.size)
        have HGD : Hid _ := good_any _ ns.length _ _ (growF ns.length ns 0) w4 hA4 hK4 HTX.out
        obtain ⟨aa, ac, rfl⟩ := hA4.shape
        obtain ⟨ka, kc, rfl, _, _⟩ := Trees.shape ns.length hK4
        clear hA4 hK4 HGR
        go_wp2_with fail
        refine (Calls.mono HGD.out ?_)
        rintro e w5 ⟨rfl, hb5⟩
        have hB5 : Below w.heap.size w w5 := hB4.trans (hb5.mono hB4.size)
        go_wp2_with fail
        go_ret
        exact ⟨by rw [HE.out]; rfl, hB5⟩
      · have hne : ((q2 : Int) != (ns.length : Int)) = true := by simp; omega
        have HE : Hid (goodD ns = false) := by show _ = _; rw [HG2.out, HOR.out]; simp [hql]
        clear HG2 HOR hql
        go_wp2_with fail
        go_ret
        exact ⟨by rw [HE.out]; rfl, hB3⟩
  · have hi80 : (80 : Int) < (ns.length : Int) := by omega
    have HE : Hid (goodD ns = false) := by show _ = _; rw [HG.out]; simp [h80]
    clear HG hN
    go_enter Try.func12, Try.ntmps12
    go_wp2_with fail
    go_ret
    exact ⟨by rw [HE.out]; rfl, Below.alloc1 _ _⟩
end Go.Proofs.Ytlchbhlmbphkpaa

/- doc.Tree, doc.End and doc.In, for every document whose texts are no longer than a text may be. Condition: at most 2^20 attributes of a node. -/
namespace Go.Proofs.Ytlchbhlmbphkpaa
open Go.ChangeShapes Go.WideShapes Go.ChangeAt Go.RowKit
set_option maxRecDepth 100000

attribute [local go_sem] cell_set

/-- A document as a value, its nodes in blocks that are there; texts and attributes of a size that can be read. -/
structure DocV (S : Nat → Prop) (w : World) (v : Value) (ns : List Nd) : Prop where
  nodes : Nodes S w v ns
  here : ∀ b, S b → b < w.heap.size
  few : ∀ x ∈ ns, x.attrs.length ≤ 4398046511104
  short : TextsD ns

theorem DocV.later {S : Nat → Prop} {w w' : World} {v : Value} {ns : List Nd} (h : DocV S w v ns) (hb : Below w.heap.size w w') : DocV S w' v ns :=
  ⟨h.nodes.later hb, fun b hb' => Nat.lt_of_lt_of_le (h.here b hb') hb.size, h.few, h.short⟩

theorem DocV.good {S : Nat → Prop} {w : World} {v : Value} {ns : List Nd} (h : DocV S w v ns) : Calls Try.prog 12 #[.agg #[v]] w fun e w' => e = .returned (.bool (goodD ns)) ∧ Below w.heap.size w w' :=
  goodD_any S v ns w h.nodes h.here h.few h.short

theorem goodD_kids {S : Nat → Prop} {w : World} {v : Value} {ns : List Nd} (h : DocV S w v ns) (hg : goodD ns = true) : KidsIn ns := by
  simp only [goodD, Bool.and_eq_true, decide_eq_true_eq] at hg
  exact ord_kidsIn (orderly_eq hg.1.2) hg.1.1 h.few

def amongB (ns : List Nd) (n : Int) : Bool := decide (0 ≤ n) && decide (n < ns.length)

def noTr : Tr := ⟨false, ⟨#[]⟩, [], []⟩

/-- What doc.Tree answers. -/
def treeD (ns : List Nd) (n : Int) : Tr × Int := if goodD ns then (if amongB ns n then (growF ns.length ns n.toNat, 0) else (noTr, 3)) else (noTr, 1)
/-- What doc.End answers. -/
def endD (ns : List Nd) (n : Int) : Int := if goodD ns && amongB ns n then (lastF ns.length ns n.toNat : Int) + 1 else 0
/-- What doc.In answers. -/
def inD (ns : List Nd) (n m : Int) : Bool := decide (0 < endD ns m) && decide (m ≤ n) && decide (n < endD ns m)

theorem lastF_lt {ns : List Nd} (hK : KidsIn ns) : ∀ (f n : Nat), n < ns.length → lastF f ns n < ns.length := by
  intro f
  induction f with
  | zero => intro n hn; exact hn
  | succ f ih =>
    intro n hn
    rw [lastF]
    cases hx : ns[n]? with
    | none => exact hn
    | some x =>
      simp only
      cases hl : x.kids.getLast? with
      | none => exact hn
      | some k =>
        have hm : k ∈ x.kids := List.mem_of_getLast? hl
        have := (hK n x hx).2.2 k hm
        exact ih _ (by omega)

theorem lastF_ge {ns : List Nd} (hK : KidsIn ns) : ∀ (f n : Nat), n ≤ lastF f ns n := by
  intro f
  induction f with
  | zero => intro n; exact Nat.le_refl _
  | succ f ih =>
    intro n
    rw [lastF]
    cases hx : ns[n]? with
    | none => exact Nat.le_refl _
    | some x =>
      simp only
      cases hl : x.kids.getLast? with
      | none => exact Nat.le_refl _
      | some k =>
        have := (hK n x hx).2.2 k (List.mem_of_getLast? hl)
        have := ih k.toNat
        simp only
        omega

set_option maxHeartbeats 1000000 in
theorem endD_any (S : Nat → Prop) (v : Value) (ns : List Nd) (n : Int) (w : World) (h : DocV S w v ns) :
    Calls Try.prog 17 #[.agg #[v], .int .i64 n] w fun e w' => e = .returned (.int .i64 (endD ns n)) ∧ Below w.heap.size w w' := by
  have hb1 := Below.alloc1 w (.cells #[v] 24)
  have hx1 := heap_alloc_new w (.cells #[v] 24)
  have H : Hid (DocV S w v ns) := h
  have HG : Hid _ := (h.later hb1).good
  have HE : Hid (endD ns n = if goodD ns && amongB ns n then (lastF ns.length ns n.toNat : Int) + 1 else 0) := rfl
  obtain ⟨a, cap, rfl, hlc, hcm⟩ := h.nodes.shape
  unfold maxLen at hcm
  clear h
  go_enter Try.func17, Try.ntmps17
  go_wp2_with fail
  refine (Calls.mono HG.out ?_)
  rintro e w2 ⟨rfl, hb2⟩
  have hx2 := (hb2.block _ (blk_lt hx1)).trans hx1
  have hB2 : Below w.heap.size w w2 := hb1.trans (hb2.mono hb1.size)
  have d0 : w2.cell? ⟨w.heap.size, 0, none⟩ = some (.slice a ns.length cap) := by rw [Lib.cell_of_heap hx2]; rfl
  clear HG hb1 hx1 hb2
  obtain ⟨q, hq⟩ : ∃ q, goodD ns = q := ⟨_, rfl⟩
  rw [hq]
  cases q with
  | false =>
    have HE2 : Hid (endD ns n = 0) := by show _ = _; rw [HE.out, hq]; rfl
    clear HE hq
    go_wp2_with fail
    go_ret
    exact ⟨by rw [HE2.out]; rfl, hB2⟩
  | true =>
    have HA : Hid _ := among_any S _ ns n w2 (H.out.later hB2).nodes
    have HE2 : Hid (endD ns n = if amongB ns n then (lastF ns.length ns n.toNat : Int) + 1 else 0) := by show _ = _; rw [HE.out, hq]; simp
    have HKI : Hid (KidsIn ns) := goodD_kids H.out hq
    have h80 : ns.length ≤ 80 := by simp only [goodD, Bool.and_eq_true, decide_eq_true_eq] at hq; exact hq.1.1
    clear HE hq
    have HAB : Hid (amongB ns n = (decide (0 ≤ n) && decide (n < ns.length))) := rfl
    rw [show (decide (0 ≤ n) && decide (n < (ns.length : Int))) = amongB ns n from rfl] at HA
    obtain ⟨q2, hq2⟩ : ∃ q, amongB ns n = q := ⟨_, rfl⟩
    rw [hq2] at HA HE2 HAB
    clear hq2
    cases q2 with
    | false =>
      have HE3 : Hid (endD ns n = 0) := by show _ = _; rw [HE2.out]; rfl
      clear HE2
      go_wp2_with fail
      refine (Calls.mono HA.out ?_)
      rintro e w3 ⟨rfl, rfl⟩
      go_wp2_with fail
      go_ret
      exact ⟨by rw [HE3.out]; rfl, hB2⟩
    | true =>
      have hr := HAB.out.symm
      simp only [Bool.and_eq_true, decide_eq_true_eq] at hr
      obtain ⟨m, rfl⟩ : ∃ m : Nat, n = (m : Int) := ⟨n.toNat, by omega⟩
      have HE3 : Hid (endD ns (m : Int) = (lastF ns.length ns m : Int) + 1) := by show _ = _; rw [HE2.out]; rfl
      have HLI : Hid _ := lastIn_any S _ ns m w2 (H.out.later hB2).nodes HKI.out (by omega)
      have hlt := lastF_lt HKI.out ns.length m (by omega)
      obtain ⟨l, hl⟩ : ∃ l, lastF ns.length ns m = l := ⟨_, rfl⟩
      rw [hl] at HE3 HLI hlt
      clear HE2 hl HAB hr
      go_wp2_with fail
      refine (Calls.mono HA.out ?_)
      rintro e w3 ⟨rfl, rfl⟩
      go_wp2_with fail
      refine (Calls.mono HLI.out ?_)
      rintro e w3 ⟨rfl, rfl⟩
      go_wp2_with fail
      go_ret
      exact ⟨by rw [HE3.out]; rfl, hB2⟩

set_option maxHeartbeats 1000000 in
theorem treeD_any (S : Nat → Prop) (v : Value) (ns : List Nd) (n : Int) (w : World) (h : DocV S w v ns) :
    Calls Try.prog 14 #[.agg #[v], .int .i64 n] w fun e w' => ∃ va vk, e = .returned (.tuple #[.agg #[.bool (treeD ns n).1.text, .string (treeD ns n).1.s, va, vk], .int .i64 (treeD ns n).2]) ∧
      Attrs (fun b => w.heap.size ≤ b) w' va (treeD ns n).1.attrs ∧ Trees (fun b => w.heap.size ≤ b) w' ns.length vk (treeD ns n).1.kids ∧ Below w.heap.size w w' := by
  have hb1 : Below w.heap.size w ((w.alloc (.cells #[v] 24)).alloc (.cells #[.bool false, .string ⟨#[]⟩, .slice none 0 0, .slice none 0 0] 47)) := (Below.alloc1 w _).alloc (by simp) _
  have hx1 : ((w.alloc (.cells #[v] 24)).alloc (.cells #[.bool false, .string ⟨#[]⟩, .slice none 0 0, .slice none 0 0] 47)).heap[w.heap.size]? = some (.cells #[v] 24 (0, 0)) := by
    rw [Lib.alloc_old _ _ _ (by simp)]; exact heap_alloc_new _ _
  have hy1 : ((w.alloc (.cells #[v] 24)).alloc (.cells #[.bool false, .string ⟨#[]⟩, .slice none 0 0, .slice none 0 0] 47)).heap[w.heap.size + 1]? = some (.cells #[.bool false, .string ⟨#[]⟩, .slice none 0 0, .slice none 0 0] 47 (0, 0)) := by
    have e := heap_alloc_new (w.alloc (.cells #[v] 24)) (.cells #[.bool false, .string ⟨#[]⟩, .slice none 0 0, .slice none 0 0] 47)
    rw [World.size_alloc] at e
    exact e
  have H : Hid (DocV S w v ns) := h
  have HG : Hid _ := (h.later hb1).good
  have HE : Hid (treeD ns n = if goodD ns then (if amongB ns n then (growF ns.length ns n.toNat, 0) else (noTr, 3)) else (noTr, 1)) := rfl
  obtain ⟨a, cap, rfl, hlc, hcm⟩ := h.nodes.shape
  unfold maxLen at hcm
  clear h
  go_enter Try.func14, Try.ntmps14
  go_wp2_with fail
  refine (Calls.mono HG.out ?_)
  rintro e w2 ⟨rfl, hb2⟩
  have hx2 := (hb2.block _ (blk_lt hx1)).trans hx1
  have hy2 := (hb2.block _ (blk_lt hy1)).trans hy1
  have hB2 : Below w.heap.size w w2 := hb1.trans (hb2.mono hb1.size)
  have d0 : w2.cell? ⟨w.heap.size, 0, none⟩ = some (.slice a ns.length cap) := by rw [Lib.cell_of_heap hx2]; rfl
  have p0 : w2.cell? ⟨w.heap.size + 1, 0, none⟩ = some (.bool false) := by rw [Lib.cell_of_heap hy2]; rfl
  have p1 : w2.cell? ⟨w.heap.size + 1, 1, none⟩ = some (.string ⟨#[]⟩) := by rw [Lib.cell_of_heap hy2]; rfl
  have p2 : w2.cell? ⟨w.heap.size + 1, 2, none⟩ = some (.slice none 0 0) := by rw [Lib.cell_of_heap hy2]; rfl
  have p3 : w2.cell? ⟨w.heap.size + 1, 3, none⟩ = some (.slice none 0 0) := by rw [Lib.cell_of_heap hy2]; rfl
  have f0 : w2.frozen? ⟨w.heap.size + 1, 0, none⟩ = false := Lib.frozen_of_heap hy2 0
  have f1 : w2.frozen? ⟨w.heap.size + 1, 1, none⟩ = false := Lib.frozen_of_heap hy2 1
  have f2 : w2.frozen? ⟨w.heap.size + 1, 2, none⟩ = false := Lib.frozen_of_heap hy2 2
  have f3 : w2.frozen? ⟨w.heap.size + 1, 3, none⟩ = false := Lib.frozen_of_heap hy2 3
  clear HG hb1 hx1 hb2 hy1
  obtain ⟨q, hq⟩ : ∃ q, goodD ns = q := ⟨_, rfl⟩
  rw [hq]
  have hle1 : w.heap.size ≤ w.heap.size + 1 := Nat.le_succ _
  cases q with
  | false =>
    have HE2 : Hid (treeD ns n = (noTr, 1)) := by show _ = _; rw [HE.out, hq]; rfl
    clear HE hq
    go_wp2_with fail
    refine bodyPost_ret (v := .tuple #[.agg #[.bool false, .string ⟨#[]⟩, .slice none 0 0, .slice none 0 0], .int .i64 1]) (by simp [results, Try.results14, go_sem, cell_set, p0, p1, p2, p3, World.cell?_setCell_other]) rfl ⟨.slice none 0 0, .slice none 0 0, by rw [HE2.out]; rfl, by rw [HE2.out]; exact Attrs.nil, by rw [HE2.out]; exact Trees.nil _ ⟨none, 0, rfl, Nat.zero_le _⟩, ?_⟩
    exact (((hB2.setCell (p := ⟨w.heap.size + 1, 0, none⟩) hle1 _).setCell (p := ⟨w.heap.size + 1, 1, none⟩) hle1 _).setCell (p := ⟨w.heap.size + 1, 2, none⟩) hle1 _).setCell (p := ⟨w.heap.size + 1, 3, none⟩) hle1 _
  | true =>
    have HA : Hid _ := among_any S _ ns n w2 (H.out.later hB2).nodes
    have HE2 : Hid (treeD ns n = if amongB ns n then (growF ns.length ns n.toNat, 0) else (noTr, 3)) := by show _ = _; rw [HE.out, hq]; rfl
    have HKI : Hid (KidsIn ns) := goodD_kids H.out hq
    clear HE hq
    have HAB : Hid (amongB ns n = (decide (0 ≤ n) && decide (n < ns.length))) := rfl
    rw [show (decide (0 ≤ n) && decide (n < (ns.length : Int))) = amongB ns n from rfl] at HA
    obtain ⟨q2, hq2⟩ : ∃ q, amongB ns n = q := ⟨_, rfl⟩
    rw [hq2] at HA HE2 HAB
    clear hq2
    cases q2 with
    | false =>
      have HE3 : Hid (treeD ns n = (noTr, 3)) := by show _ = _; rw [HE2.out]; rfl
      clear HE2
      go_wp2_with fail
      refine (Calls.mono HA.out ?_)
      rintro e w3 ⟨rfl, rfl⟩
      go_wp2_with fail
      refine bodyPost_ret (v := .tuple #[.agg #[.bool false, .string ⟨#[]⟩, .slice none 0 0, .slice none 0 0], .int .i64 3]) (by simp [results, Try.results14, go_sem, cell_set, p0, p1, p2, p3, World.cell?_setCell_other]) rfl ⟨.slice none 0 0, .slice none 0 0, by rw [HE3.out]; rfl, by rw [HE3.out]; exact Attrs.nil, by rw [HE3.out]; exact Trees.nil _ ⟨none, 0, rfl, Nat.zero_le _⟩, ?_⟩
      exact (((hB2.setCell (p := ⟨w.heap.size + 1, 0, none⟩) hle1 _).setCell (p := ⟨w.heap.size + 1, 1, none⟩) hle1 _).setCell (p := ⟨w.heap.size + 1, 2, none⟩) hle1 _).setCell (p := ⟨w.heap.size + 1, 3, none⟩) hle1 _
    | true =>
      have hr := HAB.out.symm
      simp only [Bool.and_eq_true, decide_eq_true_eq] at hr
      obtain ⟨m, rfl⟩ : ∃ m : Nat, n = (m : Int) := ⟨n.toNat, by omega⟩
      have HE3 : Hid (treeD ns (m : Int) = (growF ns.length ns m, 0)) := by show _ = _; rw [HE2.out]; rfl
      have HGR : Hid _ := grown_any ns.length S _ ns m w2 (H.out.later hB2).nodes HKI.out (by omega) (by omega)
      clear HE2 HAB hr
      go_wp2_with fail
      refine (Calls.mono HA.out ?_)
      rintro e w3 ⟨rfl, rfl⟩
      go_wp2_with fail
      refine (Calls.mono HGR.out ?_)
      rintro e w4 ⟨va4, vk4, rfl, hA4, hK4, hb4⟩
      have hB4 : Below w.heap.size w w4 := hB2.trans (hb4.mono hB2.size)
      obtain ⟨aa, ac, rfl⟩ := hA4.shape
      obtain ⟨ka, kc, rfl, _, _⟩ := Trees.shape ns.length hK4
      have hy4 := (hb4.block _ (blk_lt hy2)).trans hy2
      have hs2 := blk_lt hy2
      clear p0 p1 p2 p3 f0 f1 f2 f3 HGR HA
      have p0 : w4.cell? ⟨w.heap.size + 1, 0, none⟩ = some (.bool false) := by rw [Lib.cell_of_heap hy4]; rfl
      have p1 : w4.cell? ⟨w.heap.size + 1, 1, none⟩ = some (.string ⟨#[]⟩) := by rw [Lib.cell_of_heap hy4]; rfl
      have p2 : w4.cell? ⟨w.heap.size + 1, 2, none⟩ = some (.slice none 0 0) := by rw [Lib.cell_of_heap hy4]; rfl
      have p3 : w4.cell? ⟨w.heap.size + 1, 3, none⟩ = some (.slice none 0 0) := by rw [Lib.cell_of_heap hy4]; rfl
      have f0 : w4.frozen? ⟨w.heap.size + 1, 0, none⟩ = false := Lib.frozen_of_heap hy4 0
      have f1 : w4.frozen? ⟨w.heap.size + 1, 1, none⟩ = false := Lib.frozen_of_heap hy4 1
      have f2 : w4.frozen? ⟨w.heap.size + 1, 2, none⟩ = false := Lib.frozen_of_heap hy4 2
      have f3 : w4.frozen? ⟨w.heap.size + 1, 3, none⟩ = false := Lib.frozen_of_heap hy4 3
      obtain ⟨t, ht⟩ : ∃ t, growF ns.length ns m = t := ⟨_, rfl⟩
      rw [ht] at hA4 hK4 HE3 ⊢
      clear ht
      go_wp2_with fail
      refine bodyPost_ret (v := .tuple #[.agg #[.bool t.text, .string t.s, .slice aa t.attrs.length ac, .slice ka t.kids.length kc], .int .i64 0]) (by simp [results, Try.results14, go_sem, cell_set, p0, p1, p2, p3, World.cell?_setCell_other]) rfl ⟨.slice aa t.attrs.length ac, .slice ka t.kids.length kc, by rw [HE3.out], ?_, ?_, ?_⟩
      · rw [HE3.out]
        refine hA4.carry fun b hb => ⟨by omega, ?_⟩
        rw [blk_set_ne (by omega), blk_set_ne (by omega), blk_set_ne (by omega), blk_set_ne (by omega)]
      · rw [HE3.out]
        refine Trees.carry (fun b hb => ⟨by omega, ?_⟩) ns.length hK4
        rw [blk_set_ne (by omega), blk_set_ne (by omega), blk_set_ne (by omega), blk_set_ne (by omega)]
      · exact (((hB4.setCell (p := ⟨w.heap.size + 1, 0, none⟩) hle1 _).setCell (p := ⟨w.heap.size + 1, 1, none⟩) hle1 _).setCell (p := ⟨w.heap.size + 1, 2, none⟩) hle1 _).setCell (p := ⟨w.heap.size + 1, 3, none⟩) hle1 _
end Go.Proofs.Ytlchbhlmbphkpaa

/- A document that is made of a tree is in order, has that tree, and ends where it ends: on plain data. No condition. -/
namespace Go.Proofs.Ytlchbhlmbphkpaa
open Go.RowKit
set_option maxRecDepth 100000

/-- Nodes stand in a document from a number on. -/
def Seg (ns : List Nd) (at' : Nat) (L : List Nd) : Prop := ∀ (i : Nat) (x : Nd), L[i]? = some x → ns[at' + i]? = some x

theorem Seg.left {ns L M : List Nd} {at' : Nat} (h : Seg ns at' (L ++ M)) : Seg ns at' L := by
  intro i x hx
  refine h i x ?_
  have hi : i < L.length := by
    rcases Nat.lt_or_ge i L.length with h' | h'
    · exact h'
    · rw [List.getElem?_eq_none h'] at hx; cases hx
  rw [List.getElem?_append_left hi]; exact hx
theorem Seg.right {ns L M : List Nd} {at' : Nat} (h : Seg ns at' (L ++ M)) : Seg ns (at' + L.length) M := by
  intro i x hx
  have := h (L.length + i) x (by rw [List.getElem?_append_right (by omega)]; rw [show L.length + i - L.length = i by omega]; exact hx)
  rw [show at' + L.length + i = at' + (L.length + i) by omega]; exact this
theorem Seg.tail {ns L : List Nd} {x : Nd} {at' : Nat} (h : Seg ns at' (x :: L)) : Seg ns (at' + 1) L := by
  intro i y hy
  have := h (i + 1) y (by simpa using hy)
  rw [show at' + 1 + i = at' + (i + 1) by omega]; exact this

theorem layF_head {d : Nat} {t : Tr} (h : Deep d t.kids) (par : Int) (nx : Nat) : layF d t par nx = ⟨t.text, t.s, t.attrs, par, startsOf (d - 1) (nx + 1) t.kids⟩ :: laysOf (d - 1) (layF (d - 1)) nx (nx + 1) t.kids := by
  cases d with
  | zero =>
    have e : t.kids = [] := h
    rw [e]
    rfl
  | succ d => rfl

theorem deep_kid {d : Nat} {t : Tr} {k : Tr} (h : Deep d t.kids) (hk : k ∈ t.kids) : ∃ d', d = d' + 1 ∧ Deep d' k.kids := by
  cases d with
  | zero => have e : t.kids = [] := h; rw [e] at hk; simp at hk
  | succ d => exact ⟨d, rfl, h k hk⟩

theorem ord_lay : ∀ (d : Nat) (t : Tr) (f : Nat) (ns : List Nd) (par : Int) (at' : Nat), Deep d t.kids → Seg ns at' (layF d t par at') → cnt (d + 1) [t] ≤ f → ordF f ns par at' = (true, at' + cnt (d + 1) [t]) := by
  intro d
  induction d with
  | zero =>
    intro t f ns par at' hd hs hf
    have e : t.kids = [] := hd
    rw [cnt_one, e] at hf ⊢
    obtain ⟨f', rfl⟩ : ∃ f', f = f' + 1 := ⟨f - 1, by omega⟩
    have h0 : ns[at']? = some ⟨t.text, t.s, t.attrs, par, []⟩ := hs 0 _ rfl
    rw [ordF, h0]
    simp [ordKids, cnt]
  | succ d ih =>
    intro t f ns par at' hd hs hf
    rw [cnt_one] at hf ⊢
    obtain ⟨f', rfl⟩ : ∃ f', f = f' + 1 := ⟨f - 1, by omega⟩
    have h0 : ns[at']? = some ⟨t.text, t.s, t.attrs, par, startsOf d (at' + 1) t.kids⟩ := hs 0 _ rfl
    have hsk : Seg ns (at' + 1) (laysOf d (layF d) at' (at' + 1) t.kids) := Seg.tail hs
    rw [ordF, h0]
    simp only [if_true]
    have key : ∀ (ks : List Tr) (a : Nat), Deep (d + 1) ks → Seg ns a (laysOf d (layF d) at' a ks) → cnt (d + 1) ks ≤ f' → ordKids (ordF f' ns at') (startsOf d a ks) a = (true, a + cnt (d + 1) ks) := by
      intro ks
      induction ks with
      | nil => intro a _ _ _; simp [startsOf, ordKids, cnt]
      | cons k ks ihk =>
        intro a hdk hsg hc
        rw [cnt_more d k ks] at hc ⊢
        rw [laysOf] at hsg
        have hl := layF_length d k (at' : Int) a (hdk k List.mem_cons_self)
        have h1 := ih k f' ns at' a (hdk k List.mem_cons_self) hsg.left (by omega)
        have h2 := hsg.right
        rw [hl] at h2
        rw [startsOf, ordKids, h1, if_pos ⟨rfl, rfl⟩, ihk (a + cnt (d + 1) [k]) (fun u hu => hdk u (List.mem_cons_of_mem _ hu)) h2 (by omega), Nat.add_assoc]
    rw [key t.kids (at' + 1) hd hsk (by omega), Nat.add_assoc]

theorem grow_lay : ∀ (d : Nat) (t : Tr) (f : Nat) (ns : List Nd) (par : Int) (at' : Nat), Deep d t.kids → Seg ns at' (layF d t par at') → cnt (d + 1) [t] ≤ f → growF f ns at' = t := by
  intro d
  induction d with
  | zero =>
    intro t f ns par at' hd hs hf
    have e : t.kids = [] := hd
    rw [cnt_one, e] at hf
    obtain ⟨f', rfl⟩ : ∃ f', f = f' + 1 := ⟨f - 1, by omega⟩
    have h0 : ns[at']? = some ⟨t.text, t.s, t.attrs, par, []⟩ := hs 0 _ rfl
    rw [growF, h0]
    cases t
    simp at e
    subst e
    rfl
  | succ d ih =>
    intro t f ns par at' hd hs hf
    rw [cnt_one] at hf
    obtain ⟨f', rfl⟩ : ∃ f', f = f' + 1 := ⟨f - 1, by omega⟩
    have h0 : ns[at']? = some ⟨t.text, t.s, t.attrs, par, startsOf d (at' + 1) t.kids⟩ := hs 0 _ rfl
    have hsk : Seg ns (at' + 1) (laysOf d (layF d) at' (at' + 1) t.kids) := Seg.tail hs
    rw [growF, h0]
    have key : ∀ (ks : List Tr) (a : Nat), Deep (d + 1) ks → Seg ns a (laysOf d (layF d) at' a ks) → cnt (d + 1) ks ≤ f' → (startsOf d a ks).map (fun k => growF f' ns k.toNat) = ks := by
      intro ks
      induction ks with
      | nil => intro a _ _ _; rfl
      | cons k ks ihk =>
        intro a hdk hsg hc
        rw [cnt_more d k ks] at hc
        rw [laysOf] at hsg
        have hl := layF_length d k (at' : Int) a (hdk k List.mem_cons_self)
        have h1 := ih k f' ns at' a (hdk k List.mem_cons_self) hsg.left (by omega)
        have h2 := hsg.right
        rw [hl] at h2
        rw [startsOf, List.map_cons, ihk (a + cnt (d + 1) [k]) (fun u hu => hdk u (List.mem_cons_of_mem _ hu)) h2 (by omega)]
        rw [Int.toNat_natCast, h1]
    simp only [key t.kids (at' + 1) hd hsk (by omega)]
    cases t; rfl

theorem starts_last {d : Nat} : ∀ (ks : List Tr) (a : Nat) (k : Tr), (startsOf d a (ks ++ [k])).getLast? = some ((a + cnt (d + 1) ks : Nat) : Int) := by
  intro ks a k
  rw [startsOf_append]
  simp [startsOf]

theorem last_lay : ∀ (d : Nat) (t : Tr) (f : Nat) (ns : List Nd) (par : Int) (at' : Nat), Deep d t.kids → Seg ns at' (layF d t par at') → cnt (d + 1) [t] ≤ f → lastF f ns at' + 1 = at' + cnt (d + 1) [t] := by
  intro d
  induction d with
  | zero =>
    intro t f ns par at' hd hs hf
    have e : t.kids = [] := hd
    rw [cnt_one, e] at hf ⊢
    obtain ⟨f', rfl⟩ : ∃ f', f = f' + 1 := ⟨f - 1, by omega⟩
    have h0 : ns[at']? = some ⟨t.text, t.s, t.attrs, par, []⟩ := hs 0 _ rfl
    rw [lastF, h0]
    simp [cnt]
  | succ d ih =>
    intro t f ns par at' hd hs hf
    rw [cnt_one] at hf ⊢
    obtain ⟨f', rfl⟩ : ∃ f', f = f' + 1 := ⟨f - 1, by omega⟩
    have h0 : ns[at']? = some ⟨t.text, t.s, t.attrs, par, startsOf d (at' + 1) t.kids⟩ := hs 0 _ rfl
    have hsk : Seg ns (at' + 1) (laysOf d (layF d) at' (at' + 1) t.kids) := Seg.tail hs
    rw [lastF, h0]
    simp only
    rcases List.eq_nil_or_concat t.kids with he | ⟨ks, k, he⟩
    · rw [he]; simp [startsOf, cnt]
    · rw [List.concat_eq_append] at he
      rw [he] at hf hsk ⊢
      have hdk : Deep (d + 1) (ks ++ [k]) := by rw [← he]; exact hd
      have happ : cnt (d + 1) (ks ++ [k]) = cnt (d + 1) ks + cnt (d + 1) [k] := by simp [cnt]
      rw [starts_last]
      simp only [Int.toNat_natCast]
      rw [laysOf_append] at hsk
      have hl : (laysOf d (layF d) at' (at' + 1) ks).length = cnt (d + 1) ks := by
        have : ∀ (ts : List Tr) (a : Nat), Deep (d + 1) ts → (laysOf d (layF d) at' a ts).length = cnt (d + 1) ts := by
          intro ts
          induction ts with
          | nil => intro _ _; rfl
          | cons u ts ih2 =>
            intro a hd2
            rw [laysOf, List.length_append, layF_length d u _ _ (hd2 u List.mem_cons_self), ih2 _ (fun x hx => hd2 x (List.mem_cons_of_mem _ hx)), cnt_more d u ts]
        exact this _ _ (fun u hu => hdk u (List.mem_append_left _ hu))
      have h2 := hsk.right
      rw [hl] at h2
      have h3 : laysOf d (layF d) at' (at' + 1 + cnt (d + 1) ks) [k] = layF d k at' (at' + 1 + cnt (d + 1) ks) := by simp [laysOf]
      rw [h3] at h2
      have := ih k f' ns at' (at' + 1 + cnt (d + 1) ks) (hdk k (by simp)) h2 (by omega)
      omega

theorem seg_self (L : List Nd) : Seg L 0 L := by intro i x hx; rw [Nat.zero_add]; exact hx
end Go.Proofs.Ytlchbhlmbphkpaa

/- A document in order is what is laid of its tree, at each of its nodes; who is in a node is in its parent: on plain data. No condition. -/
namespace Go.Proofs.Ytlchbhlmbphkpaa
open Go.RowKit
set_option maxRecDepth 100000

theorem Seg.nil (ns : List Nd) (a : Nat) : Seg ns a [] := by intro i x hx; simp at hx
theorem Seg.append {ns L M : List Nd} {a : Nat} (h : Seg ns a L) (k : Seg ns (a + L.length) M) : Seg ns a (L ++ M) := by
  intro i x hx
  rcases Nat.lt_or_ge i L.length with h' | h'
  · rw [List.getElem?_append_left h'] at hx; exact h i x hx
  · rw [List.getElem?_append_right h'] at hx
    have := k (i - L.length) x hx
    rw [show a + L.length + (i - L.length) = a + i by omega] at this
    exact this
theorem Seg.cons {ns L : List Nd} {x : Nd} {a : Nat} (h : ns[a]? = some x) (k : Seg ns (a + 1) L) : Seg ns a (x :: L) := by
  intro i y hy
  cases i with
  | zero => simp at hy; subst hy; exact h
  | succ i =>
    have := k i y (by simpa using hy)
    rw [show a + (i + 1) = a + 1 + i by omega]; exact this

/-- What is in order is laid of a tree. -/
theorem ord_conv : ∀ (f : Nat) (ns : List Nd) (par : Int) (nx : Nat), (ordF f ns par nx).1 = true → ∃ t : Tr, Deep f t.kids ∧ Seg ns nx (layF f t par nx) ∧ (ordF f ns par nx).2 = nx + cnt (f + 1) [t] := by
  intro f
  induction f with
  | zero => intro ns par nx h; simp [ordF] at h
  | succ f ih =>
    intro ns par nx h
    rw [ordF] at h ⊢
    cases hx : ns[nx]? with
    | none => simp [hx] at h
    | some x =>
      simp only [hx] at h ⊢
      by_cases hp : x.parent = par
      · rw [if_pos hp] at h ⊢
        have key : ∀ (ks : List Int) (a : Nat), (ordKids (ordF f ns nx) ks a).1 = true → ∃ ts : List Tr, (∀ k ∈ ts, Deep f k.kids) ∧ ks = startsOf f a ts ∧ Seg ns a (laysOf f (layF f) nx a ts) ∧ (ordKids (ordF f ns nx) ks a).2 = a + cnt (f + 1) ts := by
          intro ks
          induction ks with
          | nil => intro a _; exact ⟨[], by simp, rfl, Seg.nil _ _, by simp [ordKids, cnt_nil]⟩
          | cons k ks ihk =>
            intro a hk
            rw [ordKids] at hk ⊢
            by_cases hc : k = (a : Int) ∧ (ordF f ns nx a).1 = true
            · rw [if_pos hc] at hk ⊢
              obtain ⟨t, ht1, ht2, ht3⟩ := ih ns nx a hc.2
              rw [ht3] at hk ⊢
              obtain ⟨ts, hd, he, hs, hn⟩ := ihk _ hk
              refine ⟨t :: ts, ?_, ?_, ?_, ?_⟩
              · intro u hu
                rw [List.mem_cons] at hu
                rcases hu with rfl | hu
                · exact ht1
                · exact hd u hu
              · rw [startsOf, ← he, hc.1]
              · rw [laysOf]
                refine Seg.append ht2 ?_
                rw [layF_length f t nx a ht1]
                exact hs
              · rw [hn, cnt_more f t ts]; omega
            · rw [if_neg hc] at hk; cases hk
        obtain ⟨ts, hd, he, hs, hn⟩ := key x.kids (nx + 1) h
        refine ⟨⟨x.text, x.s, x.attrs, ts⟩, hd, ?_, ?_⟩
        · rw [layF]
          refine Seg.cons ?_ hs
          rw [hx]
          obtain ⟨xt, xs, xa, xp, xk⟩ := x
          simp only at hp he
          rw [hp, he]
        · rw [hn, cnt_one]; show nx + 1 + cnt (f + 1) ts = nx + (1 + cnt (f + 1) ts); omega
      · rw [if_neg hp] at h; cases h

/-- A tree of so many nodes is laid there, under that parent. -/
def Sub (ns : List Nd) (j c : Nat) (par : Int) : Prop := ∃ (d : Nat) (t : Tr), Deep d t.kids ∧ Seg ns j (layF d t par j) ∧ c = cnt (d + 1) [t]

theorem sub_all (ns : List Nd) : ∀ (d : Nat) (t : Tr) (par : Int) (a : Nat), Deep d t.kids → Seg ns a (layF d t par a) → ∀ j, a ≤ j → j < a + cnt (d + 1) [t] →
    ∃ c par', Sub ns j c par' ∧ j + c ≤ a + cnt (d + 1) [t] ∧ (j = a ∧ par' = par ∨ ∃ q c2 p2, par' = ((q : Nat) : Int) ∧ q < j ∧ Sub ns q c2 p2 ∧ j + c ≤ q + c2) := by
  intro d
  induction d with
  | zero =>
    intro t par a hd hs j h1 h2
    have e : t.kids = [] := hd
    have hc : cnt 1 [t] = 1 := by rw [cnt_one, e]; rfl
    rw [hc] at h2
    obtain rfl : j = a := by omega
    exact ⟨_, par, ⟨0, t, hd, hs, rfl⟩, Nat.le_refl _, Or.inl ⟨rfl, rfl⟩⟩
  | succ d ih =>
    intro t par a hd hs j h1 h2
    by_cases hj : j = a
    · subst hj; exact ⟨_, par, ⟨d + 1, t, hd, hs, rfl⟩, Nat.le_refl _, Or.inl ⟨rfl, rfl⟩⟩
    · have hsk : Seg ns (a + 1) (laysOf d (layF d) a (a + 1) t.kids) := Seg.tail hs
      have key : ∀ (ks : List Tr) (b : Nat), (∀ k ∈ ks, Deep d k.kids) → Seg ns b (laysOf d (layF d) a b ks) → b ≤ j → j < b + cnt (d + 1) ks →
          ∃ c par', Sub ns j c par' ∧ j + c ≤ b + cnt (d + 1) ks ∧ (par' = (a : Int) ∨ ∃ q c2 p2, par' = ((q : Nat) : Int) ∧ q < j ∧ Sub ns q c2 p2 ∧ j + c ≤ q + c2) := by
        intro ks
        induction ks with
        | nil => intro b _ _ hb1 hb2; rw [cnt_nil] at hb2; omega
        | cons k ks ihk =>
          intro b hdk hsb hb1 hb2
          rw [laysOf] at hsb
          have hl := hsb.left
          have hr := hsb.right
          have hdk0 := hdk k List.mem_cons_self
          rw [layF_length d k a b hdk0] at hr
          rw [cnt_more] at hb2 ⊢
          by_cases hjk : j < b + cnt (d + 1) [k]
          · obtain ⟨c, par', hS, hle, hor⟩ := ih k a b hdk0 hl j hb1 hjk
            refine ⟨c, par', hS, by omega, ?_⟩
            rcases hor with ⟨_, hp⟩ | hor
            · exact Or.inl hp
            · exact Or.inr hor
          · obtain ⟨c, par', hS, hle, hor⟩ := ihk (b + cnt (d + 1) [k]) (fun u hu => hdk u (List.mem_cons_of_mem _ hu)) hr (by omega) (by omega)
            exact ⟨c, par', hS, by omega, hor⟩
      have hc1 : cnt (d + 1 + 1) [t] = 1 + cnt (d + 1) t.kids := cnt_one (d + 1) t
      obtain ⟨c, par', hS, hle, hor⟩ := key t.kids (a + 1) hd hsk (by omega) (by omega)
      refine ⟨c, par', hS, by omega, Or.inr ?_⟩
      rcases hor with hp | hor
      · exact ⟨a, _, par, hp, by omega, ⟨d + 1, t, hd, hs, rfl⟩, by omega⟩
      · exact hor

/-- What is known of a node of a good document. -/
structure Nest (ns : List Nd) (j : Nat) (x : Nd) : Prop where
  size : ∃ d, Deep d (growF ns.length ns j).kids ∧ endD ns (j : Int) = (j : Int) + (cnt (d + 1) [growF ns.length ns j] : Nat)
  le : endD ns (j : Int) ≤ (ns.length : Int)
  up : x.parent = -1 ∨ (0 ≤ x.parent ∧ x.parent < j ∧ endD ns (j : Int) ≤ endD ns x.parent)

theorem endD_nat {ns : List Nd} (hg : goodD ns = true) {j : Nat} (hj : j < ns.length) : endD ns (j : Int) = (lastF ns.length ns j : Int) + 1 := by
  unfold endD amongB
  have h1 : (0 : Int) ≤ j := by omega
  have h2 : (j : Int) < ns.length := by omega
  simp [hg, h1, h2]

theorem Seg.in {ns L : List Nd} {a : Nat} (h : Seg ns a L) (hne : 0 < L.length) : a + L.length ≤ ns.length := by
  have h1 : L[L.length - 1]? = some (L[L.length - 1]'(by omega)) := List.getElem?_eq_getElem (by omega)
  have h2 := h _ _ h1
  rcases Nat.lt_or_ge (a + (L.length - 1)) ns.length with h' | h'
  · omega
  · rw [List.getElem?_eq_none h'] at h2; cases h2

theorem sub_end {ns : List Nd} (hg : goodD ns = true) {j c : Nat} {par : Int} (h : Sub ns j c par) (hj : j < ns.length) :
    (∃ d, Deep d (growF ns.length ns j).kids ∧ c = cnt (d + 1) [growF ns.length ns j]) ∧ endD ns (j : Int) = (j : Int) + (c : Nat) ∧ j + c ≤ ns.length ∧ ∃ x, ns[j]? = some x ∧ x.parent = par := by
  obtain ⟨d, t, hd, hs, hc⟩ := h
  have hlen := layF_length d t par j hd
  have hin := hs.in (by rw [hlen, cnt_one]; omega)
  rw [hlen] at hin
  have hgr := grow_lay d t ns.length ns par j hd hs (by omega)
  have hla := last_lay d t ns.length ns par j hd hs (by omega)
  refine ⟨⟨d, by rw [hgr]; exact hd, by rw [hgr]; exact hc⟩, ?_, by omega, ?_⟩
  · rw [endD_nat hg hj]; omega
  · rw [layF_head hd] at hs
    exact ⟨_, hs 0 _ rfl, rfl⟩

theorem good_nest {ns : List Nd} (hg : goodD ns = true) {j : Nat} {x : Nd} (hx : ns[j]? = some x) : Nest ns j x := by
  have hj : j < ns.length := by
    rcases Nat.lt_or_ge j ns.length with h' | h'
    · exact h'
    · rw [List.getElem?_eq_none h'] at hx; cases hx
  have hg2 := hg
  simp only [goodD, Bool.and_eq_true, decide_eq_true_eq] at hg2
  have ho := orderly_eq hg2.1.2
  obtain ⟨t, hd, hs, hn⟩ := ord_conv (ns.length + 1) ns (-1) 0 (by rw [ho])
  rw [ho] at hn
  simp only [Nat.zero_add] at hn
  obtain ⟨c, par, hS, hle, hor⟩ := sub_all ns _ t (-1) 0 hd hs j (Nat.zero_le _) (by omega)
  obtain ⟨⟨d, hd1, hc1⟩, he, hl, y, hy, hyp⟩ := sub_end hg hS hj
  obtain rfl : y = x := by rw [hx] at hy; exact (Option.some.inj hy).symm
  refine ⟨⟨d, hd1, by rw [he, hc1]⟩, by rw [he]; omega, ?_⟩
  rcases hor with ⟨_, hp⟩ | ⟨q, c2, p2, hp, hq, hS2, hle2⟩
  · exact Or.inl (by rw [hyp, hp])
  · refine Or.inr ?_
    obtain ⟨_, he2, _, _⟩ := sub_end hg hS2 (by omega)
    rw [hyp, hp, he2, he]
    omega
end Go.Proofs.Ytlchbhlmbphkpaa

/- How deep trees are and how many, level by level; a list of trees that grows by whole lists. No condition. -/
namespace Go.Proofs.Ytlchbhlmbphkpaa
open Go.ChangeShapes Go.WideShapes Go.ChangeAt Go.RowKit
set_option maxRecDepth 100000

def dep : Nat → List Tr → Nat
  | 0, _ => 0
  | n + 1, ts => (ts.map fun t => 1 + dep n t.kids).foldr max 0

theorem dep_nil (n : Nat) : dep n [] = 0 := by cases n <;> rfl
theorem dep_cons (n : Nat) (t : Tr) (r : List Tr) : dep (n + 1) (t :: r) = max (1 + dep n t.kids) (dep (n + 1) r) := rfl

theorem dep_append (n : Nat) (a b : List Tr) : dep n (a ++ b) = max (dep n a) (dep n b) := by
  cases n with
  | zero => rfl
  | succ n =>
    induction a with
    | nil => simp [dep_nil]
    | cons t r ih => rw [List.cons_append, dep_cons, dep_cons, ih]; omega

theorem cnt_append (n : Nat) (a b : List Tr) : cnt n (a ++ b) = cnt n a + cnt n b := by
  cases n with
  | zero => rfl
  | succ n =>
    induction a with
    | nil => simp [cnt_nil]
    | cons t r ih => rw [List.cons_append, cnt_cons, cnt_cons, ih]; omega

theorem dep_cnt : ∀ (n : Nat) (ts : List Tr), dep n ts ≤ cnt n ts := by
  intro n
  induction n with
  | zero => intro ts; exact Nat.le_refl _
  | succ n ih =>
    intro ts
    induction ts with
    | nil => rw [dep_nil]; omega
    | cons t r ihr => rw [dep_cons, cnt_cons]; have := ih t.kids; omega

/-- The next level. -/
def nx (ts : List Tr) : List Tr := ts.flatMap fun t => t.kids

theorem nx_nil : nx [] = [] := rfl
theorem nx_cons (t : Tr) (r : List Tr) : nx (t :: r) = t.kids ++ nx r := by simp [nx]
theorem nx_append (a b : List Tr) : nx (a ++ b) = nx a ++ nx b := by simp [nx]

theorem cnt_nx (n : Nat) (ts : List Tr) : cnt (n + 1) ts = ts.length + cnt n (nx ts) := by
  induction ts with
  | nil => simp [cnt_nil, nx_nil]
  | cons t r ih => rw [cnt_cons, nx_cons, cnt_append, ih, List.length_cons]; omega

theorem dep_nx (n : Nat) (ts : List Tr) (h : ts ≠ []) : dep (n + 1) ts = 1 + dep n (nx ts) := by
  induction ts with
  | nil => exact absurd rfl h
  | cons t r ih =>
    rw [dep_cons, nx_cons, dep_append]
    by_cases hr : r = []
    · subst hr; rw [dep_nil, nx_nil, dep_nil]; omega
    · rw [ih hr]; omega

theorem Deep.nx {n : Nat} {ts : List Tr} (h : Deep (n + 1) ts) : Deep n (nx ts) := by
  cases n with
  | zero =>
    show Go.Proofs.Ytlchbhlmbphkpaa.nx ts = []
    induction ts with
    | nil => rfl
    | cons t r ih =>
      rw [nx_cons, ih (fun x hx => h x (List.mem_cons_of_mem _ hx))]
      have : t.kids = [] := h t (List.mem_cons_self ..)
      rw [this]; rfl
  | succ n =>
    intro x hx
    obtain ⟨t, ht, hxt⟩ := List.mem_flatMap.1 hx
    exact h t ht x hxt

theorem Deep.len {n : Nat} {ts : List Tr} (h : Deep n ts) : ts.length ≤ cnt n ts := by
  cases n with
  | zero =>
    have : ts = [] := h
    rw [this]; exact Nat.zero_le _
  | succ n => rw [cnt_nx]; omega

theorem pick_list {α : Type} {p : Nat → α → Prop} : ∀ (n : Nat), (∀ i, i < n → ∃ y, p i y) → ∃ l : List α, l.length = n ∧ ∀ i y, l[i]? = some y → p i y := by
  intro n
  induction n with
  | zero => intro _; exact ⟨[], rfl, fun i y h => by simp at h⟩
  | succ n ih =>
    intro h
    obtain ⟨l, hl, hp⟩ := ih (fun i hi => h i (by omega))
    obtain ⟨y, hy⟩ := h n (by omega)
    refine ⟨l ++ [y], by simp [hl], fun i z hz => ?_⟩
    rcases Nat.lt_or_ge i n with hi | hi
    · rw [List.getElem?_append_left (by omega)] at hz; exact hp i z hz
    · rw [List.getElem?_append_right (by omega), hl] at hz
      rcases Nat.eq_zero_or_pos (i - n) with h0 | h0
      · rw [h0] at hz; simp at hz; subst hz
        have : i = n := by omega
        rw [this]; exact hy
      · rw [List.getElem?_eq_none (by simp; omega)] at hz; cases hz

theorem quadCells_at {ps : List (Bool × ByteArray × Value × Value)} {j : Nat} {u : Value} (h : (quadCells ps)[j]? = some u) :
    ∃ i q, ps[i]? = some q ∧ ((j = i * 4 ∧ u = .bool q.1) ∨ (j = i * 4 + 1 ∧ u = .string q.2.1) ∨ (j = i * 4 + 2 ∧ u = q.2.2.1) ∨ (j = i * 4 + 3 ∧ u = q.2.2.2)) := by
  have hj : j < (quadCells ps).length := (List.getElem?_eq_some_iff.1 h).1
  rw [quadCells_length] at hj
  have hi : j / 4 < ps.length := by omega
  have hq : ps[j / 4]? = some ps[j / 4] := by simp
  obtain ⟨g0, g1, g2, g3⟩ := quadCells_get ps (j / 4) _ hq
  refine ⟨j / 4, ps[j / 4], hq, ?_⟩
  have hm : j % 4 = 0 ∨ j % 4 = 1 ∨ j % 4 = 2 ∨ j % 4 = 3 := by omega
  rcases hm with e | e | e | e
  · have hj' : j = j / 4 * 4 := by omega
    rw [← hj', h] at g0; exact Or.inl ⟨hj', by simpa using g0⟩
  · have hj' : j = j / 4 * 4 + 1 := by omega
    rw [← hj', h] at g1; exact Or.inr (Or.inl ⟨hj', by simpa using g1⟩)
  · have hj' : j = j / 4 * 4 + 2 := by omega
    rw [← hj', h] at g2; exact Or.inr (Or.inr (Or.inl ⟨hj', by simpa using g2⟩))
  · have hj' : j = j / 4 * 4 + 3 := by omega
    rw [← hj', h] at g3; exact Or.inr (Or.inr (Or.inr ⟨hj', by simpa using g3⟩))

/-- The four cells of each tree of a list that lies somewhere. -/
theorem Trees.quads {S : Nat → Prop} {w : World} {n : Nat} {ad : Addr} {len cap : Nat} {ts : List Tr} (h : Trees S w (n + 1) (.slice (some ad) len cap) ts) :
    ∃ ps : List (Bool × ByteArray × Value × Value), ps.length = ts.length ∧ (∀ j u, (quadCells ps)[j]? = some u → w.cell? (ad.add j) = some u) ∧ (∀ u ∈ quadCells ps, u.oneCell' = true) ∧
      ∀ (i : Nat) (q : Bool × ByteArray × Value × Value) (t : Tr), ps[i]? = some q → ts[i]? = some t → q.1 = t.text ∧ q.2.1 = t.s ∧ Attrs S w q.2.2.1 t.attrs ∧ Trees S w n q.2.2.2 t.kids := by
  obtain ⟨a, c, hv, h2, h3, h4⟩ := h
  by_cases hne : ts = []
  · subst hne
    exact ⟨[], rfl, fun j u hj => by simp [quadCells] at hj, fun u hu => by simp [quadCells] at hu, fun i q t hq => by simp at hq⟩
  obtain ⟨b, o, ha, hs, hc⟩ := h4 hne
  have had : ad = ⟨b, o, none⟩ := by
    rw [ha] at hv
    injection hv with h5
    injection h5
  obtain ⟨ps, hl, hp⟩ := pick_list (α := Bool × ByteArray × Value × Value) (p := fun i q => ∀ t, ts[i]? = some t →
      w.cell? ⟨b, o + i * 4, none⟩ = some (.bool q.1) ∧ w.cell? ⟨b, o + i * 4 + 1, none⟩ = some (.string q.2.1) ∧ w.cell? ⟨b, o + i * 4 + 2, none⟩ = some q.2.2.1 ∧ w.cell? ⟨b, o + i * 4 + 3, none⟩ = some q.2.2.2 ∧
      q.1 = t.text ∧ q.2.1 = t.s ∧ Attrs S w q.2.2.1 t.attrs ∧ Trees S w n q.2.2.2 t.kids) ts.length (by
    intro i hi
    have ht : ts[i]? = some ts[i] := by simp
    obtain ⟨va, vk, c0, c1, c2, c3, hat, hkt⟩ := hc i _ ht
    refine ⟨(ts[i].text, ts[i].s, va, vk), fun t ht' => ?_⟩
    rw [ht] at ht'; cases ht'
    exact ⟨c0, c1, c2, c3, rfl, rfl, hat, hkt⟩)
  have find : ∀ (i : Nat) (q : Bool × ByteArray × Value × Value), ps[i]? = some q → ∃ t, ts[i]? = some t := by
    intro i q hq
    have : i < ps.length := (List.getElem?_eq_some_iff.1 hq).1
    exact ⟨ts[i]'(by omega), by simp⟩
  refine ⟨ps, hl, ?_, ?_, ?_⟩
  · intro j u hj
    obtain ⟨i, q, hq, hu⟩ := quadCells_at hj
    obtain ⟨t, ht⟩ := find i q hq
    obtain ⟨c0, c1, c2, c3, _⟩ := hp i q hq t ht
    subst had
    rw [Addr.add_lit]
    rcases hu with ⟨rfl, rfl⟩ | ⟨rfl, rfl⟩ | ⟨rfl, rfl⟩ | ⟨rfl, rfl⟩
    · exact c0
    · exact c1
    · exact c2
    · exact c3
  · intro u hu
    obtain ⟨j, hj⟩ := List.mem_iff_getElem?.1 hu
    obtain ⟨i, q, hq, hu⟩ := quadCells_at hj
    obtain ⟨t, ht⟩ := find i q hq
    obtain ⟨_, _, _, _, _, _, hA, hT⟩ := hp i q hq t ht
    rcases hu with ⟨_, rfl⟩ | ⟨_, rfl⟩ | ⟨_, rfl⟩ | ⟨_, rfl⟩
    · rfl
    · rfl
    · obtain ⟨x, y, e⟩ := hA.shape; rw [e]; rfl
    · obtain ⟨x, y, e, _⟩ := Trees.shape n hT; rw [e]; rfl
  · intro i q t hq ht
    obtain ⟨_, _, _, _, r⟩ := hp i q hq t ht
    exact r

theorem Grow.many {S : Nat → Prop} {n B : Nat} {w w' : World} {v v' : Value} {us ts : List Tr} {qs ps : List (Bool × ByteArray × Value × Value)}
    (h : Grow S n B w v us qs) (hl : ps.length = ts.length) (hown : w'.ownsRow B 47 4 v' (us.length + ts.length) (quadCells qs ++ quadCells ps))
    (hg : w.grownBy w' v.ownBlock) (hat : v'.ownBlock = v.ownBlock ∨ v'.ownBlock = some w.heap.size)
    (he : ∀ (i : Nat) (q : Bool × ByteArray × Value × Value) (t : Tr), ps[i]? = some q → ts[i]? = some t → q.1 = t.text ∧ q.2.1 = t.s ∧ Attrs (Oth S B w v) w q.2.2.1 t.attrs ∧ Trees (Oth S B w v) w n q.2.2.2 t.kids) : Grow S n B w' v' (us ++ ts) (qs ++ ps) := by
  have carry : ∀ b, Oth S B w v b → Oth S B w' v' b ∧ w'.heap[b]? = w.heap[b]? := by
    intro b hb
    refine ⟨⟨hb.1, Nat.lt_of_lt_of_le hb.2.1 hg.size, ?_⟩, hg.block b hb.2.1 (fun e => hb.2.2 e.symm)⟩
    rcases hat with e | e
    · rw [e]; exact hb.2.2
    · rw [e]; intro e'; cases e'; exact Nat.lt_irrefl _ hb.2.1
  refine ⟨by simp [h.len, hl], ?_, ?_⟩
  · rw [quadCells_append, List.length_append]; exact hown
  · intro i q' t' hq ht
    rcases Nat.lt_or_ge i us.length with hi | hi
    · rw [List.getElem?_append_left (by rw [h.len]; exact hi)] at hq
      rw [List.getElem?_append_left hi] at ht
      obtain ⟨a, b, c, d⟩ := h.each i q' t' hq ht
      exact ⟨a, b, c.carry carry, Trees.carry carry n d⟩
    · rw [List.getElem?_append_right (by rw [h.len]; exact hi)] at hq
      rw [List.getElem?_append_right hi] at ht
      rw [h.len] at hq
      obtain ⟨a, b, c, d⟩ := he _ q' t' hq ht
      exact ⟨a, b, c.carry carry, Trees.carry carry n d⟩

/-- A list of trees appended onto one of our own. -/
theorem wpList_append_trees {ops : Array Oper} {rest : List Oper} {o : Oper} {a : Act} {w : World} {Q : Exit → Act → World → Prop} (hgd : o.guard = none) (s x : Operand)
    (ho : o.op = .call { callee := .builtin .append, args := #[s, x], argTypes := #[28, 28] })
    (S S1 : Nat → Prop) (n B : Nat) (v vk : Value) (us ts : List Tr) (qs : List (Bool × ByteArray × Value × Value)) (hs : a.eval s = v) (hG : Grow S n B w v us qs) (hx : a.eval x = vk) (hk : Trees S1 w (n + 1) vk ts)
    (hS : ∀ b, S1 b → Oth S B w v b) (hl : us.length + ts.length ≤ 1048576) (hB : B ≤ w.heap.size)
    (h : ∀ v' w' qs', Grow S n B w' v' (us ++ ts) qs' → Below B w w' → wpList Try.prog ops Q rest (a.put o.dst v') w') :
    wpList Try.prog ops Q (o :: rest) a w := by
  obtain ⟨i0, hi, hz0, hz1, hz2⟩ := info_parts treeInfo
  obtain ⟨ka, kc, rfl, hkc, hkm⟩ := Trees.shape (n + 1) hk
  cases ka with
  | none =>
    have hn : ts = [] := by
      apply Classical.byContradiction; intro hne
      obtain ⟨a, c, hv, _, _, h4⟩ := hk
      obtain ⟨b, o, ha, _⟩ := h4 hne
      rw [ha] at hv; cases hv
    subst hn
    refine wpList_plain hgd fun K hK => ?_
    have hrun : (Builtin.append_ #[28, 28] o.type #[v, .slice none 0 kc]).run Try.prog w = .ok v w := by
      rcases hG.own.2 with ⟨rfl, e⟩ | ⟨g, cap, cur, rfl, _, _, hnc, _⟩
      · simp [Builtin.append_, run_underlying Try.underlying28, sizeOf, typeInfo, hi, Builtin.lenOf, Builtin.firstCells]
      · simp [Builtin.append_, run_underlying Try.underlying28, sizeOf, typeInfo, hi, Builtin.lenOf, Builtin.firstCells, hnc, storeCells]
    simp only [List.length_nil] at hx
    unfold Oper.wp
    simp [execOp, ho, resolve, invoke, builtin, hs, hx, hrun, Result.andThen]
    exact hK _ _ (h v w qs (by rw [List.append_nil]; exact hG) (Below.refl _ _))
  | some ad =>
    obtain ⟨ps, hpl, hpc, hp1, hpe⟩ := Trees.quads hk
    refine wpList_append_own_at w hgd s x 28 ho B 47 i0 _ 4 72 Try.underlying28 hi hz0 hz1 hz2 rfl (by decide) v us.length (quadCells qs) hs hG.own ad ts.length kc (quadCells ps) hx ?_ hpc hp1 ?_ ?_ hB ?_
    · rw [quadCells_length, hpl]
    · unfold maxLen; omega
    · omega
    · intro v' w' hown hgr _ hat
      exact h v' w' _ (hG.many hpl hown hgr hat (fun i q t hq ht => by
        obtain ⟨a, b, c, d⟩ := hpe i q t hq ht
        exact ⟨a, b, c.carry (fun b hb => ⟨hS b hb, rfl⟩), Trees.carry (fun b hb => ⟨hS b hb, rfl⟩) n d⟩)) ((Below.refl _ w).grown hgr hB (fun k hk' => (hG.own.lt k hk').1))
end Go.Proofs.Ytlchbhlmbphkpaa

/- What tree.roomBehind leaves, in terms of depth, count and what is right. No condition. -/
namespace Go.Proofs.Ytlchbhlmbphkpaa
open Go.ChangeShapes Go.WideShapes Go.ChangeAt Go.RowKit
set_option maxRecDepth 100000

theorem rgt_nil (n : Nat) : rgt n [] = true := by cases n <;> rfl

theorem right_kids {n : Nat} {t : Tr} (h : rightB t = true) : (t.text || rgt n t.kids) = rgt n t.kids := by
  cases htt : t.text with
  | false => rfl
  | true =>
    have : t.kids = [] := by
      simp [rightB, htt] at h
      exact h.2
    rw [this, rgt_nil]; rfl

theorem rl_eq (d n : Nat) (f : Int → List Tr → Int)
    (hf : ∀ room k, 0 ≤ room → Deep n k → f room k = if dep n k ≤ d ∧ (cnt n k : Int) ≤ room ∧ rgt n k = true then room - cnt n k else -1) :
    ∀ (l : List Tr) (p : Bool) (room : Int), 0 ≤ room → Deep (n + 1) l →
      rl f p room l = if dep n (nx l) ≤ d ∧ (cnt n (nx l) : Int) ≤ room ∧ rgL (rgt n) p l = true then room - cnt n (nx l) else -1 := by
  intro l
  induction l with
  | nil =>
    intro p room h0 _
    rw [nx_nil, dep_nil, cnt_nil, if_pos ⟨Nat.zero_le _, by simpa using h0, rfl⟩]
    simp [rl]
  | cons t r ih =>
    intro p room h0 hd
    have hk : Deep n t.kids := hd t (List.mem_cons_self ..)
    have hr : Deep (n + 1) r := fun x hx => hd x (List.mem_cons_of_mem _ hx)
    rw [nx_cons, dep_append, cnt_append]
    unfold rl
    have hfk := hf room t.kids h0 hk
    by_cases hA : (!rightB t || (p && t.text)) = true
    · rw [if_pos hA, if_neg]
      rintro ⟨_, _, h3⟩
      unfold rgL at h3
      cases h1 : rightB t <;> cases h2 : (p && t.text) <;> simp [h1, h2] at hA h3
    · rw [if_neg hA]
      have h1 : rightB t = true := by cases h : rightB t <;> simp [h] at hA ⊢
      have h2 : (p && t.text) = false := by cases h : (p && t.text) <;> simp [h] at hA ⊢
      have hg : rgL (rgt n) p (t :: r) = (rgt n t.kids && rgL (rgt n) t.text r) := by
        show (rightB t && !(p && t.text) && (t.text || rgt n t.kids) && rgL (rgt n) t.text r) = _
        rw [h1, h2, right_kids h1]; rfl
      rw [hg]
      by_cases hK : dep n t.kids ≤ d ∧ (cnt n t.kids : Int) ≤ room ∧ rgt n t.kids = true
      · rw [if_pos hK] at hfk
        rw [hfk, if_neg (by omega), ih t.text (room - cnt n t.kids) (by omega) hr]
        by_cases hR : dep n (nx r) ≤ d ∧ (cnt n (nx r) : Int) ≤ room - cnt n t.kids ∧ rgL (rgt n) t.text r = true
        · rw [if_pos hR, if_pos ⟨by omega, by push_cast; omega, by rw [hK.2.2, hR.2.2]; rfl⟩]
          push_cast; omega
        · rw [if_neg hR, if_neg]
          rintro ⟨a, b, c⟩
          rw [hK.2.2] at c
          exact hR ⟨by omega, by push_cast at b; omega, by simpa using c⟩
      · rw [if_neg hK] at hfk
        rw [hfk, if_pos (by decide), if_neg]
        rintro ⟨a, b, c⟩
        simp only [Bool.and_eq_true] at c
        exact hK ⟨by omega, by push_cast at b; omega, c.1⟩

theorem rb_eq : ∀ (d n : Nat) (l : List Tr) (room : Int), 0 ≤ room → Deep n l →
    rb d room l = if dep n l ≤ d ∧ (cnt n l : Int) ≤ room ∧ rgt n l = true then room - cnt n l else -1 := by
  intro d
  induction d with
  | zero =>
    intro n l room h0 hd
    unfold rb
    cases l with
    | nil => simp [dep_nil, cnt_nil, rgt_nil]; omega
    | cons t r =>
      cases n with
      | zero => cases (show t :: r = [] from hd)
      | succ n =>
        rw [if_neg (by simp), if_neg]
        rintro ⟨a, _⟩
        rw [dep_cons] at a; omega
  | succ d ih =>
    intro n l room h0 hd
    unfold rb
    cases l with
    | nil => simp [dep_nil, cnt_nil, rgt_nil]; omega
    | cons t r =>
      cases n with
      | zero => cases (show t :: r = [] from hd)
      | succ n =>
        rw [if_neg (by simp)]
        generalize hl : t :: r = l at *
        have hne : l ≠ [] := by rw [← hl]; simp
        rw [dep_nx n l hne, cnt_nx n l]
        by_cases hrm : room < (l.length : Int)
        · rw [if_pos hrm, if_neg]
          rintro ⟨_, b, _⟩
          push_cast at b; omega
        · rw [if_neg hrm, rl_eq d n (rb d) (fun room k h hk => ih n k room h hk) l false (room - l.length) (by omega) hd]
          by_cases hR : dep n (nx l) ≤ d ∧ (cnt n (nx l) : Int) ≤ room - l.length ∧ rgL (rgt n) false l = true
          · rw [if_pos hR, if_pos ⟨by omega, by push_cast; omega, hR.2.2⟩]; push_cast; omega
          · rw [if_neg hR, if_neg]
            rintro ⟨a, b, c⟩
            exact hR ⟨by omega, by push_cast at b; omega, c⟩

theorem contentB_eq {n : Nat} {l : List Tr} (hd : Deep n l) : contentB l = (decide (dep n l ≤ 8) && decide (cnt n l ≤ 80) && rgt n l) := by
  unfold contentB
  rw [rb_eq 8 n l 80 (by decide) hd]
  by_cases h : dep n l ≤ 8 ∧ (cnt n l : Int) ≤ 80 ∧ rgt n l = true
  · rw [if_pos h]
    have h2 : cnt n l ≤ 80 := by omega
    simp [h.1, h2, h.2.2]
    omega
  · rw [if_neg h]
    cases hr : rgt n l with
    | false => simp
    | true =>
      have : ¬ (dep n l ≤ 8 ∧ cnt n l ≤ 80) := fun ⟨a, b⟩ => h ⟨a, by omega, hr⟩
      by_cases h1 : dep n l ≤ 8
      · have h2 : ¬ cnt n l ≤ 80 := fun b => this ⟨h1, b⟩
        simp [h2]
      · simp [h1]

theorem goodB_eq {n : Nat} {t : Tr} (hd : Deep n t.kids) : goodB t = (!t.text && decide (dep (n + 1) [t] < 9) && decide (cnt (n + 1) [t] < 81) && rgt (n + 1) [t]) := by
  have h : Deep (n + 1) [t] := by intro x hx; simp at hx; subst hx; exact hd
  unfold goodB
  rw [contentB_eq h]
  have e1 : decide (dep (n + 1) [t] ≤ 8) = decide (dep (n + 1) [t] < 9) := by congr 1; apply propext; omega
  have e2 : decide (cnt (n + 1) [t] ≤ 80) = decide (cnt (n + 1) [t] < 81) := by congr 1; apply propext; omega
  rw [e1, e2, Bool.and_assoc, Bool.and_assoc, Bool.and_assoc]
end Go.Proofs.Ytlchbhlmbphkpaa

/- Who is whose kid in a good document: on plain data. No condition. -/
namespace Go.Proofs.Ytlchbhlmbphkpaa
open Go.RowKit
set_option maxRecDepth 100000

theorem rgt_one (d : Nat) (t : Tr) : rgt (d + 1) [t] = (rightB t && (t.text || rgt d t.kids)) := by
  simp [rgt, rgL]

theorem rgL_mem {f : List Tr → Bool} : ∀ (l : List Tr) (p : Bool), rgL f p l = true → ∀ k ∈ l, rightB k = true ∧ (k.text || f k.kids) = true := by
  intro l
  induction l with
  | nil => intro _ _ k hk; simp at hk
  | cons t r ih =>
    intro p h k hk
    simp only [rgL, Bool.and_eq_true] at h
    rw [List.mem_cons] at hk
    rcases hk with rfl | hk
    · exact ⟨h.1.1.1, h.1.2⟩
    · exact ih _ h.2 k hk

theorem rgt_text {t : Tr} (h : rightB t = true) (ht : t.text = true) : t.kids = [] := by
  simp only [rightB, ht, if_true, Bool.and_eq_true, decide_eq_true_eq] at h
  exact List.length_eq_zero_iff.1 h.2

theorem rgt_kid {d : Nat} {t k : Tr} (h : rgt (d + 2) [t] = true) (hk : k ∈ t.kids) : rgt (d + 1) [k] = true := by
  rw [rgt_one] at h ⊢
  simp only [Bool.and_eq_true] at h
  cases ht : t.text with
  | true => rw [rgt_text h.1 ht] at hk; simp at hk
  | false =>
    have h2 := h.2
    rw [ht, Bool.false_or] at h2
    have := rgL_mem t.kids false h2 k hk
    simp only [Bool.and_eq_true]
    exact this

/-- Each node of what is laid of a right tree is the first of what is laid of a right tree, and a kid of its parent. -/
theorem node_all (ns : List Nd) : ∀ (d : Nat) (t : Tr) (par : Int) (a : Nat), Deep d t.kids → Seg ns a (layF d t par a) → rgt (d + 1) [t] = true → ∀ j, a ≤ j → j < a + cnt (d + 1) [t] →
    ∃ d' t' par', Deep d' t'.kids ∧ Seg ns j (layF d' t' par' j) ∧ rgt (d' + 1) [t'] = true ∧ (j = a ∧ par' = par ∨ ∃ q y, ns[q]? = some y ∧ par' = ((q : Nat) : Int) ∧ q < j ∧ (j : Int) ∈ y.kids ∧ a ≤ q) := by
  intro d
  induction d with
  | zero =>
    intro t par a hd hs hr j h1 h2
    have e : t.kids = [] := hd
    have hc : cnt 1 [t] = 1 := by rw [cnt_one, e]; rfl
    rw [hc] at h2
    obtain rfl : j = a := by omega
    exact ⟨0, t, par, hd, hs, hr, Or.inl ⟨rfl, rfl⟩⟩
  | succ d ih =>
    intro t par a hd hs hr j h1 h2
    by_cases hj : j = a
    · subst hj; exact ⟨d + 1, t, par, hd, hs, hr, Or.inl ⟨rfl, rfl⟩⟩
    · have h0 : ns[a]? = some ⟨t.text, t.s, t.attrs, par, startsOf d (a + 1) t.kids⟩ := hs 0 _ rfl
      have hsk : Seg ns (a + 1) (laysOf d (layF d) a (a + 1) t.kids) := Seg.tail hs
      have key : ∀ (ks : List Tr) (b : Nat), (∀ k ∈ ks, Deep d k.kids) → (∀ k ∈ ks, rgt (d + 1) [k] = true) → Seg ns b (laysOf d (layF d) a b ks) → a ≤ b → b ≤ j → j < b + cnt (d + 1) ks →
          ∃ d' t' par', Deep d' t'.kids ∧ Seg ns j (layF d' t' par' j) ∧ rgt (d' + 1) [t'] = true ∧ ((par' = (a : Int) ∧ (j : Int) ∈ startsOf d b ks) ∨ ∃ q y, ns[q]? = some y ∧ par' = ((q : Nat) : Int) ∧ q < j ∧ (j : Int) ∈ y.kids ∧ a ≤ q) := by
        intro ks
        induction ks with
        | nil => intro b _ _ _ _ hb1 hb2; rw [cnt_nil] at hb2; omega
        | cons k ks ihk =>
          intro b hdk hrk hsb hab hb1 hb2
          rw [laysOf] at hsb
          have hl := hsb.left
          have hr2 := hsb.right
          have hdk0 := hdk k List.mem_cons_self
          rw [layF_length d k a b hdk0] at hr2
          rw [cnt_more] at hb2
          by_cases hjk : j < b + cnt (d + 1) [k]
          · obtain ⟨d', t', par', g1, g2, g3, hor⟩ := ih k a b hdk0 hl (hrk k List.mem_cons_self) j hb1 hjk
            refine ⟨d', t', par', g1, g2, g3, ?_⟩
            rcases hor with ⟨hp1, hp2⟩ | hor
            · exact Or.inl ⟨hp2, by rw [startsOf, hp1]; exact List.mem_cons_self⟩
            · obtain ⟨q, y, k1, k2, k3, k4, k5⟩ := hor
              exact Or.inr ⟨q, y, k1, k2, k3, k4, by omega⟩
          · obtain ⟨d', t', par', g1, g2, g3, hor⟩ := ihk (b + cnt (d + 1) [k]) (fun u hu => hdk u (List.mem_cons_of_mem _ hu)) (fun u hu => hrk u (List.mem_cons_of_mem _ hu)) hr2 (by omega) (by omega) (by omega)
            refine ⟨d', t', par', g1, g2, g3, ?_⟩
            rcases hor with ⟨hp1, hp2⟩ | hor
            · exact Or.inl ⟨hp1, by rw [startsOf]; exact List.mem_cons_of_mem _ hp2⟩
            · exact Or.inr hor
      have hc1 : cnt (d + 1 + 1) [t] = 1 + cnt (d + 1) t.kids := cnt_one (d + 1) t
      obtain ⟨d', t', par', g1, g2, g3, hor⟩ := key t.kids (a + 1) hd (fun k hk => rgt_kid hr hk) hsk (by omega) (by omega) (by omega)
      refine ⟨d', t', par', g1, g2, g3, Or.inr ?_⟩
      rcases hor with ⟨hp1, hp2⟩ | hor
      · exact ⟨a, _, h0, hp1, by omega, hp2, Nat.le_refl _⟩
      · exact hor

/-- A good document is laid of a right tree. -/
theorem good_root {ns : List Nd} (hg : goodD ns = true) : ∃ (d : Nat) (t : Tr), Deep d t.kids ∧ Seg ns 0 (layF d t (-1) 0) ∧ cnt (d + 1) [t] = ns.length ∧ rgt (d + 1) [t] = true ∧ t.text = false ∧ goodB t = true ∧ growF ns.length ns 0 = t := by
  have hg2 := hg
  simp only [goodD, Bool.and_eq_true, decide_eq_true_eq] at hg2
  have ho := orderly_eq hg2.1.2
  obtain ⟨t, hd, hs, hn⟩ := ord_conv (ns.length + 1) ns (-1) 0 (by rw [ho])
  rw [ho] at hn
  simp only [Nat.zero_add] at hn
  have hgr := grow_lay _ t ns.length ns (-1) 0 hd hs (by omega)
  have hG := hg2.2
  rw [hgr] at hG
  have hG2 := hG
  rw [goodB_eq hd] at hG
  simp only [Bool.and_eq_true, Bool.not_eq_true'] at hG
  exact ⟨_, t, hd, hs, hn.symm, hG.2, hG.1.1.1, hG2, hgr⟩

/-- What is known of a node of a good document, and of its kids. -/
structure Fam (ns : List Nd) (j : Nat) (x : Nd) : Prop where
  kids : ∀ u ∈ x.kids, ∃ (k : Nat) (y : Nd), u = (k : Int) ∧ j < k ∧ k < ns.length ∧ endD ns (k : Int) ≤ endD ns (j : Int) ∧ ns[k]? = some y ∧ y.parent = (j : Int)
  row : x.kids.Pairwise (fun u v => endD ns u ≤ v)
  par : (j = 0 ∧ x.parent = -1) ∨ ∃ (q : Nat) (y : Nd), ns[q]? = some y ∧ x.parent = (q : Int) ∧ q < j ∧ (j : Int) ∈ y.kids
  text : x.text = true → x.kids = []
  name : x.text = false → nameB x.s = true
  gt : (j : Int) < endD ns (j : Int)

theorem lt_of_some {α : Type} {l : List α} {j : Nat} {x : α} (hx : l[j]? = some x) : j < l.length := by
  rcases Nat.lt_or_ge j l.length with h' | h'
  · exact h'
  · rw [List.getElem?_eq_none h'] at hx; cases hx

theorem lay_fam {ns : List Nd} (hg : goodD ns = true) {d j : Nat} {t : Tr} {par : Int} (hd : Deep d t.kids) (hs : Seg ns j (layF d t par j)) {x : Nd} (hx : ns[j]? = some x) :
    (∀ u ∈ x.kids, ∃ (k : Nat) (y : Nd), u = (k : Int) ∧ j < k ∧ k < ns.length ∧ endD ns (k : Int) ≤ endD ns (j : Int) ∧ ns[k]? = some y ∧ y.parent = (j : Int)) ∧ x.kids.Pairwise (fun u v => endD ns u ≤ v) ∧ (j : Int) < endD ns (j : Int) := by
  have hj := lt_of_some hx
  obtain ⟨_, he, hl, _⟩ := sub_end hg ⟨d, t, hd, hs, rfl⟩ hj
  have hh := layF_head hd par j
  have hx2 : x = ⟨t.text, t.s, t.attrs, par, startsOf (d - 1) (j + 1) t.kids⟩ := by
    have := hs 0 _ (by rw [hh]; rfl)
    rw [Nat.add_zero, hx] at this
    exact Option.some.inj this
  have hgt : (j : Int) < endD ns (j : Int) := by rw [he, cnt_one]; omega
  cases d with
  | zero =>
    have e : t.kids = [] := hd
    have ek : x.kids = [] := by rw [hx2, e]; rfl
    rw [ek]
    exact ⟨by simp, List.Pairwise.nil, hgt⟩
  | succ e =>
    have hsk : Seg ns (j + 1) (laysOf e (layF e) j (j + 1) t.kids) := Seg.tail hs
    have key : ∀ (ks : List Tr) (b : Nat), (∀ k ∈ ks, Deep e k.kids) → Seg ns b (laysOf e (layF e) j b ks) → b + cnt (e + 1) ks ≤ ns.length →
        (startsOf e b ks).Pairwise (fun u v => endD ns u ≤ v) ∧ ∀ u ∈ startsOf e b ks, ∃ (k : Nat) (y : Nd), u = (k : Int) ∧ b ≤ k ∧ k < ns.length ∧ endD ns (k : Int) ≤ ((b + cnt (e + 1) ks : Nat) : Int) ∧ ns[k]? = some y ∧ y.parent = (j : Int) := by
      intro ks
      induction ks with
      | nil => intro b _ _ _; exact ⟨List.Pairwise.nil, by simp [startsOf]⟩
      | cons k ks ihk =>
        intro b hdk hsb hle
        rw [laysOf] at hsb
        have hl1 := hsb.left
        have hr2 := hsb.right
        have hdk0 := hdk k List.mem_cons_self
        rw [layF_length e k j b hdk0] at hr2
        rw [cnt_more] at hle ⊢
        have hc1 := cnt_one e k
        obtain ⟨_, heb, _, y, hy, hyp⟩ := sub_end hg ⟨e, k, hdk0, hl1, rfl⟩ (by omega)
        obtain ⟨hP, hM⟩ := ihk (b + cnt (e + 1) [k]) (fun u hu => hdk u (List.mem_cons_of_mem _ hu)) hr2 (by omega)
        rw [startsOf]
        refine ⟨List.Pairwise.cons (fun v hv => ?_) hP, fun u hu => ?_⟩
        · obtain ⟨k2, _, rfl, hk2, _⟩ := hM v hv
          rw [heb]; omega
        · rw [List.mem_cons] at hu
          rcases hu with rfl | hu
          · exact ⟨b, y, rfl, Nat.le_refl _, by omega, by rw [heb]; omega, hy, hyp⟩
          · obtain ⟨k2, y2, g1, g2, g3, g4, g5⟩ := hM u hu
            exact ⟨k2, y2, g1, by omega, g3, by omega, g5⟩
    have hc := cnt_one (e + 1) t
    obtain ⟨hP, hM⟩ := key t.kids (j + 1) hd hsk (by omega)
    have ek : x.kids = startsOf e (j + 1) t.kids := by rw [hx2]; rfl
    rw [ek]
    refine ⟨fun u hu => ?_, hP, hgt⟩
    obtain ⟨k2, y2, g1, g2, g3, g4, g5⟩ := hM u hu
    exact ⟨k2, y2, g1, by omega, g3, by rw [he]; omega, g5⟩

theorem good_fam {ns : List Nd} (hg : goodD ns = true) {j : Nat} {x : Nd} (hx : ns[j]? = some x) : Fam ns j x := by
  have hj := lt_of_some hx
  obtain ⟨d, t, hd, hs, hn, hr, _, _, _⟩ := good_root hg
  obtain ⟨d', t', par', g1, g2, g3, hor⟩ := node_all ns d t (-1) 0 hd hs hr j (Nat.zero_le _) (by omega)
  obtain ⟨k1, k2, k3⟩ := lay_fam hg g1 g2 hx
  have hx2 : x = ⟨t'.text, t'.s, t'.attrs, par', startsOf (d' - 1) (j + 1) t'.kids⟩ := by
    have := g2 0 _ (by rw [layF_head g1 par' j]; rfl)
    rw [Nat.add_zero, hx] at this
    exact Option.some.inj this
  rw [rgt_one] at g3
  simp only [Bool.and_eq_true] at g3
  refine ⟨k1, k2, ?_, ?_, ?_, k3⟩
  · rcases hor with ⟨h1, h2⟩ | ⟨q, y, h1, h2, h3, h4, _⟩
    · exact Or.inl ⟨h1, by rw [hx2]; exact h2⟩
    · exact Or.inr ⟨q, y, h1, by rw [hx2]; exact h2, h3, h4⟩
  · intro ht
    have ht' : t'.text = true := by rw [hx2] at ht; exact ht
    rw [hx2, rgt_text g3.1 ht']
    rfl
  · intro ht
    have ht' : t'.text = false := by rw [hx2] at ht; exact ht
    have h1 := g3.1
    simp [rightB, ht'] at h1
    rw [hx2]
    exact h1.1

/-- Who is behind a node and ahead of its end has a parent that is not ahead of it. -/
theorem good_inner {ns : List Nd} (hg : goodD ns = true) {m n : Nat} {x : Nd} (hx : ns[n]? = some x) (h1 : m < n) (h2 : (n : Int) < endD ns (m : Int)) : ∃ q : Nat, x.parent = (q : Int) ∧ m ≤ q ∧ q < n := by
  have hn := lt_of_some hx
  obtain ⟨d, t, hd, hs, hc, hr, _, _, _⟩ := good_root hg
  obtain ⟨d', t', par', g1, g2, g3, _⟩ := node_all ns d t (-1) 0 hd hs hr m (Nat.zero_le _) (by omega)
  obtain ⟨_, he, _, _⟩ := sub_end hg ⟨d', t', g1, g2, rfl⟩ (by omega)
  obtain ⟨d2, t2, par2, k1, k2, k3, hor⟩ := node_all ns d' t' par' m g1 g2 g3 n (by omega) (by omega)
  have hx2 : x = ⟨t2.text, t2.s, t2.attrs, par2, startsOf (d2 - 1) (n + 1) t2.kids⟩ := by
    have := k2 0 _ (by rw [layF_head k1 par2 n]; rfl)
    rw [Nat.add_zero, hx] at this
    exact Option.some.inj this
  rcases hor with ⟨h, _⟩ | ⟨q, y, l1, l2, l3, l4, l5⟩
  · omega
  · exact ⟨q, by rw [hx2]; exact l2, l5, l3⟩
end Go.Proofs.Ytlchbhlmbphkpaa

/- doc.String, for every document whose texts are no longer than a text may be. Condition: at most 2^20 attributes of a node; its texts together at most 2^40 letters. -/
namespace Go.Proofs.Ytlchbhlmbphkpaa
open Go.ChangeShapes Go.WideShapes Go.ChangeAt Go.RowKit
set_option maxRecDepth 100000

attribute [local go_sem] cell_set

def txt (x : Nd) : List UInt8 := if x.text then x.s.data.toList else []

/-- What doc.String answers. -/
def strD (ns : List Nd) (n : Int) : List UInt8 := if endD ns n = 0 then [] else ((ns.take (endD ns n).toNat).drop n.toNat).flatMap txt

theorem txt_len (x : Nd) : (txt x).length ≤ x.s.size := by
  unfold txt
  split
  · rw [Array.length_toList]; exact Nat.le_refl _
  · exact Nat.zero_le _

theorem flat_take (l : List Nd) (k : Nat) : ((l.take k).flatMap txt).length ≤ (l.map fun x => x.s.size).sum := by
  induction l generalizing k with
  | nil => simp
  | cons x r ih =>
    cases k with
    | zero => simp
    | succ k =>
      have h1 := ih k
      have h2 := txt_len x
      simp only [List.take_succ_cons, List.flatMap_cons, List.length_append, List.map_cons, List.sum_cons]
      omega

theorem sum_drop (l : List Nat) (k : Nat) : (l.drop k).sum ≤ l.sum := by
  induction l generalizing k with
  | nil => simp
  | cons x r ih =>
    cases k with
    | zero => simp
    | succ k => have := ih k; simp; omega

theorem sum_take (l : List Nat) (k : Nat) : (l.take k).sum ≤ l.sum := by
  induction l generalizing k with
  | nil => simp
  | cons x r ih =>
    cases k with
    | zero => simp
    | succ k => have := ih k; simp; omega

theorem mem_sum {l : List Nd} {x : Nd} (h : x ∈ l) : x.s.size ≤ (l.map fun x => x.s.size).sum := by
  induction l with
  | nil => simp at h
  | cons y r ih =>
    rw [List.mem_cons] at h
    simp only [List.map_cons, List.sum_cons]
    rcases h with rfl | h
    · omega
    · have := ih h; omega

theorem isB_later {T e : TypeId} {B b : Nat} {bs : List Value} {w w' : World} (h : Lib.IsBuilder T e B b bs w) (hb : Below w.heap.size w w') : Lib.IsBuilder T e B b bs w' := by
  rcases h with ⟨h1, v, h2, h3, h4⟩ | ⟨h1, v, h2, h3, h4⟩
  · exact Or.inl ⟨h1, v, (hb.block _ (blk_lt h2)).trans h2, ownsRow_later h3 hb, h4⟩
  · exact Or.inr ⟨h1, v, (hb.block _ (blk_lt h2)).trans h2, ownsRow_later h3 hb, h4⟩

set_option maxHeartbeats 1000000 in
theorem strD_any (S : Nat → Prop) (v : Value) (ns : List Nd) (n : Int) (w : World) (h : DocV S w v ns) (hsum : (ns.map fun x => x.s.size).sum ≤ 1099511627776) :
    Calls Try.prog 16 #[.agg #[v], .int .i64 n] w fun e w' => e = .returned (.string ⟨(strD ns n).toArray⟩) ∧ Below w.heap.size w w' := by
  have hb1 := Below.alloc1 w (.cells #[v] 24)
  have hx1 := heap_alloc_new w (.cells #[v] 24)
  have H : Hid (DocV S w v ns) := h
  have HG : Hid _ := endD_any S v ns n _ (h.later hb1)
  have HE : Hid (strD ns n = if endD ns n = 0 then [] else ((ns.take (endD ns n).toNat).drop n.toNat).flatMap txt) := rfl
  have HN : Hid (endD ns n ≠ 0 → goodD ns = true ∧ amongB ns n = true ∧ endD ns n = (lastF ns.length ns n.toNat : Int) + 1) := by
    intro hne
    unfold endD at hne ⊢
    split at hne
    · rename_i hc
      rw [if_pos hc]
      simp only [Bool.and_eq_true] at hc
      exact ⟨hc.1, hc.2, rfl⟩
    · exact absurd rfl hne
  obtain ⟨a, cap, rfl, hlc, hcm⟩ := h.nodes.shape
  unfold maxLen at hcm
  clear h
  obtain ⟨en, hen⟩ : ∃ en, endD ns n = en := ⟨_, rfl⟩
  rw [hen] at HG HE HN
  clear hen
  go_enter Try.func16, Try.ntmps16
  go_wp2_with fail
  refine (Calls.mono HG.out ?_)
  rintro e w2 ⟨rfl, hb2⟩
  have hx2 := (hb2.block _ (blk_lt hx1)).trans hx1
  have hB2 : Below w.heap.size w w2 := hb1.trans (hb2.mono hb1.size)
  have d0 : w2.cell? ⟨w.heap.size, 0, none⟩ = some (.slice a ns.length cap) := by rw [Lib.cell_of_heap hx2]; rfl
  clear HG hb1 hx1 hb2
  by_cases h0 : en = 0
  · have HE2 : Hid (strD ns n = []) := by show _ = _; rw [HE.out, if_pos h0]
    have hei : (en == 0) = true := by simp [h0]
    clear HE HN
    go_wp2_with fail
    go_ret
    exact ⟨by rw [HE2.out]; rfl, hB2⟩
  · have HE2 : Hid (strD ns n = ((ns.take en.toNat).drop n.toNat).flatMap txt) := by show _ = _; rw [HE.out, if_neg h0]
    obtain ⟨hg, ha, hle⟩ := HN.out h0
    have hKI := goodD_kids H.out hg
    have h80 : ns.length ≤ 80 := by simp only [goodD, Bool.and_eq_true, decide_eq_true_eq] at hg; exact hg.1.1
    simp only [amongB, Bool.and_eq_true, decide_eq_true_eq] at ha
    obtain ⟨m, rfl⟩ : ∃ m : Nat, n = (m : Int) := ⟨n.toNat, by omega⟩
    have hml : m < ns.length := by omega
    have hll := lastF_lt hKI ns.length m hml
    have hge := lastF_ge hKI ns.length m
    obtain ⟨l, hl⟩ : ∃ l, lastF ns.length ns m = l := ⟨_, rfl⟩
    have hle2 : en = ((l + 1 : Nat) : Int) := by rw [hle, ← hl]; simp
    rw [hl] at hll hge
    clear hle hl HE HN hg ha h0
    subst hle2
    obtain ⟨b, o, cap2, _, _, hv, _, _, _⟩ := (H.out.later hB2).nodes.at (i := m) (x := ns[m]) (by simp [hml])
    injection hv with hv1 _ hv2
    subst hv1 hv2
    have HND : Hid (Nodes S w (.slice (some ⟨b, o, none⟩) ns.length cap) ns) := H.out.nodes
    have hei : (((l + 1 : Nat) : Int) == 0) = false := by simp; omega
    have h1 : (0 : Int) ≤ (m : Int) := by omega
    have h2 : (m : Int) ≤ ((l + 1 : Nat) : Int) := by omega
    have h3 : ((l + 1 : Nat) : Int) ≤ (cap : Int) := by omega
    have d0a : (w2.alloc (.cells #[.pointer none, .slice none 0 0] 75)).cell? ⟨w.heap.size, 0, none⟩ = some (.slice (some ⟨b, o, none⟩) ns.length cap) := Lib.cell?_alloc_some _ d0
    have hs2 := hB2.size
    go_wp2_with fail
    have hb3 := Below.alloc1 w2 (.cells #[.pointer none, .slice none 0 0] 75)
    go_loopg [20] (l + 1 - m) (fun g j wr => ∃ i : Nat, i + g = l + 1 - m ∧ j = .int .i64 (i : Int) ∧ Below w2.heap.size w2 wr ∧ w2.heap.size < wr.heap.size ∧ Lib.IsBuilder 75 5 w2.heap.size w2.heap.size (Lib.byteCells (((ns.drop m).take i).flatMap txt)) wr)
    case atStart => exact ⟨0, by omega, rfl, hb3, by simp, Or.inl ⟨Nat.le_refl _, .slice none 0 0, heap_alloc_new _ _, World.ownsRow_nil _ _ _ _, by intro e; cases e⟩⟩
    case round =>
      obtain ⟨i, hi, rfl, hBr, hsr, hBd⟩ := hrel
      have HBd : Hid _ := hBd
      have hBw : Below w.heap.size w wr := hB2.trans (hBr.mono hs2)
      clear hBd hb3 d0 d0a
      by_cases hil : i < l + 1 - m
      · have hmi : m + i < ns.length := by omega
        obtain ⟨x, hx⟩ : ∃ x, ns[m + i]? = some x := ⟨ns[m + i], by simp [hmi]⟩
        obtain ⟨b', o', cap', va, vk, hv', _, _, _, hbw, c0, c1, c2, c3, c4, hAt, hKi⟩ := (HND.out.later hBw).at hx
        injection hv' with hv1 _ hv2
        injection hv1 with hv1
        injection hv1 with hv3 hv4
        subst hv3 hv4 hv2
        obtain ⟨aa, ac, rfl⟩ := hAt.shape
        obtain ⟨ka, kc, rfl, _, _⟩ := hKi.shape
        have e5 : o + (m + i) * 5 = o + m * 5 + i * 5 := by omega
        rw [e5] at c0 c1 c2 c3 c4
        have hxl : (ns.drop m)[i]? = some x := by rw [List.getElem?_drop]; exact hx
        have hil2 : i < (ns.drop m).length := by simp; omega
        have hsn : ((ns.drop m).take (i + 1)).flatMap txt = ((ns.drop m).take i).flatMap txt ++ txt x := by
          rw [List.take_succ_eq_append_getElem hil2, List.flatMap_append]
          have : (ns.drop m)[i] = x := by rw [List.getElem?_eq_getElem hil2] at hxl; exact Option.some.inj hxl
          rw [this]; simp
        have HSN : Hid _ := hsn
        have hlen1 : (((ns.drop m).take i).flatMap txt).length ≤ 1099511627776 := by
          have h1 := flat_take (ns.drop m) i
          have h2 : ((ns.drop m).map fun x => x.s.size) = (ns.map fun x => x.s.size).drop m := by rw [List.map_drop]
          rw [h2] at h1
          have := sum_drop (ns.map fun x => x.s.size) m
          omega
        have hlen2 : x.s.size ≤ 1099511627776 := Nat.le_trans (mem_sum (List.mem_of_getElem? hx)) hsum
        have HLL : Hid ((Lib.byteCells (((ns.drop m).take i).flatMap txt)).length + x.s.size ≤ 140737488355328) := by show _ ≤ _; rw [Lib.byteCells_length]; omega
        have hili : (i : Int) < ((l + 1 - m : Nat) : Int) := by omega
        have hb4 := Below.alloc1 wr (.cells #[.bool x.text, .string x.s, .slice aa x.attrs.length ac, .int .i64 x.parent, .slice ka x.kids.length kc] 42)
        have HBd4 : Hid _ := isB_later HBd.out hb4
        have HT : Hid (txt x = if x.text then x.s.data.toList else []) := rfl
        clear hx hxl hsn hAt hKi e5 hlen1 hlen2
        cases htx : x.text with
        | true =>
          rw [htx] at c0 hb4 HBd4 HT
          go_wp2_with fail
          refine (Calls.mono (bWrite_any w2.heap.size w2.heap.size _ x.s _ HBd4.out HLL.out (by simp; omega)) ?_)
          rintro e w5 ⟨rfl, hBd5, hb5⟩
          go_wp2_with fail
          go_roundg (l + 1 - m - (i + 1))
          case measure => omega
          case rel =>
            refine ⟨i + 1, by omega, by go_num, (hBr.trans (hb4.mono (by omega))).trans hb5, Nat.lt_of_lt_of_le hsr (Nat.le_trans hb4.size hb5.size), Or.inr ?_⟩
            rw [HSN.out, HT.out, Lib.byteCells_append]
            exact hBd5
        | false =>
          rw [htx] at c0 hb4 HBd4 HT
          go_wp2_with fail
          go_roundg (l + 1 - m - (i + 1))
          case measure => omega
          case rel =>
            refine ⟨i + 1, by omega, by go_num, hBr.trans (hb4.mono (by omega)), Nat.lt_of_lt_of_le hsr hb4.size, ?_⟩
            rw [HSN.out, HT.out]
            have e := HBd4.out
            rw [← List.append_nil (((ns.drop m).take i).flatMap txt)] at e
            exact e
      · have hii : i = l + 1 - m := by omega
        have hili : ¬ (i : Int) < ((l + 1 - m : Nat) : Int) := by omega
        have HE3 : Hid (strD ns (m : Int) = ((ns.drop m).take i).flatMap txt) := by
          show _ = _
          rw [HE2.out, hii]
          congr 1
          rw [List.drop_take]
          simp
        have HSS : Hid _ := bString_any w2.heap.size w2.heap.size (((ns.drop m).take i).flatMap txt) wr HBd.out (by omega)
        clear hii
        go_wp2_with fail
        refine (Calls.mono HSS.out ?_)
        rintro e w6 ⟨rfl, hb6⟩
        go_wp2_with fail
        go_ret
        exact ⟨by rw [HE3.out]; rfl, hBw.trans (hb6.mono hs2)⟩
end Go.Proofs.Ytlchbhlmbphkpaa

/- tree.takeLast at the waiting groups of a counter: the last one, and the rest stays. No condition. -/
namespace Go.Proofs.Ytlchbhlmbphkpaa
open Go.ChangeShapes Go.WideShapes Go.ChangeAt Go.RowKit
set_option maxRecDepth 100000

def groupCells : List (Value × Nat) → List Value
  | [] => []
  | x :: r => x.1 :: .int .i64 (x.2 : Int) :: groupCells r

theorem groupCells_length (l : List (Value × Nat)) : (groupCells l).length = l.length * 2 := by
  induction l with
  | nil => rfl
  | cons x r ih => simp [groupCells, ih]; omega

theorem groupCells_append (l m : List (Value × Nat)) : groupCells (l ++ m) = groupCells l ++ groupCells m := by
  induction l with
  | nil => rfl
  | cons x r ih => simp [groupCells, ih]

/-- The front of a row of the call's own. -/
theorem ownsRow_front {w : World} {B : Nat} {e : TypeId} {size g cap n : Nat} {xs ys : List Value} (h : w.ownsRow B e size (.slice (some ⟨g, 0, none⟩) (n + 1) cap) (n + 1) (xs ++ ys)) (hx : xs.length = n * size) :
    w.ownsRow B e size (.slice (some ⟨g, 0, none⟩) n cap) n xs := by
  obtain ⟨h1, h2⟩ := h
  rcases h2 with ⟨h0, _⟩ | ⟨g', cap', cur, hv, hg, hh, hn, hcap, hsz, htake⟩
  · cases h0
  · cases hv
    refine ⟨hx, Or.inr ⟨g, cap, cur, rfl, hg, hh, by omega, hcap, hsz, ?_⟩⟩
    have e1 : cur.toList.take (n * size) = (cur.toList.take ((n + 1) * size)).take (n * size) := by
      rw [List.take_take, Nat.min_eq_left (Nat.mul_le_mul_right _ (by omega))]
    rw [e1, htake, ← hx, List.take_left]

/-- A counter of the call's own at block cb: depth, count, the waiting groups. -/
structure Cst (B cb : Nat) (w : World) (dd cc : Nat) (v : Value) (G : List (Value × Nat)) : Prop where
  base : B ≤ cb
  held : w.heap[cb]? = some (.cells #[.int .i64 (dd : Int), .int .i64 (cc : Int), v] 113 (0, 0))
  own : w.ownsRow B 134 2 v G.length (groupCells G)
  slices : ∀ x ∈ G, ∃ a l c, x.1 = .slice a l c

theorem Cst.lt {B cb : Nat} {w : World} {dd cc : Nat} {v : Value} {G : List (Value × Nat)} (h : Cst B cb w dd cc v G) : cb < w.heap.size := by
  rcases Nat.lt_or_ge cb w.heap.size with h' | h'
  · exact h'
  · have := h.held; simp [Array.getElem?_eq_none h'] at this

theorem Cst.apart {B cb : Nat} {w : World} {dd cc : Nat} {v : Value} {G : List (Value × Nat)} (h : Cst B cb w dd cc v G) : v.ownBlock ≠ some cb := by
  intro e
  obtain ⟨_, c, fz, hc⟩ := ownsRow_type h.own e
  rw [h.held] at hc
  simp at hc

theorem Cst.shape {B cb : Nat} {w : World} {dd cc : Nat} {v : Value} {G : List (Value × Nat)} (h : Cst B cb w dd cc v G) : ∃ a c, v = .slice a G.length c := by
  rcases h.own.2 with ⟨hv, h0⟩ | ⟨g, cap, cur, hv, _⟩
  · exact ⟨none, 0, by rw [hv, h0]⟩
  · exact ⟨_, _, hv⟩

theorem takeG_any (B cb : Nat) (w : World) (dd cc : Nat) (v : Value) (G : List (Value × Nat)) (x : Value) (d : Nat) (h : Cst B cb w dd cc v (G ++ [(x, d)])) (hBw : B ≤ w.heap.size) :
    Calls Try.prog 88 #[.pointer (some ⟨cb, 2, none⟩)] w fun e w' => e = .returned (.agg #[x, .int .i64 (d : Int)]) ∧ ∃ v', Cst B cb w' dd cc v' G ∧ v'.ownBlock = v.ownBlock ∧ (∀ b, b < w.heap.size → b ≠ cb → w'.heap[b]? = w.heap[b]?) ∧ Below B w w' := by
  have hap := h.apart
  have hlt := h.lt
  obtain ⟨hB, hj, hown, hsl⟩ := h
  obtain ⟨xa, xl, xc, hx⟩ := hsl (x, d) (by simp)
  simp only at hx
  subst hx
  rcases hown.2 with ⟨_, h0⟩ | ⟨g, cap, cur, rfl, hg, hh, hc, hm, hs, ht⟩
  · simp at h0
  have hlen : (G ++ [(Value.slice xa xl xc, d)]).length = G.length + 1 := by simp
  rw [hlen] at hown hj hc ht
  have c2 : w.cell? ⟨cb, 2, none⟩ = some (.slice (some ⟨g, 0, none⟩) (G.length + 1) cap) := by rw [Lib.cell_of_heap hj]; rfl
  have f2 : w.frozen? ⟨cb, 2, none⟩ = false := Lib.frozen_of_heap hj 2
  have hgl := groupCells_length G
  have k0 : w.cell? ⟨g, G.length * 2, none⟩ = some (.slice xa xl xc) := by
    rw [World.ownsRow.cellAt hown _ (by omega), groupCells_append, List.getElem?_append_right (by omega), hgl]; simp [groupCells]
  have k1 : w.cell? ⟨g, G.length * 2 + 1, none⟩ = some (.int .i64 (d : Int)) := by
    rw [World.ownsRow.cellAt hown _ (by omega), groupCells_append, List.getElem?_append_right (by omega), hgl]; simp [groupCells]
  have hgs : g < w.heap.size := World.block_lt_of_cell? w _ k0
  unfold maxLen at hm
  have HJ : Hid (w.heap[cb]? = some (.cells #[.int .i64 (dd : Int), .int .i64 (cc : Int), .slice (some ⟨g, 0, none⟩) (G.length + 1) cap] 113 (0, 0))) := hj
  clear hj hgl
  go_enter Try.func88, Try.ntmps88
  go_wp2_with fail
  have hk : ∀ b, b < w.heap.size → b ≠ cb → (((w.setCell ⟨cb, 2, none⟩ (.slice (some ⟨g, 0, none⟩) G.length cap)).alloc (.cells #[.slice xa xl xc, .int .i64 (d : Int)] 134)).alloc (.cells #[.slice xa xl xc, .int .i64 (d : Int)] 134)).heap[b]? = w.heap[b]? := by
    intro b hb hbc
    rw [Lib.alloc_old _ _ _ (by simp; omega), Lib.alloc_old _ _ _ (by simp; omega), Below.heap_setCell _ _ _ _ hbc]
  have hgc : g ≠ cb := fun e => hap (by rw [e]; rfl)
  refine bodyPost_ret (v := .agg #[.slice xa xl xc, .int .i64 (d : Int)]) (by simp [results, Try.results88, go_sem]) rfl ⟨rfl, .slice (some ⟨g, 0, none⟩) G.length cap, ⟨hB, ?_, ?_, fun y hy => hsl y (by simp [hy])⟩, ?_, hk, ?_⟩
  · rw [Lib.alloc_old _ _ _ (by simp; omega), Lib.alloc_old _ _ _ (by simp; omega)]
    simp [World.setCell, Array.getElem?_modify, HJ.out]
  · rw [groupCells_append] at hown
    exact ownsRow_heap (ownsRow_front hown (groupCells_length G)) fun b hb => by cases hb; exact hk g hgs hgc
  · rfl
  · exact ((((Below.refl B w).setCell hB _).alloc (by simp; omega) _).alloc (by simp; omega) _)
end Go.Proofs.Ytlchbhlmbphkpaa

/- (*counter).add: all within reach is counted, the rest waits. Condition: at most 2^20 trees. -/
namespace Go.Proofs.Ytlchbhlmbphkpaa
open Go.ChangeShapes Go.WideShapes Go.ChangeAt Go.RowKit
set_option maxRecDepth 100000

theorem groupInfo : (Try.prog.info? 134).map (fun i => (i.zero, i.size, i.bytes)) = some (some (.agg #[.slice none 0 0, .int .i64 0]), 2, 32) := by kernel_rfl

/-- A group appended onto the waiting ones, as a step of a region that draws. -/
theorem step_group {ops : Array Oper} {o : Oper} {a : Act} {w : World} {K : Act → World → Prop} {Q : Exit → Act → World → Prop} {E : Prop}
    (hg : o.guard = none) (s x : Operand) (hop : o.op = Op.call { callee := Callee.builtin Builtin.append, args := #[s, x], argTypes := #[111, 111] })
    (B : Nat) (v : Value) (n : Nat) (xs : List Value) (hs : a.eval s = v) (hown : w.ownsRow B 134 2 v n xs) (ad : Addr) (sa : Option Addr) (sl sc : Nat) (d : Int) (hx : a.eval x = .slice (some ad) 1 1)
    (hnews : ∀ j u, [Value.slice sa sl sc, Value.int .i64 d][j]? = some u → w.cell? (ad.add j) = some u) (hn : n ≤ 1048576) (hB : B ≤ w.heap.size)
    (hK : ∀ v' w', w'.ownsRow B 134 2 v' (n + 1) (xs ++ [.slice sa sl sc, .int .i64 d]) → w.grownBy w' v.ownBlock → (v'.ownBlock = v.ownBlock ∨ v'.ownBlock = some w.heap.size) → K (a.put o.dst v') w') :
    if Region.wanted o (yielded ops a.tmps) = true then Oper.wp Try.prog o a w K Q else E := by
  have hw : Region.wanted o (yielded ops a.tmps) = true := by simp [Region.wanted, hg]
  rw [if_pos hw]
  obtain ⟨i0, hi, hz0, hz1, hz2⟩ := info_parts groupInfo
  obtain ⟨v', w', hr, h2, h3, _, h5⟩ := run_append_own_at (P := Try.prog) w B 111 o.type 134 i0 _ 2 32 Try.underlying111 hi hz0 hz1 hz2 rfl (by decide) v n xs hown ad 1 1 [.slice sa sl sc, .int .i64 d] rfl hnews (by intro u hu; simp at hu; rcases hu with rfl | rfl <;> rfl) (by unfold maxLen; omega) (by omega) hB
  unfold Oper.wp
  simp [execOp, hop, resolve, invoke, builtin, hs, hx, hr, Result.andThen]
  exact hK v' w' h2 h3 h5

structure CE where
  v : Value
  n : Nat
  ts : List Tr
  o : Nat

def csum (P : List CE) : Nat := (P.map fun e => cnt e.n e.ts).sum
def cmax (P : List CE) : Nat := (P.map fun e => e.o + dep e.n e.ts).foldr max 0
def grp (e : CE) : Value × Nat := (e.v, e.o + 1)

theorem csum_append (P Q : List CE) : csum (P ++ Q) = csum P + csum Q := by simp [csum]
theorem cmax_append (P Q : List CE) : cmax (P ++ Q) = max (cmax P) (cmax Q) := by
  induction P with
  | nil => simp [cmax]
  | cons e r ih =>
    have h1 : cmax (e :: r ++ Q) = max (e.o + dep e.n e.ts) (cmax (r ++ Q)) := rfl
    have h2 : cmax (e :: r) = max (e.o + dep e.n e.ts) (cmax r) := rfl
    rw [h1, h2, ih]; omega

def PendC (S : Nat → Prop) (w : World) (e : CE) : Prop := e.ts ≠ [] ∧ Trees S w e.n e.v e.ts ∧ e.o + dep e.n e.ts ≤ 1048577

structure AddP (S : Nat → Prop) (B cb : Nat) (w : World) (ds cs L : Nat) (o : Nat) (ts : List Tr) (dd cc : Nat) (wv : Value) (G : List (Value × Nat)) (w' : World) (P : List CE) (dd' cc' : Nat) (wv' : Value) : Prop where
  below : Below B w w'
  cst : Cst B cb w' dd' cc' wv' (G ++ P.map grp)
  row : wv'.ownBlock = wv.ownBlock ∨ ∃ b, wv'.ownBlock = some b ∧ w.heap.size ≤ b
  frame : ∀ b, b < w.heap.size → b ≠ cb → wv.ownBlock ≠ some b → w'.heap[b]? = w.heap[b]?
  pend : ∀ e ∈ P, PendC S w e
  dmax : max dd' (cmax P) = max dd ds
  csum : cc' + csum P = cc + cs
  more : cc ≤ cc' ∧ (0 < L → cc + ts.length ≤ cc')

def AddOk (S : Nat → Prop) (B cb L : Nat) : Prop := ∀ (n : Nat) (v : Value) (ts : List Tr) (o d dd cc : Nat) (wv : Value) (G : List (Value × Nat)) (w : World),
  d = o + 1 → (∀ b, S b → b < w.heap.size ∧ b ≠ cb ∧ wv.ownBlock ≠ some b) → Trees S w n v ts → Cst B cb w dd cc wv G → B ≤ w.heap.size → o + dep n ts ≤ 1048577 → dd ≤ 1048577 → cc + cnt n ts ≤ 1048576 → G.length + cnt n ts ≤ 1048576 →
  Calls Try.prog 87 #[.pointer (some ⟨cb, 0, none⟩), .agg #[v, .int .i64 (d : Int)], .int .i64 (L : Int)] w fun e w' => e = .returned (.tuple #[]) ∧
    ∃ P dd' cc' wv', AddP S B cb w (if ts = [] then 0 else o + dep n ts) (cnt n ts) L o ts dd cc wv G w' P dd' cc' wv'

theorem Cst.later {B cb : Nat} {w w' : World} {dd cc : Nat} {v : Value} {G : List (Value × Nat)} (h : Cst B cb w dd cc v G) (hb : Below w.heap.size w w') : Cst B cb w' dd cc v G :=
  ⟨h.base, by rw [hb.block cb h.lt]; exact h.held, ownsRow_later h.own hb, h.slices⟩

theorem add_nil (S : Nat → Prop) (B cb L n : Nat) (v : Value) (o d dd cc : Nat) (wv : Value) (G : List (Value × Nat)) (w : World) (h : Trees S w n v []) (hc : Cst B cb w dd cc wv G) (hB : B ≤ w.heap.size) :
    Calls Try.prog 87 #[.pointer (some ⟨cb, 0, none⟩), .agg #[v, .int .i64 (d : Int)], .int .i64 (L : Int)] w fun e w' => e = .returned (.tuple #[]) ∧
      ∃ P dd' cc' wv', AddP S B cb w 0 (cnt n []) L o [] dd cc wv G w' P dd' cc' wv' := by
  obtain ⟨a, c, rfl, _, _⟩ := Trees.shape n h
  simp only [List.length_nil]
  go_enter Try.func87, Try.ntmps87
  go_wp2_with fail
  go_returns
  refine ⟨rfl, [], dd, cc, wv, ?_⟩
  refine ⟨(Below.refl B w).alloc hB _, by simpa using hc.later (Below.alloc1 w _), Or.inl rfl, fun b hb _ _ => Below.heap_alloc _ _ _ hb, by simp, by simp [cmax], by simp [Go.Proofs.Ytlchbhlmbphkpaa.csum, cnt_nil], Nat.le_refl _, fun _ => by simp⟩

theorem group_cells {W : World} {ad : Nat} {x y : Value} (h0 : W.cell? ⟨ad, 0, none⟩ = some x) (h1 : W.cell? ⟨ad, 1, none⟩ = some y) : ∀ j u, [x, y][j]? = some u → W.cell? ((⟨ad, 0, none⟩ : Addr).add j) = some u := by
  intro j u hj
  match j, hj with
  | 0, hj => simp at hj; subst hj; exact h0
  | 1, hj => simp at hj; subst hj; exact h1

theorem row_slice {w : World} {B n : Nat} {e : TypeId} {size : Nat} {v : Value} {xs : List Value} (h : w.ownsRow B e size v n xs) : ∃ a l c, v = .slice a l c := by
  rcases h.2 with ⟨hv, _⟩ | ⟨g, cap, cur, hv, _⟩
  · exact ⟨_, _, _, hv⟩
  · exact ⟨_, _, _, hv⟩

theorem grown_held {B cb : Nat} {W X w1 : World} {dd cc : Nat} {wv : Value} {G : List (Value × Nat)} (h : Cst B cb W dd cc wv G) (hX : Below W.heap.size W X) (hg : X.grownBy w1 wv.ownBlock) :
    w1.heap[cb]? = some (.cells #[.int .i64 (dd : Int), .int .i64 (cc : Int), wv] 113 (0, 0)) := by
  rw [hg.block cb (Nat.lt_of_lt_of_le h.lt hX.size) (fun e => h.apart e.symm), hX.block cb h.lt]
  exact h.held

theorem add_one {S : Nat → Prop} {B cb : Nat} {w W0 w1 : World} {n o d dd cc : Nat} {ts : List Tr} {va wa a1 : Option Addr} {vc wc l1 c1 : Nat} {G : List (Value × Nat)} {c : Obj} (hd : d = o + 1) (hne : ts ≠ [])
    (hT : Trees S w n (.slice va ts.length vc) ts) (hod : o + dep n ts ≤ 1048577) (hBw : B ≤ w.heap.size) (hbx : Below w.heap.size w W0) (hX : Cst B cb W0 dd cc (.slice wa G.length wc) G)
    (hown1 : w1.ownsRow B 134 2 (.slice a1 l1 c1) (G.length + 1) (groupCells G ++ [.slice va ts.length vc, .int .i64 (d : Int)]))
    (hgr1 : (W0.alloc c).drew.grownBy w1 (Value.slice wa G.length wc).ownBlock)
    (hat1 : (Value.slice a1 l1 c1).ownBlock = (Value.slice wa G.length wc).ownBlock ∨ (Value.slice a1 l1 c1).ownBlock = some (W0.alloc c).drew.heap.size) :
    AddP S B cb w (o + dep n ts) (cnt n ts) 0 o ts dd cc (.slice wa G.length wc) G (w1.setCell ⟨cb, 2, none⟩ (.slice a1 l1 c1)) [⟨.slice va ts.length vc, n, ts, o⟩] dd cc (.slice a1 l1 c1) := by
  have hH := grown_held hX (Below.alloc1 W0 c).drew hgr1
  have hsz := hbx.size
  have hsX : (W0.alloc c).drew.heap.size = W0.heap.size + 1 := by simp [World.drew]
  have hap : (Value.slice a1 l1 c1).ownBlock ≠ some cb := by
    intro e
    obtain ⟨_, cs, fz, hc⟩ := ownsRow_type hown1 e
    rw [hH] at hc
    simp at hc
  subst hd
  refine ⟨?_, ⟨hX.base, ?_, ?_, ?_⟩, ?_, ?_, ?_, ?_, ?_, Nat.le_refl _, fun h => by omega⟩
  · exact (((((hbx.mono hBw).alloc (by omega) c).drew).grown hgr1 (by omega) (fun k hk => (hX.own.lt k hk).1))).setCell hX.base _
  · simp [World.setCell, Array.getElem?_modify, hH]
  · have e1 : (G ++ List.map grp [(⟨.slice va ts.length vc, n, ts, o⟩ : CE)]).length = G.length + 1 := by simp
    rw [e1, groupCells_append]
    exact ownsRow_heap hown1 fun b hb => Below.heap_setCell _ _ _ _ (fun e => hap (by rw [hb, e]))
  · intro x hx
    rcases List.mem_append.1 hx with hx | hx
    · exact hX.slices x hx
    · simp [grp] at hx; subst hx; exact ⟨_, _, _, rfl⟩
  · rcases hat1 with h | h
    · exact Or.inl h
    · exact Or.inr ⟨_, h, by omega⟩
  · intro b hb h1 h2
    rw [Below.heap_setCell _ _ _ _ h1, hgr1.block b (by omega) (fun e => h2 e.symm)]
    show (W0.alloc c).heap[b]? = _
    rw [Lib.alloc_old _ _ _ (by omega), hbx.block b hb]
  · intro e he
    simp at he
    subst he
    exact ⟨hne, hT, hod⟩
  · simp [cmax]
  · simp [Go.Proofs.Ytlchbhlmbphkpaa.csum]

theorem add_zero (S : Nat → Prop) (B cb : Nat) : AddOk S B cb 0 := by
  intro n v ts o d dd cc wv G w hd _ hT hC hBw hod hdd hcc hG
  have HD : Hid (d = o + 1) := hd
  by_cases hne : ts = []
  · subst hne
    simpa using add_nil S B cb 0 n v o d dd cc wv G w hT hC hBw
  · have hTo : Hid (Trees S w n v ts) := hT
    obtain ⟨va, vc, rfl, _, hvm⟩ := Trees.shape n hT
    have hl0 : 0 < ts.length := List.length_pos_iff.2 hne
    have hcn : 1 ≤ cnt n ts := by
      have := (Trees.deep n hT).len
      omega
    have hlt := hC.lt
    have hap := hC.apart
    have hne1 : ((ts.length : Int) == 0) = false := by
      have : (ts.length : Int) ≠ 0 := by omega
      simpa using this
    have hbx := Below.alloc1 w (.cells #[.slice va ts.length vc, .int .i64 (d : Int)] 134)
    have hX := hC.later hbx
    have b0 : (w.alloc (.cells #[.slice va ts.length vc, .int .i64 (d : Int)] 134)).cell? ⟨w.heap.size, 0, none⟩ = some (.slice va ts.length vc) := by simp
    have b1 : (w.alloc (.cells #[.slice va ts.length vc, .int .i64 (d : Int)] 134)).cell? ⟨w.heap.size, 1, none⟩ = some (.int .i64 (d : Int)) := by simp
    have hsz : (w.alloc (.cells #[.slice va ts.length vc, .int .i64 (d : Int)] 134)).heap.size = w.heap.size + 1 := by simp
    have HO : Hid (o + dep n ts ≤ 1048577) := hod
    clear hT hd hod hcc hdd
    unfold maxLen at hvm
    go_enter Try.func87, Try.ntmps87
    go_wp2_with fail
    generalize w.alloc (.cells #[.slice va ts.length vc, .int .i64 (d : Int)] 134) = W0 at hbx hX b0 b1 hsz ⊢
    obtain ⟨wa, wc, rfl⟩ := hC.shape
    have HS : Hid (W0.heap.size = w.heap.size + 1) := hsz
    have hB0 : B ≤ W0.heap.size := by omega
    have hszl : w.heap.size < W0.heap.size := by omega
    clear hsz
    have k2 : W0.cell? ⟨cb, 2, none⟩ = some (.slice wa G.length wc) := by rw [Lib.cell_of_heap hX.held]; rfl
    have kf : W0.frozen? ⟨cb, 2, none⟩ = false := Lib.frozen_of_heap hX.held 2
    have hcb0 : cb < W0.heap.size := hX.lt
    have HX : Hid (Cst B cb W0 dd cc (.slice wa G.length wc) G) := hX
    clear hX hC
    have hrow : (W0.alloc (.cells #[.slice va ts.length vc, .int .i64 (d : Int)] 134)).drew.ownsRow B 134 2 (.slice wa G.length wc) G.length (groupCells G) := HX.out.own.alloc _
    have hgc : ∀ j u, [Value.slice va ts.length vc, Value.int .i64 (d : Int)][j]? = some u → (W0.alloc (.cells #[.slice va ts.length vc, .int .i64 (d : Int)] 134)).drew.cell? ((⟨W0.heap.size, 0, none⟩ : Addr).add j) = some u := group_cells (W := (W0.alloc (.cells #[.slice va ts.length vc, .int .i64 (d : Int)] 134)).drew) (by simp) (by simp)
    have HR : Hid _ := hrow
    have HGC : Hid _ := hgc
    clear hrow hgc
    have hGl : G.length ≤ 1048576 := by omega
    have HH : Hid (∀ w1, (W0.alloc (.cells #[.slice va ts.length vc, .int .i64 (d : Int)] 134)).drew.grownBy w1 (Value.slice wa G.length wc).ownBlock → w1.heap[cb]? = some (.cells #[.int .i64 (dd : Int), .int .i64 (cc : Int), .slice wa G.length wc] 113 (0, 0))) := fun w1 hg => grown_held HX.out (Below.alloc1 W0 _).drew hg
    go_region_law (first
      | (refine step_group (by rfl) (.tmp 17) (.tmp 19) (by rfl) B (.slice wa G.length wc) G.length (groupCells G) (by simp [Act.eval]) HR.out ⟨W0.heap.size, 0, none⟩ va ts.length vc (d : Int) (by simp [Act.eval]) HGC.out hGl (by simp; omega) ?_; intro v1 w1 hown1 hgr1 hat1; obtain ⟨a1, l1, c1, rfl⟩ := row_slice hown1; have hj1 := Lib.cell_of_heap (HH.out w1 hgr1) 2; have hf1 := Lib.frozen_of_heap (HH.out w1 hgr1) 2; simp at hj1))
    all_goals
      go_wp2_with fail
      go_returns
      exact ⟨rfl, _, _, _, _, add_one HD.out hne hTo.out HO.out hBw hbx HX.out hown1 hgr1 hat1⟩
end Go.Proofs.Ytlchbhlmbphkpaa

