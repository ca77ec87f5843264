/- Bundled: LayM DocK DocT DocU LayB DocS Lay SizeM CountT Count. What each says stands ahead of it. -/
import Derived.Test.YtmbmfomeiioijabBundle07
import Derived.Test.YtmbmfomeiioijabBundle10
import Derived.Deep.RegionHeld3
import Derived.Test.YtmbmfomeiioijabBundle06
import Derived.Test.YtmbmfomeiioijabBundle08
import Derived.Deep.RegionLaw
import Derived.BigRegion
/- A document made of a tree, as a function; rows of nodes under way. No condition. -/
namespace Go.Proofs.Ytmbmfomeiioijab
open Go.ChangeShapes Go.WideShapes Go.ChangeAt Go.RowKit
set_option maxRecDepth 100000

/-- The numbers of kids, from a number on. -/
def startsOf (d : Nat) : Nat → List Tr → List Int
  | _, [] => []
  | at', k :: ks => (at' : Int) :: startsOf d (at' + cnt (d + 1) [k]) ks

/-- Nodes of trees beside one another, by what is known of each. -/
def laysOf (d : Nat) (g : Tr → Int → Nat → List Nd) (par : Nat) : Nat → List Tr → List Nd
  | _, [] => []
  | at', k :: ks => g k par at' ++ laysOf d g par (at' + cnt (d + 1) [k]) ks

/-- The nodes of a tree, from a number on. -/
def layF : Nat → Tr → Int → Nat → List Nd
  | 0, t, par, _ => [⟨t.text, t.s, t.attrs, par, []⟩]
  | d + 1, t, par, at' => ⟨t.text, t.s, t.attrs, par, startsOf d (at' + 1) t.kids⟩ :: laysOf d (layF d) at' (at' + 1) t.kids

theorem cnt_one (d : Nat) (t : Tr) : cnt (d + 1) [t] = 1 + cnt d t.kids := by simp [cnt]
theorem cnt_more (d : Nat) (t : Tr) (r : List Tr) : cnt (d + 1) (t :: r) = cnt (d + 1) [t] + cnt (d + 1) r := by simp [cnt]

theorem laysOf_append (d : Nat) (g : Tr → Int → Nat → List Nd) (par : Nat) : ∀ (a b : List Tr) (at' : Nat), laysOf d g par at' (a ++ b) = laysOf d g par at' a ++ laysOf d g par (at' + cnt (d + 1) a) b := by
  intro a
  induction a with
  | nil => intro b at'; simp [laysOf, cnt]
  | cons k a ih =>
    intro b at'
    rw [List.cons_append, laysOf, laysOf, ih, cnt_more d k a, List.append_assoc, Nat.add_assoc]
theorem startsOf_append (d : Nat) : ∀ (a b : List Tr) (at' : Nat), startsOf d at' (a ++ b) = startsOf d at' a ++ startsOf d (at' + cnt (d + 1) a) b := by
  intro a
  induction a with
  | nil => intro b at'; simp [startsOf, cnt]
  | cons k a ih =>
    intro b at'
    rw [List.cons_append, startsOf, startsOf, ih, cnt_more d k a, List.cons_append, Nat.add_assoc]

theorem startsOf_length (d : Nat) : ∀ (a : List Tr) (at' : Nat), (startsOf d at' a).length = a.length := by
  intro a
  induction a with
  | nil => intro _; rfl
  | cons k a ih => intro at'; simp [startsOf, ih]

theorem laysOf_length {d : Nat} {g : Tr → Int → Nat → List Nd} {par : Nat} (hg : ∀ t p a, (g t p a).length = cnt (d + 1) [t]) : ∀ (ts : List Tr) (at' : Nat), (laysOf d g par at' ts).length = cnt (d + 1) ts := by
  intro ts
  induction ts with
  | nil => intro _; rfl
  | cons k ts ih => intro at'; rw [laysOf, List.length_append, hg, ih, cnt_more d k ts]

theorem layF_length : ∀ (d : Nat) (t : Tr) (par : Int) (at' : Nat), Deep d t.kids → (layF d t par at').length = cnt (d + 1) [t] := by
  intro d
  induction d with
  | zero =>
    intro t par at' h
    have : t.kids = [] := h
    rw [cnt_one, this]
    rfl
  | succ d ih =>
    intro t par at' h
    rw [layF, List.length_cons, cnt_one]
    have : ∀ (ts : List Tr) (a : Nat), Deep (d + 1) ts → (laysOf d (layF d) at' a ts).length = cnt (d + 1) ts := by
      intro ts
      induction ts with
      | nil => intro _ _; rfl
      | cons k ts ih2 =>
        intro a hd
        rw [laysOf, List.length_append, ih k _ _ (hd k List.mem_cons_self), ih2 _ (fun u hu => hd u (List.mem_cons_of_mem _ hu)), cnt_more d k ts]
    rw [this t.kids (at' + 1) h]
    omega

structure Rw where
  text : Bool
  s : ByteArray
  va : Value
  par : Int
  vk : Value

def rawCells : List Rw → List Value
  | [] => []
  | r :: l => .bool r.text :: .string r.s :: r.va :: .int .i64 r.par :: r.vk :: rawCells l

theorem rawCells_length (l : List Rw) : (rawCells l).length = l.length * 5 := by
  induction l with
  | nil => rfl
  | cons x r ih => simp [rawCells, ih]; omega

theorem rawCells_get (l : List Rw) : ∀ i r, l[i]? = some r → (rawCells l)[i * 5]? = some (.bool r.text) ∧ (rawCells l)[i * 5 + 1]? = some (.string r.s) ∧ (rawCells l)[i * 5 + 2]? = some r.va ∧ (rawCells l)[i * 5 + 3]? = some (.int .i64 r.par) ∧ (rawCells l)[i * 5 + 4]? = some r.vk := by
  induction l with
  | nil => intro i x h; simp at h
  | cons y r ih =>
    intro i x h
    cases i with
    | zero => simp at h; subst h; simp [rawCells]
    | succ i =>
      have := ih i x (by simpa using h)
      rw [show (i + 1) * 5 = i * 5 + 5 from by omega]
      simpa [rawCells] using this

theorem rawCells_set (l : List Rw) : ∀ (i : Nat) (r : Rw), i < l.length → rawCells (l.set i r) = (((((rawCells l).set (i * 5) (.bool r.text)).set (i * 5 + 1) (.string r.s)).set (i * 5 + 2) r.va).set (i * 5 + 3) (.int .i64 r.par)).set (i * 5 + 4) r.vk := by
  induction l with
  | nil => intro i r h; simp at h
  | cons y l ih =>
    intro i r h
    cases i with
    | zero => simp [rawCells]
    | succ i =>
      rw [List.set_cons_succ, rawCells, ih i r (by simpa using h), show (i + 1) * 5 = i * 5 + 5 from by omega, rawCells]
      rfl

theorem rawCells_setK (l : List Rw) : ∀ (i : Nat) (r : Rw) (v : Value), l[i]? = some r → rawCells (l.set i { r with vk := v }) = (rawCells l).set (i * 5 + 4) v := by
  induction l with
  | nil => intro i r v h; simp at h
  | cons y l ih =>
    intro i r v h
    cases i with
    | zero => simp at h; subst h; simp [rawCells]
    | succ i =>
      rw [List.set_cons_succ, rawCells, ih i r v (by simpa using h), show (i + 1) * 5 = i * 5 + 5 from by omega, rawCells]
      rfl

/-- A row of nodes under way. -/
def Row (nb : Nat) (ms : List Rw) (w : World) : Prop := w.heap[nb]? = some (.cells (rawCells ms).toArray 40 (0, 0))

theorem Row.cells {nb : Nat} {ms : List Rw} {w : World} (h : Row nb ms w) {i : Nat} {r : Rw} (hr : ms[i]? = some r) : w.cell? ⟨nb, i * 5, none⟩ = some (.bool r.text) ∧ w.cell? ⟨nb, i * 5 + 1, none⟩ = some (.string r.s) ∧ w.cell? ⟨nb, i * 5 + 2, none⟩ = some r.va ∧ w.cell? ⟨nb, i * 5 + 3, none⟩ = some (.int .i64 r.par) ∧ w.cell? ⟨nb, i * 5 + 4, none⟩ = some r.vk := by
  obtain ⟨g0, g1, g2, g3, g4⟩ := rawCells_get ms i r hr
  refine ⟨?_, ?_, ?_, ?_, ?_⟩ <;> rw [Lib.cell_of_heap h] <;> simpa

theorem Row.frozen {nb : Nat} {ms : List Rw} {w : World} (h : Row nb ms w) (k : Nat) : w.frozen? ⟨nb, k, none⟩ = false := Lib.frozen_of_heap h k

theorem Row.set1 {nb : Nat} {cs : List Value} {w : World} {e : TypeId} (h : w.heap[nb]? = some (.cells cs.toArray e (0, 0))) (k : Nat) (v : Value) : (w.setCell ⟨nb, k, none⟩ v).heap[nb]? = some (.cells (cs.set k v).toArray e (0, 0)) := by
  simp [World.setCell, Array.getElem?_modify, h]

theorem Row.put {nb : Nat} {ms : List Rw} {w : World} (h : Row nb ms w) {i : Nat} (hi : i < ms.length) (r : Rw) : Row nb (ms.set i r) (((((w.setCell ⟨nb, i * 5, none⟩ (.bool r.text)).setCell ⟨nb, i * 5 + 1, none⟩ (.string r.s)).setCell ⟨nb, i * 5 + 2, none⟩ r.va).setCell ⟨nb, i * 5 + 3, none⟩ (.int .i64 r.par)).setCell ⟨nb, i * 5 + 4, none⟩ r.vk) := by
  unfold Row
  rw [rawCells_set ms i r hi]
  exact Row.set1 (Row.set1 (Row.set1 (Row.set1 (Row.set1 h _ _) _ _) _ _) _ _) _ _

theorem Row.putK {nb : Nat} {ms : List Rw} {w : World} (h : Row nb ms w) {i : Nat} {r : Rw} (hr : ms[i]? = some r) (v : Value) : Row nb (ms.set i { r with vk := v }) (w.setCell ⟨nb, i * 5 + 4, none⟩ v) := by
  unfold Row
  rw [rawCells_setK ms i r v hr]
  exact Row.set1 h _ _

/-- A node under way is a node. -/
def RawIs (S : Nat → Prop) (w : World) (r : Rw) (x : Nd) : Prop := r.text = x.text ∧ r.s = x.s ∧ r.par = x.parent ∧ Attrs S w r.va x.attrs ∧ Ints S w r.vk x.kids

def Laid (S : Nat → Prop) (w : World) (ms : List Rw) (at' : Nat) (L : List Nd) : Prop := ∀ (i : Nat) (x : Nd), L[i]? = some x → ∃ r, ms[at' + i]? = some r ∧ RawIs S w r x

theorem RawIs.carry {S S' : Nat → Prop} {w w' : World} {r : Rw} {x : Nd} (h : RawIs S w r x) (hw : ∀ b, S b → S' b ∧ w'.heap[b]? = w.heap[b]?) : RawIs S' w' r x :=
  ⟨h.1, h.2.1, h.2.2.1, h.2.2.2.1.carry hw, h.2.2.2.2.carry hw⟩

theorem RawIs.bounded {S : Nat → Prop} {w : World} {r : Rw} {x : Nd} (h : RawIs S w r x) : RawIs (fun b => S b ∧ b < w.heap.size) w r x :=
  ⟨h.1, h.2.1, h.2.2.1, h.2.2.2.1.bounded, h.2.2.2.2.bounded⟩

theorem Laid.carry {S S' : Nat → Prop} {w w' : World} {ms ms' : List Rw} {at' : Nat} {L : List Nd} (h : Laid S w ms at' L) (hw : ∀ b, S b → b < w.heap.size → S' b ∧ w'.heap[b]? = w.heap[b]?) (hm : ∀ i, at' ≤ i → i < at' + L.length → ms'[i]? = ms[i]?) : Laid S' w' ms' at' L := by
  intro i x hx
  obtain ⟨r, hr, hR⟩ := h i x hx
  have hi : i < L.length := by
    rcases Nat.lt_or_ge i L.length with h' | h'
    · exact h'
    · rw [List.getElem?_eq_none h'] at hx; cases hx
  exact ⟨r, by rw [hm _ (by omega) (by omega)]; exact hr, hR.bounded.carry fun b hb => hw b hb.1 hb.2⟩

theorem Laid.append {S : Nat → Prop} {w : World} {ms : List Rw} {at' : Nat} {L M : List Nd} (h : Laid S w ms at' L) (k : Laid S w ms (at' + L.length) M) : Laid S w ms at' (L ++ M) := by
  intro i x hx
  rcases Nat.lt_or_ge i L.length with h' | h'
  · rw [List.getElem?_append_left h'] at hx; exact h i x hx
  · rw [List.getElem?_append_right h'] at hx
    obtain ⟨r, hr, hR⟩ := k (i - L.length) x hx
    exact ⟨r, by rw [show at' + i = at' + L.length + (i - L.length) by omega]; exact hr, hR⟩

/-- What a call leaves alone that writes into two older blocks alone. -/
structure LFr (nb cb : Nat) (w w' : World) : Prop where
  below : Below 0 w w'
  frame : ∀ x, x < w.heap.size → x ≠ nb → x ≠ cb → w'.heap[x]? = w.heap[x]?

theorem LFr.refl (nb cb : Nat) (w : World) : LFr nb cb w w := ⟨Below.refl _ _, fun _ _ _ _ => rfl⟩
theorem LFr.trans {nb cb : Nat} {w w1 w2 : World} (h : LFr nb cb w w1) (k : LFr nb cb w1 w2) : LFr nb cb w w2 :=
  ⟨h.below.trans k.below, fun x hx h1 h2 => by rw [k.frame x (Nat.lt_of_lt_of_le hx h.below.size) h1 h2, h.frame x hx h1 h2]⟩
theorem LFr.later {nb cb : Nat} {w w' : World} (h : Below w.heap.size w w') : LFr nb cb w w' := ⟨h.mono (Nat.zero_le _), fun x hx _ _ => h.block x hx⟩
theorem LFr.putN (nb cb : Nat) (w : World) (k : Nat) (v : Value) : LFr nb cb w (w.setCell ⟨nb, k, none⟩ v) := ⟨(Below.refl 0 w).setCell (Nat.zero_le _) _, fun _ _ h1 _ => Below.heap_setCell _ _ _ _ h1⟩
theorem LFr.putC (nb cb : Nat) (w : World) (k : Nat) (v : Value) : LFr nb cb w (w.setCell ⟨cb, k, none⟩ v) := ⟨(Below.refl 0 w).setCell (Nat.zero_le _) _, fun _ _ _ h2 => Below.heap_setCell _ _ _ _ h2⟩

/-- Not too many attributes, however deep. -/
def FewN : Nat → List Tr → Prop
  | 0, _ => True
  | n + 1, ts => ∀ t ∈ ts, t.attrs.length ≤ 1048576 ∧ FewN n t.kids
end Go.Proofs.Ytmbmfomeiioijab

/- Documents in order: their kids are later nodes, their texts are as short as the nodes' are. No condition. -/
namespace Go.Proofs.Ytmbmfomeiioijab
open Go.RowKit
set_option maxRecDepth 100000

def KidsAt (ns : List Nd) (i : Nat) : Prop := ∀ x, ns[i]? = some x → x.kids.length ≤ ns.length ∧ ∀ k ∈ x.kids, (i : Int) < k ∧ k < ns.length

/-- What nodes in order, from a number on, are known to be. -/
def InSeg (ns : List Nd) (a b : Nat) : Prop := a ≤ b ∧ b ≤ ns.length ∧ ∀ i, a ≤ i → i < b → KidsAt ns i

theorem ordKids_seg {ns : List Nd} {G : Nat → Bool × Nat} (hG : ∀ m, (G m).1 = true → m < (G m).2 ∧ InSeg ns m (G m).2) :
    ∀ (ks : List Int) (m : Nat), m ≤ ns.length → (ordKids G ks m).1 = true → InSeg ns m (ordKids G ks m).2 ∧ ks.length + m ≤ (ordKids G ks m).2 ∧ ∀ k ∈ ks, (m : Int) ≤ k ∧ k < (ordKids G ks m).2 := by
  intro ks
  induction ks with
  | nil => intro m hm _; exact ⟨⟨Nat.le_refl _, hm, fun i h1 h2 => absurd h1 (by have : i < m := h2; omega)⟩, by simp [ordKids], by intro k hk; simp at hk⟩
  | cons k ks ih =>
    intro m _ h
    unfold ordKids at h ⊢
    by_cases hc : k = (m : Int) ∧ (G m).1 = true
    · rw [if_pos hc] at h ⊢
      obtain ⟨h1, h2, h3, h4⟩ := hG m hc.2
      obtain ⟨⟨k1, k2, k3⟩, k4, k5⟩ := ih (G m).2 h3 h
      refine ⟨⟨by omega, k2, fun i hi1 hi2 => ?_⟩, by simp; omega, fun k' hk' => ?_⟩
      · rcases Nat.lt_or_ge i (G m).2 with h' | h'
        · exact h4 i hi1 h'
        · exact k3 i h' hi2
      · rw [List.mem_cons] at hk'
        rcases hk' with rfl | hk'
        · rw [hc.1]; omega
        · have := k5 k' hk'; omega
    · rw [if_neg hc] at h; simp at h

theorem ordF_seg : ∀ (f : Nat) (ns : List Nd) (par : Int) (nx : Nat), (ordF f ns par nx).1 = true → nx < (ordF f ns par nx).2 ∧ InSeg ns nx (ordF f ns par nx).2 := by
  intro f
  induction f with
  | zero => intro ns par nx h; simp [ordF] at h
  | succ f ih =>
    intro ns par nx h
    unfold ordF at h ⊢
    cases hx : ns[nx]? with
    | none => simp [hx] at h
    | some x =>
      simp only [hx] at h ⊢
      have hlt : nx < ns.length := by
        rcases Nat.lt_or_ge nx ns.length with h' | h'
        · exact h'
        · rw [List.getElem?_eq_none h'] at hx; cases hx
      by_cases hp : x.parent = par
      · rw [if_pos hp] at h ⊢
        obtain ⟨⟨k1, k2, k3⟩, k4, k5⟩ := ordKids_seg (fun m hm => ih ns nx m hm) x.kids (nx + 1) (by omega) h
        refine ⟨by omega, by omega, k2, fun i hi1 hi2 => ?_⟩
        rcases Nat.lt_or_ge nx i with h' | h'
        · exact k3 i h' hi2
        · have : i = nx := by omega
          subst this
          intro y hy
          rw [hx] at hy
          cases hy
          refine ⟨by omega, fun k hk => ?_⟩
          have := k5 k hk
          omega
      · rw [if_neg hp] at h; simp at h

/-- A document in order has kids that are later nodes. -/
theorem ord_kidsIn {f : Nat} {ns : List Nd} (h : ordF f ns (-1) 0 = (true, ns.length)) (hl : ns.length ≤ 80) (ha : ∀ x ∈ ns, x.attrs.length ≤ 4398046511104) : KidsIn ns := by
  have h1 := ordF_seg f ns (-1) 0 (by rw [h])
  rw [h] at h1
  intro n x hx
  have hlt : n < ns.length := by
    rcases Nat.lt_or_ge n ns.length with h' | h'
    · exact h'
    · rw [List.getElem?_eq_none h'] at hx; cases hx
  obtain ⟨k1, k2⟩ := h1.2.2.2 n (Nat.zero_le _) hlt x hx
  exact ⟨ha x (List.mem_of_getElem? hx), by omega, k2⟩

def TextsD (ns : List Nd) : Prop := ∀ x ∈ ns, x.s.size ≤ maxLen ∧ ∀ y ∈ x.attrs, y.1.size ≤ maxLen ∧ y.2.size ≤ maxLen

theorem grow_texts {ns : List Nd} (h : TextsD ns) : ∀ (f n : Nat), Texts (growF f ns n) ∧ TextsN f (growF f ns n).kids := by
  intro f
  induction f with
  | zero => intro n; exact ⟨⟨Nat.zero_le _, by intro y hy; simp [growF] at hy⟩, trivial⟩
  | succ f ih =>
    intro n
    rw [growF]
    cases hx : ns[n]? with
    | none => exact ⟨⟨Nat.zero_le _, by intro y hy; simp at hy⟩, by intro t ht; simp at ht⟩
    | some x =>
      refine ⟨h x (List.mem_of_getElem? hx), fun t ht => ?_⟩
      simp only [List.mem_map] at ht
      obtain ⟨k, _, rfl⟩ := ht
      exact ih _
end Go.Proofs.Ytmbmfomeiioijab

/- doc.Good, for every document whose texts are no longer than a text may be. Condition: at most 2^20 attributes of a node. -/
namespace Go.Proofs.Ytmbmfomeiioijab
open Go.ChangeShapes Go.WideShapes Go.ChangeAt Go.RowKit
set_option maxRecDepth 100000

attribute [local go_sem] cell_set

def orderly (ns : List Nd) : Bool := (ordF (ns.length + 1) ns (-1) 0).1 && decide ((ordF (ns.length + 1) ns (-1) 0).2 = ns.length)

/-- What doc.Good answers. -/
def goodD (ns : List Nd) : Bool := decide (ns.length ≤ 80) && orderly ns && goodB (growF ns.length ns 0)

theorem orderly_eq {ns : List Nd} (h : orderly ns = true) : ordF (ns.length + 1) ns (-1) 0 = (true, ns.length) := by
  simp only [orderly, Bool.and_eq_true, decide_eq_true_eq] at h
  exact Prod.ext h.1 h.2

theorem orderly_ne {ns : List Nd} (h : orderly ns = true) : 0 < ns.length := by
  have h1 := ordF_seg (ns.length + 1) ns (-1) 0 (by rw [orderly_eq h])
  rw [orderly_eq h] at h1
  exact h1.1

set_option maxHeartbeats 1000000 in
theorem goodD_any (S : Nat → Prop) (v : Value) (ns : List Nd) (w : World) (hN : Nodes S w v ns) (hS : ∀ b, S b → b < w.heap.size) (ha : ∀ x ∈ ns, x.attrs.length ≤ 4398046511104) (hx : TextsD ns) :
    Calls Try.prog 4 #[.agg #[v]] w fun e w' => e = .returned (.bool (goodD ns)) ∧ Below w.heap.size w w' := by
  obtain ⟨a, cap, rfl, hlc, hcm⟩ := hN.shape
  unfold maxLen at hcm
  have HG : Hid (goodD ns = (decide (ns.length ≤ 80) && orderly ns && goodB (growF ns.length ns 0))) := rfl
  by_cases h80 : ns.length ≤ 80
  · have hi80 : ¬ (80 : Int) < (ns.length : Int) := by omega
    have HG2 : Hid (goodD ns = (orderly ns && goodB (growF ns.length ns 0))) := by show _ = _; rw [HG.out]; simp [h80]
    clear HG
    have hb2 : Below w.heap.size w ((w.alloc (.cells #[.slice a ns.length cap] 24)).alloc (.cells #[.int .i64 0] 3)) := (Below.alloc1 w _).alloc (by simp) _
    have hC2 : Cnt (w.heap.size + 1) 0 ((w.alloc (.cells #[.slice a ns.length cap] 24)).alloc (.cells #[.int .i64 0] 3)) := by
      have e := heap_alloc_new (w.alloc (.cells #[.slice a ns.length cap] 24)) (.cells #[.int .i64 0] 3)
      rw [World.size_alloc] at e
      exact e
    have hx2 : ((w.alloc (.cells #[.slice a ns.length cap] 24)).alloc (.cells #[.int .i64 0] 3)).heap[w.heap.size]? = some (.cells #[.slice a ns.length cap] 24 (0, 0)) := by
      rw [Lib.alloc_old _ _ _ (by simp)]; exact heap_alloc_new _ _
    have HO : Hid _ := ord_any (ns.length + 1) S _ ns (-1) (w.heap.size + 1) 0 _ (hN.later hb2) (fun b hb => by have := hS b hb; omega) hC2 h80 (by omega)
    have HN : Hid (Nodes S w (.slice a ns.length cap) ns) := hN
    have HA : Hid (∀ x ∈ ns, x.attrs.length ≤ 4398046511104) := ha
    have HX : Hid (TextsD ns) := hx
    have HS : Hid (∀ b, S b → b < w.heap.size) := hS
    have HOR : Hid (orderly ns = ((ordF (ns.length + 1) ns (-1) 0).1 && decide ((ordF (ns.length + 1) ns (-1) 0).2 = ns.length))) := rfl
    clear hN hC2 ha hx hS
    go_enter Try.func4, Try.ntmps4
    go_wp2_with fail
    refine (Calls.mono HO.out ?_)
    rintro e w3 ⟨rfl, hC3, hF3⟩
    have hx3 : w3.heap[w.heap.size]? = some (.cells #[.slice a ns.length cap] 24 (0, 0)) := by
      rw [hF3.frame w.heap.size (by simp; omega) (by omega)]; exact hx2
    have hB3 : Below w.heap.size w w3 := ⟨hF3.below.os.trans hb2.os, hF3.below.tape.trans hb2.tape, hF3.below.output.trans hb2.output, Nat.le_trans hb2.size hF3.below.size, fun k hk => by rw [hF3.frame k (by simp; omega) (by omega)]; exact hb2.block k hk⟩
    have d0 : w3.cell? ⟨w.heap.size, 0, none⟩ = some (.slice a ns.length cap) := by rw [Lib.cell_of_heap hx3]; rfl
    have e0 := hC3.c0
    have hlt3 := blk_lt hx3
    clear HO hb2 hx2 hF3
    obtain ⟨q, hq⟩ : ∃ q, ordF (ns.length + 1) ns (-1) 0 = q := ⟨_, rfl⟩
    rw [hq] at HOR e0 hC3 ⊢
    have HQ : Hid (ordF (ns.length + 1) ns (-1) 0 = q) := hq
    clear hq
    obtain ⟨q1, q2⟩ := q
    simp only at HOR e0 hC3 ⊢
    cases q1 with
    | false =>
      have HE : Hid (goodD ns = false) := by show _ = _; rw [HG2.out, HOR.out]; rfl
      clear HG2 HOR
      go_wp2_with fail
      go_ret
      exact ⟨by rw [HE.out]; rfl, hB3⟩
    | true =>
      by_cases hql : q2 = ns.length
      · have hne : ((q2 : Int) != (ns.length : Int)) = false := by simp [hql]
        have hor : orderly ns = true := by rw [HOR.out, hql]; simp
        have HE : Hid (goodD ns = goodB (growF ns.length ns 0)) := by show _ = _; rw [HG2.out, hor]; rfl
        have hpos := orderly_ne hor
        have HGR : Hid _ := grown_any ns.length S _ ns 0 w3 (HN.out.later hB3) (ord_kidsIn (orderly_eq hor) h80 HA.out) hpos (by omega)
        have HTX : Hid (TextsN (ns.length + 1) [growF ns.length ns 0]) := by
          intro t ht
          simp only [List.mem_singleton] at ht
          subst ht
          exact grow_texts HX.out _ _
        clear HG2 HOR hor hql
        go_wp2_with fail
        refine (Calls.mono HGR.out ?_)
        rintro e w4 ⟨va4, vk4, rfl, hA4, hK4, hb4⟩
        have hB4 : Below w.heap.size w w4 := hB3.trans (hb4.mono hB3.size)
        have HGD : Hid _ := good_any _ ns.length _ _ (growF ns.length ns 0) w4 hA4 hK4 HTX.out
        obtain ⟨aa, ac, rfl⟩ := hA4.shape
        obtain ⟨ka, kc, rfl, _, _⟩ := Trees.shape ns.length hK4
        clear hA4 hK4 HGR
        go_wp2_with fail
        refine (Calls.mono HGD.out ?_)
        rintro e w5 ⟨rfl, hb5⟩
        have hB5 : Below w.heap.size w w5 := hB4.trans (hb5.mono hB4.size)
        go_wp2_with fail
        go_ret
        exact ⟨by rw [HE.out]; rfl, hB5⟩
      · have hne : ((q2 : Int) != (ns.length : Int)) = true := by simp; omega
        have HE : Hid (goodD ns = false) := by show _ = _; rw [HG2.out, HOR.out]; simp [hql]
        clear HG2 HOR hql
        go_wp2_with fail
        go_ret
        exact ⟨by rw [HE.out]; rfl, hB3⟩
  · have hi80 : (80 : Int) < (ns.length : Int) := by omega
    have HE : Hid (goodD ns = false) := by show _ = _; rw [HG.out]; simp [h80]
    clear HG hN
    go_enter Try.func4, Try.ntmps4
    go_wp2_with fail
    go_ret
    exact ⟨by rw [HE.out]; rfl, Below.alloc1 _ _⟩
end Go.Proofs.Ytmbmfomeiioijab

/- doc.Tree, doc.End and doc.In, for every document whose texts are no longer than a text may be. Condition: at most 2^20 attributes of a node. -/
namespace Go.Proofs.Ytmbmfomeiioijab
open Go.ChangeShapes Go.WideShapes Go.ChangeAt Go.RowKit
set_option maxRecDepth 100000

attribute [local go_sem] cell_set

/-- A document as a value, its nodes in blocks that are there; texts and attributes of a size that can be read. -/
structure DocV (S : Nat → Prop) (w : World) (v : Value) (ns : List Nd) : Prop where
  nodes : Nodes S w v ns
  here : ∀ b, S b → b < w.heap.size
  few : ∀ x ∈ ns, x.attrs.length ≤ 4398046511104
  short : TextsD ns

theorem DocV.later {S : Nat → Prop} {w w' : World} {v : Value} {ns : List Nd} (h : DocV S w v ns) (hb : Below w.heap.size w w') : DocV S w' v ns :=
  ⟨h.nodes.later hb, fun b hb' => Nat.lt_of_lt_of_le (h.here b hb') hb.size, h.few, h.short⟩

theorem DocV.good {S : Nat → Prop} {w : World} {v : Value} {ns : List Nd} (h : DocV S w v ns) : Calls Try.prog 4 #[.agg #[v]] w fun e w' => e = .returned (.bool (goodD ns)) ∧ Below w.heap.size w w' :=
  goodD_any S v ns w h.nodes h.here h.few h.short

theorem goodD_kids {S : Nat → Prop} {w : World} {v : Value} {ns : List Nd} (h : DocV S w v ns) (hg : goodD ns = true) : KidsIn ns := by
  simp only [goodD, Bool.and_eq_true, decide_eq_true_eq] at hg
  exact ord_kidsIn (orderly_eq hg.1.2) hg.1.1 h.few

def amongB (ns : List Nd) (n : Int) : Bool := decide (0 ≤ n) && decide (n < ns.length)

def noTr : Tr := ⟨false, ⟨#[]⟩, [], []⟩

/-- What doc.Tree answers. -/
def treeD (ns : List Nd) (n : Int) : Tr × Int := if goodD ns then (if amongB ns n then (growF ns.length ns n.toNat, 0) else (noTr, 3)) else (noTr, 1)
/-- What doc.End answers. -/
def endD (ns : List Nd) (n : Int) : Int := if goodD ns && amongB ns n then (lastF ns.length ns n.toNat : Int) + 1 else 0
/-- What doc.In answers. -/
def inD (ns : List Nd) (n m : Int) : Bool := decide (0 < endD ns m) && decide (m ≤ n) && decide (n < endD ns m)

theorem lastF_lt {ns : List Nd} (hK : KidsIn ns) : ∀ (f n : Nat), n < ns.length → lastF f ns n < ns.length := by
  intro f
  induction f with
  | zero => intro n hn; exact hn
  | succ f ih =>
    intro n hn
    rw [lastF]
    cases hx : ns[n]? with
    | none => exact hn
    | some x =>
      simp only
      cases hl : x.kids.getLast? with
      | none => exact hn
      | some k =>
        have hm : k ∈ x.kids := List.mem_of_getLast? hl
        have := (hK n x hx).2.2 k hm
        exact ih _ (by omega)

theorem lastF_ge {ns : List Nd} (hK : KidsIn ns) : ∀ (f n : Nat), n ≤ lastF f ns n := by
  intro f
  induction f with
  | zero => intro n; exact Nat.le_refl _
  | succ f ih =>
    intro n
    rw [lastF]
    cases hx : ns[n]? with
    | none => exact Nat.le_refl _
    | some x =>
      simp only
      cases hl : x.kids.getLast? with
      | none => exact Nat.le_refl _
      | some k =>
        have := (hK n x hx).2.2 k (List.mem_of_getLast? hl)
        have := ih k.toNat
        simp only
        omega

set_option maxHeartbeats 1000000 in
theorem endD_any (S : Nat → Prop) (v : Value) (ns : List Nd) (n : Int) (w : World) (h : DocV S w v ns) :
    Calls Try.prog 7 #[.agg #[v], .int .i64 n] w fun e w' => e = .returned (.int .i64 (endD ns n)) ∧ Below w.heap.size w w' := by
  have hb1 := Below.alloc1 w (.cells #[v] 24)
  have hx1 := heap_alloc_new w (.cells #[v] 24)
  have H : Hid (DocV S w v ns) := h
  have HG : Hid _ := (h.later hb1).good
  have HE : Hid (endD ns n = if goodD ns && amongB ns n then (lastF ns.length ns n.toNat : Int) + 1 else 0) := rfl
  obtain ⟨a, cap, rfl, hlc, hcm⟩ := h.nodes.shape
  unfold maxLen at hcm
  clear h
  go_enter Try.func7, Try.ntmps7
  go_wp2_with fail
  refine (Calls.mono HG.out ?_)
  rintro e w2 ⟨rfl, hb2⟩
  have hx2 := (hb2.block _ (blk_lt hx1)).trans hx1
  have hB2 : Below w.heap.size w w2 := hb1.trans (hb2.mono hb1.size)
  have d0 : w2.cell? ⟨w.heap.size, 0, none⟩ = some (.slice a ns.length cap) := by rw [Lib.cell_of_heap hx2]; rfl
  clear HG hb1 hx1 hb2
  obtain ⟨q, hq⟩ : ∃ q, goodD ns = q := ⟨_, rfl⟩
  rw [hq]
  cases q with
  | false =>
    have HE2 : Hid (endD ns n = 0) := by show _ = _; rw [HE.out, hq]; rfl
    clear HE hq
    go_wp2_with fail
    go_ret
    exact ⟨by rw [HE2.out]; rfl, hB2⟩
  | true =>
    have HA : Hid _ := among_any S _ ns n w2 (H.out.later hB2).nodes
    have HE2 : Hid (endD ns n = if amongB ns n then (lastF ns.length ns n.toNat : Int) + 1 else 0) := by show _ = _; rw [HE.out, hq]; simp
    have HKI : Hid (KidsIn ns) := goodD_kids H.out hq
    have h80 : ns.length ≤ 80 := by simp only [goodD, Bool.and_eq_true, decide_eq_true_eq] at hq; exact hq.1.1
    clear HE hq
    have HAB : Hid (amongB ns n = (decide (0 ≤ n) && decide (n < ns.length))) := rfl
    rw [show (decide (0 ≤ n) && decide (n < (ns.length : Int))) = amongB ns n from rfl] at HA
    obtain ⟨q2, hq2⟩ : ∃ q, amongB ns n = q := ⟨_, rfl⟩
    rw [hq2] at HA HE2 HAB
    clear hq2
    cases q2 with
    | false =>
      have HE3 : Hid (endD ns n = 0) := by show _ = _; rw [HE2.out]; rfl
      clear HE2
      go_wp2_with fail
      refine (Calls.mono HA.out ?_)
      rintro e w3 ⟨rfl, rfl⟩
      go_wp2_with fail
      go_ret
      exact ⟨by rw [HE3.out]; rfl, hB2⟩
    | true =>
      have hr := HAB.out.symm
      simp only [Bool.and_eq_true, decide_eq_true_eq] at hr
      obtain ⟨m, rfl⟩ : ∃ m : Nat, n = (m : Int) := ⟨n.toNat, by omega⟩
      have HE3 : Hid (endD ns (m : Int) = (lastF ns.length ns m : Int) + 1) := by show _ = _; rw [HE2.out]; rfl
      have HLI : Hid _ := lastIn_any S _ ns m w2 (H.out.later hB2).nodes HKI.out (by omega)
      have hlt := lastF_lt HKI.out ns.length m (by omega)
      obtain ⟨l, hl⟩ : ∃ l, lastF ns.length ns m = l := ⟨_, rfl⟩
      rw [hl] at HE3 HLI hlt
      clear HE2 hl HAB hr
      go_wp2_with fail
      refine (Calls.mono HA.out ?_)
      rintro e w3 ⟨rfl, rfl⟩
      go_wp2_with fail
      refine (Calls.mono HLI.out ?_)
      rintro e w3 ⟨rfl, rfl⟩
      go_wp2_with fail
      go_ret
      exact ⟨by rw [HE3.out]; rfl, hB2⟩

theorem inD_any (S : Nat → Prop) (v : Value) (ns : List Nd) (n m : Int) (w : World) (h : DocV S w v ns) :
    Calls Try.prog 6 #[.agg #[v], .int .i64 n, .int .i64 m] w fun e w' => e = .returned (.bool (inD ns n m)) ∧ Below w.heap.size w w' := by
  have hb1 := Below.alloc1 w (.cells #[v] 24)
  have HG : Hid _ := endD_any S v ns m _ (h.later hb1)
  have HI : Hid (inD ns n m = (decide (0 < endD ns m) && decide (m ≤ n) && decide (n < endD ns m))) := rfl
  obtain ⟨a, cap, rfl, _, _⟩ := h.nodes.shape
  clear h
  obtain ⟨l, hl⟩ : ∃ l, endD ns m = l := ⟨_, rfl⟩
  rw [hl] at HG HI
  clear hl
  go_enter Try.func6, Try.ntmps6
  go_wp2_with fail
  refine (Calls.mono HG.out ?_)
  rintro e w2 ⟨rfl, hb2⟩
  have hB2 : Below w.heap.size w w2 := hb1.trans (hb2.mono hb1.size)
  clear hb1 hb2 HG
  by_cases h1 : 0 < l
  · by_cases h2 : m ≤ n
    · have HI2 : Hid (inD ns n m = decide (n < l)) := by show _ = _; rw [HI.out]; simp [h1, h2]
      clear HI
      go_wp2_with fail
      go_ret
      exact ⟨by rw [HI2.out]; rfl, hB2⟩
    · have HI2 : Hid (inD ns n m = false) := by show _ = _; rw [HI.out]; simp [h2]
      clear HI
      go_wp2_with fail
      go_ret
      exact ⟨by rw [HI2.out]; rfl, hB2⟩
  · have HI2 : Hid (inD ns n m = false) := by show _ = _; rw [HI.out]; simp [h1]
    clear HI
    go_wp2_with fail
    go_ret
    exact ⟨by rw [HI2.out]; rfl, hB2⟩

set_option maxHeartbeats 1000000 in
theorem treeD_any (S : Nat → Prop) (v : Value) (ns : List Nd) (n : Int) (w : World) (h : DocV S w v ns) :
    Calls Try.prog 8 #[.agg #[v], .int .i64 n] w fun e w' => ∃ va vk, e = .returned (.tuple #[.agg #[.bool (treeD ns n).1.text, .string (treeD ns n).1.s, va, vk], .int .i64 (treeD ns n).2]) ∧
      Attrs (fun b => w.heap.size ≤ b) w' va (treeD ns n).1.attrs ∧ Trees (fun b => w.heap.size ≤ b) w' ns.length vk (treeD ns n).1.kids ∧ Below w.heap.size w w' := by
  have hb1 : Below w.heap.size w ((w.alloc (.cells #[v] 24)).alloc (.cells #[.bool false, .string ⟨#[]⟩, .slice none 0 0, .slice none 0 0] 32)) := (Below.alloc1 w _).alloc (by simp) _
  have hx1 : ((w.alloc (.cells #[v] 24)).alloc (.cells #[.bool false, .string ⟨#[]⟩, .slice none 0 0, .slice none 0 0] 32)).heap[w.heap.size]? = some (.cells #[v] 24 (0, 0)) := by
    rw [Lib.alloc_old _ _ _ (by simp)]; exact heap_alloc_new _ _
  have hy1 : ((w.alloc (.cells #[v] 24)).alloc (.cells #[.bool false, .string ⟨#[]⟩, .slice none 0 0, .slice none 0 0] 32)).heap[w.heap.size + 1]? = some (.cells #[.bool false, .string ⟨#[]⟩, .slice none 0 0, .slice none 0 0] 32 (0, 0)) := by
    have e := heap_alloc_new (w.alloc (.cells #[v] 24)) (.cells #[.bool false, .string ⟨#[]⟩, .slice none 0 0, .slice none 0 0] 32)
    rw [World.size_alloc] at e
    exact e
  have H : Hid (DocV S w v ns) := h
  have HG : Hid _ := (h.later hb1).good
  have HE : Hid (treeD ns n = if goodD ns then (if amongB ns n then (growF ns.length ns n.toNat, 0) else (noTr, 3)) else (noTr, 1)) := rfl
  obtain ⟨a, cap, rfl, hlc, hcm⟩ := h.nodes.shape
  unfold maxLen at hcm
  clear h
  go_enter Try.func8, Try.ntmps8
  go_wp2_with fail
  refine (Calls.mono HG.out ?_)
  rintro e w2 ⟨rfl, hb2⟩
  have hx2 := (hb2.block _ (blk_lt hx1)).trans hx1
  have hy2 := (hb2.block _ (blk_lt hy1)).trans hy1
  have hB2 : Below w.heap.size w w2 := hb1.trans (hb2.mono hb1.size)
  have d0 : w2.cell? ⟨w.heap.size, 0, none⟩ = some (.slice a ns.length cap) := by rw [Lib.cell_of_heap hx2]; rfl
  have p0 : w2.cell? ⟨w.heap.size + 1, 0, none⟩ = some (.bool false) := by rw [Lib.cell_of_heap hy2]; rfl
  have p1 : w2.cell? ⟨w.heap.size + 1, 1, none⟩ = some (.string ⟨#[]⟩) := by rw [Lib.cell_of_heap hy2]; rfl
  have p2 : w2.cell? ⟨w.heap.size + 1, 2, none⟩ = some (.slice none 0 0) := by rw [Lib.cell_of_heap hy2]; rfl
  have p3 : w2.cell? ⟨w.heap.size + 1, 3, none⟩ = some (.slice none 0 0) := by rw [Lib.cell_of_heap hy2]; rfl
  have f0 : w2.frozen? ⟨w.heap.size + 1, 0, none⟩ = false := Lib.frozen_of_heap hy2 0
  have f1 : w2.frozen? ⟨w.heap.size + 1, 1, none⟩ = false := Lib.frozen_of_heap hy2 1
  have f2 : w2.frozen? ⟨w.heap.size + 1, 2, none⟩ = false := Lib.frozen_of_heap hy2 2
  have f3 : w2.frozen? ⟨w.heap.size + 1, 3, none⟩ = false := Lib.frozen_of_heap hy2 3
  clear HG hb1 hx1 hb2 hy1
  obtain ⟨q, hq⟩ : ∃ q, goodD ns = q := ⟨_, rfl⟩
  rw [hq]
  have hle1 : w.heap.size ≤ w.heap.size + 1 := Nat.le_succ _
  cases q with
  | false =>
    have HE2 : Hid (treeD ns n = (noTr, 1)) := by show _ = _; rw [HE.out, hq]; rfl
    clear HE hq
    go_wp2_with fail
    refine bodyPost_ret (v := .tuple #[.agg #[.bool false, .string ⟨#[]⟩, .slice none 0 0, .slice none 0 0], .int .i64 1]) (by simp [results, Try.results8, go_sem, cell_set, p0, p1, p2, p3, World.cell?_setCell_other]) rfl ⟨.slice none 0 0, .slice none 0 0, by rw [HE2.out]; rfl, by rw [HE2.out]; exact Attrs.nil, by rw [HE2.out]; exact Trees.nil _ ⟨none, 0, rfl, Nat.zero_le _⟩, ?_⟩
    exact (((hB2.setCell (p := ⟨w.heap.size + 1, 0, none⟩) hle1 _).setCell (p := ⟨w.heap.size + 1, 1, none⟩) hle1 _).setCell (p := ⟨w.heap.size + 1, 2, none⟩) hle1 _).setCell (p := ⟨w.heap.size + 1, 3, none⟩) hle1 _
  | true =>
    have HA : Hid _ := among_any S _ ns n w2 (H.out.later hB2).nodes
    have HE2 : Hid (treeD ns n = if amongB ns n then (growF ns.length ns n.toNat, 0) else (noTr, 3)) := by show _ = _; rw [HE.out, hq]; rfl
    have HKI : Hid (KidsIn ns) := goodD_kids H.out hq
    clear HE hq
    have HAB : Hid (amongB ns n = (decide (0 ≤ n) && decide (n < ns.length))) := rfl
    rw [show (decide (0 ≤ n) && decide (n < (ns.length : Int))) = amongB ns n from rfl] at HA
    obtain ⟨q2, hq2⟩ : ∃ q, amongB ns n = q := ⟨_, rfl⟩
    rw [hq2] at HA HE2 HAB
    clear hq2
    cases q2 with
    | false =>
      have HE3 : Hid (treeD ns n = (noTr, 3)) := by show _ = _; rw [HE2.out]; rfl
      clear HE2
      go_wp2_with fail
      refine (Calls.mono HA.out ?_)
      rintro e w3 ⟨rfl, rfl⟩
      go_wp2_with fail
      refine bodyPost_ret (v := .tuple #[.agg #[.bool false, .string ⟨#[]⟩, .slice none 0 0, .slice none 0 0], .int .i64 3]) (by simp [results, Try.results8, go_sem, cell_set, p0, p1, p2, p3, World.cell?_setCell_other]) rfl ⟨.slice none 0 0, .slice none 0 0, by rw [HE3.out]; rfl, by rw [HE3.out]; exact Attrs.nil, by rw [HE3.out]; exact Trees.nil _ ⟨none, 0, rfl, Nat.zero_le _⟩, ?_⟩
      exact (((hB2.setCell (p := ⟨w.heap.size + 1, 0, none⟩) hle1 _).setCell (p := ⟨w.heap.size + 1, 1, none⟩) hle1 _).setCell (p := ⟨w.heap.size + 1, 2, none⟩) hle1 _).setCell (p := ⟨w.heap.size + 1, 3, none⟩) hle1 _
    | true =>
      have hr := HAB.out.symm
      simp only [Bool.and_eq_true, decide_eq_true_eq] at hr
      obtain ⟨m, rfl⟩ : ∃ m : Nat, n = (m : Int) := ⟨n.toNat, by omega⟩
      have HE3 : Hid (treeD ns (m : Int) = (growF ns.length ns m, 0)) := by show _ = _; rw [HE2.out]; rfl
      have HGR : Hid _ := grown_any ns.length S _ ns m w2 (H.out.later hB2).nodes HKI.out (by omega) (by omega)
      clear HE2 HAB hr
      go_wp2_with fail
      refine (Calls.mono HA.out ?_)
      rintro e w3 ⟨rfl, rfl⟩
      go_wp2_with fail
      refine (Calls.mono HGR.out ?_)
      rintro e w4 ⟨va4, vk4, rfl, hA4, hK4, hb4⟩
      have hB4 : Below w.heap.size w w4 := hB2.trans (hb4.mono hB2.size)
      obtain ⟨aa, ac, rfl⟩ := hA4.shape
      obtain ⟨ka, kc, rfl, _, _⟩ := Trees.shape ns.length hK4
      have hy4 := (hb4.block _ (blk_lt hy2)).trans hy2
      have hs2 := blk_lt hy2
      clear p0 p1 p2 p3 f0 f1 f2 f3 HGR HA
      have p0 : w4.cell? ⟨w.heap.size + 1, 0, none⟩ = some (.bool false) := by rw [Lib.cell_of_heap hy4]; rfl
      have p1 : w4.cell? ⟨w.heap.size + 1, 1, none⟩ = some (.string ⟨#[]⟩) := by rw [Lib.cell_of_heap hy4]; rfl
      have p2 : w4.cell? ⟨w.heap.size + 1, 2, none⟩ = some (.slice none 0 0) := by rw [Lib.cell_of_heap hy4]; rfl
      have p3 : w4.cell? ⟨w.heap.size + 1, 3, none⟩ = some (.slice none 0 0) := by rw [Lib.cell_of_heap hy4]; rfl
      have f0 : w4.frozen? ⟨w.heap.size + 1, 0, none⟩ = false := Lib.frozen_of_heap hy4 0
      have f1 : w4.frozen? ⟨w.heap.size + 1, 1, none⟩ = false := Lib.frozen_of_heap hy4 1
      have f2 : w4.frozen? ⟨w.heap.size + 1, 2, none⟩ = false := Lib.frozen_of_heap hy4 2
      have f3 : w4.frozen? ⟨w.heap.size + 1, 3, none⟩ = false := Lib.frozen_of_heap hy4 3
      obtain ⟨t, ht⟩ : ∃ t, growF ns.length ns m = t := ⟨_, rfl⟩
      rw [ht] at hA4 hK4 HE3 ⊢
      clear ht
      go_wp2_with fail
      refine bodyPost_ret (v := .tuple #[.agg #[.bool t.text, .string t.s, .slice aa t.attrs.length ac, .slice ka t.kids.length kc], .int .i64 0]) (by simp [results, Try.results8, go_sem, cell_set, p0, p1, p2, p3, World.cell?_setCell_other]) rfl ⟨.slice aa t.attrs.length ac, .slice ka t.kids.length kc, by rw [HE3.out], ?_, ?_, ?_⟩
      · rw [HE3.out]
        refine hA4.carry fun b hb => ⟨by omega, ?_⟩
        rw [blk_set_ne (by omega), blk_set_ne (by omega), blk_set_ne (by omega), blk_set_ne (by omega)]
      · rw [HE3.out]
        refine Trees.carry (fun b hb => ⟨by omega, ?_⟩) ns.length hK4
        rw [blk_set_ne (by omega), blk_set_ne (by omega), blk_set_ne (by omega), blk_set_ne (by omega)]
      · exact (((hB4.setCell (p := ⟨w.heap.size + 1, 0, none⟩) hle1 _).setCell (p := ⟨w.heap.size + 1, 1, none⟩) hle1 _).setCell (p := ⟨w.heap.size + 1, 2, none⟩) hle1 _).setCell (p := ⟨w.heap.size + 1, 3, none⟩) hle1 _
end Go.Proofs.Ytmbmfomeiioijab

/- A document that is made of a tree is in order, has that tree, and ends where it ends: on plain data. No condition. -/
namespace Go.Proofs.Ytmbmfomeiioijab
open Go.RowKit
set_option maxRecDepth 100000

/-- Nodes stand in a document from a number on. -/
def Seg (ns : List Nd) (at' : Nat) (L : List Nd) : Prop := ∀ (i : Nat) (x : Nd), L[i]? = some x → ns[at' + i]? = some x

theorem Seg.left {ns L M : List Nd} {at' : Nat} (h : Seg ns at' (L ++ M)) : Seg ns at' L := by
  intro i x hx
  refine h i x ?_
  have hi : i < L.length := by
    rcases Nat.lt_or_ge i L.length with h' | h'
    · exact h'
    · rw [List.getElem?_eq_none h'] at hx; cases hx
  rw [List.getElem?_append_left hi]; exact hx
theorem Seg.right {ns L M : List Nd} {at' : Nat} (h : Seg ns at' (L ++ M)) : Seg ns (at' + L.length) M := by
  intro i x hx
  have := h (L.length + i) x (by rw [List.getElem?_append_right (by omega)]; rw [show L.length + i - L.length = i by omega]; exact hx)
  rw [show at' + L.length + i = at' + (L.length + i) by omega]; exact this
theorem Seg.tail {ns L : List Nd} {x : Nd} {at' : Nat} (h : Seg ns at' (x :: L)) : Seg ns (at' + 1) L := by
  intro i y hy
  have := h (i + 1) y (by simpa using hy)
  rw [show at' + 1 + i = at' + (i + 1) by omega]; exact this

theorem layF_head {d : Nat} {t : Tr} (h : Deep d t.kids) (par : Int) (nx : Nat) : layF d t par nx = ⟨t.text, t.s, t.attrs, par, startsOf (d - 1) (nx + 1) t.kids⟩ :: laysOf (d - 1) (layF (d - 1)) nx (nx + 1) t.kids := by
  cases d with
  | zero =>
    have e : t.kids = [] := h
    rw [e]
    rfl
  | succ d => rfl

theorem deep_kid {d : Nat} {t : Tr} {k : Tr} (h : Deep d t.kids) (hk : k ∈ t.kids) : ∃ d', d = d' + 1 ∧ Deep d' k.kids := by
  cases d with
  | zero => have e : t.kids = [] := h; rw [e] at hk; simp at hk
  | succ d => exact ⟨d, rfl, h k hk⟩

theorem ord_lay : ∀ (d : Nat) (t : Tr) (f : Nat) (ns : List Nd) (par : Int) (at' : Nat), Deep d t.kids → Seg ns at' (layF d t par at') → cnt (d + 1) [t] ≤ f → ordF f ns par at' = (true, at' + cnt (d + 1) [t]) := by
  intro d
  induction d with
  | zero =>
    intro t f ns par at' hd hs hf
    have e : t.kids = [] := hd
    rw [cnt_one, e] at hf ⊢
    obtain ⟨f', rfl⟩ : ∃ f', f = f' + 1 := ⟨f - 1, by omega⟩
    have h0 : ns[at']? = some ⟨t.text, t.s, t.attrs, par, []⟩ := hs 0 _ rfl
    rw [ordF, h0]
    simp [ordKids, cnt]
  | succ d ih =>
    intro t f ns par at' hd hs hf
    rw [cnt_one] at hf ⊢
    obtain ⟨f', rfl⟩ : ∃ f', f = f' + 1 := ⟨f - 1, by omega⟩
    have h0 : ns[at']? = some ⟨t.text, t.s, t.attrs, par, startsOf d (at' + 1) t.kids⟩ := hs 0 _ rfl
    have hsk : Seg ns (at' + 1) (laysOf d (layF d) at' (at' + 1) t.kids) := Seg.tail hs
    rw [ordF, h0]
    simp only [if_true]
    have key : ∀ (ks : List Tr) (a : Nat), Deep (d + 1) ks → Seg ns a (laysOf d (layF d) at' a ks) → cnt (d + 1) ks ≤ f' → ordKids (ordF f' ns at') (startsOf d a ks) a = (true, a + cnt (d + 1) ks) := by
      intro ks
      induction ks with
      | nil => intro a _ _ _; simp [startsOf, ordKids, cnt]
      | cons k ks ihk =>
        intro a hdk hsg hc
        rw [cnt_more d k ks] at hc ⊢
        rw [laysOf] at hsg
        have hl := layF_length d k (at' : Int) a (hdk k List.mem_cons_self)
        have h1 := ih k f' ns at' a (hdk k List.mem_cons_self) hsg.left (by omega)
        have h2 := hsg.right
        rw [hl] at h2
        rw [startsOf, ordKids, h1, if_pos ⟨rfl, rfl⟩, ihk (a + cnt (d + 1) [k]) (fun u hu => hdk u (List.mem_cons_of_mem _ hu)) h2 (by omega), Nat.add_assoc]
    rw [key t.kids (at' + 1) hd hsk (by omega), Nat.add_assoc]

theorem grow_lay : ∀ (d : Nat) (t : Tr) (f : Nat) (ns : List Nd) (par : Int) (at' : Nat), Deep d t.kids → Seg ns at' (layF d t par at') → cnt (d + 1) [t] ≤ f → growF f ns at' = t := by
  intro d
  induction d with
  | zero =>
    intro t f ns par at' hd hs hf
    have e : t.kids = [] := hd
    rw [cnt_one, e] at hf
    obtain ⟨f', rfl⟩ : ∃ f', f = f' + 1 := ⟨f - 1, by omega⟩
    have h0 : ns[at']? = some ⟨t.text, t.s, t.attrs, par, []⟩ := hs 0 _ rfl
    rw [growF, h0]
    cases t
    simp at e
    subst e
    rfl
  | succ d ih =>
    intro t f ns par at' hd hs hf
    rw [cnt_one] at hf
    obtain ⟨f', rfl⟩ : ∃ f', f = f' + 1 := ⟨f - 1, by omega⟩
    have h0 : ns[at']? = some ⟨t.text, t.s, t.attrs, par, startsOf d (at' + 1) t.kids⟩ := hs 0 _ rfl
    have hsk : Seg ns (at' + 1) (laysOf d (layF d) at' (at' + 1) t.kids) := Seg.tail hs
    rw [growF, h0]
    have key : ∀ (ks : List Tr) (a : Nat), Deep (d + 1) ks → Seg ns a (laysOf d (layF d) at' a ks) → cnt (d + 1) ks ≤ f' → (startsOf d a ks).map (fun k => growF f' ns k.toNat) = ks := by
      intro ks
      induction ks with
      | nil => intro a _ _ _; rfl
      | cons k ks ihk =>
        intro a hdk hsg hc
        rw [cnt_more d k ks] at hc
        rw [laysOf] at hsg
        have hl := layF_length d k (at' : Int) a (hdk k List.mem_cons_self)
        have h1 := ih k f' ns at' a (hdk k List.mem_cons_self) hsg.left (by omega)
        have h2 := hsg.right
        rw [hl] at h2
        rw [startsOf, List.map_cons, ihk (a + cnt (d + 1) [k]) (fun u hu => hdk u (List.mem_cons_of_mem _ hu)) h2 (by omega)]
        rw [Int.toNat_natCast, h1]
    simp only [key t.kids (at' + 1) hd hsk (by omega)]
    cases t; rfl

theorem starts_last {d : Nat} : ∀ (ks : List Tr) (a : Nat) (k : Tr), (startsOf d a (ks ++ [k])).getLast? = some ((a + cnt (d + 1) ks : Nat) : Int) := by
  intro ks a k
  rw [startsOf_append]
  simp [startsOf]

theorem last_lay : ∀ (d : Nat) (t : Tr) (f : Nat) (ns : List Nd) (par : Int) (at' : Nat), Deep d t.kids → Seg ns at' (layF d t par at') → cnt (d + 1) [t] ≤ f → lastF f ns at' + 1 = at' + cnt (d + 1) [t] := by
  intro d
  induction d with
  | zero =>
    intro t f ns par at' hd hs hf
    have e : t.kids = [] := hd
    rw [cnt_one, e] at hf ⊢
    obtain ⟨f', rfl⟩ : ∃ f', f = f' + 1 := ⟨f - 1, by omega⟩
    have h0 : ns[at']? = some ⟨t.text, t.s, t.attrs, par, []⟩ := hs 0 _ rfl
    rw [lastF, h0]
    simp [cnt]
  | succ d ih =>
    intro t f ns par at' hd hs hf
    rw [cnt_one] at hf ⊢
    obtain ⟨f', rfl⟩ : ∃ f', f = f' + 1 := ⟨f - 1, by omega⟩
    have h0 : ns[at']? = some ⟨t.text, t.s, t.attrs, par, startsOf d (at' + 1) t.kids⟩ := hs 0 _ rfl
    have hsk : Seg ns (at' + 1) (laysOf d (layF d) at' (at' + 1) t.kids) := Seg.tail hs
    rw [lastF, h0]
    simp only
    rcases List.eq_nil_or_concat t.kids with he | ⟨ks, k, he⟩
    · rw [he]; simp [startsOf, cnt]
    · rw [List.concat_eq_append] at he
      rw [he] at hf hsk ⊢
      have hdk : Deep (d + 1) (ks ++ [k]) := by rw [← he]; exact hd
      have happ : cnt (d + 1) (ks ++ [k]) = cnt (d + 1) ks + cnt (d + 1) [k] := by simp [cnt]
      rw [starts_last]
      simp only [Int.toNat_natCast]
      rw [laysOf_append] at hsk
      have hl : (laysOf d (layF d) at' (at' + 1) ks).length = cnt (d + 1) ks := by
        have : ∀ (ts : List Tr) (a : Nat), Deep (d + 1) ts → (laysOf d (layF d) at' a ts).length = cnt (d + 1) ts := by
          intro ts
          induction ts with
          | nil => intro _ _; rfl
          | cons u ts ih2 =>
            intro a hd2
            rw [laysOf, List.length_append, layF_length d u _ _ (hd2 u List.mem_cons_self), ih2 _ (fun x hx => hd2 x (List.mem_cons_of_mem _ hx)), cnt_more d u ts]
        exact this _ _ (fun u hu => hdk u (List.mem_append_left _ hu))
      have h2 := hsk.right
      rw [hl] at h2
      have h3 : laysOf d (layF d) at' (at' + 1 + cnt (d + 1) ks) [k] = layF d k at' (at' + 1 + cnt (d + 1) ks) := by simp [laysOf]
      rw [h3] at h2
      have := ih k f' ns at' (at' + 1 + cnt (d + 1) ks) (hdk k (by simp)) h2 (by omega)
      omega

theorem seg_self (L : List Nd) : Seg L 0 L := by intro i x hx; rw [Nat.zero_add]; exact hx
end Go.Proofs.Ytmbmfomeiioijab

/- doc.String, for every document whose texts are no longer than a text may be. Condition: at most 2^20 attributes of a node; its texts together at most 2^40 letters. -/
namespace Go.Proofs.Ytmbmfomeiioijab
open Go.ChangeShapes Go.WideShapes Go.ChangeAt Go.RowKit
set_option maxRecDepth 100000

attribute [local go_sem] cell_set

def txt (x : Nd) : List UInt8 := if x.text then x.s.data.toList else []

/-- What doc.String answers. -/
def strD (ns : List Nd) (n : Int) : List UInt8 := if endD ns n = 0 then [] else ((ns.take (endD ns n).toNat).drop n.toNat).flatMap txt

theorem txt_len (x : Nd) : (txt x).length ≤ x.s.size := by
  unfold txt
  split
  · rw [Array.length_toList]; exact Nat.le_refl _
  · exact Nat.zero_le _

theorem flat_take (l : List Nd) (k : Nat) : ((l.take k).flatMap txt).length ≤ (l.map fun x => x.s.size).sum := by
  induction l generalizing k with
  | nil => simp
  | cons x r ih =>
    cases k with
    | zero => simp
    | succ k =>
      have h1 := ih k
      have h2 := txt_len x
      simp only [List.take_succ_cons, List.flatMap_cons, List.length_append, List.map_cons, List.sum_cons]
      omega

theorem sum_drop (l : List Nat) (k : Nat) : (l.drop k).sum ≤ l.sum := by
  induction l generalizing k with
  | nil => simp
  | cons x r ih =>
    cases k with
    | zero => simp
    | succ k => have := ih k; simp; omega

theorem sum_take (l : List Nat) (k : Nat) : (l.take k).sum ≤ l.sum := by
  induction l generalizing k with
  | nil => simp
  | cons x r ih =>
    cases k with
    | zero => simp
    | succ k => have := ih k; simp; omega

theorem mem_sum {l : List Nd} {x : Nd} (h : x ∈ l) : x.s.size ≤ (l.map fun x => x.s.size).sum := by
  induction l with
  | nil => simp at h
  | cons y r ih =>
    rw [List.mem_cons] at h
    simp only [List.map_cons, List.sum_cons]
    rcases h with rfl | h
    · omega
    · have := ih h; omega

theorem isB_later {T e : TypeId} {B b : Nat} {bs : List Value} {w w' : World} (h : Lib.IsBuilder T e B b bs w) (hb : Below w.heap.size w w') : Lib.IsBuilder T e B b bs w' := by
  rcases h with ⟨h1, v, h2, h3, h4⟩ | ⟨h1, v, h2, h3, h4⟩
  · exact Or.inl ⟨h1, v, (hb.block _ (blk_lt h2)).trans h2, ownsRow_later h3 hb, h4⟩
  · exact Or.inr ⟨h1, v, (hb.block _ (blk_lt h2)).trans h2, ownsRow_later h3 hb, h4⟩

set_option maxHeartbeats 1000000 in
theorem strD_any (S : Nat → Prop) (v : Value) (ns : List Nd) (n : Int) (w : World) (h : DocV S w v ns) (hsum : (ns.map fun x => x.s.size).sum ≤ 1099511627776) :
    Calls Try.prog 14 #[.agg #[v], .int .i64 n] w fun e w' => e = .returned (.string ⟨(strD ns n).toArray⟩) ∧ Below w.heap.size w w' := by
  have hb1 := Below.alloc1 w (.cells #[v] 24)
  have hx1 := heap_alloc_new w (.cells #[v] 24)
  have H : Hid (DocV S w v ns) := h
  have HG : Hid _ := endD_any S v ns n _ (h.later hb1)
  have HE : Hid (strD ns n = if endD ns n = 0 then [] else ((ns.take (endD ns n).toNat).drop n.toNat).flatMap txt) := rfl
  have HN : Hid (endD ns n ≠ 0 → goodD ns = true ∧ amongB ns n = true ∧ endD ns n = (lastF ns.length ns n.toNat : Int) + 1) := by
    intro hne
    unfold endD at hne ⊢
    split at hne
    · rename_i hc
      rw [if_pos hc]
      simp only [Bool.and_eq_true] at hc
      exact ⟨hc.1, hc.2, rfl⟩
    · exact absurd rfl hne
  obtain ⟨a, cap, rfl, hlc, hcm⟩ := h.nodes.shape
  unfold maxLen at hcm
  clear h
  obtain ⟨en, hen⟩ : ∃ en, endD ns n = en := ⟨_, rfl⟩
  rw [hen] at HG HE HN
  clear hen
  go_enter Try.func14, Try.ntmps14
  go_wp2_with fail
  refine (Calls.mono HG.out ?_)
  rintro e w2 ⟨rfl, hb2⟩
  have hx2 := (hb2.block _ (blk_lt hx1)).trans hx1
  have hB2 : Below w.heap.size w w2 := hb1.trans (hb2.mono hb1.size)
  have d0 : w2.cell? ⟨w.heap.size, 0, none⟩ = some (.slice a ns.length cap) := by rw [Lib.cell_of_heap hx2]; rfl
  clear HG hb1 hx1 hb2
  by_cases h0 : en = 0
  · have HE2 : Hid (strD ns n = []) := by show _ = _; rw [HE.out, if_pos h0]
    have hei : (en == 0) = true := by simp [h0]
    clear HE HN
    go_wp2_with fail
    go_ret
    exact ⟨by rw [HE2.out]; rfl, hB2⟩
  · have HE2 : Hid (strD ns n = ((ns.take en.toNat).drop n.toNat).flatMap txt) := by show _ = _; rw [HE.out, if_neg h0]
    obtain ⟨hg, ha, hle⟩ := HN.out h0
    have hKI := goodD_kids H.out hg
    have h80 : ns.length ≤ 80 := by simp only [goodD, Bool.and_eq_true, decide_eq_true_eq] at hg; exact hg.1.1
    simp only [amongB, Bool.and_eq_true, decide_eq_true_eq] at ha
    obtain ⟨m, rfl⟩ : ∃ m : Nat, n = (m : Int) := ⟨n.toNat, by omega⟩
    have hml : m < ns.length := by omega
    have hll := lastF_lt hKI ns.length m hml
    have hge := lastF_ge hKI ns.length m
    obtain ⟨l, hl⟩ : ∃ l, lastF ns.length ns m = l := ⟨_, rfl⟩
    have hle2 : en = ((l + 1 : Nat) : Int) := by rw [hle, ← hl]; simp
    rw [hl] at hll hge
    clear hle hl HE HN hg ha h0
    subst hle2
    obtain ⟨b, o, cap2, _, _, hv, _, _, _⟩ := (H.out.later hB2).nodes.at (i := m) (x := ns[m]) (by simp [hml])
    injection hv with hv1 _ hv2
    subst hv1 hv2
    have HND : Hid (Nodes S w (.slice (some ⟨b, o, none⟩) ns.length cap) ns) := H.out.nodes
    have hei : (((l + 1 : Nat) : Int) == 0) = false := by simp; omega
    have h1 : (0 : Int) ≤ (m : Int) := by omega
    have h2 : (m : Int) ≤ ((l + 1 : Nat) : Int) := by omega
    have h3 : ((l + 1 : Nat) : Int) ≤ (cap : Int) := by omega
    have d0a : (w2.alloc (.cells #[.pointer none, .slice none 0 0] 62)).cell? ⟨w.heap.size, 0, none⟩ = some (.slice (some ⟨b, o, none⟩) ns.length cap) := Lib.cell?_alloc_some _ d0
    have hs2 := hB2.size
    go_wp2_with fail
    have hb3 := Below.alloc1 w2 (.cells #[.pointer none, .slice none 0 0] 62)
    go_loopg [20] (l + 1 - m) (fun g j wr => ∃ i : Nat, i + g = l + 1 - m ∧ j = .int .i64 (i : Int) ∧ Below w2.heap.size w2 wr ∧ w2.heap.size < wr.heap.size ∧ Lib.IsBuilder 62 5 w2.heap.size w2.heap.size (Lib.byteCells (((ns.drop m).take i).flatMap txt)) wr)
    case atStart => exact ⟨0, by omega, rfl, hb3, by simp, Or.inl ⟨Nat.le_refl _, .slice none 0 0, heap_alloc_new _ _, World.ownsRow_nil _ _ _ _, by intro e; cases e⟩⟩
    case round =>
      obtain ⟨i, hi, rfl, hBr, hsr, hBd⟩ := hrel
      have HBd : Hid _ := hBd
      have hBw : Below w.heap.size w wr := hB2.trans (hBr.mono hs2)
      clear hBd hb3 d0 d0a
      by_cases hil : i < l + 1 - m
      · have hmi : m + i < ns.length := by omega
        obtain ⟨x, hx⟩ : ∃ x, ns[m + i]? = some x := ⟨ns[m + i], by simp [hmi]⟩
        obtain ⟨b', o', cap', va, vk, hv', _, _, _, hbw, c0, c1, c2, c3, c4, hAt, hKi⟩ := (HND.out.later hBw).at hx
        injection hv' with hv1 _ hv2
        injection hv1 with hv1
        injection hv1 with hv3 hv4
        subst hv3 hv4 hv2
        obtain ⟨aa, ac, rfl⟩ := hAt.shape
        obtain ⟨ka, kc, rfl, _, _⟩ := hKi.shape
        have e5 : o + (m + i) * 5 = o + m * 5 + i * 5 := by omega
        rw [e5] at c0 c1 c2 c3 c4
        have hxl : (ns.drop m)[i]? = some x := by rw [List.getElem?_drop]; exact hx
        have hil2 : i < (ns.drop m).length := by simp; omega
        have hsn : ((ns.drop m).take (i + 1)).flatMap txt = ((ns.drop m).take i).flatMap txt ++ txt x := by
          rw [List.take_succ_eq_append_getElem hil2, List.flatMap_append]
          have : (ns.drop m)[i] = x := by rw [List.getElem?_eq_getElem hil2] at hxl; exact Option.some.inj hxl
          rw [this]; simp
        have HSN : Hid _ := hsn
        have hlen1 : (((ns.drop m).take i).flatMap txt).length ≤ 1099511627776 := by
          have h1 := flat_take (ns.drop m) i
          have h2 : ((ns.drop m).map fun x => x.s.size) = (ns.map fun x => x.s.size).drop m := by rw [List.map_drop]
          rw [h2] at h1
          have := sum_drop (ns.map fun x => x.s.size) m
          omega
        have hlen2 : x.s.size ≤ 1099511627776 := Nat.le_trans (mem_sum (List.mem_of_getElem? hx)) hsum
        have HLL : Hid ((Lib.byteCells (((ns.drop m).take i).flatMap txt)).length + x.s.size ≤ 140737488355328) := by show _ ≤ _; rw [Lib.byteCells_length]; omega
        have hili : (i : Int) < ((l + 1 - m : Nat) : Int) := by omega
        have hb4 := Below.alloc1 wr (.cells #[.bool x.text, .string x.s, .slice aa x.attrs.length ac, .int .i64 x.parent, .slice ka x.kids.length kc] 40)
        have HBd4 : Hid _ := isB_later HBd.out hb4
        have HT : Hid (txt x = if x.text then x.s.data.toList else []) := rfl
        clear hx hxl hsn hAt hKi e5 hlen1 hlen2
        cases htx : x.text with
        | true =>
          rw [htx] at c0 hb4 HBd4 HT
          go_wp2_with fail
          refine (Calls.mono (bWrite_any w2.heap.size w2.heap.size _ x.s _ HBd4.out HLL.out (by simp; omega)) ?_)
          rintro e w5 ⟨rfl, hBd5, hb5⟩
          go_wp2_with fail
          go_roundg (l + 1 - m - (i + 1))
          case measure => omega
          case rel =>
            refine ⟨i + 1, by omega, by go_num, (hBr.trans (hb4.mono (by omega))).trans hb5, Nat.lt_of_lt_of_le hsr (Nat.le_trans hb4.size hb5.size), Or.inr ?_⟩
            rw [HSN.out, HT.out, Lib.byteCells_append]
            exact hBd5
        | false =>
          rw [htx] at c0 hb4 HBd4 HT
          go_wp2_with fail
          go_roundg (l + 1 - m - (i + 1))
          case measure => omega
          case rel =>
            refine ⟨i + 1, by omega, by go_num, hBr.trans (hb4.mono (by omega)), Nat.lt_of_lt_of_le hsr hb4.size, ?_⟩
            rw [HSN.out, HT.out]
            have e := HBd4.out
            rw [← List.append_nil (((ns.drop m).take i).flatMap txt)] at e
            exact e
      · have hii : i = l + 1 - m := by omega
        have hili : ¬ (i : Int) < ((l + 1 - m : Nat) : Int) := by omega
        have HE3 : Hid (strD ns (m : Int) = ((ns.drop m).take i).flatMap txt) := by
          show _ = _
          rw [HE2.out, hii]
          congr 1
          rw [List.drop_take]
          simp
        have HSS : Hid _ := bString_any w2.heap.size w2.heap.size (((ns.drop m).take i).flatMap txt) wr HBd.out (by omega)
        clear hii
        go_wp2_with fail
        refine (Calls.mono HSS.out ?_)
        rintro e w6 ⟨rfl, hb6⟩
        go_wp2_with fail
        go_ret
        exact ⟨by rw [HE3.out]; rfl, hBw.trans (hb6.mono hs2)⟩
end Go.Proofs.Ytmbmfomeiioijab

/- doc.lay: a tree's nodes are laid into a row. Condition: at most 80 nodes; at most 2^20 attributes of each. -/
namespace Go.Proofs.Ytmbmfomeiioijab
open Go.ChangeShapes Go.WideShapes Go.ChangeAt Go.RowKit
set_option maxRecDepth 100000

attribute [local go_sem] cell_set

theorem intInfo : (Try.prog.info? 3).map (fun i => (i.zero, i.size, i.bytes)) = some (some (.int .i64 0), 1, 8) := by kernel_rfl

/-- A number appended onto a list of the call's own, as a step of a region that draws. -/
theorem step_int {ops : Array Oper} {o : Oper} {a : Act} {w : World} {K : Act → World → Prop} {Q : Exit → Act → World → Prop} {E : Prop}
    (hg : o.guard = none) (s x : Operand) (hop : o.op = Op.call { callee := Callee.builtin Builtin.append, args := #[s, x], argTypes := #[38, 38] })
    (B : Nat) (v : Value) (n : Nat) (xs : List Value) (hs : a.eval s = v) (hown : w.ownsRow B 3 1 v n xs) (ad : Addr) (k : Int) (hx : a.eval x = .slice (some ad) 1 1)
    (hnews : ∀ j u, [Value.int .i64 k][j]? = some u → w.cell? (ad.add j) = some u) (hn : n ≤ 1048576) (hB : B ≤ w.heap.size)
    (hK : ∀ v' w', w'.ownsRow B 3 1 v' (n + 1) (xs ++ [.int .i64 k]) → w.grownBy w' v.ownBlock → (v'.ownBlock = v.ownBlock ∨ v'.ownBlock = some w.heap.size) → K (a.put o.dst v') w') :
    if Region.wanted o (yielded ops a.tmps) = true then Oper.wp Try.prog o a w K Q else E := by
  have hw : Region.wanted o (yielded ops a.tmps) = true := by simp [Region.wanted, hg]
  rw [if_pos hw]
  obtain ⟨i0, hi, hz0, hz1, hz2⟩ := info_parts intInfo
  obtain ⟨v', w', hr, h2, h3, _, h5⟩ := run_append_own_at (P := Try.prog) w B 38 o.type 3 i0 _ 1 8 Try.underlying38 hi hz0 hz1 hz2 rfl (by decide) v n xs hown ad 1 1 [.int .i64 k] rfl hnews (by intro u hu; simp at hu; subst hu; rfl) (by unfold maxLen; omega) (by omega) hB
  unfold Oper.wp
  simp [execOp, hop, resolve, invoke, builtin, hs, hx, hr, Result.andThen]
  exact hK v' w' h2 h3 h5

def LayOk (d : Nat) : Prop := ∀ (S : Nat → Prop) (va vk : Value) (t : Tr) (par : Int) (nb cb nx : Nat) (ms : List Rw) (w : World), Attrs S w va t.attrs → Trees S w d vk t.kids → (∀ b, S b → b < w.heap.size ∧ b ≠ nb ∧ b ≠ cb) → nb ≠ cb → Row nb ms w → Cnt cb nx w →
  nx + cnt (d + 1) [t] ≤ ms.length → ms.length ≤ 80 → FewN (d + 1) [t] →
  Calls Try.prog 20 #[.slice (some ⟨nb, 0, none⟩) ms.length ms.length, .agg #[.bool t.text, .string t.s, va, vk], .int .i64 par, .pointer (some ⟨cb, 0, none⟩)] w fun e w' => e = .returned (.tuple #[]) ∧
    ∃ ms', Row nb ms' w' ∧ ms'.length = ms.length ∧ Cnt cb (nx + cnt (d + 1) [t]) w' ∧ (∀ i, i < nx ∨ nx + cnt (d + 1) [t] ≤ i → ms'[i]? = ms[i]?) ∧ Laid (fun b => w.heap.size ≤ b) w' ms' nx (layF d t par nx) ∧ LFr nb cb w w'

/-- What stands behind i kids that are laid. -/
structure LS (w : World) (nb cb nx d : Nat) (t : Tr) (par : Int) (ms : List Rw) (bx : Array Value) (M : Nat) (va : Value) (i j : Nat) (v : Value) (mi : List Rw) (W : World) : Prop where
  row : Row nb mi W
  len : mi.length = ms.length
  num : Cnt cb (nx + 1 + cnt d (t.kids.take j)) W
  old : ∀ l, l < nx ∨ nx + cnt (d + 1) [t] ≤ l → mi[l]? = ms[l]?
  me : mi[nx]? = some ⟨t.text, t.s, va, par, v⟩
  own : W.ownsRow M 3 1 v i ((startsOf (d - 1) (nx + 1) (t.kids.take i)).map fun k => Value.int .i64 k)
  att : Attrs (fun b => w.heap.size ≤ b ∧ b < M) W va t.attrs
  laid : Laid (fun b => w.heap.size ≤ b ∧ v.ownBlock ≠ some b) W mi (nx + 1) (laysOf (d - 1) (layF (d - 1)) nx (nx + 1) (t.kids.take j))
  box : W.heap[w.heap.size]? = some (.cells bx 32 (0, 0))
  fr : LFr nb cb w W
  le : M ≤ W.heap.size
  lo : w.heap.size < M

theorem cnt_upto {d : Nat} {ts : List Tr} {i : Nat} {k : Tr} (hk : ts[i]? = some k) : cnt (d + 1) (ts.take (i + 1)) = cnt (d + 1) (ts.take i) + cnt (d + 1) [k] ∧ cnt (d + 1) (ts.take i) + cnt (d + 1) [k] ≤ cnt (d + 1) ts := by
  have hi : i < ts.length := by
    rcases Nat.lt_or_ge i ts.length with h' | h'
    · exact h'
    · rw [List.getElem?_eq_none h'] at hk; cases hk
  have e1 : ts.take (i + 1) = ts.take i ++ [k] := by
    rw [List.take_succ_eq_append_getElem hi]; congr 2; simpa [hi] using hk
  have e2 : ts = ts.take (i + 1) ++ ts.drop (i + 1) := (List.take_append_drop _ _).symm
  have happ : ∀ a b : List Tr, cnt (d + 1) (a ++ b) = cnt (d + 1) a + cnt (d + 1) b := by intro a b; simp [cnt]
  refine ⟨by rw [e1, happ], ?_⟩
  have h3 : cnt (d + 1) ts = cnt (d + 1) (ts.take (i + 1)) + cnt (d + 1) (ts.drop (i + 1)) := by conv => lhs; rw [e2]
                                                                                                 exact happ _ _
  rw [h3, e1, happ]
  omega

theorem take_more {ts : List Tr} {i : Nat} {k : Tr} (hk : ts[i]? = some k) : ts.take (i + 1) = ts.take i ++ [k] := by
  have hi : i < ts.length := by
    rcases Nat.lt_or_ge i ts.length with h' | h'
    · exact h'
    · rw [List.getElem?_eq_none h'] at hk; cases hk
  rw [List.take_succ_eq_append_getElem hi]; congr 2; simpa [hi] using hk

theorem lay_step1 {w : World} {nb cb nx d : Nat} {t : Tr} {par : Int} {ms : List Rw} {bx : Array Value} {M : Nat} {va : Value} {i : Nat} {v v' : Value} {mi : List Rw} {wr w6 : World} {k : Tr} {X Y : Obj}
    (hL : LS w nb cb nx (d + 1) t par ms bx M va i i v mi wr) (hk : t.kids[i]? = some k) (hnl : nb < w.heap.size) (hcl : cb < w.heap.size) (hnc : nb ≠ cb)
    (hown : w6.ownsRow M 3 1 v' (i + 1) ((startsOf d (nx + 1) (t.kids.take i)).map (fun k => Value.int .i64 k) ++ [.int .i64 ((nx + 1 + cnt (d + 1) (t.kids.take i) : Nat) : Int)]))
    (hgr : ((wr.alloc Y).alloc X).drew.grownBy w6 v.ownBlock) (hat : v'.ownBlock = v.ownBlock ∨ v'.ownBlock = some ((wr.alloc Y).alloc X).drew.heap.size) :
    LS w nb cb nx (d + 1) t par ms bx M va (i + 1) i v' (mi.set nx ⟨t.text, t.s, va, par, v'⟩) (w6.setCell ⟨nb, nx * 5 + 4, none⟩ v') ∧ (∀ b, b < wr.heap.size → b < M → b ≠ nb → (w6.setCell ⟨nb, nx * 5 + 4, none⟩ v').heap[b]? = wr.heap[b]?) ∧ (w6.setCell ⟨nb, nx * 5 + 4, none⟩ v').heap[wr.heap.size]? = some Y ∧ wr.heap.size < (w6.setCell ⟨nb, nx * 5 + 4, none⟩ v').heap.size := by
  have hlo := hL.lo
  have hle := hL.le
  have hs6 := hgr.size
  have hsx : ((wr.alloc Y).alloc X).drew.heap.size = wr.heap.size + 1 + 1 := by
    show ((wr.alloc Y).alloc X).heap.size = _
    rw [World.size_alloc, World.size_alloc]
  rw [hsx] at hs6
  have hrow : ∀ b, v.ownBlock = some b → M ≤ b ∧ b < wr.heap.size := fun b hb => hL.own.lt b hb
  have hkeep6 : ∀ b, b < wr.heap.size → v.ownBlock ≠ some b → w6.heap[b]? = wr.heap[b]? := by
    intro b h1 h2
    rw [hgr.block b (by rw [hsx]; omega) (fun e => h2 e.symm)]
    show ((wr.alloc Y).alloc X).heap[b]? = _
    rw [Lib.alloc_old _ _ _ (by rw [World.size_alloc]; omega)]
    exact Lib.alloc_old _ _ _ h1
  have hkeep : ∀ b, b < wr.heap.size → b ≠ nb → v.ownBlock ≠ some b → (w6.setCell ⟨nb, nx * 5 + 4, none⟩ v').heap[b]? = wr.heap[b]? := fun b h1 h2 h3 => by rw [blk_set_ne h2, hkeep6 b h1 h3]
  have hsz : (w6.setCell ⟨nb, nx * 5 + 4, none⟩ v').heap.size = w6.heap.size := by simp
  have hnv : v.ownBlock ≠ some nb := fun e => by have := (hrow nb e).1; omega
  have hcv : v.ownBlock ≠ some cb := fun e => by have := (hrow cb e).1; omega
  have hfr := hL.fr.below.size
  have hr6 : Row nb mi w6 := (hkeep6 nb (by omega) hnv).trans hL.row
  have hnx : nx < mi.length := by
    rcases Nat.lt_or_ge nx mi.length with h' | h'
    · exact h'
    · have := hL.me; rw [List.getElem?_eq_none h'] at this; cases this
  have hvb : v.ownBlock ≠ some wr.heap.size := fun e => by have := (hrow _ e).2; omega
  have hB6 : Below 0 w w6 := ((hL.fr.below.alloc (Nat.zero_le _) Y).alloc (Nat.zero_le _) X).drew.grown hgr (Nat.zero_le _) (fun _ _ => Nat.zero_le _)
  refine ⟨⟨hr6.putK hL.me v', by simp [hL.len], ?_, ?_, ?_, ?_, ?_, ?_, ?_, ⟨hB6.setCell (p := ⟨nb, nx * 5 + 4, none⟩) (Nat.zero_le _) _, ?_⟩, by rw [hsz]; omega, hlo⟩, ?_, ?_, by rw [hsz]; omega⟩
  · unfold Cnt
    rw [hkeep cb (by omega) (fun e => hnc e.symm) hcv]
    exact hL.num
  · intro l hl
    rw [List.getElem?_set_ne (by have := cnt_one (d + 1) t; omega)]
    exact hL.old l hl
  · rw [List.getElem?_set_self hnx]
  · have e : (startsOf (d + 1 - 1) (nx + 1) (t.kids.take (i + 1))).map (fun k => Value.int .i64 k) = (startsOf d (nx + 1) (t.kids.take i)).map (fun k => Value.int .i64 k) ++ [.int .i64 ((nx + 1 + cnt (d + 1) (t.kids.take i) : Nat) : Int)] := by
      rw [take_more hk]
      show (startsOf d (nx + 1) (t.kids.take i ++ [k])).map _ = _
      rw [startsOf_append, List.map_append]
      rfl
    rw [e]
    refine ownsRow_heap hown fun b hb => blk_set_ne ?_
    have := (hown.lt b hb).1
    omega
  · refine hL.att.bounded.carry fun b hb => ⟨hb.1, hkeep b hb.2 (by have := hb.1.1; omega) (fun e => by have := (hrow b e).1; have := hb.1.2; omega)⟩
  · refine hL.laid.carry (fun b hb hlt => ⟨⟨hb.1, fun e => ?_⟩, hkeep b hlt (by have := hb.1; omega) hb.2⟩) (fun l h1 _ => by rw [List.getElem?_set_ne (by omega)])
    rcases hat with h1 | h1
    · exact hb.2 (h1.symm.trans e)
    · rw [h1, hsx] at e; injection e with e; omega
  · rw [hkeep _ (by omega) (by omega) (fun e => by have := (hrow _ e).1; omega)]; exact hL.box
  · intro b h1 h2 h3
    rw [hkeep b (by omega) h2 (fun e => by have := (hrow b e).1; omega)]
    exact hL.fr.frame b h1 h2 h3
  · intro b h1 h2 h3
    exact hkeep b h1 h3 (fun e => by have := (hrow b e).1; omega)
  · rw [blk_set_ne (by omega), hgr.block _ (by rw [hsx]; omega) (fun e => hvb e.symm)]
    show ((wr.alloc Y).alloc X).heap[wr.heap.size]? = _
    rw [Lib.alloc_old _ _ _ (by rw [World.size_alloc]; omega)]
    exact heap_alloc_new _ _

theorem lay_step2 {w : World} {nb cb nx d : Nat} {t : Tr} {par : Int} {ms : List Rw} {bx : Array Value} {M : Nat} {va : Value} {i : Nat} {v : Value} {mi mj : List Rw} {w7 w8 : World} {k : Tr}
    (hL : LS w nb cb nx (d + 1) t par ms bx M va (i + 1) i v mi w7) (hk : t.kids[i]? = some k) (hdk : Deep d k.kids) (hdt : Deep (d + 1) t.kids) (hnl : nb < w.heap.size) (hcl : cb < w.heap.size) (hR : Row nb mj w8) (hlen : mj.length = mi.length)
    (hC : Cnt cb (nx + 1 + cnt (d + 1) (t.kids.take i) + cnt (d + 1) [k]) w8) (hold : ∀ l, l < nx + 1 + cnt (d + 1) (t.kids.take i) ∨ nx + 1 + cnt (d + 1) (t.kids.take i) + cnt (d + 1) [k] ≤ l → mj[l]? = mi[l]?)
    (hLd : Laid (fun b => w7.heap.size ≤ b) w8 mj (nx + 1 + cnt (d + 1) (t.kids.take i)) (layF d k nx (nx + 1 + cnt (d + 1) (t.kids.take i)))) (hF : LFr nb cb w7 w8) :
    LS w nb cb nx (d + 1) t par ms bx M va (i + 1) (i + 1) v mj w8 := by
  have hs := hF.below.size
  have hfr := hL.fr.below.size
  have hlo := hL.lo
  obtain ⟨hcu, hcl2⟩ := cnt_upto (d := d) hk
  have hct := cnt_one (d + 1) t
  have hrow : ∀ b, v.ownBlock = some b → M ≤ b ∧ b < w7.heap.size := fun b hb => hL.own.lt b hb
  have hkeep : ∀ b, b < w7.heap.size → w.heap.size ≤ b → w8.heap[b]? = w7.heap[b]? := fun b h1 h2 => hF.frame b h1 (by omega) (by omega)
  have hll : (laysOf d (layF d) nx (nx + 1) (t.kids.take i)).length = cnt (d + 1) (t.kids.take i) := by
    have : ∀ (ts : List Tr) (a : Nat), Deep (d + 1) ts → (laysOf d (layF d) nx a ts).length = cnt (d + 1) ts := by
      intro ts
      induction ts with
      | nil => intro _ _; rfl
      | cons u ts ih2 =>
        intro a hd
        rw [laysOf, List.length_append, layF_length d u _ _ (hd u List.mem_cons_self), ih2 _ (fun x hx => hd x (List.mem_cons_of_mem _ hx)), cnt_more d u ts]
    exact this _ _ (fun u hu => hdt u (List.mem_of_mem_take hu))
  have hlk := layF_length d k (nx : Int) (nx + 1 + cnt (d + 1) (t.kids.take i)) hdk
  refine ⟨hR, hlen.trans hL.len, ?_, ?_, ?_, ?_, ?_, ?_, ?_, ?_, by have := hL.le; omega, hlo⟩
  · rw [hcu, ← Nat.add_assoc]; exact hC
  · intro l hl
    rw [hold l (by omega)]
    exact hL.old l hl
  · rw [hold nx (by omega)]; exact hL.me
  · exact ownsRow_heap hL.own fun b hb => hkeep b (hrow b hb).2 (by have := (hrow b hb).1; omega)
  · exact hL.att.bounded.carry fun b hb => ⟨hb.1, hkeep b hb.2 hb.1.1⟩
  · rw [take_more hk]
    show Laid _ _ _ _ (laysOf d (layF d) nx (nx + 1) (t.kids.take i ++ [k]))
    rw [laysOf_append]
    have hone : laysOf d (layF d) nx (nx + 1 + cnt (d + 1) (t.kids.take i)) [k] = layF d k nx (nx + 1 + cnt (d + 1) (t.kids.take i)) := by simp [laysOf]
    rw [hone]
    refine Laid.append (hL.laid.carry (fun b hb hlt => ⟨hb, hkeep b hlt hb.1⟩) (fun l h1 h2 => ?_)) ?_
    · rw [hold l (Or.inl ?_)]
      have h3 : (laysOf (d + 1 - 1) (layF (d + 1 - 1)) nx (nx + 1) (t.kids.take i)).length = cnt (d + 1) (t.kids.take i) := hll
      omega
    · rw [hll]
      exact hLd.carry (fun b hb _ => ⟨⟨by omega, fun e => by have := (hrow b e).2; omega⟩, rfl⟩) (fun _ _ _ => rfl)
  · rw [hkeep _ (blk_lt hL.box) (Nat.le_refl _)]; exact hL.box
  · exact hL.fr.trans hF

theorem Ints.of_owns {w : World} {B : Nat} {v : Value} {l : List Int} {S : Nat → Prop} (hS : ∀ b, B ≤ b → S b) (h : w.ownsRow B 3 1 v l.length (l.map fun k => Value.int .i64 k)) : Ints S w v l := by
  rcases h.2 with ⟨hv, h0⟩ | ⟨g, cap, cur, hv, hg, hh, hc, hm, hs, ht⟩
  · have : l = [] := List.eq_nil_of_length_eq_zero h0
    subst this hv
    exact Ints.nil
  · subst hv
    refine ⟨_, cap, rfl, hc, hm, fun _ => ⟨g, 0, rfl, hS g hg, fun i x hx => ?_⟩⟩
    have hi : i < l.length := by
      rcases Nat.lt_or_ge i l.length with h' | h'
      · exact h'
      · rw [List.getElem?_eq_none h'] at hx; cases hx
    rw [Nat.zero_add, World.ownsRow.cellAt h i (by omega)]
    simp [hx]

theorem layF_eq {d : Nat} {t : Tr} (h : Deep d t.kids) (par : Int) (nx : Nat) : layF d t par nx = ⟨t.text, t.s, t.attrs, par, startsOf (d - 1) (nx + 1) t.kids⟩ :: laysOf (d - 1) (layF (d - 1)) nx (nx + 1) t.kids := by
  cases d with
  | zero =>
    have e : t.kids = [] := h
    rw [e]
    rfl
  | succ d => rfl

theorem lay_done {w : World} {nb cb nx d : Nat} {t : Tr} {par : Int} {ms : List Rw} {bx : Array Value} {M : Nat} {va : Value} {v : Value} {mi : List Rw} {W : World} (hd : Deep d t.kids) (h : LS w nb cb nx d t par ms bx M va t.kids.length t.kids.length v mi W) :
    Row nb mi W ∧ mi.length = ms.length ∧ Cnt cb (nx + cnt (d + 1) [t]) W ∧ (∀ i, i < nx ∨ nx + cnt (d + 1) [t] ≤ i → mi[i]? = ms[i]?) ∧ Laid (fun b => w.heap.size ≤ b) W mi nx (layF d t par nx) ∧ LFr nb cb w W := by
  have hn := h.num
  rw [List.take_length] at hn
  have hlo := h.lo
  refine ⟨h.row, h.len, ?_, h.old, ?_, h.fr⟩
  · rw [cnt_one, ← Nat.add_assoc]; exact hn
  · rw [layF_eq hd]
    have hl := h.laid
    have ho := h.own
    rw [List.take_length] at hl ho
    intro i x hx
    cases i with
    | zero =>
      simp only [List.getElem?_cons_zero, Option.some.injEq] at hx
      subst hx
      refine ⟨_, h.me, rfl, rfl, rfl, h.att.carry fun b hb => ⟨hb.1, rfl⟩, ?_⟩
      exact Ints.of_owns (B := M) (fun b hb => by omega) (by rw [startsOf_length]; exact ho)
    | succ i =>
      simp only [List.getElem?_cons_succ] at hx
      obtain ⟨r, hr, hR⟩ := hl i x hx
      exact ⟨r, by rw [show nx + (i + 1) = nx + 1 + i by omega]; exact hr, hR.carry fun b hb => ⟨hb.1, rfl⟩⟩

set_option maxHeartbeats 2000000 in
theorem lay_of (d : Nat) (ih : ∀ m, d = m + 1 → LayOk m) : LayOk d := by
  intro S va vk t par nb cb nx ms w hA hK hS hnc hR hC hN h80 hFw
  obtain ⟨aa, ac, rfl⟩ := hA.shape
  obtain ⟨ka, kc, rfl, hkl, hkm⟩ := Trees.shape d hK
  unfold maxLen at hkm
  have hcnt := cnt_one d t
  have hnx : nx < ms.length := by omega
  obtain ⟨r0, hr0⟩ : ∃ r0, ms[nx]? = some r0 := ⟨ms[nx], by simp [hnx]⟩
  have hal := (hFw t List.mem_cons_self).1
  have c0 := hC.c0
  have f0 := hC.f0
  have hcl := hC.lt
  have hnl : nb < w.heap.size := blk_lt hR
  have IH : Hid (∀ m, d = m + 1 → LayOk m) := ih
  have hcx : ∀ X, (w.alloc X).cell? ⟨cb, 0, none⟩ = some (.int .i64 (nx : Int)) := fun X => Lib.cell?_alloc_some _ c0
  have hb1 := Below.alloc1 w (.cells #[.bool t.text, .string t.s, .slice aa t.attrs.length ac, .slice ka t.kids.length kc] 32)
  have hx1 := heap_alloc_new w (.cells #[.bool t.text, .string t.s, .slice aa t.attrs.length ac, .slice ka t.kids.length kc] 32)
  have hC1 := hC.later hb1
  have hfz1 := hC1.f0
  have hce1 := hC1.c0
  have hz1 : (w.alloc (.cells #[.bool t.text, .string t.s, .slice aa t.attrs.length ac, .slice ka t.kids.length kc] 32)).heap.size = w.heap.size + 1 := by simp
  clear ih hcx c0 f0
  go_enter Try.func20, Try.ntmps20
  go_wp2_with fail
  have hc2 : Cnt cb (nx + 1) (w.setCell ⟨cb, 0, none⟩ (.int .i64 ((nx : Int) + 1))) := by
    have := hC.put (nx + 1)
    simpa using this
  have hsz2 : (w.setCell ⟨cb, 0, none⟩ (.int .i64 ((nx : Int) + 1))).heap.size = w.heap.size := by simp
  have hb2 := Below.alloc1 (w.setCell ⟨cb, 0, none⟩ (.int .i64 ((nx : Int) + 1))) (.cells #[.bool t.text, .string t.s, .slice aa t.attrs.length ac, .slice ka t.kids.length kc] 32)
  have hx2 := heap_alloc_new (w.setCell ⟨cb, 0, none⟩ (.int .i64 ((nx : Int) + 1))) (.cells #[.bool t.text, .string t.s, .slice aa t.attrs.length ac, .slice ka t.kids.length kc] 32)
  rw [hsz2] at hx2
  have hC2 := hc2.later hb2
  have hF2 : LFr nb cb w _ := (LFr.putC nb cb w 0 (.int .i64 ((nx : Int) + 1))).trans (LFr.later hb2)
  have hR2 : Row nb ms ((w.setCell ⟨cb, 0, none⟩ (.int .i64 ((nx : Int) + 1))).alloc (.cells #[.bool t.text, .string t.s, .slice aa t.attrs.length ac, .slice ka t.kids.length kc] 32)) := by
    unfold Row
    rw [hb2.block nb (by rw [hsz2]; exact hnl), blk_set_ne hnc]
    exact hR
  have hz2 : ((w.setCell ⟨cb, 0, none⟩ (.int .i64 ((nx : Int) + 1))).alloc (.cells #[.bool t.text, .string t.s, .slice aa t.attrs.length ac, .slice ka t.kids.length kc] 32)).heap.size = w.heap.size + 1 := by simp
  generalize (w.setCell ⟨cb, 0, none⟩ (.int .i64 ((nx : Int) + 1))).alloc (.cells #[.bool t.text, .string t.s, .slice aa t.attrs.length ac, .slice ka t.kids.length kc] 32) = W2 at hb2 hx2 hC2 hF2 hR2 hz2 ⊢
  have HZ2 : Hid (W2.heap.size = w.heap.size + 1) := hz2
  have hlt2 : w.heap.size < W2.heap.size := by omega
  have HCL : Hid (∀ W, (∀ b, S b → W.heap[b]? = w.heap[b]?) → Calls Try.prog 19 #[.slice aa t.attrs.length ac] W fun e w' => ∃ v', e = .returned v' ∧ Attrs (OwnS W.heap.size 57 w') w' v' t.attrs ∧ Below W.heap.size W w') := fun W hW => clone_any S _ t.attrs W (hA.carry fun b hb => ⟨hb, hW b hb⟩) (Nat.le_trans hal (by decide))
  have HSF : Hid (∀ W, LFr nb cb w W → ∀ b, S b → W.heap[b]? = w.heap[b]?) := fun W hW b hb => hW.frame b (hS b hb).1 (hS b hb).2.1 (hS b hb).2.2
  have HWW : Hid (∀ W' : World, W'.heap[w.heap.size]? = W2.heap[w.heap.size]? → W'.cell? ⟨w.heap.size, 0, none⟩ = some (.bool t.text) ∧ W'.cell? ⟨w.heap.size, 1, none⟩ = some (.string t.s) ∧ W'.cell? ⟨w.heap.size, 2, none⟩ = some (.slice aa t.attrs.length ac)) := by
    intro W' h2
    rw [hx2] at h2
    exact ⟨by rw [Lib.cell_of_heap h2]; rfl, by rw [Lib.cell_of_heap h2]; rfl, by rw [Lib.cell_of_heap h2]; rfl⟩
  have HKT : Hid (Trees S w d (.slice ka t.kids.length kc) t.kids) := hK
  have HFW : Hid (FewN d t.kids) := (hFw t List.mem_cons_self).2
  have HSS : Hid (∀ b, S b → b < w.heap.size ∧ b ≠ nb ∧ b ≠ cb) := hS
  have HR2 : Hid (Row nb ms W2) := hR2
  have HC2 : Hid (Cnt cb (nx + 1) W2) := hC2
  have HF2 : Hid (LFr nb cb w W2) := hF2
  have HX2 : Hid _ := hx2
  have HFD : Hid (LFr nb cb w W2.drew) := ⟨hF2.below.drew, hF2.frame⟩
  have hnxi : (nx : Int) < (ms.length : Int) := by omega
  obtain ⟨y0, y1, y2⟩ := HWW.out W2 rfl
  have HSD : Hid _ := HWW.out W2.drew rfl
  have hnbw : w.heap.size ≠ nb := by omega
  have hncw : w.heap.size ≠ cb := by omega
  clear hA hK hS hR hC hFw hb1 hx1 hC1 hfz1 hce1 hz1 hb2 hx2 hC2 hF2 hR2 hz2 hc2 hsz2
  go_region_held3 (fun W : World => W.cell? ⟨w.heap.size, 0, none⟩ = some (.bool t.text) ∧ W.cell? ⟨w.heap.size, 1, none⟩ = some (.string t.s) ∧ W.cell? ⟨w.heap.size, 2, none⟩ = some (.slice aa t.attrs.length ac))
    (first
      | with_reducible exact HS3.out
      | with_reducible exact HS4.out
      | with_reducible exact HSD.out)
    (first
      | (go_at_call 19; refine (Calls.mono (HCL.out W2.drew (HSF.out _ HFD.out)) ?_); rintro e w3 ⟨va3, rfl, hA3, hb3⟩; obtain ⟨a3, c3', rfl⟩ := hA3.shape; have hr3 : Row nb ms w3 := (hb3.block nb (Nat.lt_trans hnl hlt2)).trans HR2.out; obtain ⟨g0, g1, g2, g3, g4⟩ := hr3.cells hr0; have k0 := hr3.frozen (nx * 5); have k1 := hr3.frozen (nx * 5 + 1); have k2 := hr3.frozen (nx * 5 + 2); have k3 := hr3.frozen (nx * 5 + 3); have k4 := hr3.frozen (nx * 5 + 4); have HS3 : Hid _ := HWW.out w3 (hb3.block _ hlt2); have HS4 : Hid _ := HWW.out (((((w3.setCell ⟨nb, nx * 5, none⟩ (.bool t.text)).setCell ⟨nb, nx * 5 + 1, none⟩ (.string t.s)).setCell ⟨nb, nx * 5 + 2, none⟩ (.slice a3 t.attrs.length c3')).setCell ⟨nb, nx * 5 + 3, none⟩ (.int .i64 par)).setCell ⟨nb, nx * 5 + 4, none⟩ (.slice none 0 0)) (by rw [blk_set_ne hnbw, blk_set_ne hnbw, blk_set_ne hnbw, blk_set_ne hnbw, blk_set_ne hnbw]; exact hb3.block _ hlt2)))
  have hLS : LS w nb cb nx d t par ms #[.bool t.text, .string t.s, .slice aa t.attrs.length ac, .slice ka t.kids.length kc] (((((w3.setCell ⟨nb, nx * 5, none⟩ (.bool t.text)).setCell ⟨nb, nx * 5 + 1, none⟩ (.string t.s)).setCell ⟨nb, nx * 5 + 2, none⟩ (.slice a3 t.attrs.length c3')).setCell ⟨nb, nx * 5 + 3, none⟩ (.int .i64 par)).setCell ⟨nb, nx * 5 + 4, none⟩ (.slice none 0 0)).heap.size (.slice a3 t.attrs.length c3') 0 0 (.slice none 0 0) (ms.set nx ⟨t.text, t.s, .slice a3 t.attrs.length c3', par, .slice none 0 0⟩) (((((w3.setCell ⟨nb, nx * 5, none⟩ (.bool t.text)).setCell ⟨nb, nx * 5 + 1, none⟩ (.string t.s)).setCell ⟨nb, nx * 5 + 2, none⟩ (.slice a3 t.attrs.length c3')).setCell ⟨nb, nx * 5 + 3, none⟩ (.int .i64 par)).setCell ⟨nb, nx * 5 + 4, none⟩ (.slice none 0 0)) := by
    have hz := HZ2.out
    have hs3 : W2.heap.size ≤ w3.heap.size := hb3.size
    have hsz : (((((w3.setCell ⟨nb, nx * 5, none⟩ (.bool t.text)).setCell ⟨nb, nx * 5 + 1, none⟩ (.string t.s)).setCell ⟨nb, nx * 5 + 2, none⟩ (.slice a3 t.attrs.length c3')).setCell ⟨nb, nx * 5 + 3, none⟩ (.int .i64 par)).setCell ⟨nb, nx * 5 + 4, none⟩ (.slice none 0 0)).heap.size = w3.heap.size := by simp
    have hkeep : ∀ b, b ≠ nb → (((((w3.setCell ⟨nb, nx * 5, none⟩ (.bool t.text)).setCell ⟨nb, nx * 5 + 1, none⟩ (.string t.s)).setCell ⟨nb, nx * 5 + 2, none⟩ (.slice a3 t.attrs.length c3')).setCell ⟨nb, nx * 5 + 3, none⟩ (.int .i64 par)).setCell ⟨nb, nx * 5 + 4, none⟩ (.slice none 0 0)).heap[b]? = w3.heap[b]? := fun b hb => by rw [blk_set_ne hb, blk_set_ne hb, blk_set_ne hb, blk_set_ne hb, blk_set_ne hb]
    refine ⟨hr3.put hnx ⟨t.text, t.s, .slice a3 t.attrs.length c3', par, .slice none 0 0⟩, by simp, ?_, ?_, ?_, World.ownsRow_nil _ _ _ _, ?_, ?_, ?_, ?_, Nat.le_refl _, by rw [hsz]; omega⟩
    · unfold Cnt
      rw [hkeep cb (fun e => hnc e.symm), hb3.block cb (by show cb < W2.heap.size; omega)]
      have e : nx + 1 + cnt d (t.kids.take 0) = nx + 1 := by simp [cnt_nil]
      rw [e]
      exact HC2.out
    · intro j hj
      rw [List.getElem?_set_ne (by omega)]
    · rw [List.getElem?_set_self hnx]
    · refine hA3.bounded.carry fun b hb => ⟨⟨by have h1 : W2.heap.size ≤ b := hb.1.1; omega, by rw [hsz]; exact hb.2⟩, hkeep b (by have h1 : W2.heap.size ≤ b := hb.1.1; omega)⟩
    · intro j x hx; simp [laysOf] at hx
    · rw [hkeep _ hnbw, hb3.block _ hlt2]; exact HX2.out
    · exact ⟨(HFD.out.below.trans (hb3.mono (Nat.zero_le _))).trans (((((Below.refl 0 w3).setCell (p := ⟨nb, nx * 5, none⟩) (Nat.zero_le _) _).setCell (p := ⟨nb, nx * 5 + 1, none⟩) (Nat.zero_le _) _).setCell (p := ⟨nb, nx * 5 + 2, none⟩) (Nat.zero_le _) _).setCell (p := ⟨nb, nx * 5 + 3, none⟩) (Nat.zero_le _) _ |>.setCell (p := ⟨nb, nx * 5 + 4, none⟩) (Nat.zero_le _) _),
        fun b h1 h2 h3 => by rw [hkeep b h2, hb3.block b (by show b < W2.heap.size; omega)]; exact HFD.out.frame b h1 h2 h3⟩
  generalize (((((w3.setCell ⟨nb, nx * 5, none⟩ (.bool t.text)).setCell ⟨nb, nx * 5 + 1, none⟩ (.string t.s)).setCell ⟨nb, nx * 5 + 2, none⟩ (.slice a3 t.attrs.length c3')).setCell ⟨nb, nx * 5 + 3, none⟩ (.int .i64 par)).setCell ⟨nb, nx * 5 + 4, none⟩ (.slice none 0 0)) = W4 at hLS ⊢
  have q3 : W4.cell? ⟨w.heap.size, 3, none⟩ = some (.slice ka t.kids.length kc) := by rw [Lib.cell_of_heap hLS.box]; rfl
  have HLS : Hid _ := hLS
  clear hLS HS3 HS4 HSD HWW HCL HFD HX2 HF2 HC2 HR2 hr3 hA3 hb3 g0 g1 g2 g3 g4 k0 k1 k2 k3 k4 y0 y1 y2 HZ2 hlt2
  go_wp2_with fail
  go_loopg [34] t.kids.length (fun g j wr => ∃ (i : Nat) (v : Value) (mi : List Rw), i + g = t.kids.length ∧ j = .int .i64 (i : Int) ∧ LS w nb cb nx d t par ms #[.bool t.text, .string t.s, .slice aa t.attrs.length ac, .slice ka t.kids.length kc] W4.heap.size (.slice a3 t.attrs.length c3') i i v mi wr)
  case atStart => exact ⟨0, .slice none 0 0, _, by omega, rfl, HLS.out⟩
  case round =>
    obtain ⟨i, v, mi, hi, rfl, hL⟩ := hrel
    have HL : Hid _ := hL
    obtain ⟨ja, jn, jc, rfl⟩ := row_slice6 hL.own
    by_cases hil : i < t.kids.length
    · obtain ⟨d', rfl⟩ : ∃ d', d = d' + 1 := by
        cases d with
        | zero => have : t.kids = [] := (Trees.deep 0 HKT.out); rw [this] at hil; simp at hil
        | succ d' => exact ⟨d', rfl⟩
      obtain ⟨k, hk⟩ : ∃ k, t.kids[i]? = some k := ⟨t.kids[i], by simp [hil]⟩
      obtain ⟨ta, tcap, htv, _, _, ht4⟩ := HKT.out
      obtain ⟨tb, to, hta, hSb, htc⟩ := ht4 (by intro e; rw [e] at hil; simp at hil)
      injection htv with htv1 _ htv2
      subst htv1 htv2 hta
      obtain ⟨kva, kvk, e0, e1, e2, e3, hkA, hkK⟩ := htc i k hk
      have hbw : tb < w.heap.size := World.block_lt_of_cell? w _ e0
      have hbr : wr.heap[tb]? = w.heap[tb]? := HSF.out wr HL.out.fr tb hSb
      rw [← World.cell?_of_block (a := ⟨tb, to + i * 4, none⟩) hbr] at e0
      rw [← World.cell?_of_block (a := ⟨tb, to + i * 4 + 1, none⟩) hbr] at e1
      rw [← World.cell?_of_block (a := ⟨tb, to + i * 4 + 2, none⟩) hbr] at e2
      rw [← World.cell?_of_block (a := ⟨tb, to + i * 4 + 3, none⟩) hbr] at e3
      obtain ⟨xa, xc, rfl⟩ := hkA.shape
      obtain ⟨ya, yc, rfl, _, _⟩ := Trees.shape d' hkK
      obtain ⟨m, hm⟩ : ∃ m, nx + 1 + cnt (d' + 1) (t.kids.take i) = m := ⟨_, rfl⟩
      have hnum := HL.out.num
      rw [hm] at hnum
      have hb5 := Below.alloc1 wr (.cells #[.bool k.text, .string k.s, .slice xa k.attrs.length xc, .slice ya k.kids.length yc] 32)
      have hC5 := hnum.later hb5
      have hR5 : Row nb mi (wr.alloc (.cells #[.bool k.text, .string k.s, .slice xa k.attrs.length xc, .slice ya k.kids.length yc] 32)) := (hb5.block nb (blk_lt HL.out.row)).trans HL.out.row
      obtain ⟨_, _, _, _, g4⟩ := hR5.cells HL.out.me
      have cc := hC5.c0
      have g4a : ((wr.alloc (.cells #[.bool k.text, .string k.s, .slice xa k.attrs.length xc, .slice ya k.kids.length yc] 32)).alloc (.cells #[.int .i64 (m : Int)] 3)).cell? ⟨nb, nx * 5 + 4, none⟩ = some (.slice ja jn jc) := Lib.cell?_alloc_some _ g4
      have hOW : ∀ Y X, ((wr.alloc Y).alloc X).drew.ownsRow W4.heap.size 3 1 (.slice ja jn jc) i ((startsOf d' (nx + 1) (t.kids.take i)).map fun k => Value.int .i64 k) := fun Y X =>
        ownsRow_later (ownsRow_later HL.out.own (Below.alloc1 wr Y)) (Below.alloc1 _ X).drew
      have HOW : Hid _ := hOW
      have HM : Hid (nx + 1 + cnt (d' + 1) (t.kids.take i) = m) := hm
      have hlen5 : mi.length = ms.length := HL.out.len
      have HME : Hid _ := HL.out.me
      have hili : (i : Int) < (t.kids.length : Int) := by omega
      have hi20 : i ≤ 1048576 := by
        have h1 := (cnt_upto (d := d') hk).2
        have h2 := cnt_one (d' + 1) t
        have h3 : i ≤ cnt (d' + 1) (t.kids.take i) := by
          have : ∀ (l : List Tr), l.length ≤ cnt (d' + 1) l := by
            intro l
            induction l with
            | nil => simp
            | cons x l ihl => rw [cnt_more d' x l, cnt_one, List.length_cons]; omega
          have := this (t.kids.take i)
          rw [List.length_take] at this
          omega
        omega
      have hsr : W4.heap.size ≤ wr.heap.size := HL.out.le
      have HKA : Hid (Attrs S w (.slice xa k.attrs.length xc) k.attrs) := hkA
      have HKK : Hid (Trees S w d' (.slice ya k.kids.length yc) k.kids) := hkK
      have hroom : m + cnt (d' + 1) [k] ≤ ms.length := by
        have h1 := (cnt_upto (d := d') hk).2
        have h2 := cnt_one (d' + 1) t
        omega
      have hnxm : nx < mi.length := by omega
      have hfz4 : (wr.alloc (.cells #[.bool k.text, .string k.s, .slice xa k.attrs.length xc, .slice ya k.kids.length yc] 32)).frozen? ⟨nb, nx * 5 + 4, none⟩ = false := hR5.frozen _
      have HRW : Hid (∀ (X : Obj) (w6 : World), ((wr.alloc (.cells #[.bool k.text, .string k.s, .slice xa k.attrs.length xc, .slice ya k.kids.length yc] 32)).alloc X).drew.grownBy w6 (Value.slice ja jn jc).ownBlock → Row nb mi w6) := by
        intro X w6 hg
        have hlt5 : nb < (wr.alloc (.cells #[.bool k.text, .string k.s, .slice xa k.attrs.length xc, .slice ya k.kids.length yc] 32)).heap.size := blk_lt hR5
        unfold Row
        rw [hg.block nb (by show nb < ((wr.alloc (.cells #[.bool k.text, .string k.s, .slice xa k.attrs.length xc, .slice ya k.kids.length yc] 32)).alloc X).heap.size; rw [World.size_alloc]; omega) (fun e => by have := (HL.out.own.lt nb e.symm).1; have := HL.out.lo; omega)]
        show ((wr.alloc (.cells #[.bool k.text, .string k.s, .slice xa k.attrs.length xc, .slice ya k.kids.length yc] 32)).alloc X).heap[nb]? = _
        rw [Lib.alloc_old _ _ _ hlt5]
        exact hR5
      clear hL hkA hkK htc ht4 hnum hOW hm hR5 hC5 q3
      go_wp2_with fail
      go_region_law (first
        | (refine step_int (by rfl) (.tmp 44) (.tmp 48) (by rfl) W4.heap.size (.slice ja jn jc) i ((startsOf d' (nx + 1) (t.kids.take i)).map fun k => Value.int .i64 k) (by simp [Act.eval]) (HOW.out _ _) ⟨(wr.alloc (.cells #[.bool k.text, .string k.s, .slice xa k.attrs.length xc, .slice ya k.kids.length yc] 32)).heap.size, 0, none⟩ (m : Int) (by simp [Act.eval]) (fun j u hj => cell_one_new _ _ _ j u hj) hi20 (by simp; omega) ?_; intro v6 w6 hown6 hgr6 hat6; obtain ⟨a6, n6, c6, rfl⟩ := row_slice6 hown6; obtain ⟨_, _, _, _, z6⟩ := (HRW.out _ w6 hgr6).cells HME.out; have f6 := (HRW.out _ w6 hgr6).frozen (nx * 5 + 4)))
      all_goals
        obtain ⟨hL7, hkp7, hbx7, hs7⟩ := lay_step1 HL.out hk hnl hcl hnc (by rw [HM.out]; exact hown6) hgr6 hat6
        generalize w6.setCell ⟨nb, nx * 5 + 4, none⟩ (.slice a6 n6 c6) = W7 at hL7 hkp7 hbx7 hs7 ⊢
        have q0 : W7.cell? ⟨wr.heap.size, 0, none⟩ = some (.bool k.text) := by rw [Lib.cell_of_heap hbx7]; rfl
        have q1 : W7.cell? ⟨wr.heap.size, 1, none⟩ = some (.string k.s) := by rw [Lib.cell_of_heap hbx7]; rfl
        have q2 : W7.cell? ⟨wr.heap.size, 2, none⟩ = some (.slice xa k.attrs.length xc) := by rw [Lib.cell_of_heap hbx7]; rfl
        have q3 : W7.cell? ⟨wr.heap.size, 3, none⟩ = some (.slice ya k.kids.length yc) := by rw [Lib.cell_of_heap hbx7]; rfl
        have hn7 := hL7.num
        rw [HM.out] at hn7
        have hSF7 := HSF.out W7 hL7.fr
        have hw7 := hL7.fr.below.size
        have hcall := IH.out d' rfl S _ _ k (nx : Int) nb cb m _ W7 (HKA.out.carry fun b hb => ⟨hb, hSF7 b hb⟩) (Trees.carry (fun b hb => ⟨hb, hSF7 b hb⟩) d' HKK.out) (fun b hb => ⟨by have := (HSS.out b hb).1; omega, (HSS.out b hb).2⟩) hnc hL7.row hn7 (by rw [hL7.len]; exact hroom) (by rw [hL7.len]; exact h80) (by
          intro u hu
          simp only [List.mem_singleton] at hu
          subst hu
          exact HFW.out _ (List.mem_of_getElem? hk))
        rw [hL7.len] at hcall
        have HCALL : Hid _ := hcall
        have HL7 : Hid _ := hL7
        clear hcall hL7 hown6 hgr6 hat6 z6 f6 g4 g4a cc e0 e1 e2 e3 hn7 hSF7 hkp7 hbx7
        go_wp2_with fail
        refine (Calls.mono HCALL.out ?_)
        rintro e w8 ⟨rfl, mj, hR8, hlen8, hC8, hold8, hLd8, hF8⟩
        have HL8 : Hid _ := lay_step2 HL7.out hk (Trees.deep d' HKK.out) (Trees.deep (d' + 1) HKT.out) hnl hcl hR8 (by rw [HL7.out.len]; exact hlen8) (by rw [HM.out]; exact hC8) (by rw [HM.out]; exact hold8) (by rw [HM.out]; exact hLd8) hF8
        clear HCALL hR8 hC8 hold8 hLd8 hF8
        go_wp2_with fail
        go_roundg (t.kids.length - (i + 1))
        case measure => omega
        case rel => exact ⟨i + 1, _, mj, by omega, by go_num, HL8.out⟩
    · have hii : i = t.kids.length := by omega
      have hili : ¬ (i : Int) < (t.kids.length : Int) := by omega
      have HLD : Hid _ := lay_done (Trees.deep d HKT.out) (by rw [← hii]; exact HL.out)
      clear hL hii q3
      go_wp2_with fail
      go_returns
      obtain ⟨h1, h2, h3, h4, h5, h6⟩ := HLD.out
      exact ⟨rfl, mi, h1, h2, h3, h4, h5, h6⟩

theorem lay_any (d : Nat) : LayOk d := by
  induction d with
  | zero => exact lay_of 0 (fun m hm => by omega)
  | succ d ih => exact lay_of (d + 1) (fun m hm => by cases hm; exact ih)
end Go.Proofs.Ytmbmfomeiioijab

/- How deep trees are and how many, level by level; a list of trees that grows by whole lists. No condition. -/
namespace Go.Proofs.Ytmbmfomeiioijab
open Go.ChangeShapes Go.WideShapes Go.ChangeAt Go.RowKit
set_option maxRecDepth 100000

def dep : Nat → List Tr → Nat
  | 0, _ => 0
  | n + 1, ts => (ts.map fun t => 1 + dep n t.kids).foldr max 0

theorem dep_nil (n : Nat) : dep n [] = 0 := by cases n <;> rfl
theorem dep_cons (n : Nat) (t : Tr) (r : List Tr) : dep (n + 1) (t :: r) = max (1 + dep n t.kids) (dep (n + 1) r) := rfl

theorem dep_append (n : Nat) (a b : List Tr) : dep n (a ++ b) = max (dep n a) (dep n b) := by
  cases n with
  | zero => rfl
  | succ n =>
    induction a with
    | nil => simp [dep_nil]
    | cons t r ih => rw [List.cons_append, dep_cons, dep_cons, ih]; omega

theorem cnt_append (n : Nat) (a b : List Tr) : cnt n (a ++ b) = cnt n a + cnt n b := by
  cases n with
  | zero => rfl
  | succ n =>
    induction a with
    | nil => simp [cnt_nil]
    | cons t r ih => rw [List.cons_append, cnt_cons, cnt_cons, ih]; omega

theorem dep_cnt : ∀ (n : Nat) (ts : List Tr), dep n ts ≤ cnt n ts := by
  intro n
  induction n with
  | zero => intro ts; exact Nat.le_refl _
  | succ n ih =>
    intro ts
    induction ts with
    | nil => rw [dep_nil]; omega
    | cons t r ihr => rw [dep_cons, cnt_cons]; have := ih t.kids; omega

/-- The next level. -/
def nx (ts : List Tr) : List Tr := ts.flatMap fun t => t.kids

theorem nx_nil : nx [] = [] := rfl
theorem nx_cons (t : Tr) (r : List Tr) : nx (t :: r) = t.kids ++ nx r := by simp [nx]
theorem nx_append (a b : List Tr) : nx (a ++ b) = nx a ++ nx b := by simp [nx]

theorem cnt_nx (n : Nat) (ts : List Tr) : cnt (n + 1) ts = ts.length + cnt n (nx ts) := by
  induction ts with
  | nil => simp [cnt_nil, nx_nil]
  | cons t r ih => rw [cnt_cons, nx_cons, cnt_append, ih, List.length_cons]; omega

theorem dep_nx (n : Nat) (ts : List Tr) (h : ts ≠ []) : dep (n + 1) ts = 1 + dep n (nx ts) := by
  induction ts with
  | nil => exact absurd rfl h
  | cons t r ih =>
    rw [dep_cons, nx_cons, dep_append]
    by_cases hr : r = []
    · subst hr; rw [dep_nil, nx_nil, dep_nil]; omega
    · rw [ih hr]; omega

theorem Deep.nx {n : Nat} {ts : List Tr} (h : Deep (n + 1) ts) : Deep n (nx ts) := by
  cases n with
  | zero =>
    show Go.Proofs.Ytmbmfomeiioijab.nx ts = []
    induction ts with
    | nil => rfl
    | cons t r ih =>
      rw [nx_cons, ih (fun x hx => h x (List.mem_cons_of_mem _ hx))]
      have : t.kids = [] := h t (List.mem_cons_self ..)
      rw [this]; rfl
  | succ n =>
    intro x hx
    obtain ⟨t, ht, hxt⟩ := List.mem_flatMap.1 hx
    exact h t ht x hxt

theorem Deep.len {n : Nat} {ts : List Tr} (h : Deep n ts) : ts.length ≤ cnt n ts := by
  cases n with
  | zero =>
    have : ts = [] := h
    rw [this]; exact Nat.zero_le _
  | succ n => rw [cnt_nx]; omega

theorem pick_list {α : Type} {p : Nat → α → Prop} : ∀ (n : Nat), (∀ i, i < n → ∃ y, p i y) → ∃ l : List α, l.length = n ∧ ∀ i y, l[i]? = some y → p i y := by
  intro n
  induction n with
  | zero => intro _; exact ⟨[], rfl, fun i y h => by simp at h⟩
  | succ n ih =>
    intro h
    obtain ⟨l, hl, hp⟩ := ih (fun i hi => h i (by omega))
    obtain ⟨y, hy⟩ := h n (by omega)
    refine ⟨l ++ [y], by simp [hl], fun i z hz => ?_⟩
    rcases Nat.lt_or_ge i n with hi | hi
    · rw [List.getElem?_append_left (by omega)] at hz; exact hp i z hz
    · rw [List.getElem?_append_right (by omega), hl] at hz
      rcases Nat.eq_zero_or_pos (i - n) with h0 | h0
      · rw [h0] at hz; simp at hz; subst hz
        have : i = n := by omega
        rw [this]; exact hy
      · rw [List.getElem?_eq_none (by simp; omega)] at hz; cases hz

theorem quadCells_at {ps : List (Bool × ByteArray × Value × Value)} {j : Nat} {u : Value} (h : (quadCells ps)[j]? = some u) :
    ∃ i q, ps[i]? = some q ∧ ((j = i * 4 ∧ u = .bool q.1) ∨ (j = i * 4 + 1 ∧ u = .string q.2.1) ∨ (j = i * 4 + 2 ∧ u = q.2.2.1) ∨ (j = i * 4 + 3 ∧ u = q.2.2.2)) := by
  have hj : j < (quadCells ps).length := (List.getElem?_eq_some_iff.1 h).1
  rw [quadCells_length] at hj
  have hi : j / 4 < ps.length := by omega
  have hq : ps[j / 4]? = some ps[j / 4] := by simp
  obtain ⟨g0, g1, g2, g3⟩ := quadCells_get ps (j / 4) _ hq
  refine ⟨j / 4, ps[j / 4], hq, ?_⟩
  have hm : j % 4 = 0 ∨ j % 4 = 1 ∨ j % 4 = 2 ∨ j % 4 = 3 := by omega
  rcases hm with e | e | e | e
  · have hj' : j = j / 4 * 4 := by omega
    rw [← hj', h] at g0; exact Or.inl ⟨hj', by simpa using g0⟩
  · have hj' : j = j / 4 * 4 + 1 := by omega
    rw [← hj', h] at g1; exact Or.inr (Or.inl ⟨hj', by simpa using g1⟩)
  · have hj' : j = j / 4 * 4 + 2 := by omega
    rw [← hj', h] at g2; exact Or.inr (Or.inr (Or.inl ⟨hj', by simpa using g2⟩))
  · have hj' : j = j / 4 * 4 + 3 := by omega
    rw [← hj', h] at g3; exact Or.inr (Or.inr (Or.inr ⟨hj', by simpa using g3⟩))

/-- The four cells of each tree of a list that lies somewhere. -/
theorem Trees.quads {S : Nat → Prop} {w : World} {n : Nat} {ad : Addr} {len cap : Nat} {ts : List Tr} (h : Trees S w (n + 1) (.slice (some ad) len cap) ts) :
    ∃ ps : List (Bool × ByteArray × Value × Value), ps.length = ts.length ∧ (∀ j u, (quadCells ps)[j]? = some u → w.cell? (ad.add j) = some u) ∧ (∀ u ∈ quadCells ps, u.oneCell' = true) ∧
      ∀ (i : Nat) (q : Bool × ByteArray × Value × Value) (t : Tr), ps[i]? = some q → ts[i]? = some t → q.1 = t.text ∧ q.2.1 = t.s ∧ Attrs S w q.2.2.1 t.attrs ∧ Trees S w n q.2.2.2 t.kids := by
  obtain ⟨a, c, hv, h2, h3, h4⟩ := h
  by_cases hne : ts = []
  · subst hne
    exact ⟨[], rfl, fun j u hj => by simp [quadCells] at hj, fun u hu => by simp [quadCells] at hu, fun i q t hq => by simp at hq⟩
  obtain ⟨b, o, ha, hs, hc⟩ := h4 hne
  have had : ad = ⟨b, o, none⟩ := by
    rw [ha] at hv
    injection hv with h5
    injection h5
  obtain ⟨ps, hl, hp⟩ := pick_list (α := Bool × ByteArray × Value × Value) (p := fun i q => ∀ t, ts[i]? = some t →
      w.cell? ⟨b, o + i * 4, none⟩ = some (.bool q.1) ∧ w.cell? ⟨b, o + i * 4 + 1, none⟩ = some (.string q.2.1) ∧ w.cell? ⟨b, o + i * 4 + 2, none⟩ = some q.2.2.1 ∧ w.cell? ⟨b, o + i * 4 + 3, none⟩ = some q.2.2.2 ∧
      q.1 = t.text ∧ q.2.1 = t.s ∧ Attrs S w q.2.2.1 t.attrs ∧ Trees S w n q.2.2.2 t.kids) ts.length (by
    intro i hi
    have ht : ts[i]? = some ts[i] := by simp
    obtain ⟨va, vk, c0, c1, c2, c3, hat, hkt⟩ := hc i _ ht
    refine ⟨(ts[i].text, ts[i].s, va, vk), fun t ht' => ?_⟩
    rw [ht] at ht'; cases ht'
    exact ⟨c0, c1, c2, c3, rfl, rfl, hat, hkt⟩)
  have find : ∀ (i : Nat) (q : Bool × ByteArray × Value × Value), ps[i]? = some q → ∃ t, ts[i]? = some t := by
    intro i q hq
    have : i < ps.length := (List.getElem?_eq_some_iff.1 hq).1
    exact ⟨ts[i]'(by omega), by simp⟩
  refine ⟨ps, hl, ?_, ?_, ?_⟩
  · intro j u hj
    obtain ⟨i, q, hq, hu⟩ := quadCells_at hj
    obtain ⟨t, ht⟩ := find i q hq
    obtain ⟨c0, c1, c2, c3, _⟩ := hp i q hq t ht
    subst had
    rw [Addr.add_lit]
    rcases hu with ⟨rfl, rfl⟩ | ⟨rfl, rfl⟩ | ⟨rfl, rfl⟩ | ⟨rfl, rfl⟩
    · exact c0
    · exact c1
    · exact c2
    · exact c3
  · intro u hu
    obtain ⟨j, hj⟩ := List.mem_iff_getElem?.1 hu
    obtain ⟨i, q, hq, hu⟩ := quadCells_at hj
    obtain ⟨t, ht⟩ := find i q hq
    obtain ⟨_, _, _, _, _, _, hA, hT⟩ := hp i q hq t ht
    rcases hu with ⟨_, rfl⟩ | ⟨_, rfl⟩ | ⟨_, rfl⟩ | ⟨_, rfl⟩
    · rfl
    · rfl
    · obtain ⟨x, y, e⟩ := hA.shape; rw [e]; rfl
    · obtain ⟨x, y, e, _⟩ := Trees.shape n hT; rw [e]; rfl
  · intro i q t hq ht
    obtain ⟨_, _, _, _, r⟩ := hp i q hq t ht
    exact r

theorem Grow.many {S : Nat → Prop} {n B : Nat} {w w' : World} {v v' : Value} {us ts : List Tr} {qs ps : List (Bool × ByteArray × Value × Value)}
    (h : Grow S n B w v us qs) (hl : ps.length = ts.length) (hown : w'.ownsRow B 32 4 v' (us.length + ts.length) (quadCells qs ++ quadCells ps))
    (hg : w.grownBy w' v.ownBlock) (hat : v'.ownBlock = v.ownBlock ∨ v'.ownBlock = some w.heap.size)
    (he : ∀ (i : Nat) (q : Bool × ByteArray × Value × Value) (t : Tr), ps[i]? = some q → ts[i]? = some t → q.1 = t.text ∧ q.2.1 = t.s ∧ Attrs (Oth S B w v) w q.2.2.1 t.attrs ∧ Trees (Oth S B w v) w n q.2.2.2 t.kids) : Grow S n B w' v' (us ++ ts) (qs ++ ps) := by
  have carry : ∀ b, Oth S B w v b → Oth S B w' v' b ∧ w'.heap[b]? = w.heap[b]? := by
    intro b hb
    refine ⟨⟨hb.1, Nat.lt_of_lt_of_le hb.2.1 hg.size, ?_⟩, hg.block b hb.2.1 (fun e => hb.2.2 e.symm)⟩
    rcases hat with e | e
    · rw [e]; exact hb.2.2
    · rw [e]; intro e'; cases e'; exact Nat.lt_irrefl _ hb.2.1
  refine ⟨by simp [h.len, hl], ?_, ?_⟩
  · rw [quadCells_append, List.length_append]; exact hown
  · intro i q' t' hq ht
    rcases Nat.lt_or_ge i us.length with hi | hi
    · rw [List.getElem?_append_left (by rw [h.len]; exact hi)] at hq
      rw [List.getElem?_append_left hi] at ht
      obtain ⟨a, b, c, d⟩ := h.each i q' t' hq ht
      exact ⟨a, b, c.carry carry, Trees.carry carry n d⟩
    · rw [List.getElem?_append_right (by rw [h.len]; exact hi)] at hq
      rw [List.getElem?_append_right hi] at ht
      rw [h.len] at hq
      obtain ⟨a, b, c, d⟩ := he _ q' t' hq ht
      exact ⟨a, b, c.carry carry, Trees.carry carry n d⟩

/-- A list of trees appended onto one of our own. -/
theorem wpList_append_trees {ops : Array Oper} {rest : List Oper} {o : Oper} {a : Act} {w : World} {Q : Exit → Act → World → Prop} (hgd : o.guard = none) (s x : Operand)
    (ho : o.op = .call { callee := .builtin .append, args := #[s, x], argTypes := #[30, 30] })
    (S S1 : Nat → Prop) (n B : Nat) (v vk : Value) (us ts : List Tr) (qs : List (Bool × ByteArray × Value × Value)) (hs : a.eval s = v) (hG : Grow S n B w v us qs) (hx : a.eval x = vk) (hk : Trees S1 w (n + 1) vk ts)
    (hS : ∀ b, S1 b → Oth S B w v b) (hl : us.length + ts.length ≤ 1048576) (hB : B ≤ w.heap.size)
    (h : ∀ v' w' qs', Grow S n B w' v' (us ++ ts) qs' → Below B w w' → wpList Try.prog ops Q rest (a.put o.dst v') w') :
    wpList Try.prog ops Q (o :: rest) a w := by
  obtain ⟨i0, hi, hz0, hz1, hz2⟩ := info_parts treeInfo
  obtain ⟨ka, kc, rfl, hkc, hkm⟩ := Trees.shape (n + 1) hk
  cases ka with
  | none =>
    have hn : ts = [] := by
      apply Classical.byContradiction; intro hne
      obtain ⟨a, c, hv, _, _, h4⟩ := hk
      obtain ⟨b, o, ha, _⟩ := h4 hne
      rw [ha] at hv; cases hv
    subst hn
    refine wpList_plain hgd fun K hK => ?_
    have hrun : (Builtin.append_ #[30, 30] o.type #[v, .slice none 0 kc]).run Try.prog w = .ok v w := by
      rcases hG.own.2 with ⟨rfl, e⟩ | ⟨g, cap, cur, rfl, _, _, hnc, _⟩
      · simp [Builtin.append_, run_underlying Try.underlying30, sizeOf, typeInfo, hi, Builtin.lenOf, Builtin.firstCells]
      · simp [Builtin.append_, run_underlying Try.underlying30, sizeOf, typeInfo, hi, Builtin.lenOf, Builtin.firstCells, hnc, storeCells]
    simp only [List.length_nil] at hx
    unfold Oper.wp
    simp [execOp, ho, resolve, invoke, builtin, hs, hx, hrun, Result.andThen]
    exact hK _ _ (h v w qs (by rw [List.append_nil]; exact hG) (Below.refl _ _))
  | some ad =>
    obtain ⟨ps, hpl, hpc, hp1, hpe⟩ := Trees.quads hk
    refine wpList_append_own_at w hgd s x 30 ho B 32 i0 _ 4 72 Try.underlying30 hi hz0 hz1 hz2 rfl (by decide) v us.length (quadCells qs) hs hG.own ad ts.length kc (quadCells ps) hx ?_ hpc hp1 ?_ ?_ hB ?_
    · rw [quadCells_length, hpl]
    · unfold maxLen; omega
    · omega
    · intro v' w' hown hgr _ hat
      exact h v' w' _ (hG.many hpl hown hgr hat (fun i q t hq ht => by
        obtain ⟨a, b, c, d⟩ := hpe i q t hq ht
        exact ⟨a, b, c.carry (fun b hb => ⟨hS b hb, rfl⟩), Trees.carry (fun b hb => ⟨hS b hb, rfl⟩) n d⟩)) ((Below.refl _ w).grown hgr hB (fun k hk' => (hG.own.lt k hk').1))
end Go.Proofs.Ytmbmfomeiioijab

/- tree.takeLast at the waiting groups of a counter: the last one, and the rest stays. No condition. -/
namespace Go.Proofs.Ytmbmfomeiioijab
open Go.ChangeShapes Go.WideShapes Go.ChangeAt Go.RowKit
set_option maxRecDepth 100000

def groupCells : List (Value × Nat) → List Value
  | [] => []
  | x :: r => x.1 :: .int .i64 (x.2 : Int) :: groupCells r

theorem groupCells_length (l : List (Value × Nat)) : (groupCells l).length = l.length * 2 := by
  induction l with
  | nil => rfl
  | cons x r ih => simp [groupCells, ih]; omega

theorem groupCells_append (l m : List (Value × Nat)) : groupCells (l ++ m) = groupCells l ++ groupCells m := by
  induction l with
  | nil => rfl
  | cons x r ih => simp [groupCells, ih]

/-- The front of a row of the call's own. -/
theorem ownsRow_front {w : World} {B : Nat} {e : TypeId} {size g cap n : Nat} {xs ys : List Value} (h : w.ownsRow B e size (.slice (some ⟨g, 0, none⟩) (n + 1) cap) (n + 1) (xs ++ ys)) (hx : xs.length = n * size) :
    w.ownsRow B e size (.slice (some ⟨g, 0, none⟩) n cap) n xs := by
  obtain ⟨h1, h2⟩ := h
  rcases h2 with ⟨h0, _⟩ | ⟨g', cap', cur, hv, hg, hh, hn, hcap, hsz, htake⟩
  · cases h0
  · cases hv
    refine ⟨hx, Or.inr ⟨g, cap, cur, rfl, hg, hh, by omega, hcap, hsz, ?_⟩⟩
    have e1 : cur.toList.take (n * size) = (cur.toList.take ((n + 1) * size)).take (n * size) := by
      rw [List.take_take, Nat.min_eq_left (Nat.mul_le_mul_right _ (by omega))]
    rw [e1, htake, ← hx, List.take_left]

/-- A counter of the call's own at block cb: depth, count, the waiting groups. -/
structure Cst (B cb : Nat) (w : World) (dd cc : Nat) (v : Value) (G : List (Value × Nat)) : Prop where
  base : B ≤ cb
  held : w.heap[cb]? = some (.cells #[.int .i64 (dd : Int), .int .i64 (cc : Int), v] 52 (0, 0))
  own : w.ownsRow B 70 2 v G.length (groupCells G)
  slices : ∀ x ∈ G, ∃ a l c, x.1 = .slice a l c

theorem Cst.lt {B cb : Nat} {w : World} {dd cc : Nat} {v : Value} {G : List (Value × Nat)} (h : Cst B cb w dd cc v G) : cb < w.heap.size := by
  rcases Nat.lt_or_ge cb w.heap.size with h' | h'
  · exact h'
  · have := h.held; simp [Array.getElem?_eq_none h'] at this

theorem Cst.apart {B cb : Nat} {w : World} {dd cc : Nat} {v : Value} {G : List (Value × Nat)} (h : Cst B cb w dd cc v G) : v.ownBlock ≠ some cb := by
  intro e
  obtain ⟨_, c, fz, hc⟩ := ownsRow_type h.own e
  rw [h.held] at hc
  simp at hc

theorem Cst.shape {B cb : Nat} {w : World} {dd cc : Nat} {v : Value} {G : List (Value × Nat)} (h : Cst B cb w dd cc v G) : ∃ a c, v = .slice a G.length c := by
  rcases h.own.2 with ⟨hv, h0⟩ | ⟨g, cap, cur, hv, _⟩
  · exact ⟨none, 0, by rw [hv, h0]⟩
  · exact ⟨_, _, hv⟩

theorem takeG_any (B cb : Nat) (w : World) (dd cc : Nat) (v : Value) (G : List (Value × Nat)) (x : Value) (d : Nat) (h : Cst B cb w dd cc v (G ++ [(x, d)])) (hBw : B ≤ w.heap.size) :
    Calls Try.prog 24 #[.pointer (some ⟨cb, 2, none⟩)] w fun e w' => e = .returned (.agg #[x, .int .i64 (d : Int)]) ∧ ∃ v', Cst B cb w' dd cc v' G ∧ v'.ownBlock = v.ownBlock ∧ (∀ b, b < w.heap.size → b ≠ cb → w'.heap[b]? = w.heap[b]?) ∧ Below B w w' := by
  have hap := h.apart
  have hlt := h.lt
  obtain ⟨hB, hj, hown, hsl⟩ := h
  obtain ⟨xa, xl, xc, hx⟩ := hsl (x, d) (by simp)
  simp only at hx
  subst hx
  rcases hown.2 with ⟨_, h0⟩ | ⟨g, cap, cur, rfl, hg, hh, hc, hm, hs, ht⟩
  · simp at h0
  have hlen : (G ++ [(Value.slice xa xl xc, d)]).length = G.length + 1 := by simp
  rw [hlen] at hown hj hc ht
  have c2 : w.cell? ⟨cb, 2, none⟩ = some (.slice (some ⟨g, 0, none⟩) (G.length + 1) cap) := by rw [Lib.cell_of_heap hj]; rfl
  have f2 : w.frozen? ⟨cb, 2, none⟩ = false := Lib.frozen_of_heap hj 2
  have hgl := groupCells_length G
  have k0 : w.cell? ⟨g, G.length * 2, none⟩ = some (.slice xa xl xc) := by
    rw [World.ownsRow.cellAt hown _ (by omega), groupCells_append, List.getElem?_append_right (by omega), hgl]; simp [groupCells]
  have k1 : w.cell? ⟨g, G.length * 2 + 1, none⟩ = some (.int .i64 (d : Int)) := by
    rw [World.ownsRow.cellAt hown _ (by omega), groupCells_append, List.getElem?_append_right (by omega), hgl]; simp [groupCells]
  have hgs : g < w.heap.size := World.block_lt_of_cell? w _ k0
  unfold maxLen at hm
  have HJ : Hid (w.heap[cb]? = some (.cells #[.int .i64 (dd : Int), .int .i64 (cc : Int), .slice (some ⟨g, 0, none⟩) (G.length + 1) cap] 52 (0, 0))) := hj
  clear hj hgl
  go_enter Try.func24, Try.ntmps24
  go_wp2_with fail
  have hk : ∀ b, b < w.heap.size → b ≠ cb → (((w.setCell ⟨cb, 2, none⟩ (.slice (some ⟨g, 0, none⟩) G.length cap)).alloc (.cells #[.slice xa xl xc, .int .i64 (d : Int)] 70)).alloc (.cells #[.slice xa xl xc, .int .i64 (d : Int)] 70)).heap[b]? = w.heap[b]? := by
    intro b hb hbc
    rw [Lib.alloc_old _ _ _ (by simp; omega), Lib.alloc_old _ _ _ (by simp; omega), Below.heap_setCell _ _ _ _ hbc]
  have hgc : g ≠ cb := fun e => hap (by rw [e]; rfl)
  refine bodyPost_ret (v := .agg #[.slice xa xl xc, .int .i64 (d : Int)]) (by simp [results, Try.results24, go_sem]) rfl ⟨rfl, .slice (some ⟨g, 0, none⟩) G.length cap, ⟨hB, ?_, ?_, fun y hy => hsl y (by simp [hy])⟩, ?_, hk, ?_⟩
  · rw [Lib.alloc_old _ _ _ (by simp; omega), Lib.alloc_old _ _ _ (by simp; omega)]
    simp [World.setCell, Array.getElem?_modify, HJ.out]
  · rw [groupCells_append] at hown
    exact ownsRow_heap (ownsRow_front hown (groupCells_length G)) fun b hb => by cases hb; exact hk g hgs hgc
  · rfl
  · exact ((((Below.refl B w).setCell hB _).alloc (by simp; omega) _).alloc (by simp; omega) _)
end Go.Proofs.Ytmbmfomeiioijab

/- (*counter).add: all within reach is counted, the rest waits. Condition: at most 2^20 trees. -/
namespace Go.Proofs.Ytmbmfomeiioijab
open Go.ChangeShapes Go.WideShapes Go.ChangeAt Go.RowKit
set_option maxRecDepth 100000

theorem groupInfo : (Try.prog.info? 70).map (fun i => (i.zero, i.size, i.bytes)) = some (some (.agg #[.slice none 0 0, .int .i64 0]), 2, 32) := by kernel_rfl

/-- A group appended onto the waiting ones, as a step of a region that draws. -/
theorem step_group {ops : Array Oper} {o : Oper} {a : Act} {w : World} {K : Act → World → Prop} {Q : Exit → Act → World → Prop} {E : Prop}
    (hg : o.guard = none) (s x : Operand) (hop : o.op = Op.call { callee := Callee.builtin Builtin.append, args := #[s, x], argTypes := #[50, 50] })
    (B : Nat) (v : Value) (n : Nat) (xs : List Value) (hs : a.eval s = v) (hown : w.ownsRow B 70 2 v n xs) (ad : Addr) (sa : Option Addr) (sl sc : Nat) (d : Int) (hx : a.eval x = .slice (some ad) 1 1)
    (hnews : ∀ j u, [Value.slice sa sl sc, Value.int .i64 d][j]? = some u → w.cell? (ad.add j) = some u) (hn : n ≤ 1048576) (hB : B ≤ w.heap.size)
    (hK : ∀ v' w', w'.ownsRow B 70 2 v' (n + 1) (xs ++ [.slice sa sl sc, .int .i64 d]) → w.grownBy w' v.ownBlock → (v'.ownBlock = v.ownBlock ∨ v'.ownBlock = some w.heap.size) → K (a.put o.dst v') w') :
    if Region.wanted o (yielded ops a.tmps) = true then Oper.wp Try.prog o a w K Q else E := by
  have hw : Region.wanted o (yielded ops a.tmps) = true := by simp [Region.wanted, hg]
  rw [if_pos hw]
  obtain ⟨i0, hi, hz0, hz1, hz2⟩ := info_parts groupInfo
  obtain ⟨v', w', hr, h2, h3, _, h5⟩ := run_append_own_at (P := Try.prog) w B 50 o.type 70 i0 _ 2 32 Try.underlying50 hi hz0 hz1 hz2 rfl (by decide) v n xs hown ad 1 1 [.slice sa sl sc, .int .i64 d] rfl hnews (by intro u hu; simp at hu; rcases hu with rfl | rfl <;> rfl) (by unfold maxLen; omega) (by omega) hB
  unfold Oper.wp
  simp [execOp, hop, resolve, invoke, builtin, hs, hx, hr, Result.andThen]
  exact hK v' w' h2 h3 h5

structure CE where
  v : Value
  n : Nat
  ts : List Tr
  o : Nat

def csum (P : List CE) : Nat := (P.map fun e => cnt e.n e.ts).sum
def cmax (P : List CE) : Nat := (P.map fun e => e.o + dep e.n e.ts).foldr max 0
def grp (e : CE) : Value × Nat := (e.v, e.o + 1)

theorem csum_append (P Q : List CE) : csum (P ++ Q) = csum P + csum Q := by simp [csum]
theorem cmax_append (P Q : List CE) : cmax (P ++ Q) = max (cmax P) (cmax Q) := by
  induction P with
  | nil => simp [cmax]
  | cons e r ih =>
    have h1 : cmax (e :: r ++ Q) = max (e.o + dep e.n e.ts) (cmax (r ++ Q)) := rfl
    have h2 : cmax (e :: r) = max (e.o + dep e.n e.ts) (cmax r) := rfl
    rw [h1, h2, ih]; omega

def PendC (S : Nat → Prop) (w : World) (e : CE) : Prop := e.ts ≠ [] ∧ Trees S w e.n e.v e.ts ∧ e.o + dep e.n e.ts ≤ 1048577

structure AddP (S : Nat → Prop) (B cb : Nat) (w : World) (ds cs L : Nat) (o : Nat) (ts : List Tr) (dd cc : Nat) (wv : Value) (G : List (Value × Nat)) (w' : World) (P : List CE) (dd' cc' : Nat) (wv' : Value) : Prop where
  below : Below B w w'
  cst : Cst B cb w' dd' cc' wv' (G ++ P.map grp)
  row : wv'.ownBlock = wv.ownBlock ∨ ∃ b, wv'.ownBlock = some b ∧ w.heap.size ≤ b
  frame : ∀ b, b < w.heap.size → b ≠ cb → wv.ownBlock ≠ some b → w'.heap[b]? = w.heap[b]?
  pend : ∀ e ∈ P, PendC S w e
  dmax : max dd' (cmax P) = max dd ds
  csum : cc' + csum P = cc + cs
  more : cc ≤ cc' ∧ (0 < L → cc + ts.length ≤ cc')

def AddOk (S : Nat → Prop) (B cb L : Nat) : Prop := ∀ (n : Nat) (v : Value) (ts : List Tr) (o d dd cc : Nat) (wv : Value) (G : List (Value × Nat)) (w : World),
  d = o + 1 → (∀ b, S b → b < w.heap.size ∧ b ≠ cb ∧ wv.ownBlock ≠ some b) → Trees S w n v ts → Cst B cb w dd cc wv G → B ≤ w.heap.size → o + dep n ts ≤ 1048577 → dd ≤ 1048577 → cc + cnt n ts ≤ 1048576 → G.length + cnt n ts ≤ 1048576 →
  Calls Try.prog 23 #[.pointer (some ⟨cb, 0, none⟩), .agg #[v, .int .i64 (d : Int)], .int .i64 (L : Int)] w fun e w' => e = .returned (.tuple #[]) ∧
    ∃ P dd' cc' wv', AddP S B cb w (if ts = [] then 0 else o + dep n ts) (cnt n ts) L o ts dd cc wv G w' P dd' cc' wv'

theorem Cst.later {B cb : Nat} {w w' : World} {dd cc : Nat} {v : Value} {G : List (Value × Nat)} (h : Cst B cb w dd cc v G) (hb : Below w.heap.size w w') : Cst B cb w' dd cc v G :=
  ⟨h.base, by rw [hb.block cb h.lt]; exact h.held, ownsRow_later h.own hb, h.slices⟩

theorem add_nil (S : Nat → Prop) (B cb L n : Nat) (v : Value) (o d dd cc : Nat) (wv : Value) (G : List (Value × Nat)) (w : World) (h : Trees S w n v []) (hc : Cst B cb w dd cc wv G) (hB : B ≤ w.heap.size) :
    Calls Try.prog 23 #[.pointer (some ⟨cb, 0, none⟩), .agg #[v, .int .i64 (d : Int)], .int .i64 (L : Int)] w fun e w' => e = .returned (.tuple #[]) ∧
      ∃ P dd' cc' wv', AddP S B cb w 0 (cnt n []) L o [] dd cc wv G w' P dd' cc' wv' := by
  obtain ⟨a, c, rfl, _, _⟩ := Trees.shape n h
  simp only [List.length_nil]
  go_enter Try.func23, Try.ntmps23
  go_wp2_with fail
  go_returns
  refine ⟨rfl, [], dd, cc, wv, ?_⟩
  refine ⟨(Below.refl B w).alloc hB _, by simpa using hc.later (Below.alloc1 w _), Or.inl rfl, fun b hb _ _ => Below.heap_alloc _ _ _ hb, by simp, by simp [cmax], by simp [Go.Proofs.Ytmbmfomeiioijab.csum, cnt_nil], Nat.le_refl _, fun _ => by simp⟩

theorem group_cells {W : World} {ad : Nat} {x y : Value} (h0 : W.cell? ⟨ad, 0, none⟩ = some x) (h1 : W.cell? ⟨ad, 1, none⟩ = some y) : ∀ j u, [x, y][j]? = some u → W.cell? ((⟨ad, 0, none⟩ : Addr).add j) = some u := by
  intro j u hj
  match j, hj with
  | 0, hj => simp at hj; subst hj; exact h0
  | 1, hj => simp at hj; subst hj; exact h1

theorem row_slice {w : World} {B n : Nat} {e : TypeId} {size : Nat} {v : Value} {xs : List Value} (h : w.ownsRow B e size v n xs) : ∃ a l c, v = .slice a l c := by
  rcases h.2 with ⟨hv, _⟩ | ⟨g, cap, cur, hv, _⟩
  · exact ⟨_, _, _, hv⟩
  · exact ⟨_, _, _, hv⟩

theorem grown_held {B cb : Nat} {W X w1 : World} {dd cc : Nat} {wv : Value} {G : List (Value × Nat)} (h : Cst B cb W dd cc wv G) (hX : Below W.heap.size W X) (hg : X.grownBy w1 wv.ownBlock) :
    w1.heap[cb]? = some (.cells #[.int .i64 (dd : Int), .int .i64 (cc : Int), wv] 52 (0, 0)) := by
  rw [hg.block cb (Nat.lt_of_lt_of_le h.lt hX.size) (fun e => h.apart e.symm), hX.block cb h.lt]
  exact h.held

theorem add_one {S : Nat → Prop} {B cb : Nat} {w W0 w1 : World} {n o d dd cc : Nat} {ts : List Tr} {va wa a1 : Option Addr} {vc wc l1 c1 : Nat} {G : List (Value × Nat)} {c : Obj} (hd : d = o + 1) (hne : ts ≠ [])
    (hT : Trees S w n (.slice va ts.length vc) ts) (hod : o + dep n ts ≤ 1048577) (hBw : B ≤ w.heap.size) (hbx : Below w.heap.size w W0) (hX : Cst B cb W0 dd cc (.slice wa G.length wc) G)
    (hown1 : w1.ownsRow B 70 2 (.slice a1 l1 c1) (G.length + 1) (groupCells G ++ [.slice va ts.length vc, .int .i64 (d : Int)]))
    (hgr1 : (W0.alloc c).drew.grownBy w1 (Value.slice wa G.length wc).ownBlock)
    (hat1 : (Value.slice a1 l1 c1).ownBlock = (Value.slice wa G.length wc).ownBlock ∨ (Value.slice a1 l1 c1).ownBlock = some (W0.alloc c).drew.heap.size) :
    AddP S B cb w (o + dep n ts) (cnt n ts) 0 o ts dd cc (.slice wa G.length wc) G (w1.setCell ⟨cb, 2, none⟩ (.slice a1 l1 c1)) [⟨.slice va ts.length vc, n, ts, o⟩] dd cc (.slice a1 l1 c1) := by
  have hH := grown_held hX (Below.alloc1 W0 c).drew hgr1
  have hsz := hbx.size
  have hsX : (W0.alloc c).drew.heap.size = W0.heap.size + 1 := by simp [World.drew]
  have hap : (Value.slice a1 l1 c1).ownBlock ≠ some cb := by
    intro e
    obtain ⟨_, cs, fz, hc⟩ := ownsRow_type hown1 e
    rw [hH] at hc
    simp at hc
  subst hd
  refine ⟨?_, ⟨hX.base, ?_, ?_, ?_⟩, ?_, ?_, ?_, ?_, ?_, Nat.le_refl _, fun h => by omega⟩
  · exact (((((hbx.mono hBw).alloc (by omega) c).drew).grown hgr1 (by omega) (fun k hk => (hX.own.lt k hk).1))).setCell hX.base _
  · simp [World.setCell, Array.getElem?_modify, hH]
  · have e1 : (G ++ List.map grp [(⟨.slice va ts.length vc, n, ts, o⟩ : CE)]).length = G.length + 1 := by simp
    rw [e1, groupCells_append]
    exact ownsRow_heap hown1 fun b hb => Below.heap_setCell _ _ _ _ (fun e => hap (by rw [hb, e]))
  · intro x hx
    rcases List.mem_append.1 hx with hx | hx
    · exact hX.slices x hx
    · simp [grp] at hx; subst hx; exact ⟨_, _, _, rfl⟩
  · rcases hat1 with h | h
    · exact Or.inl h
    · exact Or.inr ⟨_, h, by omega⟩
  · intro b hb h1 h2
    rw [Below.heap_setCell _ _ _ _ h1, hgr1.block b (by omega) (fun e => h2 e.symm)]
    show (W0.alloc c).heap[b]? = _
    rw [Lib.alloc_old _ _ _ (by omega), hbx.block b hb]
  · intro e he
    simp at he
    subst he
    exact ⟨hne, hT, hod⟩
  · simp [cmax]
  · simp [Go.Proofs.Ytmbmfomeiioijab.csum]

theorem add_zero (S : Nat → Prop) (B cb : Nat) : AddOk S B cb 0 := by
  intro n v ts o d dd cc wv G w hd _ hT hC hBw hod hdd hcc hG
  have HD : Hid (d = o + 1) := hd
  by_cases hne : ts = []
  · subst hne
    simpa using add_nil S B cb 0 n v o d dd cc wv G w hT hC hBw
  · have hTo : Hid (Trees S w n v ts) := hT
    obtain ⟨va, vc, rfl, _, hvm⟩ := Trees.shape n hT
    have hl0 : 0 < ts.length := List.length_pos_iff.2 hne
    have hcn : 1 ≤ cnt n ts := by
      have := (Trees.deep n hT).len
      omega
    have hlt := hC.lt
    have hap := hC.apart
    have hne1 : ((ts.length : Int) == 0) = false := by
      have : (ts.length : Int) ≠ 0 := by omega
      simpa using this
    have hbx := Below.alloc1 w (.cells #[.slice va ts.length vc, .int .i64 (d : Int)] 70)
    have hX := hC.later hbx
    have b0 : (w.alloc (.cells #[.slice va ts.length vc, .int .i64 (d : Int)] 70)).cell? ⟨w.heap.size, 0, none⟩ = some (.slice va ts.length vc) := by simp
    have b1 : (w.alloc (.cells #[.slice va ts.length vc, .int .i64 (d : Int)] 70)).cell? ⟨w.heap.size, 1, none⟩ = some (.int .i64 (d : Int)) := by simp
    have hsz : (w.alloc (.cells #[.slice va ts.length vc, .int .i64 (d : Int)] 70)).heap.size = w.heap.size + 1 := by simp
    have HO : Hid (o + dep n ts ≤ 1048577) := hod
    clear hT hd hod hcc hdd
    unfold maxLen at hvm
    go_enter Try.func23, Try.ntmps23
    go_wp2_with fail
    generalize w.alloc (.cells #[.slice va ts.length vc, .int .i64 (d : Int)] 70) = W0 at hbx hX b0 b1 hsz ⊢
    obtain ⟨wa, wc, rfl⟩ := hC.shape
    have HS : Hid (W0.heap.size = w.heap.size + 1) := hsz
    have hB0 : B ≤ W0.heap.size := by omega
    have hszl : w.heap.size < W0.heap.size := by omega
    clear hsz
    have k2 : W0.cell? ⟨cb, 2, none⟩ = some (.slice wa G.length wc) := by rw [Lib.cell_of_heap hX.held]; rfl
    have kf : W0.frozen? ⟨cb, 2, none⟩ = false := Lib.frozen_of_heap hX.held 2
    have hcb0 : cb < W0.heap.size := hX.lt
    have HX : Hid (Cst B cb W0 dd cc (.slice wa G.length wc) G) := hX
    clear hX hC
    have hrow : (W0.alloc (.cells #[.slice va ts.length vc, .int .i64 (d : Int)] 70)).drew.ownsRow B 70 2 (.slice wa G.length wc) G.length (groupCells G) := HX.out.own.alloc _
    have hgc : ∀ j u, [Value.slice va ts.length vc, Value.int .i64 (d : Int)][j]? = some u → (W0.alloc (.cells #[.slice va ts.length vc, .int .i64 (d : Int)] 70)).drew.cell? ((⟨W0.heap.size, 0, none⟩ : Addr).add j) = some u := group_cells (W := (W0.alloc (.cells #[.slice va ts.length vc, .int .i64 (d : Int)] 70)).drew) (by simp) (by simp)
    have HR : Hid _ := hrow
    have HGC : Hid _ := hgc
    clear hrow hgc
    have hGl : G.length ≤ 1048576 := by omega
    have HH : Hid (∀ w1, (W0.alloc (.cells #[.slice va ts.length vc, .int .i64 (d : Int)] 70)).drew.grownBy w1 (Value.slice wa G.length wc).ownBlock → w1.heap[cb]? = some (.cells #[.int .i64 (dd : Int), .int .i64 (cc : Int), .slice wa G.length wc] 52 (0, 0))) := fun w1 hg => grown_held HX.out (Below.alloc1 W0 _).drew hg
    go_region_law (first
      | (refine step_group (by rfl) (.tmp 17) (.tmp 19) (by rfl) B (.slice wa G.length wc) G.length (groupCells G) (by simp [Act.eval]) HR.out ⟨W0.heap.size, 0, none⟩ va ts.length vc (d : Int) (by simp [Act.eval]) HGC.out hGl (by simp; omega) ?_; intro v1 w1 hown1 hgr1 hat1; obtain ⟨a1, l1, c1, rfl⟩ := row_slice hown1; have hj1 := Lib.cell_of_heap (HH.out w1 hgr1) 2; have hf1 := Lib.frozen_of_heap (HH.out w1 hgr1) 2; simp at hj1))
    all_goals
      go_wp2_with fail
      go_returns
      exact ⟨rfl, _, _, _, _, add_one HD.out hne hTo.out HO.out hBw hbx HX.out hown1 hgr1 hat1⟩
end Go.Proofs.Ytmbmfomeiioijab

