/- Bundled: LayM DocK DocT DocU LayB DocN SizeM ContM Fam PathM PathR Steps CalledR DocS. What each says stands ahead of it. -/
import Derived.Test.YtfghbfocjjmcmabGreatDoorBundle07
import Derived.Test.YtfghbfocjjmcmabGreatDoorBundle10
import Derived.Test.YtfghbfocjjmcmabGreatDoorBundle06
import Derived.Test.YtfghbfocjjmcmabGreatDoorBundle00
/- A document made of a tree, as a function; rows of nodes under way. No condition. -/
namespace Go.Proofs.YtfghbfocjjmcmabGreatDoor
open Go.ChangeShapes Go.WideShapes Go.ChangeAt Go.RowKit
set_option maxRecDepth 100000

/-- The numbers of kids, from a number on. -/
def startsOf (d : Nat) : Nat → List Tr → List Int
  | _, [] => []
  | at', k :: ks => (at' : Int) :: startsOf d (at' + cnt (d + 1) [k]) ks

/-- Nodes of trees beside one another, by what is known of each. -/
def laysOf (d : Nat) (g : Tr → Int → Nat → List Nd) (par : Nat) : Nat → List Tr → List Nd
  | _, [] => []
  | at', k :: ks => g k par at' ++ laysOf d g par (at' + cnt (d + 1) [k]) ks

/-- The nodes of a tree, from a number on. -/
def layF : Nat → Tr → Int → Nat → List Nd
  | 0, t, par, _ => [⟨t.text, t.s, t.attrs, par, []⟩]
  | d + 1, t, par, at' => ⟨t.text, t.s, t.attrs, par, startsOf d (at' + 1) t.kids⟩ :: laysOf d (layF d) at' (at' + 1) t.kids

theorem cnt_one (d : Nat) (t : Tr) : cnt (d + 1) [t] = 1 + cnt d t.kids := by simp [cnt]
theorem cnt_more (d : Nat) (t : Tr) (r : List Tr) : cnt (d + 1) (t :: r) = cnt (d + 1) [t] + cnt (d + 1) r := by simp [cnt]

theorem laysOf_append (d : Nat) (g : Tr → Int → Nat → List Nd) (par : Nat) : ∀ (a b : List Tr) (at' : Nat), laysOf d g par at' (a ++ b) = laysOf d g par at' a ++ laysOf d g par (at' + cnt (d + 1) a) b := by
  intro a
  induction a with
  | nil => intro b at'; simp [laysOf, cnt]
  | cons k a ih =>
    intro b at'
    rw [List.cons_append, laysOf, laysOf, ih, cnt_more d k a, List.append_assoc, Nat.add_assoc]
theorem startsOf_append (d : Nat) : ∀ (a b : List Tr) (at' : Nat), startsOf d at' (a ++ b) = startsOf d at' a ++ startsOf d (at' + cnt (d + 1) a) b := by
  intro a
  induction a with
  | nil => intro b at'; simp [startsOf, cnt]
  | cons k a ih =>
    intro b at'
    rw [List.cons_append, startsOf, startsOf, ih, cnt_more d k a, List.cons_append, Nat.add_assoc]

theorem startsOf_length (d : Nat) : ∀ (a : List Tr) (at' : Nat), (startsOf d at' a).length = a.length := by
  intro a
  induction a with
  | nil => intro _; rfl
  | cons k a ih => intro at'; simp [startsOf, ih]

theorem laysOf_length {d : Nat} {g : Tr → Int → Nat → List Nd} {par : Nat} (hg : ∀ t p a, (g t p a).length = cnt (d + 1) [t]) : ∀ (ts : List Tr) (at' : Nat), (laysOf d g par at' ts).length = cnt (d + 1) ts := by
  intro ts
  induction ts with
  | nil => intro _; rfl
  | cons k ts ih => intro at'; rw [laysOf, List.length_append, hg, ih, cnt_more d k ts]

theorem layF_length : ∀ (d : Nat) (t : Tr) (par : Int) (at' : Nat), Deep d t.kids → (layF d t par at').length = cnt (d + 1) [t] := by
  intro d
  induction d with
  | zero =>
    intro t par at' h
    have : t.kids = [] := h
    rw [cnt_one, this]
    rfl
  | succ d ih =>
    intro t par at' h
    rw [layF, List.length_cons, cnt_one]
    have : ∀ (ts : List Tr) (a : Nat), Deep (d + 1) ts → (laysOf d (layF d) at' a ts).length = cnt (d + 1) ts := by
      intro ts
      induction ts with
      | nil => intro _ _; rfl
      | cons k ts ih2 =>
        intro a hd
        rw [laysOf, List.length_append, ih k _ _ (hd k List.mem_cons_self), ih2 _ (fun u hu => hd u (List.mem_cons_of_mem _ hu)), cnt_more d k ts]
    rw [this t.kids (at' + 1) h]
    omega

structure Rw where
  text : Bool
  s : ByteArray
  va : Value
  par : Int
  vk : Value

def rawCells : List Rw → List Value
  | [] => []
  | r :: l => .bool r.text :: .string r.s :: r.va :: .int .i64 r.par :: r.vk :: rawCells l

theorem rawCells_length (l : List Rw) : (rawCells l).length = l.length * 5 := by
  induction l with
  | nil => rfl
  | cons x r ih => simp [rawCells, ih]; omega

theorem rawCells_get (l : List Rw) : ∀ i r, l[i]? = some r → (rawCells l)[i * 5]? = some (.bool r.text) ∧ (rawCells l)[i * 5 + 1]? = some (.string r.s) ∧ (rawCells l)[i * 5 + 2]? = some r.va ∧ (rawCells l)[i * 5 + 3]? = some (.int .i64 r.par) ∧ (rawCells l)[i * 5 + 4]? = some r.vk := by
  induction l with
  | nil => intro i x h; simp at h
  | cons y r ih =>
    intro i x h
    cases i with
    | zero => simp at h; subst h; simp [rawCells]
    | succ i =>
      have := ih i x (by simpa using h)
      rw [show (i + 1) * 5 = i * 5 + 5 from by omega]
      simpa [rawCells] using this

theorem rawCells_set (l : List Rw) : ∀ (i : Nat) (r : Rw), i < l.length → rawCells (l.set i r) = (((((rawCells l).set (i * 5) (.bool r.text)).set (i * 5 + 1) (.string r.s)).set (i * 5 + 2) r.va).set (i * 5 + 3) (.int .i64 r.par)).set (i * 5 + 4) r.vk := by
  induction l with
  | nil => intro i r h; simp at h
  | cons y l ih =>
    intro i r h
    cases i with
    | zero => simp [rawCells]
    | succ i =>
      rw [List.set_cons_succ, rawCells, ih i r (by simpa using h), show (i + 1) * 5 = i * 5 + 5 from by omega, rawCells]
      rfl

theorem rawCells_setK (l : List Rw) : ∀ (i : Nat) (r : Rw) (v : Value), l[i]? = some r → rawCells (l.set i { r with vk := v }) = (rawCells l).set (i * 5 + 4) v := by
  induction l with
  | nil => intro i r v h; simp at h
  | cons y l ih =>
    intro i r v h
    cases i with
    | zero => simp at h; subst h; simp [rawCells]
    | succ i =>
      rw [List.set_cons_succ, rawCells, ih i r v (by simpa using h), show (i + 1) * 5 = i * 5 + 5 from by omega, rawCells]
      rfl

/-- A row of nodes under way. -/
def Row (nb : Nat) (ms : List Rw) (w : World) : Prop := w.heap[nb]? = some (.cells (rawCells ms).toArray 49 (0, 0))

theorem Row.cells {nb : Nat} {ms : List Rw} {w : World} (h : Row nb ms w) {i : Nat} {r : Rw} (hr : ms[i]? = some r) : w.cell? ⟨nb, i * 5, none⟩ = some (.bool r.text) ∧ w.cell? ⟨nb, i * 5 + 1, none⟩ = some (.string r.s) ∧ w.cell? ⟨nb, i * 5 + 2, none⟩ = some r.va ∧ w.cell? ⟨nb, i * 5 + 3, none⟩ = some (.int .i64 r.par) ∧ w.cell? ⟨nb, i * 5 + 4, none⟩ = some r.vk := by
  obtain ⟨g0, g1, g2, g3, g4⟩ := rawCells_get ms i r hr
  refine ⟨?_, ?_, ?_, ?_, ?_⟩ <;> rw [Lib.cell_of_heap h] <;> simpa

theorem Row.frozen {nb : Nat} {ms : List Rw} {w : World} (h : Row nb ms w) (k : Nat) : w.frozen? ⟨nb, k, none⟩ = false := Lib.frozen_of_heap h k

theorem Row.set1 {nb : Nat} {cs : List Value} {w : World} {e : TypeId} (h : w.heap[nb]? = some (.cells cs.toArray e (0, 0))) (k : Nat) (v : Value) : (w.setCell ⟨nb, k, none⟩ v).heap[nb]? = some (.cells (cs.set k v).toArray e (0, 0)) := by
  simp [World.setCell, Array.getElem?_modify, h]

theorem Row.put {nb : Nat} {ms : List Rw} {w : World} (h : Row nb ms w) {i : Nat} (hi : i < ms.length) (r : Rw) : Row nb (ms.set i r) (((((w.setCell ⟨nb, i * 5, none⟩ (.bool r.text)).setCell ⟨nb, i * 5 + 1, none⟩ (.string r.s)).setCell ⟨nb, i * 5 + 2, none⟩ r.va).setCell ⟨nb, i * 5 + 3, none⟩ (.int .i64 r.par)).setCell ⟨nb, i * 5 + 4, none⟩ r.vk) := by
  unfold Row
  rw [rawCells_set ms i r hi]
  exact Row.set1 (Row.set1 (Row.set1 (Row.set1 (Row.set1 h _ _) _ _) _ _) _ _) _ _

theorem Row.putK {nb : Nat} {ms : List Rw} {w : World} (h : Row nb ms w) {i : Nat} {r : Rw} (hr : ms[i]? = some r) (v : Value) : Row nb (ms.set i { r with vk := v }) (w.setCell ⟨nb, i * 5 + 4, none⟩ v) := by
  unfold Row
  rw [rawCells_setK ms i r v hr]
  exact Row.set1 h _ _

/-- A node under way is a node. -/
def RawIs (S : Nat → Prop) (w : World) (r : Rw) (x : Nd) : Prop := r.text = x.text ∧ r.s = x.s ∧ r.par = x.parent ∧ Attrs S w r.va x.attrs ∧ Ints S w r.vk x.kids

def Laid (S : Nat → Prop) (w : World) (ms : List Rw) (at' : Nat) (L : List Nd) : Prop := ∀ (i : Nat) (x : Nd), L[i]? = some x → ∃ r, ms[at' + i]? = some r ∧ RawIs S w r x

theorem RawIs.carry {S S' : Nat → Prop} {w w' : World} {r : Rw} {x : Nd} (h : RawIs S w r x) (hw : ∀ b, S b → S' b ∧ w'.heap[b]? = w.heap[b]?) : RawIs S' w' r x :=
  ⟨h.1, h.2.1, h.2.2.1, h.2.2.2.1.carry hw, h.2.2.2.2.carry hw⟩

theorem RawIs.bounded {S : Nat → Prop} {w : World} {r : Rw} {x : Nd} (h : RawIs S w r x) : RawIs (fun b => S b ∧ b < w.heap.size) w r x :=
  ⟨h.1, h.2.1, h.2.2.1, h.2.2.2.1.bounded, h.2.2.2.2.bounded⟩

theorem Laid.carry {S S' : Nat → Prop} {w w' : World} {ms ms' : List Rw} {at' : Nat} {L : List Nd} (h : Laid S w ms at' L) (hw : ∀ b, S b → b < w.heap.size → S' b ∧ w'.heap[b]? = w.heap[b]?) (hm : ∀ i, at' ≤ i → i < at' + L.length → ms'[i]? = ms[i]?) : Laid S' w' ms' at' L := by
  intro i x hx
  obtain ⟨r, hr, hR⟩ := h i x hx
  have hi : i < L.length := by
    rcases Nat.lt_or_ge i L.length with h' | h'
    · exact h'
    · rw [List.getElem?_eq_none h'] at hx; cases hx
  exact ⟨r, by rw [hm _ (by omega) (by omega)]; exact hr, hR.bounded.carry fun b hb => hw b hb.1 hb.2⟩

theorem Laid.append {S : Nat → Prop} {w : World} {ms : List Rw} {at' : Nat} {L M : List Nd} (h : Laid S w ms at' L) (k : Laid S w ms (at' + L.length) M) : Laid S w ms at' (L ++ M) := by
  intro i x hx
  rcases Nat.lt_or_ge i L.length with h' | h'
  · rw [List.getElem?_append_left h'] at hx; exact h i x hx
  · rw [List.getElem?_append_right h'] at hx
    obtain ⟨r, hr, hR⟩ := k (i - L.length) x hx
    exact ⟨r, by rw [show at' + i = at' + L.length + (i - L.length) by omega]; exact hr, hR⟩

/-- What a call leaves alone that writes into two older blocks alone. -/
structure LFr (nb cb : Nat) (w w' : World) : Prop where
  below : Below 0 w w'
  frame : ∀ x, x < w.heap.size → x ≠ nb → x ≠ cb → w'.heap[x]? = w.heap[x]?

theorem LFr.refl (nb cb : Nat) (w : World) : LFr nb cb w w := ⟨Below.refl _ _, fun _ _ _ _ => rfl⟩
theorem LFr.trans {nb cb : Nat} {w w1 w2 : World} (h : LFr nb cb w w1) (k : LFr nb cb w1 w2) : LFr nb cb w w2 :=
  ⟨h.below.trans k.below, fun x hx h1 h2 => by rw [k.frame x (Nat.lt_of_lt_of_le hx h.below.size) h1 h2, h.frame x hx h1 h2]⟩
theorem LFr.later {nb cb : Nat} {w w' : World} (h : Below w.heap.size w w') : LFr nb cb w w' := ⟨h.mono (Nat.zero_le _), fun x hx _ _ => h.block x hx⟩
theorem LFr.putN (nb cb : Nat) (w : World) (k : Nat) (v : Value) : LFr nb cb w (w.setCell ⟨nb, k, none⟩ v) := ⟨(Below.refl 0 w).setCell (Nat.zero_le _) _, fun _ _ h1 _ => Below.heap_setCell _ _ _ _ h1⟩
theorem LFr.putC (nb cb : Nat) (w : World) (k : Nat) (v : Value) : LFr nb cb w (w.setCell ⟨cb, k, none⟩ v) := ⟨(Below.refl 0 w).setCell (Nat.zero_le _) _, fun _ _ _ h2 => Below.heap_setCell _ _ _ _ h2⟩

/-- Not too many attributes, however deep. -/
def FewN : Nat → List Tr → Prop
  | 0, _ => True
  | n + 1, ts => ∀ t ∈ ts, t.attrs.length ≤ 1048576 ∧ FewN n t.kids
end Go.Proofs.YtfghbfocjjmcmabGreatDoor

/- Documents in order: their kids are later nodes, their texts are as short as the nodes' are. No condition. -/
namespace Go.Proofs.YtfghbfocjjmcmabGreatDoor
open Go.RowKit
set_option maxRecDepth 100000

def KidsAt (ns : List Nd) (i : Nat) : Prop := ∀ x, ns[i]? = some x → x.kids.length ≤ ns.length ∧ ∀ k ∈ x.kids, (i : Int) < k ∧ k < ns.length

/-- What nodes in order, from a number on, are known to be. -/
def InSeg (ns : List Nd) (a b : Nat) : Prop := a ≤ b ∧ b ≤ ns.length ∧ ∀ i, a ≤ i → i < b → KidsAt ns i

theorem ordKids_seg {ns : List Nd} {G : Nat → Bool × Nat} (hG : ∀ m, (G m).1 = true → m < (G m).2 ∧ InSeg ns m (G m).2) :
    ∀ (ks : List Int) (m : Nat), m ≤ ns.length → (ordKids G ks m).1 = true → InSeg ns m (ordKids G ks m).2 ∧ ks.length + m ≤ (ordKids G ks m).2 ∧ ∀ k ∈ ks, (m : Int) ≤ k ∧ k < (ordKids G ks m).2 := by
  intro ks
  induction ks with
  | nil => intro m hm _; exact ⟨⟨Nat.le_refl _, hm, fun i h1 h2 => absurd h1 (by have : i < m := h2; omega)⟩, by simp [ordKids], by intro k hk; simp at hk⟩
  | cons k ks ih =>
    intro m _ h
    unfold ordKids at h ⊢
    by_cases hc : k = (m : Int) ∧ (G m).1 = true
    · rw [if_pos hc] at h ⊢
      obtain ⟨h1, h2, h3, h4⟩ := hG m hc.2
      obtain ⟨⟨k1, k2, k3⟩, k4, k5⟩ := ih (G m).2 h3 h
      refine ⟨⟨by omega, k2, fun i hi1 hi2 => ?_⟩, by simp; omega, fun k' hk' => ?_⟩
      · rcases Nat.lt_or_ge i (G m).2 with h' | h'
        · exact h4 i hi1 h'
        · exact k3 i h' hi2
      · rw [List.mem_cons] at hk'
        rcases hk' with rfl | hk'
        · rw [hc.1]; omega
        · have := k5 k' hk'; omega
    · rw [if_neg hc] at h; simp at h

theorem ordF_seg : ∀ (f : Nat) (ns : List Nd) (par : Int) (nx : Nat), (ordF f ns par nx).1 = true → nx < (ordF f ns par nx).2 ∧ InSeg ns nx (ordF f ns par nx).2 := by
  intro f
  induction f with
  | zero => intro ns par nx h; simp [ordF] at h
  | succ f ih =>
    intro ns par nx h
    unfold ordF at h ⊢
    cases hx : ns[nx]? with
    | none => simp [hx] at h
    | some x =>
      simp only [hx] at h ⊢
      have hlt : nx < ns.length := by
        rcases Nat.lt_or_ge nx ns.length with h' | h'
        · exact h'
        · rw [List.getElem?_eq_none h'] at hx; cases hx
      by_cases hp : x.parent = par
      · rw [if_pos hp] at h ⊢
        obtain ⟨⟨k1, k2, k3⟩, k4, k5⟩ := ordKids_seg (fun m hm => ih ns nx m hm) x.kids (nx + 1) (by omega) h
        refine ⟨by omega, by omega, k2, fun i hi1 hi2 => ?_⟩
        rcases Nat.lt_or_ge nx i with h' | h'
        · exact k3 i h' hi2
        · have : i = nx := by omega
          subst this
          intro y hy
          rw [hx] at hy
          cases hy
          refine ⟨by omega, fun k hk => ?_⟩
          have := k5 k hk
          omega
      · rw [if_neg hp] at h; simp at h

/-- A document in order has kids that are later nodes. -/
theorem ord_kidsIn {f : Nat} {ns : List Nd} (h : ordF f ns (-1) 0 = (true, ns.length)) (hl : ns.length ≤ 80) (ha : ∀ x ∈ ns, x.attrs.length ≤ 4398046511104) : KidsIn ns := by
  have h1 := ordF_seg f ns (-1) 0 (by rw [h])
  rw [h] at h1
  intro n x hx
  have hlt : n < ns.length := by
    rcases Nat.lt_or_ge n ns.length with h' | h'
    · exact h'
    · rw [List.getElem?_eq_none h'] at hx; cases hx
  obtain ⟨k1, k2⟩ := h1.2.2.2 n (Nat.zero_le _) hlt x hx
  exact ⟨ha x (List.mem_of_getElem? hx), by omega, k2⟩

def TextsD (ns : List Nd) : Prop := ∀ x ∈ ns, x.s.size ≤ maxLen ∧ ∀ y ∈ x.attrs, y.1.size ≤ maxLen ∧ y.2.size ≤ maxLen

theorem grow_texts {ns : List Nd} (h : TextsD ns) : ∀ (f n : Nat), Texts (growF f ns n) ∧ TextsN f (growF f ns n).kids := by
  intro f
  induction f with
  | zero => intro n; exact ⟨⟨Nat.zero_le _, by intro y hy; simp [growF] at hy⟩, trivial⟩
  | succ f ih =>
    intro n
    rw [growF]
    cases hx : ns[n]? with
    | none => exact ⟨⟨Nat.zero_le _, by intro y hy; simp at hy⟩, by intro t ht; simp at ht⟩
    | some x =>
      refine ⟨h x (List.mem_of_getElem? hx), fun t ht => ?_⟩
      simp only [List.mem_map] at ht
      obtain ⟨k, _, rfl⟩ := ht
      exact ih _
end Go.Proofs.YtfghbfocjjmcmabGreatDoor

/- doc.Good, for every document whose texts are no longer than a text may be. Condition: at most 2^20 attributes of a node. -/
namespace Go.Proofs.YtfghbfocjjmcmabGreatDoor
open Go.ChangeShapes Go.WideShapes Go.ChangeAt Go.RowKit
set_option maxRecDepth 100000

attribute [local go_sem] cell_set

def orderly (ns : List Nd) : Bool := (ordF (ns.length + 1) ns (-1) 0).1 && decide ((ordF (ns.length + 1) ns (-1) 0).2 = ns.length)

/-- What doc.Good answers. -/
def goodD (ns : List Nd) : Bool := decide (ns.length ≤ 80) && orderly ns && goodB (growF ns.length ns 0)

theorem orderly_eq {ns : List Nd} (h : orderly ns = true) : ordF (ns.length + 1) ns (-1) 0 = (true, ns.length) := by
  simp only [orderly, Bool.and_eq_true, decide_eq_true_eq] at h
  exact Prod.ext h.1 h.2

theorem orderly_ne {ns : List Nd} (h : orderly ns = true) : 0 < ns.length := by
  have h1 := ordF_seg (ns.length + 1) ns (-1) 0 (by rw [orderly_eq h])
  rw [orderly_eq h] at h1
  exact h1.1

set_option maxHeartbeats 1000000 in
theorem goodD_any (S : Nat → Prop) (v : Value) (ns : List Nd) (w : World) (hN : Nodes S w v ns) (hS : ∀ b, S b → b < w.heap.size) (ha : ∀ x ∈ ns, x.attrs.length ≤ 4398046511104) (hx : TextsD ns) :
    Calls Tryz.prog 25 #[.agg #[v]] w fun e w' => e = .returned (.bool (goodD ns)) ∧ Below w.heap.size w w' := by
  obtain ⟨a, cap, rfl, hlc, hcm⟩ := hN.shape
  unfold maxLen at hcm
  have HG : Hid (goodD ns = (decide (ns.length ≤ 80) && orderly ns && goodB (growF ns.length ns 0))) := rfl
  by_cases h80 : ns.length ≤ 80
  · have hi80 : ¬ (80 : Int) < (ns.length : Int) := by omega
    have HG2 : Hid (goodD ns = (orderly ns && goodB (growF ns.length ns 0))) := by show _ = _; rw [HG.out]; simp [h80]
    clear HG
    have hb2 : Below w.heap.size w ((w.alloc (.cells #[.slice a ns.length cap] 24)).alloc (.cells #[.int .i64 0] 3)) := (Below.alloc1 w _).alloc (by simp) _
    have hC2 : Cnt (w.heap.size + 1) 0 ((w.alloc (.cells #[.slice a ns.length cap] 24)).alloc (.cells #[.int .i64 0] 3)) := by
      have e := heap_alloc_new (w.alloc (.cells #[.slice a ns.length cap] 24)) (.cells #[.int .i64 0] 3)
      rw [World.size_alloc] at e
      exact e
    have hx2 : ((w.alloc (.cells #[.slice a ns.length cap] 24)).alloc (.cells #[.int .i64 0] 3)).heap[w.heap.size]? = some (.cells #[.slice a ns.length cap] 24 (0, 0)) := by
      rw [Lib.alloc_old _ _ _ (by simp)]; exact heap_alloc_new _ _
    have HO : Hid _ := ord_any (ns.length + 1) S _ ns (-1) (w.heap.size + 1) 0 _ (hN.later hb2) (fun b hb => by have := hS b hb; omega) hC2 h80 (by omega)
    have HN : Hid (Nodes S w (.slice a ns.length cap) ns) := hN
    have HA : Hid (∀ x ∈ ns, x.attrs.length ≤ 4398046511104) := ha
    have HX : Hid (TextsD ns) := hx
    have HS : Hid (∀ b, S b → b < w.heap.size) := hS
    have HOR : Hid (orderly ns = ((ordF (ns.length + 1) ns (-1) 0).1 && decide ((ordF (ns.length + 1) ns (-1) 0).2 = ns.length))) := rfl
    clear hN hC2 ha hx hS
    go_enter Tryz.func25, Tryz.ntmps25
    go_wp2_with fail
    refine (Calls.mono HO.out ?_)
    rintro e w3 ⟨rfl, hC3, hF3⟩
    have hx3 : w3.heap[w.heap.size]? = some (.cells #[.slice a ns.length cap] 24 (0, 0)) := by
      rw [hF3.frame w.heap.size (by simp; omega) (by omega)]; exact hx2
    have hB3 : Below w.heap.size w w3 := ⟨hF3.below.os.trans hb2.os, hF3.below.tape.trans hb2.tape, hF3.below.output.trans hb2.output, Nat.le_trans hb2.size hF3.below.size, fun k hk => by rw [hF3.frame k (by simp; omega) (by omega)]; exact hb2.block k hk⟩
    have d0 : w3.cell? ⟨w.heap.size, 0, none⟩ = some (.slice a ns.length cap) := by rw [Lib.cell_of_heap hx3]; rfl
    have e0 := hC3.c0
    have hlt3 := blk_lt hx3
    clear HO hb2 hx2 hF3
    obtain ⟨q, hq⟩ : ∃ q, ordF (ns.length + 1) ns (-1) 0 = q := ⟨_, rfl⟩
    rw [hq] at HOR e0 hC3 ⊢
    have HQ : Hid (ordF (ns.length + 1) ns (-1) 0 = q) := hq
    clear hq
    obtain ⟨q1, q2⟩ := q
    simp only at HOR e0 hC3 ⊢
    cases q1 with
    | false =>
      have HE : Hid (goodD ns = false) := by show _ = _; rw [HG2.out, HOR.out]; rfl
      clear HG2 HOR
      go_wp2_with fail
      go_ret
      exact ⟨by rw [HE.out]; rfl, hB3⟩
    | true =>
      by_cases hql : q2 = ns.length
      · have hne : ((q2 : Int) != (ns.length : Int)) = false := by simp [hql]
        have hor : orderly ns = true := by rw [HOR.out, hql]; simp
        have HE : Hid (goodD ns = goodB (growF ns.length ns 0)) := by show _ = _; rw [HG2.out, hor]; rfl
        have hpos := orderly_ne hor
        have HGR : Hid _ := grown_any ns.length S _ ns 0 w3 (HN.out.later hB3) (ord_kidsIn (orderly_eq hor) h80 HA.out) hpos (by omega)
        have HTX : Hid (TextsN (ns.length + 1) [growF ns.length ns 0]) := by
          intro t ht
          simp only [List.mem_singleton] at ht
          subst ht
          exact grow_texts HX.out _ _
        clear HG2 HOR hor hql
        go_wp2_with fail
        refine (Calls.mono HGR.out ?_)
        rintro e w4 ⟨va4, vk4, rfl, hA4, hK4, hb4⟩
        have hB4 : Below w.heap.size w w4 := hB3.trans (hb4.mono hB3.size)
        have HGD : Hid _ := good_any _ ns.length _ _ (growF ns.length ns 0) w4 hA4 hK4 HTX.out
        obtain ⟨aa, ac, rfl⟩ := hA4.shape
        obtain ⟨ka, kc, rfl, _, _⟩ := Trees.shape ns.length hK4
        clear hA4 hK4 HGR
        go_wp2_with fail
        refine (Calls.mono HGD.out ?_)
        rintro e w5 ⟨rfl, hb5⟩
        have hB5 : Below w.heap.size w w5 := hB4.trans (hb5.mono hB4.size)
        go_wp2_with fail
        go_ret
        exact ⟨by rw [HE.out]; rfl, hB5⟩
      · have hne : ((q2 : Int) != (ns.length : Int)) = true := by simp; omega
        have HE : Hid (goodD ns = false) := by show _ = _; rw [HG2.out, HOR.out]; simp [hql]
        clear HG2 HOR hql
        go_wp2_with fail
        go_ret
        exact ⟨by rw [HE.out]; rfl, hB3⟩
  · have hi80 : (80 : Int) < (ns.length : Int) := by omega
    have HE : Hid (goodD ns = false) := by show _ = _; rw [HG.out]; simp [h80]
    clear HG hN
    go_enter Tryz.func25, Tryz.ntmps25
    go_wp2_with fail
    go_ret
    exact ⟨by rw [HE.out]; rfl, Below.alloc1 _ _⟩
end Go.Proofs.YtfghbfocjjmcmabGreatDoor

/- doc.Tree, doc.End and doc.In, for every document whose texts are no longer than a text may be. Condition: at most 2^20 attributes of a node. -/
namespace Go.Proofs.YtfghbfocjjmcmabGreatDoor
open Go.ChangeShapes Go.WideShapes Go.ChangeAt Go.RowKit
set_option maxRecDepth 100000

attribute [local go_sem] cell_set

/-- A document as a value, its nodes in blocks that are there; texts and attributes of a size that can be read. -/
structure DocV (S : Nat → Prop) (w : World) (v : Value) (ns : List Nd) : Prop where
  nodes : Nodes S w v ns
  here : ∀ b, S b → b < w.heap.size
  few : ∀ x ∈ ns, x.attrs.length ≤ 4398046511104
  short : TextsD ns

theorem DocV.later {S : Nat → Prop} {w w' : World} {v : Value} {ns : List Nd} (h : DocV S w v ns) (hb : Below w.heap.size w w') : DocV S w' v ns :=
  ⟨h.nodes.later hb, fun b hb' => Nat.lt_of_lt_of_le (h.here b hb') hb.size, h.few, h.short⟩

theorem DocV.good {S : Nat → Prop} {w : World} {v : Value} {ns : List Nd} (h : DocV S w v ns) : Calls Tryz.prog 25 #[.agg #[v]] w fun e w' => e = .returned (.bool (goodD ns)) ∧ Below w.heap.size w w' :=
  goodD_any S v ns w h.nodes h.here h.few h.short

theorem goodD_kids {S : Nat → Prop} {w : World} {v : Value} {ns : List Nd} (h : DocV S w v ns) (hg : goodD ns = true) : KidsIn ns := by
  simp only [goodD, Bool.and_eq_true, decide_eq_true_eq] at hg
  exact ord_kidsIn (orderly_eq hg.1.2) hg.1.1 h.few

def amongB (ns : List Nd) (n : Int) : Bool := decide (0 ≤ n) && decide (n < ns.length)

def noTr : Tr := ⟨false, ⟨#[]⟩, [], []⟩

/-- What doc.Tree answers. -/
def treeD (ns : List Nd) (n : Int) : Tr × Int := if goodD ns then (if amongB ns n then (growF ns.length ns n.toNat, 0) else (noTr, 3)) else (noTr, 1)
/-- What doc.End answers. -/
def endD (ns : List Nd) (n : Int) : Int := if goodD ns && amongB ns n then (lastF ns.length ns n.toNat : Int) + 1 else 0
/-- What doc.In answers. -/
def inD (ns : List Nd) (n m : Int) : Bool := decide (0 < endD ns m) && decide (m ≤ n) && decide (n < endD ns m)

theorem lastF_lt {ns : List Nd} (hK : KidsIn ns) : ∀ (f n : Nat), n < ns.length → lastF f ns n < ns.length := by
  intro f
  induction f with
  | zero => intro n hn; exact hn
  | succ f ih =>
    intro n hn
    rw [lastF]
    cases hx : ns[n]? with
    | none => exact hn
    | some x =>
      simp only
      cases hl : x.kids.getLast? with
      | none => exact hn
      | some k =>
        have hm : k ∈ x.kids := List.mem_of_getLast? hl
        have := (hK n x hx).2.2 k hm
        exact ih _ (by omega)

theorem lastF_ge {ns : List Nd} (hK : KidsIn ns) : ∀ (f n : Nat), n ≤ lastF f ns n := by
  intro f
  induction f with
  | zero => intro n; exact Nat.le_refl _
  | succ f ih =>
    intro n
    rw [lastF]
    cases hx : ns[n]? with
    | none => exact Nat.le_refl _
    | some x =>
      simp only
      cases hl : x.kids.getLast? with
      | none => exact Nat.le_refl _
      | some k =>
        have := (hK n x hx).2.2 k (List.mem_of_getLast? hl)
        have := ih k.toNat
        simp only
        omega

end Go.Proofs.YtfghbfocjjmcmabGreatDoor

/- A document that is made of a tree is in order, has that tree, and ends where it ends: on plain data. No condition. -/
namespace Go.Proofs.YtfghbfocjjmcmabGreatDoor
open Go.RowKit
set_option maxRecDepth 100000

/-- Nodes stand in a document from a number on. -/
def Seg (ns : List Nd) (at' : Nat) (L : List Nd) : Prop := ∀ (i : Nat) (x : Nd), L[i]? = some x → ns[at' + i]? = some x

theorem Seg.left {ns L M : List Nd} {at' : Nat} (h : Seg ns at' (L ++ M)) : Seg ns at' L := by
  intro i x hx
  refine h i x ?_
  have hi : i < L.length := by
    rcases Nat.lt_or_ge i L.length with h' | h'
    · exact h'
    · rw [List.getElem?_eq_none h'] at hx; cases hx
  rw [List.getElem?_append_left hi]; exact hx
theorem Seg.right {ns L M : List Nd} {at' : Nat} (h : Seg ns at' (L ++ M)) : Seg ns (at' + L.length) M := by
  intro i x hx
  have := h (L.length + i) x (by rw [List.getElem?_append_right (by omega)]; rw [show L.length + i - L.length = i by omega]; exact hx)
  rw [show at' + L.length + i = at' + (L.length + i) by omega]; exact this
theorem Seg.tail {ns L : List Nd} {x : Nd} {at' : Nat} (h : Seg ns at' (x :: L)) : Seg ns (at' + 1) L := by
  intro i y hy
  have := h (i + 1) y (by simpa using hy)
  rw [show at' + 1 + i = at' + (i + 1) by omega]; exact this

theorem layF_head {d : Nat} {t : Tr} (h : Deep d t.kids) (par : Int) (nx : Nat) : layF d t par nx = ⟨t.text, t.s, t.attrs, par, startsOf (d - 1) (nx + 1) t.kids⟩ :: laysOf (d - 1) (layF (d - 1)) nx (nx + 1) t.kids := by
  cases d with
  | zero =>
    have e : t.kids = [] := h
    rw [e]
    rfl
  | succ d => rfl

theorem deep_kid {d : Nat} {t : Tr} {k : Tr} (h : Deep d t.kids) (hk : k ∈ t.kids) : ∃ d', d = d' + 1 ∧ Deep d' k.kids := by
  cases d with
  | zero => have e : t.kids = [] := h; rw [e] at hk; simp at hk
  | succ d => exact ⟨d, rfl, h k hk⟩

theorem ord_lay : ∀ (d : Nat) (t : Tr) (f : Nat) (ns : List Nd) (par : Int) (at' : Nat), Deep d t.kids → Seg ns at' (layF d t par at') → cnt (d + 1) [t] ≤ f → ordF f ns par at' = (true, at' + cnt (d + 1) [t]) := by
  intro d
  induction d with
  | zero =>
    intro t f ns par at' hd hs hf
    have e : t.kids = [] := hd
    rw [cnt_one, e] at hf ⊢
    obtain ⟨f', rfl⟩ : ∃ f', f = f' + 1 := ⟨f - 1, by omega⟩
    have h0 : ns[at']? = some ⟨t.text, t.s, t.attrs, par, []⟩ := hs 0 _ rfl
    rw [ordF, h0]
    simp [ordKids, cnt]
  | succ d ih =>
    intro t f ns par at' hd hs hf
    rw [cnt_one] at hf ⊢
    obtain ⟨f', rfl⟩ : ∃ f', f = f' + 1 := ⟨f - 1, by omega⟩
    have h0 : ns[at']? = some ⟨t.text, t.s, t.attrs, par, startsOf d (at' + 1) t.kids⟩ := hs 0 _ rfl
    have hsk : Seg ns (at' + 1) (laysOf d (layF d) at' (at' + 1) t.kids) := Seg.tail hs
    rw [ordF, h0]
    simp only [if_true]
    have key : ∀ (ks : List Tr) (a : Nat), Deep (d + 1) ks → Seg ns a (laysOf d (layF d) at' a ks) → cnt (d + 1) ks ≤ f' → ordKids (ordF f' ns at') (startsOf d a ks) a = (true, a + cnt (d + 1) ks) := by
      intro ks
      induction ks with
      | nil => intro a _ _ _; simp [startsOf, ordKids, cnt]
      | cons k ks ihk =>
        intro a hdk hsg hc
        rw [cnt_more d k ks] at hc ⊢
        rw [laysOf] at hsg
        have hl := layF_length d k (at' : Int) a (hdk k List.mem_cons_self)
        have h1 := ih k f' ns at' a (hdk k List.mem_cons_self) hsg.left (by omega)
        have h2 := hsg.right
        rw [hl] at h2
        rw [startsOf, ordKids, h1, if_pos ⟨rfl, rfl⟩, ihk (a + cnt (d + 1) [k]) (fun u hu => hdk u (List.mem_cons_of_mem _ hu)) h2 (by omega), Nat.add_assoc]
    rw [key t.kids (at' + 1) hd hsk (by omega), Nat.add_assoc]

theorem grow_lay : ∀ (d : Nat) (t : Tr) (f : Nat) (ns : List Nd) (par : Int) (at' : Nat), Deep d t.kids → Seg ns at' (layF d t par at') → cnt (d + 1) [t] ≤ f → growF f ns at' = t := by
  intro d
  induction d with
  | zero =>
    intro t f ns par at' hd hs hf
    have e : t.kids = [] := hd
    rw [cnt_one, e] at hf
    obtain ⟨f', rfl⟩ : ∃ f', f = f' + 1 := ⟨f - 1, by omega⟩
    have h0 : ns[at']? = some ⟨t.text, t.s, t.attrs, par, []⟩ := hs 0 _ rfl
    rw [growF, h0]
    cases t
    simp at e
    subst e
    rfl
  | succ d ih =>
    intro t f ns par at' hd hs hf
    rw [cnt_one] at hf
    obtain ⟨f', rfl⟩ : ∃ f', f = f' + 1 := ⟨f - 1, by omega⟩
    have h0 : ns[at']? = some ⟨t.text, t.s, t.attrs, par, startsOf d (at' + 1) t.kids⟩ := hs 0 _ rfl
    have hsk : Seg ns (at' + 1) (laysOf d (layF d) at' (at' + 1) t.kids) := Seg.tail hs
    rw [growF, h0]
    have key : ∀ (ks : List Tr) (a : Nat), Deep (d + 1) ks → Seg ns a (laysOf d (layF d) at' a ks) → cnt (d + 1) ks ≤ f' → (startsOf d a ks).map (fun k => growF f' ns k.toNat) = ks := by
      intro ks
      induction ks with
      | nil => intro a _ _ _; rfl
      | cons k ks ihk =>
        intro a hdk hsg hc
        rw [cnt_more d k ks] at hc
        rw [laysOf] at hsg
        have hl := layF_length d k (at' : Int) a (hdk k List.mem_cons_self)
        have h1 := ih k f' ns at' a (hdk k List.mem_cons_self) hsg.left (by omega)
        have h2 := hsg.right
        rw [hl] at h2
        rw [startsOf, List.map_cons, ihk (a + cnt (d + 1) [k]) (fun u hu => hdk u (List.mem_cons_of_mem _ hu)) h2 (by omega)]
        rw [Int.toNat_natCast, h1]
    simp only [key t.kids (at' + 1) hd hsk (by omega)]
    cases t; rfl

theorem starts_last {d : Nat} : ∀ (ks : List Tr) (a : Nat) (k : Tr), (startsOf d a (ks ++ [k])).getLast? = some ((a + cnt (d + 1) ks : Nat) : Int) := by
  intro ks a k
  rw [startsOf_append]
  simp [startsOf]

theorem last_lay : ∀ (d : Nat) (t : Tr) (f : Nat) (ns : List Nd) (par : Int) (at' : Nat), Deep d t.kids → Seg ns at' (layF d t par at') → cnt (d + 1) [t] ≤ f → lastF f ns at' + 1 = at' + cnt (d + 1) [t] := by
  intro d
  induction d with
  | zero =>
    intro t f ns par at' hd hs hf
    have e : t.kids = [] := hd
    rw [cnt_one, e] at hf ⊢
    obtain ⟨f', rfl⟩ : ∃ f', f = f' + 1 := ⟨f - 1, by omega⟩
    have h0 : ns[at']? = some ⟨t.text, t.s, t.attrs, par, []⟩ := hs 0 _ rfl
    rw [lastF, h0]
    simp [cnt]
  | succ d ih =>
    intro t f ns par at' hd hs hf
    rw [cnt_one] at hf ⊢
    obtain ⟨f', rfl⟩ : ∃ f', f = f' + 1 := ⟨f - 1, by omega⟩
    have h0 : ns[at']? = some ⟨t.text, t.s, t.attrs, par, startsOf d (at' + 1) t.kids⟩ := hs 0 _ rfl
    have hsk : Seg ns (at' + 1) (laysOf d (layF d) at' (at' + 1) t.kids) := Seg.tail hs
    rw [lastF, h0]
    simp only
    rcases List.eq_nil_or_concat t.kids with he | ⟨ks, k, he⟩
    · rw [he]; simp [startsOf, cnt]
    · rw [List.concat_eq_append] at he
      rw [he] at hf hsk ⊢
      have hdk : Deep (d + 1) (ks ++ [k]) := by rw [← he]; exact hd
      have happ : cnt (d + 1) (ks ++ [k]) = cnt (d + 1) ks + cnt (d + 1) [k] := by simp [cnt]
      rw [starts_last]
      simp only [Int.toNat_natCast]
      rw [laysOf_append] at hsk
      have hl : (laysOf d (layF d) at' (at' + 1) ks).length = cnt (d + 1) ks := by
        have : ∀ (ts : List Tr) (a : Nat), Deep (d + 1) ts → (laysOf d (layF d) at' a ts).length = cnt (d + 1) ts := by
          intro ts
          induction ts with
          | nil => intro _ _; rfl
          | cons u ts ih2 =>
            intro a hd2
            rw [laysOf, List.length_append, layF_length d u _ _ (hd2 u List.mem_cons_self), ih2 _ (fun x hx => hd2 x (List.mem_cons_of_mem _ hx)), cnt_more d u ts]
        exact this _ _ (fun u hu => hdk u (List.mem_append_left _ hu))
      have h2 := hsk.right
      rw [hl] at h2
      have h3 : laysOf d (layF d) at' (at' + 1 + cnt (d + 1) ks) [k] = layF d k at' (at' + 1 + cnt (d + 1) ks) := by simp [laysOf]
      rw [h3] at h2
      have := ih k f' ns at' (at' + 1 + cnt (d + 1) ks) (hdk k (by simp)) h2 (by omega)
      omega

theorem seg_self (L : List Nd) : Seg L 0 L := by intro i x hx; rw [Nat.zero_add]; exact hx
end Go.Proofs.YtfghbfocjjmcmabGreatDoor

/- A document in order is what is laid of its tree, at each of its nodes; who is in a node is in its parent: on plain data. No condition. -/
namespace Go.Proofs.YtfghbfocjjmcmabGreatDoor
open Go.RowKit
set_option maxRecDepth 100000

theorem Seg.nil (ns : List Nd) (a : Nat) : Seg ns a [] := by intro i x hx; simp at hx
theorem Seg.append {ns L M : List Nd} {a : Nat} (h : Seg ns a L) (k : Seg ns (a + L.length) M) : Seg ns a (L ++ M) := by
  intro i x hx
  rcases Nat.lt_or_ge i L.length with h' | h'
  · rw [List.getElem?_append_left h'] at hx; exact h i x hx
  · rw [List.getElem?_append_right h'] at hx
    have := k (i - L.length) x hx
    rw [show a + L.length + (i - L.length) = a + i by omega] at this
    exact this
theorem Seg.cons {ns L : List Nd} {x : Nd} {a : Nat} (h : ns[a]? = some x) (k : Seg ns (a + 1) L) : Seg ns a (x :: L) := by
  intro i y hy
  cases i with
  | zero => simp at hy; subst hy; exact h
  | succ i =>
    have := k i y (by simpa using hy)
    rw [show a + (i + 1) = a + 1 + i by omega]; exact this

/-- What is in order is laid of a tree. -/
theorem ord_conv : ∀ (f : Nat) (ns : List Nd) (par : Int) (nx : Nat), (ordF f ns par nx).1 = true → ∃ t : Tr, Deep f t.kids ∧ Seg ns nx (layF f t par nx) ∧ (ordF f ns par nx).2 = nx + cnt (f + 1) [t] := by
  intro f
  induction f with
  | zero => intro ns par nx h; simp [ordF] at h
  | succ f ih =>
    intro ns par nx h
    rw [ordF] at h ⊢
    cases hx : ns[nx]? with
    | none => simp [hx] at h
    | some x =>
      simp only [hx] at h ⊢
      by_cases hp : x.parent = par
      · rw [if_pos hp] at h ⊢
        have key : ∀ (ks : List Int) (a : Nat), (ordKids (ordF f ns nx) ks a).1 = true → ∃ ts : List Tr, (∀ k ∈ ts, Deep f k.kids) ∧ ks = startsOf f a ts ∧ Seg ns a (laysOf f (layF f) nx a ts) ∧ (ordKids (ordF f ns nx) ks a).2 = a + cnt (f + 1) ts := by
          intro ks
          induction ks with
          | nil => intro a _; exact ⟨[], by simp, rfl, Seg.nil _ _, by simp [ordKids, cnt_nil]⟩
          | cons k ks ihk =>
            intro a hk
            rw [ordKids] at hk ⊢
            by_cases hc : k = (a : Int) ∧ (ordF f ns nx a).1 = true
            · rw [if_pos hc] at hk ⊢
              obtain ⟨t, ht1, ht2, ht3⟩ := ih ns nx a hc.2
              rw [ht3] at hk ⊢
              obtain ⟨ts, hd, he, hs, hn⟩ := ihk _ hk
              refine ⟨t :: ts, ?_, ?_, ?_, ?_⟩
              · intro u hu
                rw [List.mem_cons] at hu
                rcases hu with rfl | hu
                · exact ht1
                · exact hd u hu
              · rw [startsOf, ← he, hc.1]
              · rw [laysOf]
                refine Seg.append ht2 ?_
                rw [layF_length f t nx a ht1]
                exact hs
              · rw [hn, cnt_more f t ts]; omega
            · rw [if_neg hc] at hk; cases hk
        obtain ⟨ts, hd, he, hs, hn⟩ := key x.kids (nx + 1) h
        refine ⟨⟨x.text, x.s, x.attrs, ts⟩, hd, ?_, ?_⟩
        · rw [layF]
          refine Seg.cons ?_ hs
          rw [hx]
          obtain ⟨xt, xs, xa, xp, xk⟩ := x
          simp only at hp he
          rw [hp, he]
        · rw [hn, cnt_one]; show nx + 1 + cnt (f + 1) ts = nx + (1 + cnt (f + 1) ts); omega
      · rw [if_neg hp] at h; cases h

/-- A tree of so many nodes is laid there, under that parent. -/
def Sub (ns : List Nd) (j c : Nat) (par : Int) : Prop := ∃ (d : Nat) (t : Tr), Deep d t.kids ∧ Seg ns j (layF d t par j) ∧ c = cnt (d + 1) [t]

theorem sub_all (ns : List Nd) : ∀ (d : Nat) (t : Tr) (par : Int) (a : Nat), Deep d t.kids → Seg ns a (layF d t par a) → ∀ j, a ≤ j → j < a + cnt (d + 1) [t] →
    ∃ c par', Sub ns j c par' ∧ j + c ≤ a + cnt (d + 1) [t] ∧ (j = a ∧ par' = par ∨ ∃ q c2 p2, par' = ((q : Nat) : Int) ∧ q < j ∧ Sub ns q c2 p2 ∧ j + c ≤ q + c2) := by
  intro d
  induction d with
  | zero =>
    intro t par a hd hs j h1 h2
    have e : t.kids = [] := hd
    have hc : cnt 1 [t] = 1 := by rw [cnt_one, e]; rfl
    rw [hc] at h2
    obtain rfl : j = a := by omega
    exact ⟨_, par, ⟨0, t, hd, hs, rfl⟩, Nat.le_refl _, Or.inl ⟨rfl, rfl⟩⟩
  | succ d ih =>
    intro t par a hd hs j h1 h2
    by_cases hj : j = a
    · subst hj; exact ⟨_, par, ⟨d + 1, t, hd, hs, rfl⟩, Nat.le_refl _, Or.inl ⟨rfl, rfl⟩⟩
    · have hsk : Seg ns (a + 1) (laysOf d (layF d) a (a + 1) t.kids) := Seg.tail hs
      have key : ∀ (ks : List Tr) (b : Nat), (∀ k ∈ ks, Deep d k.kids) → Seg ns b (laysOf d (layF d) a b ks) → b ≤ j → j < b + cnt (d + 1) ks →
          ∃ c par', Sub ns j c par' ∧ j + c ≤ b + cnt (d + 1) ks ∧ (par' = (a : Int) ∨ ∃ q c2 p2, par' = ((q : Nat) : Int) ∧ q < j ∧ Sub ns q c2 p2 ∧ j + c ≤ q + c2) := by
        intro ks
        induction ks with
        | nil => intro b _ _ hb1 hb2; rw [cnt_nil] at hb2; omega
        | cons k ks ihk =>
          intro b hdk hsb hb1 hb2
          rw [laysOf] at hsb
          have hl := hsb.left
          have hr := hsb.right
          have hdk0 := hdk k List.mem_cons_self
          rw [layF_length d k a b hdk0] at hr
          rw [cnt_more] at hb2 ⊢
          by_cases hjk : j < b + cnt (d + 1) [k]
          · obtain ⟨c, par', hS, hle, hor⟩ := ih k a b hdk0 hl j hb1 hjk
            refine ⟨c, par', hS, by omega, ?_⟩
            rcases hor with ⟨_, hp⟩ | hor
            · exact Or.inl hp
            · exact Or.inr hor
          · obtain ⟨c, par', hS, hle, hor⟩ := ihk (b + cnt (d + 1) [k]) (fun u hu => hdk u (List.mem_cons_of_mem _ hu)) hr (by omega) (by omega)
            exact ⟨c, par', hS, by omega, hor⟩
      have hc1 : cnt (d + 1 + 1) [t] = 1 + cnt (d + 1) t.kids := cnt_one (d + 1) t
      obtain ⟨c, par', hS, hle, hor⟩ := key t.kids (a + 1) hd hsk (by omega) (by omega)
      refine ⟨c, par', hS, by omega, Or.inr ?_⟩
      rcases hor with hp | hor
      · exact ⟨a, _, par, hp, by omega, ⟨d + 1, t, hd, hs, rfl⟩, by omega⟩
      · exact hor

/-- What is known of a node of a good document. -/
structure Nest (ns : List Nd) (j : Nat) (x : Nd) : Prop where
  size : ∃ d, Deep d (growF ns.length ns j).kids ∧ endD ns (j : Int) = (j : Int) + (cnt (d + 1) [growF ns.length ns j] : Nat)
  le : endD ns (j : Int) ≤ (ns.length : Int)
  up : x.parent = -1 ∨ (0 ≤ x.parent ∧ x.parent < j ∧ endD ns (j : Int) ≤ endD ns x.parent)

theorem endD_nat {ns : List Nd} (hg : goodD ns = true) {j : Nat} (hj : j < ns.length) : endD ns (j : Int) = (lastF ns.length ns j : Int) + 1 := by
  unfold endD amongB
  have h1 : (0 : Int) ≤ j := by omega
  have h2 : (j : Int) < ns.length := by omega
  simp [hg, h1, h2]

theorem Seg.in {ns L : List Nd} {a : Nat} (h : Seg ns a L) (hne : 0 < L.length) : a + L.length ≤ ns.length := by
  have h1 : L[L.length - 1]? = some (L[L.length - 1]'(by omega)) := List.getElem?_eq_getElem (by omega)
  have h2 := h _ _ h1
  rcases Nat.lt_or_ge (a + (L.length - 1)) ns.length with h' | h'
  · omega
  · rw [List.getElem?_eq_none h'] at h2; cases h2

theorem sub_end {ns : List Nd} (hg : goodD ns = true) {j c : Nat} {par : Int} (h : Sub ns j c par) (hj : j < ns.length) :
    (∃ d, Deep d (growF ns.length ns j).kids ∧ c = cnt (d + 1) [growF ns.length ns j]) ∧ endD ns (j : Int) = (j : Int) + (c : Nat) ∧ j + c ≤ ns.length ∧ ∃ x, ns[j]? = some x ∧ x.parent = par := by
  obtain ⟨d, t, hd, hs, hc⟩ := h
  have hlen := layF_length d t par j hd
  have hin := hs.in (by rw [hlen, cnt_one]; omega)
  rw [hlen] at hin
  have hgr := grow_lay d t ns.length ns par j hd hs (by omega)
  have hla := last_lay d t ns.length ns par j hd hs (by omega)
  refine ⟨⟨d, by rw [hgr]; exact hd, by rw [hgr]; exact hc⟩, ?_, by omega, ?_⟩
  · rw [endD_nat hg hj]; omega
  · rw [layF_head hd] at hs
    exact ⟨_, hs 0 _ rfl, rfl⟩

theorem good_nest {ns : List Nd} (hg : goodD ns = true) {j : Nat} {x : Nd} (hx : ns[j]? = some x) : Nest ns j x := by
  have hj : j < ns.length := by
    rcases Nat.lt_or_ge j ns.length with h' | h'
    · exact h'
    · rw [List.getElem?_eq_none h'] at hx; cases hx
  have hg2 := hg
  simp only [goodD, Bool.and_eq_true, decide_eq_true_eq] at hg2
  have ho := orderly_eq hg2.1.2
  obtain ⟨t, hd, hs, hn⟩ := ord_conv (ns.length + 1) ns (-1) 0 (by rw [ho])
  rw [ho] at hn
  simp only [Nat.zero_add] at hn
  obtain ⟨c, par, hS, hle, hor⟩ := sub_all ns _ t (-1) 0 hd hs j (Nat.zero_le _) (by omega)
  obtain ⟨⟨d, hd1, hc1⟩, he, hl, y, hy, hyp⟩ := sub_end hg hS hj
  obtain rfl : y = x := by rw [hx] at hy; exact (Option.some.inj hy).symm
  refine ⟨⟨d, hd1, by rw [he, hc1]⟩, by rw [he]; omega, ?_⟩
  rcases hor with ⟨_, hp⟩ | ⟨q, c2, p2, hp, hq, hS2, hle2⟩
  · exact Or.inl (by rw [hyp, hp])
  · refine Or.inr ?_
    obtain ⟨_, he2, _, _⟩ := sub_end hg hS2 (by omega)
    rw [hyp, hp, he2, he]
    omega
end Go.Proofs.YtfghbfocjjmcmabGreatDoor

/- How deep trees are and how many, level by level; a list of trees that grows by whole lists. No condition. -/
namespace Go.Proofs.YtfghbfocjjmcmabGreatDoor
open Go.ChangeShapes Go.WideShapes Go.ChangeAt Go.RowKit
set_option maxRecDepth 100000

def dep : Nat → List Tr → Nat
  | 0, _ => 0
  | n + 1, ts => (ts.map fun t => 1 + dep n t.kids).foldr max 0

theorem dep_nil (n : Nat) : dep n [] = 0 := by cases n <;> rfl
theorem dep_cons (n : Nat) (t : Tr) (r : List Tr) : dep (n + 1) (t :: r) = max (1 + dep n t.kids) (dep (n + 1) r) := rfl

theorem dep_append (n : Nat) (a b : List Tr) : dep n (a ++ b) = max (dep n a) (dep n b) := by
  cases n with
  | zero => rfl
  | succ n =>
    induction a with
    | nil => simp [dep_nil]
    | cons t r ih => rw [List.cons_append, dep_cons, dep_cons, ih]; omega

theorem cnt_append (n : Nat) (a b : List Tr) : cnt n (a ++ b) = cnt n a + cnt n b := by
  cases n with
  | zero => rfl
  | succ n =>
    induction a with
    | nil => simp [cnt_nil]
    | cons t r ih => rw [List.cons_append, cnt_cons, cnt_cons, ih]; omega

theorem dep_cnt : ∀ (n : Nat) (ts : List Tr), dep n ts ≤ cnt n ts := by
  intro n
  induction n with
  | zero => intro ts; exact Nat.le_refl _
  | succ n ih =>
    intro ts
    induction ts with
    | nil => rw [dep_nil]; omega
    | cons t r ihr => rw [dep_cons, cnt_cons]; have := ih t.kids; omega

/-- The next level. -/
def nx (ts : List Tr) : List Tr := ts.flatMap fun t => t.kids

theorem nx_nil : nx [] = [] := rfl
theorem nx_cons (t : Tr) (r : List Tr) : nx (t :: r) = t.kids ++ nx r := by simp [nx]
theorem nx_append (a b : List Tr) : nx (a ++ b) = nx a ++ nx b := by simp [nx]

theorem cnt_nx (n : Nat) (ts : List Tr) : cnt (n + 1) ts = ts.length + cnt n (nx ts) := by
  induction ts with
  | nil => simp [cnt_nil, nx_nil]
  | cons t r ih => rw [cnt_cons, nx_cons, cnt_append, ih, List.length_cons]; omega

theorem dep_nx (n : Nat) (ts : List Tr) (h : ts ≠ []) : dep (n + 1) ts = 1 + dep n (nx ts) := by
  induction ts with
  | nil => exact absurd rfl h
  | cons t r ih =>
    rw [dep_cons, nx_cons, dep_append]
    by_cases hr : r = []
    · subst hr; rw [dep_nil, nx_nil, dep_nil]; omega
    · rw [ih hr]; omega

theorem Deep.nx {n : Nat} {ts : List Tr} (h : Deep (n + 1) ts) : Deep n (nx ts) := by
  cases n with
  | zero =>
    show Go.Proofs.YtfghbfocjjmcmabGreatDoor.nx ts = []
    induction ts with
    | nil => rfl
    | cons t r ih =>
      rw [nx_cons, ih (fun x hx => h x (List.mem_cons_of_mem _ hx))]
      have : t.kids = [] := h t (List.mem_cons_self ..)
      rw [this]; rfl
  | succ n =>
    intro x hx
    obtain ⟨t, ht, hxt⟩ := List.mem_flatMap.1 hx
    exact h t ht x hxt

theorem Deep.len {n : Nat} {ts : List Tr} (h : Deep n ts) : ts.length ≤ cnt n ts := by
  cases n with
  | zero =>
    have : ts = [] := h
    rw [this]; exact Nat.zero_le _
  | succ n => rw [cnt_nx]; omega

theorem pick_list {α : Type} {p : Nat → α → Prop} : ∀ (n : Nat), (∀ i, i < n → ∃ y, p i y) → ∃ l : List α, l.length = n ∧ ∀ i y, l[i]? = some y → p i y := by
  intro n
  induction n with
  | zero => intro _; exact ⟨[], rfl, fun i y h => by simp at h⟩
  | succ n ih =>
    intro h
    obtain ⟨l, hl, hp⟩ := ih (fun i hi => h i (by omega))
    obtain ⟨y, hy⟩ := h n (by omega)
    refine ⟨l ++ [y], by simp [hl], fun i z hz => ?_⟩
    rcases Nat.lt_or_ge i n with hi | hi
    · rw [List.getElem?_append_left (by omega)] at hz; exact hp i z hz
    · rw [List.getElem?_append_right (by omega), hl] at hz
      rcases Nat.eq_zero_or_pos (i - n) with h0 | h0
      · rw [h0] at hz; simp at hz; subst hz
        have : i = n := by omega
        rw [this]; exact hy
      · rw [List.getElem?_eq_none (by simp; omega)] at hz; cases hz

theorem quadCells_at {ps : List (Bool × ByteArray × Value × Value)} {j : Nat} {u : Value} (h : (quadCells ps)[j]? = some u) :
    ∃ i q, ps[i]? = some q ∧ ((j = i * 4 ∧ u = .bool q.1) ∨ (j = i * 4 + 1 ∧ u = .string q.2.1) ∨ (j = i * 4 + 2 ∧ u = q.2.2.1) ∨ (j = i * 4 + 3 ∧ u = q.2.2.2)) := by
  have hj : j < (quadCells ps).length := (List.getElem?_eq_some_iff.1 h).1
  rw [quadCells_length] at hj
  have hi : j / 4 < ps.length := by omega
  have hq : ps[j / 4]? = some ps[j / 4] := by simp
  obtain ⟨g0, g1, g2, g3⟩ := quadCells_get ps (j / 4) _ hq
  refine ⟨j / 4, ps[j / 4], hq, ?_⟩
  have hm : j % 4 = 0 ∨ j % 4 = 1 ∨ j % 4 = 2 ∨ j % 4 = 3 := by omega
  rcases hm with e | e | e | e
  · have hj' : j = j / 4 * 4 := by omega
    rw [← hj', h] at g0; exact Or.inl ⟨hj', by simpa using g0⟩
  · have hj' : j = j / 4 * 4 + 1 := by omega
    rw [← hj', h] at g1; exact Or.inr (Or.inl ⟨hj', by simpa using g1⟩)
  · have hj' : j = j / 4 * 4 + 2 := by omega
    rw [← hj', h] at g2; exact Or.inr (Or.inr (Or.inl ⟨hj', by simpa using g2⟩))
  · have hj' : j = j / 4 * 4 + 3 := by omega
    rw [← hj', h] at g3; exact Or.inr (Or.inr (Or.inr ⟨hj', by simpa using g3⟩))

/-- The four cells of each tree of a list that lies somewhere. -/
theorem Trees.quads {S : Nat → Prop} {w : World} {n : Nat} {ad : Addr} {len cap : Nat} {ts : List Tr} (h : Trees S w (n + 1) (.slice (some ad) len cap) ts) :
    ∃ ps : List (Bool × ByteArray × Value × Value), ps.length = ts.length ∧ (∀ j u, (quadCells ps)[j]? = some u → w.cell? (ad.add j) = some u) ∧ (∀ u ∈ quadCells ps, u.oneCell' = true) ∧
      ∀ (i : Nat) (q : Bool × ByteArray × Value × Value) (t : Tr), ps[i]? = some q → ts[i]? = some t → q.1 = t.text ∧ q.2.1 = t.s ∧ Attrs S w q.2.2.1 t.attrs ∧ Trees S w n q.2.2.2 t.kids := by
  obtain ⟨a, c, hv, h2, h3, h4⟩ := h
  by_cases hne : ts = []
  · subst hne
    exact ⟨[], rfl, fun j u hj => by simp [quadCells] at hj, fun u hu => by simp [quadCells] at hu, fun i q t hq => by simp at hq⟩
  obtain ⟨b, o, ha, hs, hc⟩ := h4 hne
  have had : ad = ⟨b, o, none⟩ := by
    rw [ha] at hv
    injection hv with h5
    injection h5
  obtain ⟨ps, hl, hp⟩ := pick_list (α := Bool × ByteArray × Value × Value) (p := fun i q => ∀ t, ts[i]? = some t →
      w.cell? ⟨b, o + i * 4, none⟩ = some (.bool q.1) ∧ w.cell? ⟨b, o + i * 4 + 1, none⟩ = some (.string q.2.1) ∧ w.cell? ⟨b, o + i * 4 + 2, none⟩ = some q.2.2.1 ∧ w.cell? ⟨b, o + i * 4 + 3, none⟩ = some q.2.2.2 ∧
      q.1 = t.text ∧ q.2.1 = t.s ∧ Attrs S w q.2.2.1 t.attrs ∧ Trees S w n q.2.2.2 t.kids) ts.length (by
    intro i hi
    have ht : ts[i]? = some ts[i] := by simp
    obtain ⟨va, vk, c0, c1, c2, c3, hat, hkt⟩ := hc i _ ht
    refine ⟨(ts[i].text, ts[i].s, va, vk), fun t ht' => ?_⟩
    rw [ht] at ht'; cases ht'
    exact ⟨c0, c1, c2, c3, rfl, rfl, hat, hkt⟩)
  have find : ∀ (i : Nat) (q : Bool × ByteArray × Value × Value), ps[i]? = some q → ∃ t, ts[i]? = some t := by
    intro i q hq
    have : i < ps.length := (List.getElem?_eq_some_iff.1 hq).1
    exact ⟨ts[i]'(by omega), by simp⟩
  refine ⟨ps, hl, ?_, ?_, ?_⟩
  · intro j u hj
    obtain ⟨i, q, hq, hu⟩ := quadCells_at hj
    obtain ⟨t, ht⟩ := find i q hq
    obtain ⟨c0, c1, c2, c3, _⟩ := hp i q hq t ht
    subst had
    rw [Addr.add_lit]
    rcases hu with ⟨rfl, rfl⟩ | ⟨rfl, rfl⟩ | ⟨rfl, rfl⟩ | ⟨rfl, rfl⟩
    · exact c0
    · exact c1
    · exact c2
    · exact c3
  · intro u hu
    obtain ⟨j, hj⟩ := List.mem_iff_getElem?.1 hu
    obtain ⟨i, q, hq, hu⟩ := quadCells_at hj
    obtain ⟨t, ht⟩ := find i q hq
    obtain ⟨_, _, _, _, _, _, hA, hT⟩ := hp i q hq t ht
    rcases hu with ⟨_, rfl⟩ | ⟨_, rfl⟩ | ⟨_, rfl⟩ | ⟨_, rfl⟩
    · rfl
    · rfl
    · obtain ⟨x, y, e⟩ := hA.shape; rw [e]; rfl
    · obtain ⟨x, y, e, _⟩ := Trees.shape n hT; rw [e]; rfl
  · intro i q t hq ht
    obtain ⟨_, _, _, _, r⟩ := hp i q hq t ht
    exact r

theorem Grow.many {S : Nat → Prop} {n B : Nat} {w w' : World} {v v' : Value} {us ts : List Tr} {qs ps : List (Bool × ByteArray × Value × Value)}
    (h : Grow S n B w v us qs) (hl : ps.length = ts.length) (hown : w'.ownsRow B 68 4 v' (us.length + ts.length) (quadCells qs ++ quadCells ps))
    (hg : w.grownBy w' v.ownBlock) (hat : v'.ownBlock = v.ownBlock ∨ v'.ownBlock = some w.heap.size)
    (he : ∀ (i : Nat) (q : Bool × ByteArray × Value × Value) (t : Tr), ps[i]? = some q → ts[i]? = some t → q.1 = t.text ∧ q.2.1 = t.s ∧ Attrs (Oth S B w v) w q.2.2.1 t.attrs ∧ Trees (Oth S B w v) w n q.2.2.2 t.kids) : Grow S n B w' v' (us ++ ts) (qs ++ ps) := by
  have carry : ∀ b, Oth S B w v b → Oth S B w' v' b ∧ w'.heap[b]? = w.heap[b]? := by
    intro b hb
    refine ⟨⟨hb.1, Nat.lt_of_lt_of_le hb.2.1 hg.size, ?_⟩, hg.block b hb.2.1 (fun e => hb.2.2 e.symm)⟩
    rcases hat with e | e
    · rw [e]; exact hb.2.2
    · rw [e]; intro e'; cases e'; exact Nat.lt_irrefl _ hb.2.1
  refine ⟨by simp [h.len, hl], ?_, ?_⟩
  · rw [quadCells_append, List.length_append]; exact hown
  · intro i q' t' hq ht
    rcases Nat.lt_or_ge i us.length with hi | hi
    · rw [List.getElem?_append_left (by rw [h.len]; exact hi)] at hq
      rw [List.getElem?_append_left hi] at ht
      obtain ⟨a, b, c, d⟩ := h.each i q' t' hq ht
      exact ⟨a, b, c.carry carry, Trees.carry carry n d⟩
    · rw [List.getElem?_append_right (by rw [h.len]; exact hi)] at hq
      rw [List.getElem?_append_right hi] at ht
      rw [h.len] at hq
      obtain ⟨a, b, c, d⟩ := he _ q' t' hq ht
      exact ⟨a, b, c.carry carry, Trees.carry carry n d⟩

/-- A list of trees appended onto one of our own. -/
theorem wpList_append_trees {ops : Array Oper} {rest : List Oper} {o : Oper} {a : Act} {w : World} {Q : Exit → Act → World → Prop} (hgd : o.guard = none) (s x : Operand)
    (ho : o.op = .call { callee := .builtin .append, args := #[s, x], argTypes := #[38, 38] })
    (S S1 : Nat → Prop) (n B : Nat) (v vk : Value) (us ts : List Tr) (qs : List (Bool × ByteArray × Value × Value)) (hs : a.eval s = v) (hG : Grow S n B w v us qs) (hx : a.eval x = vk) (hk : Trees S1 w (n + 1) vk ts)
    (hS : ∀ b, S1 b → Oth S B w v b) (hl : us.length + ts.length ≤ 1048576) (hB : B ≤ w.heap.size)
    (h : ∀ v' w' qs', Grow S n B w' v' (us ++ ts) qs' → Below B w w' → wpList Tryz.prog ops Q rest (a.put o.dst v') w') :
    wpList Tryz.prog ops Q (o :: rest) a w := by
  obtain ⟨i0, hi, hz0, hz1, hz2⟩ := info_parts treeInfo
  obtain ⟨ka, kc, rfl, hkc, hkm⟩ := Trees.shape (n + 1) hk
  cases ka with
  | none =>
    have hn : ts = [] := by
      apply Classical.byContradiction; intro hne
      obtain ⟨a, c, hv, _, _, h4⟩ := hk
      obtain ⟨b, o, ha, _⟩ := h4 hne
      rw [ha] at hv; cases hv
    subst hn
    refine wpList_plain hgd fun K hK => ?_
    have hrun : (Builtin.append_ #[38, 38] o.type #[v, .slice none 0 kc]).run Tryz.prog w = .ok v w := by
      rcases hG.own.2 with ⟨rfl, e⟩ | ⟨g, cap, cur, rfl, _, _, hnc, _⟩
      · simp [Builtin.append_, run_underlying Tryz.underlying38, sizeOf, typeInfo, hi, Builtin.lenOf, Builtin.firstCells]
      · simp [Builtin.append_, run_underlying Tryz.underlying38, sizeOf, typeInfo, hi, Builtin.lenOf, Builtin.firstCells, hnc, storeCells]
    simp only [List.length_nil] at hx
    unfold Oper.wp
    simp [execOp, ho, resolve, invoke, builtin, hs, hx, hrun, Result.andThen]
    exact hK _ _ (h v w qs (by rw [List.append_nil]; exact hG) (Below.refl _ _))
  | some ad =>
    obtain ⟨ps, hpl, hpc, hp1, hpe⟩ := Trees.quads hk
    refine wpList_append_own_at w hgd s x 38 ho B 68 i0 _ 4 72 Tryz.underlying38 hi hz0 hz1 hz2 rfl (by decide) v us.length (quadCells qs) hs hG.own ad ts.length kc (quadCells ps) hx ?_ hpc hp1 ?_ ?_ hB ?_
    · rw [quadCells_length, hpl]
    · unfold maxLen; omega
    · omega
    · intro v' w' hown hgr _ hat
      exact h v' w' _ (hG.many hpl hown hgr hat (fun i q t hq ht => by
        obtain ⟨a, b, c, d⟩ := hpe i q t hq ht
        exact ⟨a, b, c.carry (fun b hb => ⟨hS b hb, rfl⟩), Trees.carry (fun b hb => ⟨hS b hb, rfl⟩) n d⟩)) ((Below.refl _ w).grown hgr hB (fun k hk' => (hG.own.lt k hk').1))
end Go.Proofs.YtfghbfocjjmcmabGreatDoor

/- What tree.roomBehind leaves, in terms of depth, count and what is right. No condition. -/
namespace Go.Proofs.YtfghbfocjjmcmabGreatDoor
open Go.ChangeShapes Go.WideShapes Go.ChangeAt Go.RowKit
set_option maxRecDepth 100000

theorem rgt_nil (n : Nat) : rgt n [] = true := by cases n <;> rfl

theorem right_kids {n : Nat} {t : Tr} (h : rightB t = true) : (t.text || rgt n t.kids) = rgt n t.kids := by
  cases htt : t.text with
  | false => rfl
  | true =>
    have : t.kids = [] := by
      simp [rightB, htt] at h
      exact h.2
    rw [this, rgt_nil]; rfl

theorem rl_eq (d n : Nat) (f : Int → List Tr → Int)
    (hf : ∀ room k, 0 ≤ room → Deep n k → f room k = if dep n k ≤ d ∧ (cnt n k : Int) ≤ room ∧ rgt n k = true then room - cnt n k else -1) :
    ∀ (l : List Tr) (p : Bool) (room : Int), 0 ≤ room → Deep (n + 1) l →
      rl f p room l = if dep n (nx l) ≤ d ∧ (cnt n (nx l) : Int) ≤ room ∧ rgL (rgt n) p l = true then room - cnt n (nx l) else -1 := by
  intro l
  induction l with
  | nil =>
    intro p room h0 _
    rw [nx_nil, dep_nil, cnt_nil, if_pos ⟨Nat.zero_le _, by simpa using h0, rfl⟩]
    simp [rl]
  | cons t r ih =>
    intro p room h0 hd
    have hk : Deep n t.kids := hd t (List.mem_cons_self ..)
    have hr : Deep (n + 1) r := fun x hx => hd x (List.mem_cons_of_mem _ hx)
    rw [nx_cons, dep_append, cnt_append]
    unfold rl
    have hfk := hf room t.kids h0 hk
    by_cases hA : (!rightB t || (p && t.text)) = true
    · rw [if_pos hA, if_neg]
      rintro ⟨_, _, h3⟩
      unfold rgL at h3
      cases h1 : rightB t <;> cases h2 : (p && t.text) <;> simp [h1, h2] at hA h3
    · rw [if_neg hA]
      have h1 : rightB t = true := by cases h : rightB t <;> simp [h] at hA ⊢
      have h2 : (p && t.text) = false := by cases h : (p && t.text) <;> simp [h] at hA ⊢
      have hg : rgL (rgt n) p (t :: r) = (rgt n t.kids && rgL (rgt n) t.text r) := by
        show (rightB t && !(p && t.text) && (t.text || rgt n t.kids) && rgL (rgt n) t.text r) = _
        rw [h1, h2, right_kids h1]; rfl
      rw [hg]
      by_cases hK : dep n t.kids ≤ d ∧ (cnt n t.kids : Int) ≤ room ∧ rgt n t.kids = true
      · rw [if_pos hK] at hfk
        rw [hfk, if_neg (by omega), ih t.text (room - cnt n t.kids) (by omega) hr]
        by_cases hR : dep n (nx r) ≤ d ∧ (cnt n (nx r) : Int) ≤ room - cnt n t.kids ∧ rgL (rgt n) t.text r = true
        · rw [if_pos hR, if_pos ⟨by omega, by push_cast; omega, by rw [hK.2.2, hR.2.2]; rfl⟩]
          push_cast; omega
        · rw [if_neg hR, if_neg]
          rintro ⟨a, b, c⟩
          rw [hK.2.2] at c
          exact hR ⟨by omega, by push_cast at b; omega, by simpa using c⟩
      · rw [if_neg hK] at hfk
        rw [hfk, if_pos (by decide), if_neg]
        rintro ⟨a, b, c⟩
        simp only [Bool.and_eq_true] at c
        exact hK ⟨by omega, by push_cast at b; omega, c.1⟩

theorem rb_eq : ∀ (d n : Nat) (l : List Tr) (room : Int), 0 ≤ room → Deep n l →
    rb d room l = if dep n l ≤ d ∧ (cnt n l : Int) ≤ room ∧ rgt n l = true then room - cnt n l else -1 := by
  intro d
  induction d with
  | zero =>
    intro n l room h0 hd
    unfold rb
    cases l with
    | nil => simp [dep_nil, cnt_nil, rgt_nil]; omega
    | cons t r =>
      cases n with
      | zero => cases (show t :: r = [] from hd)
      | succ n =>
        rw [if_neg (by simp), if_neg]
        rintro ⟨a, _⟩
        rw [dep_cons] at a; omega
  | succ d ih =>
    intro n l room h0 hd
    unfold rb
    cases l with
    | nil => simp [dep_nil, cnt_nil, rgt_nil]; omega
    | cons t r =>
      cases n with
      | zero => cases (show t :: r = [] from hd)
      | succ n =>
        rw [if_neg (by simp)]
        generalize hl : t :: r = l at *
        have hne : l ≠ [] := by rw [← hl]; simp
        rw [dep_nx n l hne, cnt_nx n l]
        by_cases hrm : room < (l.length : Int)
        · rw [if_pos hrm, if_neg]
          rintro ⟨_, b, _⟩
          push_cast at b; omega
        · rw [if_neg hrm, rl_eq d n (rb d) (fun room k h hk => ih n k room h hk) l false (room - l.length) (by omega) hd]
          by_cases hR : dep n (nx l) ≤ d ∧ (cnt n (nx l) : Int) ≤ room - l.length ∧ rgL (rgt n) false l = true
          · rw [if_pos hR, if_pos ⟨by omega, by push_cast; omega, hR.2.2⟩]; push_cast; omega
          · rw [if_neg hR, if_neg]
            rintro ⟨a, b, c⟩
            exact hR ⟨by omega, by push_cast at b; omega, c⟩

theorem contentB_eq {n : Nat} {l : List Tr} (hd : Deep n l) : contentB l = (decide (dep n l ≤ 8) && decide (cnt n l ≤ 80) && rgt n l) := by
  unfold contentB
  rw [rb_eq 8 n l 80 (by decide) hd]
  by_cases h : dep n l ≤ 8 ∧ (cnt n l : Int) ≤ 80 ∧ rgt n l = true
  · rw [if_pos h]
    have h2 : cnt n l ≤ 80 := by omega
    simp [h.1, h2, h.2.2]
    omega
  · rw [if_neg h]
    cases hr : rgt n l with
    | false => simp
    | true =>
      have : ¬ (dep n l ≤ 8 ∧ cnt n l ≤ 80) := fun ⟨a, b⟩ => h ⟨a, by omega, hr⟩
      by_cases h1 : dep n l ≤ 8
      · have h2 : ¬ cnt n l ≤ 80 := fun b => this ⟨h1, b⟩
        simp [h2]
      · simp [h1]

theorem goodB_eq {n : Nat} {t : Tr} (hd : Deep n t.kids) : goodB t = (!t.text && decide (dep (n + 1) [t] < 9) && decide (cnt (n + 1) [t] < 81) && rgt (n + 1) [t]) := by
  have h : Deep (n + 1) [t] := by intro x hx; simp at hx; subst hx; exact hd
  unfold goodB
  rw [contentB_eq h]
  have e1 : decide (dep (n + 1) [t] ≤ 8) = decide (dep (n + 1) [t] < 9) := by congr 1; apply propext; omega
  have e2 : decide (cnt (n + 1) [t] ≤ 80) = decide (cnt (n + 1) [t] < 81) := by congr 1; apply propext; omega
  rw [e1, e2, Bool.and_assoc, Bool.and_assoc, Bool.and_assoc]
end Go.Proofs.YtfghbfocjjmcmabGreatDoor

/- Who is whose kid in a good document: on plain data. No condition. -/
namespace Go.Proofs.YtfghbfocjjmcmabGreatDoor
open Go.RowKit
set_option maxRecDepth 100000

theorem rgt_one (d : Nat) (t : Tr) : rgt (d + 1) [t] = (rightB t && (t.text || rgt d t.kids)) := by
  simp [rgt, rgL]

theorem rgL_mem {f : List Tr → Bool} : ∀ (l : List Tr) (p : Bool), rgL f p l = true → ∀ k ∈ l, rightB k = true ∧ (k.text || f k.kids) = true := by
  intro l
  induction l with
  | nil => intro _ _ k hk; simp at hk
  | cons t r ih =>
    intro p h k hk
    simp only [rgL, Bool.and_eq_true] at h
    rw [List.mem_cons] at hk
    rcases hk with rfl | hk
    · exact ⟨h.1.1.1, h.1.2⟩
    · exact ih _ h.2 k hk

theorem rgt_text {t : Tr} (h : rightB t = true) (ht : t.text = true) : t.kids = [] := by
  simp only [rightB, ht, if_true, Bool.and_eq_true, decide_eq_true_eq] at h
  exact List.length_eq_zero_iff.1 h.2

theorem rgt_kid {d : Nat} {t k : Tr} (h : rgt (d + 2) [t] = true) (hk : k ∈ t.kids) : rgt (d + 1) [k] = true := by
  rw [rgt_one] at h ⊢
  simp only [Bool.and_eq_true] at h
  cases ht : t.text with
  | true => rw [rgt_text h.1 ht] at hk; simp at hk
  | false =>
    have h2 := h.2
    rw [ht, Bool.false_or] at h2
    have := rgL_mem t.kids false h2 k hk
    simp only [Bool.and_eq_true]
    exact this

/-- Each node of what is laid of a right tree is the first of what is laid of a right tree, and a kid of its parent. -/
theorem node_all (ns : List Nd) : ∀ (d : Nat) (t : Tr) (par : Int) (a : Nat), Deep d t.kids → Seg ns a (layF d t par a) → rgt (d + 1) [t] = true → ∀ j, a ≤ j → j < a + cnt (d + 1) [t] →
    ∃ d' t' par', Deep d' t'.kids ∧ Seg ns j (layF d' t' par' j) ∧ rgt (d' + 1) [t'] = true ∧ (j = a ∧ par' = par ∨ ∃ q y, ns[q]? = some y ∧ par' = ((q : Nat) : Int) ∧ q < j ∧ (j : Int) ∈ y.kids ∧ a ≤ q) := by
  intro d
  induction d with
  | zero =>
    intro t par a hd hs hr j h1 h2
    have e : t.kids = [] := hd
    have hc : cnt 1 [t] = 1 := by rw [cnt_one, e]; rfl
    rw [hc] at h2
    obtain rfl : j = a := by omega
    exact ⟨0, t, par, hd, hs, hr, Or.inl ⟨rfl, rfl⟩⟩
  | succ d ih =>
    intro t par a hd hs hr j h1 h2
    by_cases hj : j = a
    · subst hj; exact ⟨d + 1, t, par, hd, hs, hr, Or.inl ⟨rfl, rfl⟩⟩
    · have h0 : ns[a]? = some ⟨t.text, t.s, t.attrs, par, startsOf d (a + 1) t.kids⟩ := hs 0 _ rfl
      have hsk : Seg ns (a + 1) (laysOf d (layF d) a (a + 1) t.kids) := Seg.tail hs
      have key : ∀ (ks : List Tr) (b : Nat), (∀ k ∈ ks, Deep d k.kids) → (∀ k ∈ ks, rgt (d + 1) [k] = true) → Seg ns b (laysOf d (layF d) a b ks) → a ≤ b → b ≤ j → j < b + cnt (d + 1) ks →
          ∃ d' t' par', Deep d' t'.kids ∧ Seg ns j (layF d' t' par' j) ∧ rgt (d' + 1) [t'] = true ∧ ((par' = (a : Int) ∧ (j : Int) ∈ startsOf d b ks) ∨ ∃ q y, ns[q]? = some y ∧ par' = ((q : Nat) : Int) ∧ q < j ∧ (j : Int) ∈ y.kids ∧ a ≤ q) := by
        intro ks
        induction ks with
        | nil => intro b _ _ _ _ hb1 hb2; rw [cnt_nil] at hb2; omega
        | cons k ks ihk =>
          intro b hdk hrk hsb hab hb1 hb2
          rw [laysOf] at hsb
          have hl := hsb.left
          have hr2 := hsb.right
          have hdk0 := hdk k List.mem_cons_self
          rw [layF_length d k a b hdk0] at hr2
          rw [cnt_more] at hb2
          by_cases hjk : j < b + cnt (d + 1) [k]
          · obtain ⟨d', t', par', g1, g2, g3, hor⟩ := ih k a b hdk0 hl (hrk k List.mem_cons_self) j hb1 hjk
            refine ⟨d', t', par', g1, g2, g3, ?_⟩
            rcases hor with ⟨hp1, hp2⟩ | hor
            · exact Or.inl ⟨hp2, by rw [startsOf, hp1]; exact List.mem_cons_self⟩
            · obtain ⟨q, y, k1, k2, k3, k4, k5⟩ := hor
              exact Or.inr ⟨q, y, k1, k2, k3, k4, by omega⟩
          · obtain ⟨d', t', par', g1, g2, g3, hor⟩ := ihk (b + cnt (d + 1) [k]) (fun u hu => hdk u (List.mem_cons_of_mem _ hu)) (fun u hu => hrk u (List.mem_cons_of_mem _ hu)) hr2 (by omega) (by omega) (by omega)
            refine ⟨d', t', par', g1, g2, g3, ?_⟩
            rcases hor with ⟨hp1, hp2⟩ | hor
            · exact Or.inl ⟨hp1, by rw [startsOf]; exact List.mem_cons_of_mem _ hp2⟩
            · exact Or.inr hor
      have hc1 : cnt (d + 1 + 1) [t] = 1 + cnt (d + 1) t.kids := cnt_one (d + 1) t
      obtain ⟨d', t', par', g1, g2, g3, hor⟩ := key t.kids (a + 1) hd (fun k hk => rgt_kid hr hk) hsk (by omega) (by omega) (by omega)
      refine ⟨d', t', par', g1, g2, g3, Or.inr ?_⟩
      rcases hor with ⟨hp1, hp2⟩ | hor
      · exact ⟨a, _, h0, hp1, by omega, hp2, Nat.le_refl _⟩
      · exact hor

/-- A good document is laid of a right tree. -/
theorem good_root {ns : List Nd} (hg : goodD ns = true) : ∃ (d : Nat) (t : Tr), Deep d t.kids ∧ Seg ns 0 (layF d t (-1) 0) ∧ cnt (d + 1) [t] = ns.length ∧ rgt (d + 1) [t] = true ∧ t.text = false ∧ goodB t = true ∧ growF ns.length ns 0 = t := by
  have hg2 := hg
  simp only [goodD, Bool.and_eq_true, decide_eq_true_eq] at hg2
  have ho := orderly_eq hg2.1.2
  obtain ⟨t, hd, hs, hn⟩ := ord_conv (ns.length + 1) ns (-1) 0 (by rw [ho])
  rw [ho] at hn
  simp only [Nat.zero_add] at hn
  have hgr := grow_lay _ t ns.length ns (-1) 0 hd hs (by omega)
  have hG := hg2.2
  rw [hgr] at hG
  have hG2 := hG
  rw [goodB_eq hd] at hG
  simp only [Bool.and_eq_true, Bool.not_eq_true'] at hG
  exact ⟨_, t, hd, hs, hn.symm, hG.2, hG.1.1.1, hG2, hgr⟩

/-- What is known of a node of a good document, and of its kids. -/
structure Fam (ns : List Nd) (j : Nat) (x : Nd) : Prop where
  kids : ∀ u ∈ x.kids, ∃ (k : Nat) (y : Nd), u = (k : Int) ∧ j < k ∧ k < ns.length ∧ endD ns (k : Int) ≤ endD ns (j : Int) ∧ ns[k]? = some y ∧ y.parent = (j : Int)
  row : x.kids.Pairwise (fun u v => endD ns u ≤ v)
  par : (j = 0 ∧ x.parent = -1) ∨ ∃ (q : Nat) (y : Nd), ns[q]? = some y ∧ x.parent = (q : Int) ∧ q < j ∧ (j : Int) ∈ y.kids
  text : x.text = true → x.kids = []
  name : x.text = false → nameB x.s = true
  gt : (j : Int) < endD ns (j : Int)

theorem lt_of_some {α : Type} {l : List α} {j : Nat} {x : α} (hx : l[j]? = some x) : j < l.length := by
  rcases Nat.lt_or_ge j l.length with h' | h'
  · exact h'
  · rw [List.getElem?_eq_none h'] at hx; cases hx

theorem lay_fam {ns : List Nd} (hg : goodD ns = true) {d j : Nat} {t : Tr} {par : Int} (hd : Deep d t.kids) (hs : Seg ns j (layF d t par j)) {x : Nd} (hx : ns[j]? = some x) :
    (∀ u ∈ x.kids, ∃ (k : Nat) (y : Nd), u = (k : Int) ∧ j < k ∧ k < ns.length ∧ endD ns (k : Int) ≤ endD ns (j : Int) ∧ ns[k]? = some y ∧ y.parent = (j : Int)) ∧ x.kids.Pairwise (fun u v => endD ns u ≤ v) ∧ (j : Int) < endD ns (j : Int) := by
  have hj := lt_of_some hx
  obtain ⟨_, he, hl, _⟩ := sub_end hg ⟨d, t, hd, hs, rfl⟩ hj
  have hh := layF_head hd par j
  have hx2 : x = ⟨t.text, t.s, t.attrs, par, startsOf (d - 1) (j + 1) t.kids⟩ := by
    have := hs 0 _ (by rw [hh]; rfl)
    rw [Nat.add_zero, hx] at this
    exact Option.some.inj this
  have hgt : (j : Int) < endD ns (j : Int) := by rw [he, cnt_one]; omega
  cases d with
  | zero =>
    have e : t.kids = [] := hd
    have ek : x.kids = [] := by rw [hx2, e]; rfl
    rw [ek]
    exact ⟨by simp, List.Pairwise.nil, hgt⟩
  | succ e =>
    have hsk : Seg ns (j + 1) (laysOf e (layF e) j (j + 1) t.kids) := Seg.tail hs
    have key : ∀ (ks : List Tr) (b : Nat), (∀ k ∈ ks, Deep e k.kids) → Seg ns b (laysOf e (layF e) j b ks) → b + cnt (e + 1) ks ≤ ns.length →
        (startsOf e b ks).Pairwise (fun u v => endD ns u ≤ v) ∧ ∀ u ∈ startsOf e b ks, ∃ (k : Nat) (y : Nd), u = (k : Int) ∧ b ≤ k ∧ k < ns.length ∧ endD ns (k : Int) ≤ ((b + cnt (e + 1) ks : Nat) : Int) ∧ ns[k]? = some y ∧ y.parent = (j : Int) := by
      intro ks
      induction ks with
      | nil => intro b _ _ _; exact ⟨List.Pairwise.nil, by simp [startsOf]⟩
      | cons k ks ihk =>
        intro b hdk hsb hle
        rw [laysOf] at hsb
        have hl1 := hsb.left
        have hr2 := hsb.right
        have hdk0 := hdk k List.mem_cons_self
        rw [layF_length e k j b hdk0] at hr2
        rw [cnt_more] at hle ⊢
        have hc1 := cnt_one e k
        obtain ⟨_, heb, _, y, hy, hyp⟩ := sub_end hg ⟨e, k, hdk0, hl1, rfl⟩ (by omega)
        obtain ⟨hP, hM⟩ := ihk (b + cnt (e + 1) [k]) (fun u hu => hdk u (List.mem_cons_of_mem _ hu)) hr2 (by omega)
        rw [startsOf]
        refine ⟨List.Pairwise.cons (fun v hv => ?_) hP, fun u hu => ?_⟩
        · obtain ⟨k2, _, rfl, hk2, _⟩ := hM v hv
          rw [heb]; omega
        · rw [List.mem_cons] at hu
          rcases hu with rfl | hu
          · exact ⟨b, y, rfl, Nat.le_refl _, by omega, by rw [heb]; omega, hy, hyp⟩
          · obtain ⟨k2, y2, g1, g2, g3, g4, g5⟩ := hM u hu
            exact ⟨k2, y2, g1, by omega, g3, by omega, g5⟩
    have hc := cnt_one (e + 1) t
    obtain ⟨hP, hM⟩ := key t.kids (j + 1) hd hsk (by omega)
    have ek : x.kids = startsOf e (j + 1) t.kids := by rw [hx2]; rfl
    rw [ek]
    refine ⟨fun u hu => ?_, hP, hgt⟩
    obtain ⟨k2, y2, g1, g2, g3, g4, g5⟩ := hM u hu
    exact ⟨k2, y2, g1, by omega, g3, by rw [he]; omega, g5⟩

theorem good_fam {ns : List Nd} (hg : goodD ns = true) {j : Nat} {x : Nd} (hx : ns[j]? = some x) : Fam ns j x := by
  have hj := lt_of_some hx
  obtain ⟨d, t, hd, hs, hn, hr, _, _, _⟩ := good_root hg
  obtain ⟨d', t', par', g1, g2, g3, hor⟩ := node_all ns d t (-1) 0 hd hs hr j (Nat.zero_le _) (by omega)
  obtain ⟨k1, k2, k3⟩ := lay_fam hg g1 g2 hx
  have hx2 : x = ⟨t'.text, t'.s, t'.attrs, par', startsOf (d' - 1) (j + 1) t'.kids⟩ := by
    have := g2 0 _ (by rw [layF_head g1 par' j]; rfl)
    rw [Nat.add_zero, hx] at this
    exact Option.some.inj this
  rw [rgt_one] at g3
  simp only [Bool.and_eq_true] at g3
  refine ⟨k1, k2, ?_, ?_, ?_, k3⟩
  · rcases hor with ⟨h1, h2⟩ | ⟨q, y, h1, h2, h3, h4, _⟩
    · exact Or.inl ⟨h1, by rw [hx2]; exact h2⟩
    · exact Or.inr ⟨q, y, h1, by rw [hx2]; exact h2, h3, h4⟩
  · intro ht
    have ht' : t'.text = true := by rw [hx2] at ht; exact ht
    rw [hx2, rgt_text g3.1 ht']
    rfl
  · intro ht
    have ht' : t'.text = false := by rw [hx2] at ht; exact ht
    have h1 := g3.1
    simp [rightB, ht'] at h1
    rw [hx2]
    exact h1.1

/-- Who is behind a node and ahead of its end has a parent that is not ahead of it. -/
theorem good_inner {ns : List Nd} (hg : goodD ns = true) {m n : Nat} {x : Nd} (hx : ns[n]? = some x) (h1 : m < n) (h2 : (n : Int) < endD ns (m : Int)) : ∃ q : Nat, x.parent = (q : Int) ∧ m ≤ q ∧ q < n := by
  have hn := lt_of_some hx
  obtain ⟨d, t, hd, hs, hc, hr, _, _, _⟩ := good_root hg
  obtain ⟨d', t', par', g1, g2, g3, _⟩ := node_all ns d t (-1) 0 hd hs hr m (Nat.zero_le _) (by omega)
  obtain ⟨_, he, _, _⟩ := sub_end hg ⟨d', t', g1, g2, rfl⟩ (by omega)
  obtain ⟨d2, t2, par2, k1, k2, k3, hor⟩ := node_all ns d' t' par' m g1 g2 g3 n (by omega) (by omega)
  have hx2 : x = ⟨t2.text, t2.s, t2.attrs, par2, startsOf (d2 - 1) (n + 1) t2.kids⟩ := by
    have := k2 0 _ (by rw [layF_head k1 par2 n]; rfl)
    rw [Nat.add_zero, hx] at this
    exact Option.some.inj this
  rcases hor with ⟨h, _⟩ | ⟨q, y, l1, l2, l3, l4, l5⟩
  · omega
  · exact ⟨q, by rw [hx2]; exact l2, l5, l3⟩
end Go.Proofs.YtfghbfocjjmcmabGreatDoor

/- Which nodes a path means, as functions, and what is so of them in a good document: on plain data. No condition. -/
namespace Go.Proofs.YtfghbfocjjmcmabGreatDoor
open Go.RowKit
set_option maxRecDepth 100000

structure St where
  name : ByteArray
  n : Int

def fitsB (x : Nd) (name : ByteArray) : Bool := if x.text then decide (name = ⟨#[]⟩) else decide (name = ⟨#[42]⟩) || decide (name = x.s)
def fitAt (ns : List Nd) (name : ByteArray) (u : Int) : Bool := match ns[u.toNat]? with | some x => fitsB x name | none => false
def kidsAt (ns : List Nd) (u : Int) : List Int := match ns[u.toNat]? with | some x => x.kids | none => []
def parAt (ns : List Nd) (u : Int) : Int := match ns[u.toNat]? with | some x => x.parent | none => -1

def fitL (ns : List Nd) (l : List Int) (name : ByteArray) : List Int := l.filter (fitAt ns name)

/-- Those of some nodes that a step means. -/
def meantF (ns : List Nd) (l : List Int) (s : St) : List Int := if s.n = 0 then fitL ns l s.name else ((fitL ns l s.name).drop (s.n.toNat - 1)).take 1

def nextF (ns : List Nd) (here : List Int) (s : St) : List Int := here.flatMap fun u => meantF ns (kidsAt ns u) s

def selF (ns : List Nd) : List St → List Int → List Int
  | [], here => here
  | s :: l, here => selF ns l (nextF ns here s)

def stepB (s : St) : Bool := decide (0 ≤ s.n) && decide (s.n ≤ 99) && (decide (s.name = ⟨#[]⟩) || decide (s.name = ⟨#[42]⟩) || nameB s.name)
def pathB (l : List St) : Bool := decide (1 ≤ l.length) && decide (l.length ≤ 5) && l.all stepB

def selP (ns : List Nd) : List St → List Int
  | [] => []
  | s :: r => selF ns r (meantF ns [0] s)

/-- What path.Select answers. -/
def selD (ns : List Nd) (l : List St) : List Int := if goodD ns && pathB l then selP ns l else []
def selE (ns : List Nd) (l : List St) : Int := if goodD ns && pathB l then 0 else 1

theorem meantF_sub (ns : List Nd) (l : List Int) (s : St) : (meantF ns l s).Sublist l := by
  unfold meantF
  split
  · exact List.filter_sublist
  · exact ((List.take_sublist _ _).trans (List.drop_sublist _ _)).trans List.filter_sublist

/-- How deep a node is, by its parents. -/
def depF : Nat → List Nd → Int → Nat
  | 0, _, _ => 0
  | f + 1, ns, k => if 0 ≤ k ∧ k < ns.length then depF f ns (parAt ns k) + 1 else 0

theorem parAt_nat {ns : List Nd} {j : Nat} {x : Nd} (hx : ns[j]? = some x) : parAt ns (j : Int) = x.parent := by
  unfold parAt; rw [Int.toNat_natCast, hx]
theorem kidsAt_nat {ns : List Nd} {j : Nat} {x : Nd} (hx : ns[j]? = some x) : kidsAt ns (j : Int) = x.kids := by
  unfold kidsAt; rw [Int.toNat_natCast, hx]
theorem fitAt_nat {ns : List Nd} {j : Nat} {x : Nd} (hx : ns[j]? = some x) (s : ByteArray) : fitAt ns s (j : Int) = fitsB x s := by
  unfold fitAt; rw [Int.toNat_natCast, hx]

theorem depF_neg (f : Nat) (ns : List Nd) {k : Int} (h : k < 0) : depF f ns k = 0 := by
  cases f with
  | zero => rfl
  | succ f => rw [depF, if_neg (by omega)]

theorem depF_enough {ns : List Nd} (hg : goodD ns = true) : ∀ (f f' j : Nat), j < f → j < f' → depF f ns (j : Int) = depF f' ns (j : Int) := by
  intro f
  induction f with
  | zero => intro f' j h; omega
  | succ f ih =>
    intro f' j h1 h2
    obtain ⟨e, rfl⟩ : ∃ e, f' = e + 1 := ⟨f' - 1, by omega⟩
    rw [depF, depF]
    by_cases hj : j < ns.length
    · rw [if_pos (by omega), if_pos (by omega)]
      obtain ⟨x, hx⟩ : ∃ x, ns[j]? = some x := ⟨ns[j], by simp [hj]⟩
      rw [parAt_nat hx]
      rcases (good_fam hg hx).par with ⟨_, hp⟩ | ⟨q, y, _, hp, hq, _⟩
      · rw [hp, depF_neg _ _ (by omega), depF_neg _ _ (by omega)]
      · rw [hp, ih e q (by omega) (by omega)]
    · rw [if_neg (by omega), if_neg (by omega)]

def dp (ns : List Nd) (j : Nat) : Nat := depF (j + 1) ns (j : Int)

theorem dp_fuel {ns : List Nd} (hg : goodD ns = true) {f j : Nat} (h : j < f) : depF f ns (j : Int) = dp ns j := depF_enough hg f (j + 1) j h (by omega)

theorem dp_root {ns : List Nd} (_hg : goodD ns = true) {x : Nd} (hx : ns[0]? = some x) (hp : x.parent = -1) : dp ns 0 = 1 := by
  unfold dp
  have := lt_of_some hx
  rw [depF, if_pos (by omega), parAt_nat hx, hp, depF_neg _ _ (by omega)]

theorem dp_kid {ns : List Nd} (hg : goodD ns = true) {j q : Nat} {x : Nd} (hx : ns[j]? = some x) (hp : x.parent = (q : Int)) (hq : q < j) : dp ns j = dp ns q + 1 := by
  have := lt_of_some hx
  conv => lhs; unfold dp
  rw [depF, if_pos (by omega), parAt_nat hx, hp, dp_fuel hg hq]

/-- A level: nodes that are equally deep, by order. -/
structure Lev (ns : List Nd) (d : Nat) (l : List Int) : Prop where
  mem : ∀ u ∈ l, ∃ (k : Nat) (x : Nd), u = (k : Int) ∧ ns[k]? = some x ∧ dp ns k = d
  row : l.Pairwise (fun u v => endD ns u ≤ v)

theorem Lev.sub {ns : List Nd} {d : Nat} {l m : List Int} (h : Lev ns d l) (hs : m.Sublist l) : Lev ns d m :=
  ⟨fun u hu => h.mem u (hs.subset hu), h.row.sublist hs⟩

theorem pairwise_flat {α β : Type} {R : β → β → Prop} {f : α → List β} : ∀ (l : List α), (∀ a ∈ l, (f a).Pairwise R) → l.Pairwise (fun a b => ∀ u ∈ f a, ∀ v ∈ f b, R u v) → (l.flatMap f).Pairwise R := by
  intro l
  induction l with
  | nil => intro _ _; exact List.Pairwise.nil
  | cons a l ih =>
    intro h1 h2
    rw [List.flatMap_cons, List.pairwise_append]
    rw [List.pairwise_cons] at h2
    refine ⟨h1 a List.mem_cons_self, ih (fun b hb => h1 b (List.mem_cons_of_mem _ hb)) h2.2, fun u hu v hv => ?_⟩
    obtain ⟨b, hb, hvb⟩ := List.mem_flatMap.1 hv
    exact h2.1 b hb u hu v hvb

theorem lev_next {ns : List Nd} (hg : goodD ns = true) {d : Nat} {here : List Int} (h : Lev ns d here) (s : St) : Lev ns (d + 1) (nextF ns here s) := by
  refine ⟨fun u hu => ?_, ?_⟩
  · obtain ⟨v, hv, hu2⟩ := List.mem_flatMap.1 hu
    obtain ⟨k, x, rfl, hx, hd⟩ := h.mem v hv
    have hm := (meantF_sub _ _ _).subset hu2
    rw [kidsAt_nat hx] at hm
    obtain ⟨j, y, rfl, h1, _, _, hy, hp⟩ := (good_fam hg hx).kids u hm
    exact ⟨j, y, rfl, hy, by rw [dp_kid hg hy hp h1, hd]⟩
  · refine pairwise_flat here (fun v hv => ?_) ?_
    · obtain ⟨k, x, rfl, hx, _⟩ := h.mem v hv
      have hs := meantF_sub ns (kidsAt ns (k : Int)) s
      rw [kidsAt_nat hx] at hs ⊢
      exact (good_fam hg hx).row.sublist hs
    · refine List.Pairwise.imp_of_mem ?_ h.row
      intro a b ha hb hab u hu v hv
      obtain ⟨ka, xa, rfl, hxa, _⟩ := h.mem a ha
      obtain ⟨kb, xb, rfl, hxb, _⟩ := h.mem b hb
      have hu2 := (meantF_sub _ _ _).subset hu
      have hv2 := (meantF_sub _ _ _).subset hv
      rw [kidsAt_nat hxa] at hu2
      rw [kidsAt_nat hxb] at hv2
      obtain ⟨ju, _, rfl, _, _, he, _⟩ := (good_fam hg hxa).kids u hu2
      obtain ⟨jv, _, rfl, hj, _⟩ := (good_fam hg hxb).kids v hv2
      omega

theorem lev_sel {ns : List Nd} (hg : goodD ns = true) : ∀ (l : List St) (d : Nat) (here : List Int), Lev ns d here → Lev ns (d + l.length) (selF ns l here) := by
  intro l
  induction l with
  | nil => intro d here h; exact h
  | cons s l ih =>
    intro d here h
    have := ih (d + 1) _ (lev_next hg h s)
    rw [selF, List.length_cons, show d + (l.length + 1) = d + 1 + l.length by omega]
    exact this

theorem good_first {ns : List Nd} (hg : goodD ns = true) : ∃ x, ns[0]? = some x ∧ x.parent = -1 ∧ x.text = false := by
  obtain ⟨d, t, hd, hs, hn, _, ht, _, _⟩ := good_root hg
  have := hs 0 _ (by rw [layF_head hd (-1) 0]; rfl)
  exact ⟨_, this, rfl, ht⟩

theorem lev_root {ns : List Nd} (hg : goodD ns = true) (s : St) : Lev ns 1 (meantF ns [0] s) := by
  obtain ⟨x, hx, hp, _⟩ := good_first hg
  refine Lev.sub ⟨fun u hu => ?_, List.Pairwise.cons (by simp) List.Pairwise.nil⟩ (meantF_sub _ _ _)
  rw [List.mem_singleton] at hu
  exact ⟨0, x, hu, hx, dp_root hg hx hp⟩

/-- What is meant: nodes by order, as deep as the path is long. -/
theorem selP_lev {ns : List Nd} (hg : goodD ns = true) {l : List St} (hl : l ≠ []) : Lev ns l.length (selP ns l) := by
  cases l with
  | nil => exact absurd rfl hl
  | cons s r =>
    have := lev_sel hg r 1 _ (lev_root hg s)
    rw [List.length_cons, Nat.add_comm]
    exact this

theorem Lev.rises {ns : List Nd} (hg : goodD ns = true) {d : Nat} {l : List Int} (h : Lev ns d l) : l.Pairwise (fun u v => u < v) := by
  refine List.Pairwise.imp_of_mem ?_ h.row
  intro a b ha _ hab
  obtain ⟨k, x, rfl, hx, _⟩ := h.mem a ha
  have := (good_fam hg hx).gt
  omega

/-- More nodes, more that are meant. -/
theorem nextF_mono {ns : List Nd} {a b : List Int} (h : a ⊆ b) (s : St) : nextF ns a s ⊆ nextF ns b s := by
  intro u hu
  obtain ⟨v, hv, hm⟩ := List.mem_flatMap.1 hu
  exact List.mem_flatMap.2 ⟨v, h hv, hm⟩
theorem selF_mono {ns : List Nd} : ∀ (l : List St) {a b : List Int}, a ⊆ b → selF ns l a ⊆ selF ns l b := by
  intro l
  induction l with
  | nil => intro a b h; exact h
  | cons s l ih => intro a b h; exact ih (nextF_mono h s)
theorem meantF_all {ns : List Nd} {l : List Int} {s t : St} (hn : s.name = t.name) (ht : t.n = 0) : meantF ns l s ⊆ meantF ns l t := by
  intro u hu
  unfold meantF at hu ⊢
  rw [if_pos ht, ← hn]
  split at hu
  · exact hu
  · exact List.mem_of_mem_drop (List.mem_of_mem_take hu)
theorem nextF_all {ns : List Nd} {a b : List Int} {s t : St} (h : a ⊆ b) (hn : s.name = t.name) (ht : t.n = 0) : nextF ns a s ⊆ nextF ns b t := by
  intro u hu
  obtain ⟨v, hv, hm⟩ := List.mem_flatMap.1 hu
  exact List.mem_flatMap.2 ⟨v, h hv, meantF_all hn ht hm⟩
theorem selF_pick {ns : List Nd} : ∀ (l : List St) (k : Nat) (s t x : St) (a b : List Int), l[k]? = some x → s.name = t.name → t.n = 0 → a ⊆ b → selF ns (l.set k s) a ⊆ selF ns (l.set k t) b := by
  intro l
  induction l with
  | nil => intro k s t x a b h; simp at h
  | cons y l ih =>
    intro k s t x a b h hn ht hab
    cases k with
    | zero => exact selF_mono l (nextF_all hab hn ht)
    | succ k => exact ih k s t x _ _ (by simpa using h) hn ht (nextF_mono hab y)
/-- Who asks for the n-th of some is told no others. -/
theorem selP_pick {ns : List Nd} (l : List St) (k : Nat) (s t x : St) (h : l[k]? = some x) (hn : s.name = t.name) (ht : t.n = 0) : selP ns (l.set k s) ⊆ selP ns (l.set k t) := by
  cases l with
  | nil => simp at h
  | cons y l =>
    cases k with
    | zero => exact selF_mono l (meantF_all hn ht)
    | succ k => exact selF_pick l k s t x _ _ (by simpa using h) hn ht (fun _ h => h)

def starS : St := ⟨⟨#[42]⟩, 0⟩
def textS : St := ⟨⟨#[]⟩, 0⟩

theorem star_ne {s : ByteArray} (h : nameB s = true) : s ≠ ⟨#[42]⟩ ∧ s ≠ ⟨#[]⟩ := by
  constructor
  · rintro rfl; exact absurd h (by decide)
  · rintro rfl; exact absurd h (by decide)

theorem fits_star (x : Nd) : fitsB x ⟨#[42]⟩ = !x.text := by
  unfold fitsB
  cases x.text <;> simp
theorem fits_text {x : Nd} (h : x.text = false → nameB x.s = true) : fitsB x ⟨#[]⟩ = x.text := by
  unfold fitsB
  cases ht : x.text with
  | true => simp
  | false =>
    have := (star_ne (h ht)).2
    have h2 : ¬ (⟨#[]⟩ : ByteArray) = x.s := fun e => this e.symm
    have h3 : ¬ (⟨#[]⟩ : ByteArray) = ⟨#[42]⟩ := by decide
    simp [h2, h3]

theorem mem_meant0 {ns : List Nd} {l : List Int} {s : St} (h : s.n = 0) (u : Int) : u ∈ meantF ns l s ↔ u ∈ l ∧ fitAt ns s.name u = true := by
  unfold meantF fitL
  rw [if_pos h, List.mem_filter]

/-- Whom a step of a kind means behind all elements that are so deep. -/
theorem mem_next {ns : List Nd} (hg : goodD ns = true) {d : Nat} {here : List Int} (hh : ∀ u : Int, u ∈ here ↔ ∃ (k : Nat) (x : Nd), u = (k : Int) ∧ ns[k]? = some x ∧ dp ns k = d ∧ x.text = false) (hd : 1 ≤ d)
    {s : St} (hs : s.n = 0) {p : Nd → Bool} (hp : ∀ (k : Nat) (x : Nd), ns[k]? = some x → fitsB x s.name = p x) :
    ∀ u : Int, u ∈ nextF ns here s ↔ ∃ (k : Nat) (x : Nd), u = (k : Int) ∧ ns[k]? = some x ∧ dp ns k = d + 1 ∧ p x = true := by
  intro u
  constructor
  · intro hu
    obtain ⟨v, hv, hm⟩ := List.mem_flatMap.1 hu
    obtain ⟨j, y, rfl, hy, hdj, _⟩ := (hh v).1 hv
    rw [kidsAt_nat hy, mem_meant0 hs] at hm
    obtain ⟨k, x, rfl, h1, _, _, hx, hpar⟩ := (good_fam hg hy).kids u hm.1
    refine ⟨k, x, rfl, hx, by rw [dp_kid hg hx hpar h1, hdj], ?_⟩
    rw [fitAt_nat hx] at hm
    rw [← hp k x hx]; exact hm.2
  · rintro ⟨k, x, rfl, hx, hdk, hpx⟩
    rcases (good_fam hg hx).par with ⟨rfl, hpar⟩ | ⟨q, y, hy, hpar, hq, hm⟩
    · rw [dp_root hg hx hpar] at hdk; omega
    · rw [dp_kid hg hx hpar hq] at hdk
      have hty : y.text = false := by
        cases ht : y.text with
        | false => rfl
        | true => rw [(good_fam hg hy).text ht] at hm; simp at hm
      refine List.mem_flatMap.2 ⟨(q : Int), (hh _).2 ⟨q, y, rfl, hy, by omega, hty⟩, ?_⟩
      rw [kidsAt_nat hy, mem_meant0 hs, fitAt_nat hx]
      exact ⟨hm, by rw [hp k x hx]; exact hpx⟩

theorem mem_root {ns : List Nd} (hg : goodD ns = true) {s : St} (hs : s.n = 0) {p : Nd → Bool} (hp : ∀ (k : Nat) (x : Nd), ns[k]? = some x → fitsB x s.name = p x) :
    ∀ u : Int, u ∈ meantF ns [0] s ↔ ∃ (k : Nat) (x : Nd), u = (k : Int) ∧ ns[k]? = some x ∧ dp ns k = 1 ∧ p x = true := by
  intro u
  obtain ⟨x0, hx0, hp0, _⟩ := good_first hg
  rw [mem_meant0 hs, List.mem_singleton]
  constructor
  · rintro ⟨rfl, hf⟩
    refine ⟨0, x0, rfl, hx0, dp_root hg hx0 hp0, ?_⟩
    have := fitAt_nat hx0 s.name
    rw [show ((0 : Nat) : Int) = 0 from rfl] at this
    rw [this, hp 0 x0 hx0] at hf
    exact hf
  · rintro ⟨k, x, rfl, hx, hdk, hpx⟩
    rcases (good_fam hg hx).par with ⟨rfl, _⟩ | ⟨q, y, hy, hpar, hq, hm⟩
    · refine ⟨rfl, ?_⟩
      rw [fitAt_nat hx, hp 0 x hx]; exact hpx
    · rw [dp_kid hg hx hpar hq] at hdk
      have : 1 ≤ dp ns q := by
        unfold dp
        have := lt_of_some hy
        rw [depF, if_pos (by omega)]; omega
      omega

theorem selF_snoc (ns : List Nd) : ∀ (l : List St) (s : St) (here : List Int), selF ns (l ++ [s]) here = nextF ns (selF ns l here) s := by
  intro l
  induction l with
  | nil => intro s here; rfl
  | cons t l ih => intro s here; exact ih s _

theorem mem_stars {ns : List Nd} (hg : goodD ns = true) : ∀ (m : Nat) (u : Int), u ∈ selP ns (List.replicate (m + 1) starS) ↔ ∃ (k : Nat) (x : Nd), u = (k : Int) ∧ ns[k]? = some x ∧ dp ns k = m + 1 ∧ x.text = false := by
  intro m
  induction m with
  | zero =>
    intro u
    have := mem_root hg (s := starS) rfl (p := fun x => !x.text) (fun k x _ => fits_star x) u
    simp only [Bool.not_eq_true'] at this
    exact this
  | succ m ih =>
    intro u
    have := mem_next hg (here := selP ns (List.replicate (m + 1) starS)) ih (by omega) (s := starS) rfl (p := fun x => !x.text) (fun k x _ => fits_star x) u
    rw [show List.replicate (m + 1 + 1) starS = List.replicate (m + 1) starS ++ [starS] from List.replicate_succ']
    rw [show List.replicate (m + 1) starS ++ [starS] = starS :: (List.replicate m starS ++ [starS]) from rfl, selP, selF_snoc]
    simp only [Bool.not_eq_true'] at this
    exact this

theorem mem_texts {ns : List Nd} (hg : goodD ns = true) (m : Nat) (u : Int) : u ∈ selP ns (List.replicate m starS ++ [textS]) ↔ ∃ (k : Nat) (x : Nd), u = (k : Int) ∧ ns[k]? = some x ∧ dp ns k = m + 1 ∧ x.text = true := by
  cases m with
  | zero => exact mem_root hg (s := textS) rfl (p := fun x => x.text) (fun k x hx => fits_text (good_fam hg hx).name) u
  | succ m =>
    have := mem_next hg (here := selP ns (List.replicate (m + 1) starS)) (mem_stars hg m) (by omega) (s := textS) rfl (p := fun x => x.text) (fun k x hx => fits_text (good_fam hg hx).name) u
    rw [show List.replicate (m + 1) starS ++ [textS] = starS :: (List.replicate m starS ++ [textS]) from rfl, selP, selF_snoc]
    exact this

theorem sorted_ext : ∀ {a b : List Int}, a.Pairwise (fun u v => u < v) → b.Pairwise (fun u v => u < v) → (∀ u, u ∈ a ↔ u ∈ b) → a = b := by
  intro a
  induction a with
  | nil =>
    intro b _ _ h
    cases b with
    | nil => rfl
    | cons y b => exact absurd ((h y).2 List.mem_cons_self) (by simp)
  | cons x a ih =>
    intro b ha hb h
    cases b with
    | nil => exact absurd ((h x).1 List.mem_cons_self) (by simp)
    | cons y b =>
      rw [List.pairwise_cons] at ha hb
      have hxy : x = y := by
        have h1 := (h x).1 List.mem_cons_self
        have h2 := (h y).2 List.mem_cons_self
        rw [List.mem_cons] at h1 h2
        rcases h1 with h1 | h1
        · exact h1
        · rcases h2 with h2 | h2
          · exact h2.symm
          · have := hb.1 x h1
            have := ha.1 y h2
            omega
      subst hxy
      rw [ih ha.2 hb.2 (fun u => ?_)]
      constructor
      · intro hu
        have h1 := (h u).1 (List.mem_cons_of_mem _ hu)
        rw [List.mem_cons] at h1
        rcases h1 with rfl | h1
        · exact absurd (ha.1 u hu) (by omega)
        · exact h1
      · intro hu
        have h1 := (h u).2 (List.mem_cons_of_mem _ hu)
        rw [List.mem_cons] at h1
        rcases h1 with rfl | h1
        · exact absurd (hb.1 u hu) (by omega)
        · exact h1

/-- All nodes that are so deep, of a kind. -/
def allAt (ns : List Nd) (d : Nat) (tx : Bool) : Nat → List Int
  | 0 => []
  | k + 1 => allAt ns d tx k ++ (if dp ns k = d ∧ ((ns[k]?).map (·.text)) = some tx then [(k : Int)] else [])

theorem allAt_mem (ns : List Nd) (d : Nat) (tx : Bool) : ∀ (m : Nat) (u : Int), u ∈ allAt ns d tx m ↔ ∃ (k : Nat) (x : Nd), u = (k : Int) ∧ k < m ∧ ns[k]? = some x ∧ dp ns k = d ∧ x.text = tx := by
  intro m
  induction m with
  | zero => intro u; simp [allAt]
  | succ m ih =>
    intro u
    rw [allAt, List.mem_append, ih]
    constructor
    · rintro (⟨k, x, h1, h2, h3⟩ | h)
      · exact ⟨k, x, h1, by omega, h3⟩
      · split at h
        · rename_i hc
          rw [List.mem_singleton] at h
          obtain ⟨x, hx, ht⟩ := Option.map_eq_some_iff.1 hc.2
          exact ⟨m, x, h, by omega, hx, hc.1, ht⟩
        · simp at h
    · rintro ⟨k, x, h1, h2, h3, h4, h5⟩
      by_cases hk : k = m
      · subst hk
        right
        rw [if_pos ⟨h4, by rw [h3]; simp [h5]⟩, h1]
        exact List.mem_singleton.2 rfl
      · exact Or.inl ⟨k, x, h1, by omega, h3, h4, h5⟩

theorem allAt_sorted (ns : List Nd) (d : Nat) (tx : Bool) : ∀ (m : Nat), (allAt ns d tx m).Pairwise (fun u v => u < v) := by
  intro m
  induction m with
  | zero => exact List.Pairwise.nil
  | succ m ih =>
    rw [allAt, List.pairwise_append]
    refine ⟨ih, ?_, ?_⟩
    · split
      · exact List.Pairwise.cons (by simp) List.Pairwise.nil
      · exact List.Pairwise.nil
    · intro u hu v hv
      obtain ⟨k, x, rfl, hk, _⟩ := (allAt_mem ns d tx m u).1 hu
      split at hv
      · rw [List.mem_singleton] at hv; omega
      · simp at hv

theorem sel_stars {ns : List Nd} (hg : goodD ns = true) (m : Nat) : selP ns (List.replicate (m + 1) starS) = allAt ns (m + 1) false ns.length := by
  refine sorted_ext ((selP_lev hg (by simp)).rises hg) (allAt_sorted _ _ _ _) (fun u => ?_)
  rw [mem_stars hg, allAt_mem]
  constructor
  · rintro ⟨k, x, h1, h2, h3⟩; exact ⟨k, x, h1, lt_of_some h2, h2, h3⟩
  · rintro ⟨k, x, h1, _, h2, h3⟩; exact ⟨k, x, h1, h2, h3⟩
theorem sel_texts {ns : List Nd} (hg : goodD ns = true) (m : Nat) : selP ns (List.replicate m starS ++ [textS]) = allAt ns (m + 1) true ns.length := by
  refine sorted_ext ((selP_lev hg (by simp)).rises hg) (allAt_sorted _ _ _ _) (fun u => ?_)
  rw [mem_texts hg, allAt_mem]
  constructor
  · rintro ⟨k, x, h1, h2, h3⟩; exact ⟨k, x, h1, lt_of_some h2, h2, h3⟩
  · rintro ⟨k, x, h1, _, h2, h3⟩; exact ⟨k, x, h1, h2, h3⟩
end Go.Proofs.YtfghbfocjjmcmabGreatDoor

/- Node by node: whom a path means, as the document's own way asks it; on plain data. No condition. -/
namespace Go.Proofs.YtfghbfocjjmcmabGreatDoor
open Go.RowKit
set_option maxRecDepth 100000

def calledB (x : Nd) (name : ByteArray) : Bool := if x.text then decide (name = ⟨#[]⟩) else decide (name = ⟨#[42]⟩) || (!decide (name = ⟨#[]⟩) && decide (name = x.s))
def mineB (ns : List Nd) (par : Int) (name : ByteArray) (k : Nat) : Bool := match ns[k]? with | some y => decide (y.parent = par) && calledB y name | none => false
/-- Which one a node is among those of one parent that are called so. -/
def whichF (ns : List Nd) (par : Int) (name : ByteArray) : Nat → Nat
  | 0 => 0
  | k + 1 => whichF ns par name k + (if mineB ns par name k then 1 else 0)

/-- Whether a node is meant by steps, the last of them ahead. -/
def isMR (ns : List Nd) : List St → Nat → Bool
  | [], _ => false
  | s :: r, n => match ns[n]? with
    | none => false
    | some x => calledB x s.name && (decide (x.parent < 0) == r.isEmpty) && (decide (x.parent < 0) || isMR ns r x.parent.toNat) && (decide (s.n = 0) || decide (s.n = (whichF ns x.parent s.name (n + 1) : Int)))

def pickF (ns : List Nd) (r : List St) : Nat → List Int
  | 0 => []
  | k + 1 => pickF ns r k ++ (if isMR ns r k then [(k : Int)] else [])

theorem called_fits {x : Nd} (h : x.text = false → nameB x.s = true) (name : ByteArray) : calledB x name = fitsB x name := by
  unfold calledB fitsB
  cases ht : x.text with
  | true => rfl
  | false =>
    simp only [Bool.false_eq_true, if_false]
    by_cases hn : name = ⟨#[]⟩
    · have h2 : ¬ name = x.s := fun e => (star_ne (h ht)).2 (by rw [← e, hn])
      have h3 : ¬ (⟨#[]⟩ : ByteArray) = x.s := by rw [← hn]; exact h2
      simp [hn, h3]
    · simp [hn]

theorem pickF_mem (ns : List Nd) (r : List St) : ∀ (m : Nat) (u : Int), u ∈ pickF ns r m ↔ ∃ k : Nat, u = (k : Int) ∧ k < m ∧ isMR ns r k = true := by
  intro m
  induction m with
  | zero => intro u; simp [pickF]
  | succ m ih =>
    intro u
    rw [pickF, List.mem_append, ih]
    constructor
    · rintro (⟨k, h1, h2, h3⟩ | h)
      · exact ⟨k, h1, by omega, h3⟩
      · split at h
        · rename_i hc
          rw [List.mem_singleton] at h
          exact ⟨m, h, by omega, hc⟩
        · simp at h
    · rintro ⟨k, h1, h2, h3⟩
      by_cases hk : k = m
      · subst hk
        right
        rw [if_pos h3, h1]
        exact List.mem_singleton.2 rfl
      · exact Or.inl ⟨k, h1, by omega, h3⟩

theorem pickF_sorted (ns : List Nd) (r : List St) : ∀ (m : Nat), (pickF ns r m).Pairwise (fun u v => u < v) := by
  intro m
  induction m with
  | zero => exact List.Pairwise.nil
  | succ m ih =>
    rw [pickF, List.pairwise_append]
    refine ⟨ih, ?_, ?_⟩
    · split
      · exact List.Pairwise.cons (by simp) List.Pairwise.nil
      · exact List.Pairwise.nil
    · intro u hu v hv
      obtain ⟨k, rfl, hk, _⟩ := (pickF_mem ns r m u).1 hu
      split at hv
      · rw [List.mem_singleton] at hv; omega
      · simp at hv

/-- Where an element of a rising list stands. -/
theorem sorted_at : ∀ {L : List Int} {u : Int} {i : Nat}, L.Pairwise (fun a b => a < b) → u ∈ L → (L[i]? = some u ↔ (L.filter fun x => decide (x ≤ u)).length = i + 1) := by
  intro L
  induction L with
  | nil => intro u i _ h; simp at h
  | cons x L ih =>
    intro u i hp hu
    rw [List.pairwise_cons] at hp
    rw [List.mem_cons] at hu
    rcases hu with rfl | hu
    · have hno : (L.filter fun x => decide (x ≤ u)) = [] := by
        rw [List.filter_eq_nil_iff]
        intro y hy
        have := hp.1 y hy
        simp; omega
      rw [List.filter_cons_of_pos (by simp), hno]
      cases i with
      | zero => simp
      | succ i =>
        constructor
        · intro h
          have := hp.1 u (List.mem_of_getElem? (by simpa using h))
          omega
        · intro h; simp at h
    · have hx := hp.1 u hu
      rw [List.filter_cons_of_pos (by simp; omega), List.length_cons]
      cases i with
      | zero =>
        constructor
        · intro h; simp at h; omega
        · intro h
          have : (L.filter fun x => decide (x ≤ u)) = [] := List.eq_nil_of_length_eq_zero (by omega)
          rw [List.filter_eq_nil_iff] at this
          exact absurd (this u hu) (by simp)
      | succ i =>
        have := ih (i := i) hp.2 hu
        rw [List.getElem?_cons_succ, this]
        omega

def mineF (ns : List Nd) (par : Int) (name : ByteArray) : Nat → List Int
  | 0 => []
  | k + 1 => mineF ns par name k ++ (if mineB ns par name k then [(k : Int)] else [])

theorem mineF_len (ns : List Nd) (par : Int) (name : ByteArray) : ∀ m, (mineF ns par name m).length = whichF ns par name m := by
  intro m
  induction m with
  | zero => rfl
  | succ m ih =>
    rw [mineF, whichF, List.length_append, ih]
    split <;> simp

theorem mineF_mem (ns : List Nd) (par : Int) (name : ByteArray) : ∀ (m : Nat) (u : Int), u ∈ mineF ns par name m ↔ ∃ k : Nat, u = (k : Int) ∧ k < m ∧ mineB ns par name k = true := by
  intro m
  induction m with
  | zero => intro u; simp [mineF]
  | succ m ih =>
    intro u
    rw [mineF, List.mem_append, ih]
    constructor
    · rintro (⟨k, h1, h2, h3⟩ | h)
      · exact ⟨k, h1, by omega, h3⟩
      · split at h
        · rename_i hc
          rw [List.mem_singleton] at h
          exact ⟨m, h, by omega, hc⟩
        · simp at h
    · rintro ⟨k, h1, h2, h3⟩
      by_cases hk : k = m
      · subst hk
        right
        rw [if_pos h3, h1]
        exact List.mem_singleton.2 rfl
      · exact Or.inl ⟨k, h1, by omega, h3⟩

theorem mineF_sorted (ns : List Nd) (par : Int) (name : ByteArray) : ∀ (m : Nat), (mineF ns par name m).Pairwise (fun u v => u < v) := by
  intro m
  induction m with
  | zero => exact List.Pairwise.nil
  | succ m ih =>
    rw [mineF, List.pairwise_append]
    refine ⟨ih, ?_, ?_⟩
    · split
      · exact List.Pairwise.cons (by simp) List.Pairwise.nil
      · exact List.Pairwise.nil
    · intro u hu v hv
      obtain ⟨k, rfl, hk, _⟩ := (mineF_mem ns par name m u).1 hu
      split at hv
      · rw [List.mem_singleton] at hv; omega
      · simp at hv

theorem kids_rise {ns : List Nd} (hg : goodD ns = true) {q : Nat} {y : Nd} (hy : ns[q]? = some y) : y.kids.Pairwise (fun u v => u < v) := by
  refine List.Pairwise.imp_of_mem ?_ (good_fam hg hy).row
  intro a b ha _ hab
  obtain ⟨k, z, rfl, _, _, _, hz, _⟩ := (good_fam hg hy).kids a ha
  have := (good_fam hg hz).gt
  omega

/-- Those of one parent, up to a number, are those of its kids. -/
theorem mine_kids {ns : List Nd} (hg : goodD ns = true) {q : Nat} {y : Nd} (hy : ns[q]? = some y) (name : ByteArray) (n : Nat) : mineF ns (q : Int) name (n + 1) = (fitL ns y.kids name).filter (fun x => decide (x ≤ (n : Int))) := by
  refine sorted_ext (mineF_sorted _ _ _ _) (((kids_rise hg hy).sublist List.filter_sublist).sublist List.filter_sublist) (fun u => ?_)
  rw [mineF_mem, List.mem_filter]
  unfold fitL
  rw [List.mem_filter]
  constructor
  · rintro ⟨k, rfl, hk, hm⟩
    unfold mineB at hm
    cases hx : ns[k]? with
    | none => rw [hx] at hm; cases hm
    | some x =>
      rw [hx] at hm
      simp only [Bool.and_eq_true, decide_eq_true_eq] at hm
      rw [called_fits (good_fam hg hx).name] at hm
      rcases (good_fam hg hx).par with ⟨_, hp⟩ | ⟨p, z, hz, hp, _, hmem⟩
      · rw [hp] at hm; omega
      · have : p = q := by rw [hp] at hm; omega
        subst this
        rw [hy] at hz
        obtain rfl := Option.some.inj hz
        refine ⟨⟨hmem, ?_⟩, by simp; omega⟩
        rw [fitAt_nat hx]; exact hm.2
  · rintro ⟨⟨hmem, hf⟩, hle⟩
    obtain ⟨k, x, rfl, _, _, _, hx, hp⟩ := (good_fam hg hy).kids u hmem
    simp only [decide_eq_true_eq] at hle
    refine ⟨k, rfl, by omega, ?_⟩
    unfold mineB
    rw [hx]
    simp only [Bool.and_eq_true, decide_eq_true_eq]
    refine ⟨hp, ?_⟩
    rw [called_fits (good_fam hg hx).name, ← fitAt_nat hx]
    exact hf

theorem mem_take1 {L : List Int} {m : Nat} {u : Int} : u ∈ (L.drop m).take 1 ↔ L[m]? = some u := by
  constructor
  · intro h
    cases hd : L.drop m with
    | nil => rw [hd] at h; simp at h
    | cons x r =>
      rw [hd] at h
      simp at h
      subst h
      have : (L.drop m)[0]? = some u := by rw [hd]; rfl
      rw [List.getElem?_drop] at this
      exact this
  · intro h
    have : (L.drop m)[0]? = some u := by rw [List.getElem?_drop]; exact h
    cases hd : L.drop m with
    | nil => rw [hd] at this; simp at this
    | cons x r => rw [hd] at this; simp at this; subst this; simp

/-- Whom a step means among the kids of a node. -/
theorem mem_meant {ns : List Nd} (hg : goodD ns = true) {q n : Nat} {y x : Nd} (hy : ns[q]? = some y) (hx : ns[n]? = some x) (hp : x.parent = (q : Int)) (hm : (n : Int) ∈ y.kids) {s : St} (hs : 0 ≤ s.n) :
    (n : Int) ∈ meantF ns y.kids s ↔ (calledB x s.name && (decide (s.n = 0) || decide (s.n = (whichF ns x.parent s.name (n + 1) : Int)))) = true := by
  rw [Bool.and_eq_true, called_fits (good_fam hg hx).name]
  have hrise : (fitL ns y.kids s.name).Pairwise (fun u v => u < v) := (kids_rise hg hy).sublist (List.filter_sublist (p := fitAt ns s.name))
  have hmem : (n : Int) ∈ fitL ns y.kids s.name ↔ fitsB x s.name = true := by
    unfold fitL
    rw [List.mem_filter, fitAt_nat hx]
    exact ⟨fun h => h.2, fun h => ⟨hm, h⟩⟩
  unfold meantF
  by_cases hz : s.n = 0
  · rw [if_pos hz, hmem]; simp [hz]
  · rw [if_neg hz, mem_take1]
    by_cases hf : fitsB x s.name = true
    · rw [sorted_at hrise (hmem.2 hf), ← mine_kids hg hy, mineF_len, hp]
      simp only [hf, hz, decide_false, Bool.false_or, decide_eq_true_eq, true_and]
      omega
    · constructor
      · intro h
        exact absurd (hmem.1 (List.mem_of_getElem? h)) hf
      · intro h; exact absurd h.1 hf

theorem mem_meant0r {ns : List Nd} (hg : goodD ns = true) {x : Nd} (hx : ns[0]? = some x) {s : St} (hs : 0 ≤ s.n) :
    (0 : Int) ∈ meantF ns [0] s ↔ (calledB x s.name && (decide (s.n = 0) || decide (s.n = (whichF ns x.parent s.name 1 : Int)))) = true := by
  have hfl : fitL ns [0] s.name = if fitsB x s.name then [0] else [] := by
    unfold fitL
    have h0 : fitAt ns s.name 0 = fitsB x s.name := fitAt_nat hx s.name
    rw [List.filter_cons, h0]
    rfl
  have hw : whichF ns x.parent s.name 1 = if fitsB x s.name then 1 else 0 := by
    rw [whichF, whichF, Nat.zero_add]
    have : mineB ns x.parent s.name 0 = fitsB x s.name := by
      unfold mineB
      rw [hx]
      simp [called_fits (good_fam hg hx).name]
    rw [this]
  rw [Bool.and_eq_true, called_fits (good_fam hg hx).name, hw]
  unfold meantF
  rw [hfl]
  by_cases hf : fitsB x s.name = true
  · rw [if_pos hf, if_pos hf]
    by_cases hz : s.n = 0
    · simp [hz, hf]
    · rw [if_neg hz, mem_take1]
      simp only [hf, hz, decide_false, Bool.false_or, decide_eq_true_eq, true_and]
      by_cases h1 : s.n = 1
      · simp [h1]
      · obtain ⟨k, hk⟩ : ∃ k, s.n.toNat - 1 = k + 1 := ⟨s.n.toNat - 2, by omega⟩
        rw [hk]
        simp [h1]
  · rw [if_neg hf]
    constructor
    · intro h; split at h <;> simp at h
    · intro h; exact absurd h.1 hf

theorem selP_snoc (ns : List Nd) {l : List St} (hl : l ≠ []) (s : St) : selP ns (l ++ [s]) = nextF ns (selP ns l) s := by
  cases l with
  | nil => exact absurd rfl hl
  | cons t l => exact selF_snoc ns l s _

theorem mem_sel {ns : List Nd} (hg : goodD ns = true) : ∀ (r : List St), r ≠ [] → (∀ s ∈ r, 0 ≤ s.n) → ∀ u : Int, u ∈ selP ns r.reverse ↔ ∃ (k : Nat), u = (k : Int) ∧ k < ns.length ∧ isMR ns r k = true := by
  intro r
  induction r with
  | nil => intro h; exact absurd rfl h
  | cons s r ih =>
    intro _ hn u
    have hs := hn s List.mem_cons_self
    rw [List.reverse_cons]
    cases r with
    | nil =>
      show u ∈ meantF ns [0] s ↔ _
      obtain ⟨x0, hx0, hp0, _⟩ := good_first hg
      constructor
      · intro h
        have h1 := (meantF_sub _ _ _).subset h
        rw [List.mem_singleton] at h1
        subst h1
        have := (mem_meant0r hg hx0 hs).1 h
        refine ⟨0, rfl, lt_of_some hx0, ?_⟩
        simp only [isMR, hx0, List.isEmpty_nil]
        rw [Bool.and_eq_true] at this
        have hneg : decide (x0.parent < 0) = true := by rw [hp0]; rfl
        rw [hneg, this.1]
        simpa using this.2
      · rintro ⟨k, rfl, hk, hM⟩
        obtain ⟨x, hx⟩ : ∃ x, ns[k]? = some x := ⟨ns[k], by simp [hk]⟩
        simp only [isMR, hx, List.isEmpty_nil, Bool.and_eq_true] at hM
        have hneg : decide (x.parent < 0) = true := by simpa using hM.1.1.2
        rw [decide_eq_true_eq] at hneg
        rcases (good_fam hg hx).par with ⟨rfl, hp⟩ | ⟨q, y, hy, hp, hq, hm⟩
        · exact (mem_meant0r hg hx hs).2 (by rw [Bool.and_eq_true]; exact ⟨hM.1.1.1, hM.2⟩)
        · omega
    | cons t r =>
      have ih' := ih (by simp) (fun z hz => hn z (List.mem_cons_of_mem _ hz))
      rw [selP_snoc ns (by simp) s]
      constructor
      · intro h
        obtain ⟨v, hv, hm⟩ := List.mem_flatMap.1 h
        obtain ⟨q, rfl, hq, hM⟩ := (ih' v).1 hv
        obtain ⟨y, hy⟩ : ∃ y, ns[q]? = some y := ⟨ns[q], by simp [hq]⟩
        rw [kidsAt_nat hy] at hm
        obtain ⟨k, x, rfl, hlt, hk, _, hx, hp⟩ := (good_fam hg hy).kids u ((meantF_sub _ _ _).subset hm)
        have := (mem_meant hg hy hx hp ((meantF_sub _ _ _).subset hm) hs).1 hm
        rw [Bool.and_eq_true] at this
        refine ⟨k, rfl, hk, ?_⟩
        rw [isMR, hx]
        simp only [List.isEmpty_cons, Bool.and_eq_true]
        have hneg : decide (x.parent < 0) = false := by rw [hp]; simp
        rw [hneg, hp, Int.toNat_natCast, hM]
        refine ⟨⟨⟨this.1, rfl⟩, rfl⟩, ?_⟩
        rw [hp] at this
        exact this.2
      · rintro ⟨k, rfl, hk, hM⟩
        obtain ⟨x, hx⟩ : ∃ x, ns[k]? = some x := ⟨ns[k], by simp [hk]⟩
        rw [isMR, hx] at hM
        simp only [List.isEmpty_cons, Bool.and_eq_true] at hM
        have hneg : decide (x.parent < 0) = false := by simpa using hM.1.1.2
        rcases (good_fam hg hx).par with ⟨_, hp⟩ | ⟨q, y, hy, hp, hq, hm⟩
        · rw [hp] at hneg; exact absurd hneg (by decide)
        · have hM2 := hM.1.2
          rw [hneg, Bool.false_or, hp, Int.toNat_natCast] at hM2
          refine List.mem_flatMap.2 ⟨(q : Int), (ih' _).2 ⟨q, rfl, lt_of_some hy, hM2⟩, ?_⟩
          rw [kidsAt_nat hy]
          exact (mem_meant hg hy hx hp hm hs).2 (by rw [Bool.and_eq_true]; exact ⟨hM.1.1.1, hM.2⟩)

/-- Node by node the same nodes are meant. -/
theorem sel_pick {ns : List Nd} (hg : goodD ns = true) {l : List St} (hl : l ≠ []) (hn : ∀ s ∈ l, 0 ≤ s.n) : selP ns l = pickF ns l.reverse ns.length := by
  refine sorted_ext ((selP_lev hg hl).rises hg) (pickF_sorted _ _ _) (fun u => ?_)
  have := mem_sel hg l.reverse (by simpa using hl) (fun s hs => hn s (by simpa using hs)) u
  rw [List.reverse_reverse] at this
  rw [this, pickF_mem]
end Go.Proofs.YtfghbfocjjmcmabGreatDoor

/- How a list of steps lies in memory; path.fits, path.goodStep and path.Good, for every list of steps. Condition: names no longer than a text may be. -/
namespace Go.Proofs.YtfghbfocjjmcmabGreatDoor
open Go.ChangeShapes Go.WideShapes Go.ChangeAt Go.RowKit
set_option maxRecDepth 100000

attribute [local go_sem] cell_set

/-- A list of steps at a slice value: blocks of S alone. -/
def Steps (S : Nat → Prop) (w : World) (v : Value) (l : List St) : Prop :=
  ∃ a cap, v = .slice a l.length cap ∧ l.length ≤ cap ∧ cap ≤ maxLen ∧
    (l ≠ [] → ∃ b o, a = some ⟨b, o, none⟩ ∧ S b ∧ ∀ (i : Nat) (x : St), l[i]? = some x → w.cell? ⟨b, o + i * 2, none⟩ = some (.string x.name) ∧ w.cell? ⟨b, o + i * 2 + 1, none⟩ = some (.int .i64 x.n))

theorem Steps.carry {S S' : Nat → Prop} {w w' : World} {v : Value} {l : List St} (h : Steps S w v l) (hw : ∀ b, S b → S' b ∧ w'.heap[b]? = w.heap[b]?) : Steps S' w' v l := by
  obtain ⟨a, cap, h1, h2, h3, h4⟩ := h
  refine ⟨a, cap, h1, h2, h3, fun hne => ?_⟩
  obtain ⟨b, o, ha, hs, hc⟩ := h4 hne
  refine ⟨b, o, ha, (hw b hs).1, fun i x hx => ?_⟩
  rw [World.cell?_of_block (a := ⟨b, o + i * 2, none⟩) (hw b hs).2, World.cell?_of_block (a := ⟨b, o + i * 2 + 1, none⟩) (hw b hs).2]
  exact hc i x hx

theorem Steps.bounded {S : Nat → Prop} {w : World} {v : Value} {l : List St} (h : Steps S w v l) : Steps (fun b => S b ∧ b < w.heap.size) w v l := by
  obtain ⟨a, cap, h1, h2, h3, h4⟩ := h
  refine ⟨a, cap, h1, h2, h3, fun hne => ?_⟩
  obtain ⟨b, o, ha, hs, hc⟩ := h4 hne
  refine ⟨b, o, ha, ⟨hs, ?_⟩, hc⟩
  cases l with
  | nil => exact absurd rfl hne
  | cons x r => exact World.block_lt_of_cell? w _ (hc 0 x rfl).1

theorem Steps.later {S : Nat → Prop} {w w' : World} {v : Value} {l : List St} (h : Steps S w v l) (hb : Below w.heap.size w w') : Steps S w' v l :=
  h.bounded.carry fun b hb' => ⟨hb'.1, hb.block b hb'.2⟩

theorem Steps.shape {S : Nat → Prop} {w : World} {v : Value} {l : List St} (h : Steps S w v l) : ∃ a c, v = .slice a l.length c ∧ l.length ≤ c ∧ c ≤ maxLen := by
  obtain ⟨a, cap, h1, h2, h3, _⟩ := h
  exact ⟨a, cap, h1, h2, h3⟩

theorem Steps.at {S : Nat → Prop} {w : World} {v : Value} {l : List St} (h : Steps S w v l) {i : Nat} {x : St} (hx : l[i]? = some x) : ∃ b o cap, v = .slice (some ⟨b, o, none⟩) l.length cap ∧ S b ∧ b < w.heap.size ∧ w.cell? ⟨b, o + i * 2, none⟩ = some (.string x.name) ∧ w.cell? ⟨b, o + i * 2 + 1, none⟩ = some (.int .i64 x.n) := by
  obtain ⟨a, cap, h1, h2, h3, h4⟩ := h
  have hne : l ≠ [] := by intro e; subst e; simp at hx
  obtain ⟨b, o, rfl, hs, hc⟩ := h4 hne
  exact ⟨b, o, cap, h1, hs, World.block_lt_of_cell? w _ (hc i x hx).1, hc i x hx⟩

theorem list_bytes (a : ByteArray) (l : List UInt8) : a.toList = l ↔ a = ⟨l.toArray⟩ := by
  rw [ByteArray.toList_eq]
  constructor
  · intro h; cases a; simp at h; simp [← h]
  · intro h; subst h; simp
theorem empty_dec (a : ByteArray) : a.toList.isEmpty = decide (a = ⟨#[]⟩) := by
  by_cases h : a = ⟨#[]⟩
  · have := (list_bytes a []).2 h; rw [this]; simp [h]
  · have : ¬ a.toList = [] := fun e => h ((list_bytes a []).1 e)
    simp [h, this]
theorem star_dec (a : ByteArray) : (a.toList == [42]) = decide (a = ⟨#[42]⟩) := by
  by_cases h : a = ⟨#[42]⟩
  · have := (list_bytes a [42]).2 h; rw [this]; simp [h]
  · have : ¬ a.toList = [42] := fun e => h ((list_bytes a [42]).1 e)
    simp [h, this]

theorem fits_any (x : Nd) (aa : Option Addr) (al ac : Nat) (ka : Option Addr) (kl kc : Nat) (name : ByteArray) (w : World) :
    Calls Tryz.prog 53 #[.agg #[.bool x.text, .string x.s, .slice aa al ac, .int .i64 x.parent, .slice ka kl kc], .string name] w fun e w' => e = .returned (.bool (fitsB x name)) ∧ Below w.heap.size w w' := by
  have hb := Below.alloc1 w (.cells #[.bool x.text, .string x.s, .slice aa al ac, .int .i64 x.parent, .slice ka kl kc] 49)
  have HF : Hid (fitsB x name = if x.text then decide (name = ⟨#[]⟩) else decide (name = ⟨#[42]⟩) || decide (name = x.s)) := rfl
  cases ht : x.text with
  | true =>
    rw [ht] at hb HF
    have HF2 : Hid (fitsB x name = decide (name = ⟨#[]⟩)) := HF.out
    clear HF ht
    go_enter Tryz.func53, Tryz.ntmps53
    go_wp2_with fail
    go_ret
    refine ⟨?_, hb⟩
    rw [HF2.out, empty_dec]
    rfl
  | false =>
    rw [ht] at hb HF
    have HF2 : Hid (fitsB x name = (decide (name = ⟨#[42]⟩) || decide (name = x.s))) := HF.out
    clear HF ht
    go_enter Tryz.func53, Tryz.ntmps53
    go_wp2_with fail
    · rename_i h1
      go_ret
      refine ⟨?_, hb⟩
      rw [HF2.out]
      have := (list_bytes name [42]).1 h1
      simp [this]
    · go_ret
      refine ⟨?_, hb⟩
      rw [HF2.out]
      show Ending.returned (Value.bool (name.toList == [42] || name.toList == x.s.toList)) = _
      rw [star_dec, ← bytes_dec]

set_option maxHeartbeats 1000000 in
theorem goodStep_any (s : St) (w : World) (hs : s.name.size ≤ maxLen) :
    Calls Tryz.prog 29 #[.agg #[.string s.name, .int .i64 s.n]] w fun e w' => e = .returned (.bool (stepB s)) ∧ Below w.heap.size w w' := by
  have hb := Below.alloc1 w (.cells #[.string s.name, .int .i64 s.n] 53)
  have HF : Hid (stepB s = (decide (0 ≤ s.n) && decide (s.n ≤ 99) && (decide (s.name = ⟨#[]⟩) || decide (s.name = ⟨#[42]⟩) || nameB s.name))) := rfl
  have HN : Hid (∀ W, Calls Tryz.prog 56 #[.string s.name] W fun e w' => e = .returned (.bool (nameB s.name)) ∧ w' = W) := fun W => named_any s.name W hs
  clear hs
  by_cases h0 : s.n < 0
  · have HE : Hid (stepB s = false) := by show _ = _; rw [HF.out]; simp [show ¬ 0 ≤ s.n by omega]
    clear HF
    go_enter Tryz.func29, Tryz.ntmps29
    go_wp2_with fail
    go_ret
    exact ⟨by rw [HE.out]; rfl, hb⟩
  · by_cases h99 : 99 < s.n
    · have HE : Hid (stepB s = false) := by show _ = _; rw [HF.out]; simp [show ¬ s.n ≤ 99 by omega]
      clear HF
      go_enter Tryz.func29, Tryz.ntmps29
      go_wp2_with fail
      go_ret
      exact ⟨by rw [HE.out]; rfl, hb⟩
    · have HE : Hid (stepB s = (decide (s.name = ⟨#[]⟩) || decide (s.name = ⟨#[42]⟩) || nameB s.name)) := by show _ = _; rw [HF.out]; simp [show 0 ≤ s.n by omega, show s.n ≤ 99 by omega]
      clear HF
      by_cases he : s.name = ⟨#[]⟩
      · have hl : s.name.toList = [] := (list_bytes _ _).2 he
        have HE2 : Hid (stepB s = true) := by show _ = _; rw [HE.out]; simp [he]
        clear HE he
        go_enter Tryz.func29, Tryz.ntmps29
        go_wp2_with fail
        go_ret
        exact ⟨by rw [HE2.out]; rfl, hb⟩
      · have hl : s.name.toList ≠ [] := fun e => he ((list_bytes _ _).1 e)
        by_cases hst : s.name = ⟨#[42]⟩
        · have hl2 : s.name.toList = [42] := (list_bytes _ _).2 hst
          have HE2 : Hid (stepB s = true) := by show _ = _; rw [HE.out]; simp [hst]
          clear HE he hst hl
          go_enter Tryz.func29, Tryz.ntmps29
          go_wp2_with fail
          go_ret
          exact ⟨by rw [HE2.out]; rfl, hb⟩
        · have hl2 : s.name.toList ≠ [42] := fun e => hst ((list_bytes _ _).1 e)
          have HE2 : Hid (stepB s = nameB s.name) := by show _ = _; rw [HE.out]; simp [hst, he]
          clear HE he hst
          go_enter Tryz.func29, Tryz.ntmps29
          go_wp2_with (go_at_call 56; refine (Calls.mono (HN.out _) ?_); rintro e w2 ⟨rfl, rfl⟩)
          go_ret
          refine ⟨?_, hb⟩
          rw [HE2.out]
          show Ending.returned (Value.bool (s.name.toList.isEmpty || s.name.toList == [42] || nameB s.name)) = _
          simp [hl, hl2]

def NamesIn (l : List St) : Prop := ∀ s ∈ l, s.name.size ≤ maxLen

set_option maxHeartbeats 1000000 in
theorem goodP_any (S : Nat → Prop) (v : Value) (l : List St) (w : World) (h : Steps S w v l) (hn : NamesIn l) :
    Calls Tryz.prog 10 #[v] w fun e w' => e = .returned (.bool (pathB l)) ∧ Below w.heap.size w w' := by
  have HP : Hid (pathB l = (decide (1 ≤ l.length) && decide (l.length ≤ 5) && l.all stepB)) := rfl
  have HL : Hid (Steps S w v l) := h
  have HN : Hid (NamesIn l) := hn
  obtain ⟨a, cap, rfl, hlc, hcm⟩ := h.shape
  unfold maxLen at hcm
  clear h hn
  by_cases h1 : l.length < 1
  · have HE : Hid (pathB l = false) := by show _ = _; rw [HP.out]; simp [show ¬ 1 ≤ l.length by omega]
    have h1i : (l.length : Int) < 1 := by omega
    clear HP
    go_enter Tryz.func10, Tryz.ntmps10
    go_wp2_with fail
    go_ret
    exact ⟨by rw [HE.out]; rfl, Below.refl _ _⟩
  · have h1i : ¬ (l.length : Int) < 1 := by omega
    by_cases h5 : 5 < l.length
    · have HE : Hid (pathB l = false) := by show _ = _; rw [HP.out]; simp [show ¬ l.length ≤ 5 by omega]
      have h5i : 5 < (l.length : Int) := by omega
      clear HP
      go_enter Tryz.func10, Tryz.ntmps10
      go_wp2_with fail
      go_ret
      exact ⟨by rw [HE.out]; rfl, Below.refl _ _⟩
    · have h5i : ¬ 5 < (l.length : Int) := by omega
      have HE : Hid (pathB l = l.all stepB) := by show _ = _; rw [HP.out]; simp [show 1 ≤ l.length by omega, show l.length ≤ 5 by omega]
      clear HP
      go_enter Tryz.func10, Tryz.ntmps10
      go_wp2_with fail
      go_loopg [15] l.length (fun g j wr => ∃ (i : Nat), i + g = l.length ∧ j = .int .i64 (i : Int) ∧ Below w.heap.size w wr ∧ l.all stepB = (l.drop i).all stepB)
      case atStart => exact ⟨0, by omega, rfl, Below.refl _ _, rfl⟩
      case round =>
        obtain ⟨i, hi, rfl, hB, hA⟩ := hrel
        have HA : Hid (l.all stepB = (l.drop i).all stepB) := hA
        clear hA
        have hsz := hB.size
        by_cases hil : i < l.length
        · obtain ⟨s, hs⟩ : ∃ s, l[i]? = some s := ⟨l[i], by simp [hil]⟩
          obtain ⟨b, o, c2, hv, _, _, e0, e1⟩ := (HL.out.later hB).at hs
          injection hv with hv1 _ hv2
          subst hv1 hv2
          have hdr : l.drop i = s :: l.drop (i + 1) := by
            rw [List.drop_eq_getElem_cons hil]; congr 1; simpa [hil] using hs
          have HD : Hid ((l.drop i).all stepB = (stepB s && (l.drop (i + 1)).all stepB)) := by show _ = _; rw [hdr]; rfl
          have HG : Hid (∀ W, Calls Tryz.prog 29 #[.agg #[.string s.name, .int .i64 s.n]] W fun e w' => e = .returned (.bool (stepB s)) ∧ Below W.heap.size W w') := fun W => goodStep_any s W (HN.out s (List.mem_of_getElem? hs))
          have hili : (i : Int) < (l.length : Int) := by omega
          have hb1 := hB.alloc hsz (.cells #[.string s.name, .int .i64 s.n] 53)
          clear hs hdr
          cases hq : stepB s with
          | true =>
            rw [hq] at HG HD
            clear hq
            go_wp2_with fail
            refine (Calls.mono (HG.out _) ?_)
            rintro e w3 ⟨rfl, hb3⟩
            go_wp2_with fail
            go_roundg (l.length - (i + 1))
            case measure => omega
            case rel => exact ⟨i + 1, by omega, by go_num, hb1.trans (hb3.mono hb1.size), by rw [HA.out, HD.out]; rfl⟩
          | false =>
            rw [hq] at HG HD
            clear hq
            go_wp2_with fail
            refine (Calls.mono (HG.out _) ?_)
            rintro e w3 ⟨rfl, hb3⟩
            go_wp2_with fail
            go_ret
            exact ⟨by rw [HE.out, HA.out, HD.out]; rfl, hb1.trans (hb3.mono hb1.size)⟩
        · have hili : ¬ (i : Int) < (l.length : Int) := by omega
          have HD : Hid ((l.drop i).all stepB = true) := by show _ = _; rw [List.drop_of_length_le (by omega)]; rfl
          go_wp2_with fail
          go_ret
          exact ⟨by rw [HE.out, HA.out, HD.out]; rfl, hB⟩
end Go.Proofs.YtfghbfocjjmcmabGreatDoor

/- The document's own called: does a node bear a name? No condition. -/
namespace Go.Proofs.YtfghbfocjjmcmabGreatDoor
open Go.ChangeShapes Go.WideShapes Go.ChangeAt Go.RowKit
set_option maxRecDepth 100000

attribute [local go_sem] cell_set

set_option maxHeartbeats 1000000 in
theorem called_any (x : Nd) (aa : Option Addr) (al ac : Nat) (ka : Option Addr) (kl kc : Nat) (name : ByteArray) (w : World) :
    Calls Tryz.prog 55 #[.agg #[.bool x.text, .string x.s, .slice aa al ac, .int .i64 x.parent, .slice ka kl kc], .string name] w fun e w' => e = .returned (.bool (calledB x name)) ∧ Below w.heap.size w w' := by
  have hb := Below.alloc1 w (.cells #[.bool x.text, .string x.s, .slice aa al ac, .int .i64 x.parent, .slice ka kl kc] 49)
  have HF : Hid (calledB x name = if x.text then decide (name = ⟨#[]⟩) else decide (name = ⟨#[42]⟩) || (!decide (name = ⟨#[]⟩) && decide (name = x.s))) := rfl
  cases ht : x.text with
  | true =>
    rw [ht] at hb HF
    have HF2 : Hid (calledB x name = decide (name = ⟨#[]⟩)) := HF.out
    clear HF ht
    go_enter Tryz.func55, Tryz.ntmps55
    go_wp2_with fail
    go_ret
    refine ⟨?_, hb⟩
    rw [HF2.out, empty_dec]
    rfl
  | false =>
    rw [ht] at hb HF
    have HF2 : Hid (calledB x name = (decide (name = ⟨#[42]⟩) || (!decide (name = ⟨#[]⟩) && decide (name = x.s)))) := HF.out
    clear HF ht
    go_enter Tryz.func55, Tryz.ntmps55
    go_wp2_with fail
    · rename_i h1
      go_ret
      refine ⟨?_, hb⟩
      rw [HF2.out]
      have := (list_bytes name [42]).1 h1
      simp [this]
    · rename_i h1 h2
      go_ret
      refine ⟨?_, hb⟩
      rw [HF2.out]
      have := (list_bytes name []).1 h2
      rw [this]
      rfl
    · rename_i h1 h2
      go_ret
      refine ⟨?_, hb⟩
      rw [HF2.out]
      have e1 : decide (name = ⟨#[42]⟩) = false := by rw [decide_eq_false_iff_not]; intro e; exact h1 ((list_bytes name [42]).2 e)
      have e2 : decide (name = ⟨#[]⟩) = false := by rw [decide_eq_false_iff_not]; intro e; exact h2 ((list_bytes name []).2 e)
      rw [e1, e2]
      show Ending.returned (Value.bool (name.toList == [42] || !name.toList.isEmpty && name.toList == x.s.toList)) = _
      have e3 : name.toList.isEmpty = false := by cases h : name.toList with | nil => exact absurd h h2 | cons _ _ => rfl
      have e4 : (name.toList == [42]) = false := by rw [beq_eq_false_iff_ne]; exact h1
      rw [e3, e4, bytes_dec]
end Go.Proofs.YtfghbfocjjmcmabGreatDoor

/- doc.String, for every document whose texts are no longer than a text may be. Condition: at most 2^20 attributes of a node; its texts together at most 2^40 letters. -/
namespace Go.Proofs.YtfghbfocjjmcmabGreatDoor
open Go.ChangeShapes Go.WideShapes Go.ChangeAt Go.RowKit
set_option maxRecDepth 100000

attribute [local go_sem] cell_set

def txt (x : Nd) : List UInt8 := if x.text then x.s.data.toList else []

/-- What doc.String answers. -/
def strD (ns : List Nd) (n : Int) : List UInt8 := if endD ns n = 0 then [] else ((ns.take (endD ns n).toNat).drop n.toNat).flatMap txt

theorem txt_len (x : Nd) : (txt x).length ≤ x.s.size := by
  unfold txt
  split
  · rw [Array.length_toList]; exact Nat.le_refl _
  · exact Nat.zero_le _

theorem flat_take (l : List Nd) (k : Nat) : ((l.take k).flatMap txt).length ≤ (l.map fun x => x.s.size).sum := by
  induction l generalizing k with
  | nil => simp
  | cons x r ih =>
    cases k with
    | zero => simp
    | succ k =>
      have h1 := ih k
      have h2 := txt_len x
      simp only [List.take_succ_cons, List.flatMap_cons, List.length_append, List.map_cons, List.sum_cons]
      omega

theorem sum_drop (l : List Nat) (k : Nat) : (l.drop k).sum ≤ l.sum := by
  induction l generalizing k with
  | nil => simp
  | cons x r ih =>
    cases k with
    | zero => simp
    | succ k => have := ih k; simp; omega

theorem sum_take (l : List Nat) (k : Nat) : (l.take k).sum ≤ l.sum := by
  induction l generalizing k with
  | nil => simp
  | cons x r ih =>
    cases k with
    | zero => simp
    | succ k => have := ih k; simp; omega

theorem mem_sum {l : List Nd} {x : Nd} (h : x ∈ l) : x.s.size ≤ (l.map fun x => x.s.size).sum := by
  induction l with
  | nil => simp at h
  | cons y r ih =>
    rw [List.mem_cons] at h
    simp only [List.map_cons, List.sum_cons]
    rcases h with rfl | h
    · omega
    · have := ih h; omega

theorem isB_later {T e : TypeId} {B b : Nat} {bs : List Value} {w w' : World} (h : Lib.IsBuilder T e B b bs w) (hb : Below w.heap.size w w') : Lib.IsBuilder T e B b bs w' := by
  rcases h with ⟨h1, v, h2, h3, h4⟩ | ⟨h1, v, h2, h3, h4⟩
  · exact Or.inl ⟨h1, v, (hb.block _ (blk_lt h2)).trans h2, ownsRow_later h3 hb, h4⟩
  · exact Or.inr ⟨h1, v, (hb.block _ (blk_lt h2)).trans h2, ownsRow_later h3 hb, h4⟩

end Go.Proofs.YtfghbfocjjmcmabGreatDoor

