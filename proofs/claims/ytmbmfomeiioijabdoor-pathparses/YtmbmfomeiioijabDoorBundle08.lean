/- Bundled: TakeL Kids KidsS KidsW Joined. What each says stands ahead of it. -/
import Derived.Test.YtmbmfomeiioijabDoorBundle04
import Derived.WalkSmall
/- tree.takeLast at the waiting lists of a joiner: the last one, and the rest stays. No condition. -/
namespace Go.Proofs.YtmbmfomeiioijabDoor
open Go.ChangeShapes Go.WideShapes Go.ChangeAt Go.RowKit
set_option maxRecDepth 100000

end Go.Proofs.YtmbmfomeiioijabDoor

/- What joinKids leaves behind: lists that are joined to the bottom but for those that wait; how one round of its loop keeps that. No condition. -/
namespace Go.Proofs.YtmbmfomeiioijabDoor
open Go.ChangeShapes Go.WideShapes Go.ChangeAt Go.RowKit
set_option maxRecDepth 100000

/-- A tree with its kids joined, n deep. -/
def jk : Nat → Tr → Tr
  | 0, t => { t with kids := [] }
  | n + 1, t => { t with kids := (jt t.kids).map (jk n) }

theorem jk_text (n : Nat) (t : Tr) : (jk n t).text = t.text := by cases n <;> rfl
theorem jk_s (n : Nat) (t : Tr) : (jk n t).s = t.s := by cases n <;> rfl
theorem jk_attrs (n : Nat) (t : Tr) : (jk n t).attrs = t.attrs := by cases n <;> rfl

/-- How many trees there are, n deep. -/
def cnt : Nat → List Tr → Nat
  | 0, _ => 0
  | n + 1, ts => (ts.map fun t => 1 + cnt n t.kids).sum

theorem cnt_nil (n : Nat) : cnt n [] = 0 := by cases n <;> rfl
theorem cnt_cons (n : Nat) (t : Tr) (r : List Tr) : cnt (n + 1) (t :: r) = 1 + cnt n t.kids + cnt (n + 1) r := by simp [cnt]
theorem cnt_len (n : Nat) (ts : List Tr) : ts.length ≤ cnt (n + 1) ts := by
  induction ts with
  | nil => simp
  | cons t r ih => rw [cnt_cons]; simp; omega

theorem cnt_jt (n : Nat) (ts : List Tr) : cnt (n + 1) (jt ts) ≤ cnt (n + 1) ts := by
  induction ts with
  | nil => simp [jt]
  | cons t r ih =>
    rw [cnt_cons]
    by_cases ht : t.text = true
    · rw [jt_text t r ht]
      split
      · omega
      · split
        · rw [cnt_cons, cnt_nil]; omega
        · rename_i u r' hj
          rw [hj, cnt_cons] at ih
          split
          · rw [cnt_cons]; simp only; omega
          · rw [cnt_cons, cnt_cons]; omega
    · rw [jt_elem t r (by simpa using ht), cnt_cons]; omega

/-- A list that waits. -/
structure Ent where
  v : Value
  n : Nat
  us : List Tr
  qs : List (Bool × ByteArray × Value × Value)

def Pend (S : Nat → Prop) (B : Nat) (w : World) (e : Ent) : Prop := e.us ≠ [] ∧ Raw S e.n B w e.v e.us e.qs ∧ Small (e.n + 1) e.us
def DoneE (B : Nat) (w : World) (e : Ent) : Prop := Trees (fun b => B ≤ b) w (e.n + 1) e.v (e.us.map (jk e.n))
def NoRow (w : World) (b : Nat) : Prop := ∀ c fz, w.heap[b]? ≠ some (.cells c 57 fz)
def wsum (P : List Ent) : Nat := (P.map fun e => cnt (e.n + 1) e.us).sum

theorem wsum_append (P Q : List Ent) : wsum (P ++ Q) = wsum P + wsum Q := by simp [wsum]
theorem wsum_len {P : List Ent} (h : ∀ e ∈ P, e.us ≠ []) : P.length ≤ wsum P := by
  induction P with
  | nil => simp
  | cons e r ih =>
    have h1 := ih (fun x hx => h x (List.mem_cons_of_mem _ hx))
    have h2 := cnt_len e.n e.us
    have h3 := List.length_pos_iff.2 (h e List.mem_cons_self)
    have h4 : wsum (e :: r) = cnt (e.n + 1) e.us + wsum r := by simp [wsum]
    simp only [List.length_cons]
    omega

theorem NoRow.of_heap {w w' : World} {b : Nat} (h : NoRow w b) (e : w'.heap[b]? = w.heap[b]?) : NoRow w' b := by
  intro c fz; rw [e]; exact h c fz

theorem NoRow.of_own {w : World} {B b : Nat} {e : TypeId} (h : OwnS B e w b) (hne : e ≠ 57) : NoRow w b := by
  obtain ⟨_, c, fz, hc⟩ := h
  intro c' fz' h'
  rw [hc] at h'
  simp only [Option.some.injEq, Obj.cells.injEq] at h'
  exact hne h'.2.1

theorem Raw.base {S : Nat → Prop} {n B B' : Nat} {w : World} {v : Value} {us : List Tr} {qs : List (Bool × ByteArray × Value × Value)} (h : Raw S n B' w v us qs) (hB : B ≤ B') : Raw S n B w v us qs := by
  refine ⟨h.len, ?_, fun i q t hq ht => ?_⟩
  · obtain ⟨h1, h2⟩ := h.own
    refine ⟨h1, ?_⟩
    rcases h2 with h2 | ⟨g, cap, cur, hv, hg, r⟩
    · exact Or.inl h2
    · exact Or.inr ⟨g, cap, cur, hv, by omega, r⟩
  · obtain ⟨a, b, c, d⟩ := h.each i q t hq ht
    exact ⟨a, b, c.carry (fun b hb => ⟨hb.to hB rfl, rfl⟩), d⟩

/-- A raw list stands while its own row, every row of attributes and everything below B stand. -/
theorem Raw.stand {S : Nat → Prop} {n B : Nat} {w w' : World} {v : Value} {us : List Tr} {qs : List (Bool × ByteArray × Value × Value)} (h : Raw S n B w v us qs) (hS : ∀ b, S b → b < B)
    (h1 : ∀ b, v.ownBlock = some b → w'.heap[b]? = w.heap[b]?) (h2 : ∀ b, OwnS B 72 w b → w'.heap[b]? = w.heap[b]?) (h3 : ∀ b, b < B → w'.heap[b]? = w.heap[b]?) : Raw S n B w' v us qs := by
  refine ⟨h.len, ownsRow_heap h.own h1, fun i q t hq ht => ?_⟩
  obtain ⟨a, b, c, d⟩ := h.each i q t hq ht
  exact ⟨a, b, c.carry (fun b hb => ⟨hb.to (Nat.le_refl _) (h2 b hb), h2 b hb⟩), Trees.carry (fun b hb => ⟨hb, h3 b (hS b hb)⟩) n d⟩

theorem quadCells_set (l : List (Bool × ByteArray × Value × Value)) : ∀ (k : Nat) (q : Bool × ByteArray × Value × Value) (x : Value), l[k]? = some q → quadCells (l.set k (q.1, q.2.1, q.2.2.1, x)) = (quadCells l).set (k * 4 + 3) x := by
  induction l with
  | nil => intro k q x h; simp at h
  | cons y r ih =>
    intro k q x h
    cases k with
    | zero => simp at h; subst h; simp [quadCells]
    | succ k =>
      have := ih k q x (by simpa using h)
      rw [show (k + 1) * 4 + 3 = (k * 4 + 3) + 4 from by omega]
      simp [quadCells, this]

theorem kids_to {ws : World} {B n : Nat} {v1 : Value} {t : Tr} (hk : n = 0 → t.kids = []) (h : Trees (fun b => B ≤ b) ws (n - 1 + 1) v1 ((jt t.kids).map (jk (n - 1)))) : Trees (fun b => B ≤ b) ws n v1 (jk n t).kids := by
  cases n with
  | zero =>
    rw [hk rfl] at h
    obtain ⟨a, cap, h1, _, h3⟩ := Trees.shape _ h
    exact ⟨rfl, a, cap, h1, h3⟩
  | succ m => exact h

end Go.Proofs.YtmbmfomeiioijabDoor

/- One round of joinKids' loop keeps what its state says. No condition. -/
namespace Go.Proofs.YtmbmfomeiioijabDoor
open Go.ChangeShapes Go.WideShapes Go.ChangeAt Go.RowKit
set_option maxRecDepth 100000

end Go.Proofs.YtmbmfomeiioijabDoor

/- (*joiner).joinKids, called on a new list: all is joined within reach, the rest waits. Condition: at most 2^20 trees, and letters and attributes in each list. -/
namespace Go.Proofs.YtmbmfomeiioijabDoor
open Go.ChangeShapes Go.WideShapes Go.ChangeAt Go.RowKit
set_option maxRecDepth 100000

theorem listInfo : (Tryd.prog.info? 57).map (fun i => (i.zero, i.size, i.bytes)) = some (some (.slice none 0 0), 1, 24) := by kernel_rfl

attribute [local go_sem] cell_set

end Go.Proofs.YtmbmfomeiioijabDoor

/- tree.Joined: for every list of trees, what it answers is the joined list, in new memory. Condition: at most 2^20 trees, letters, attributes. -/
namespace Go.Proofs.YtmbmfomeiioijabDoor
open Go.ChangeShapes Go.WideShapes Go.ChangeAt Go.RowKit
set_option maxRecDepth 100000

def msum (P : List Ent) : Nat := (P.map fun e => max 1 (cnt (e.n + 1) e.us)).sum

theorem msum_append (P Q : List Ent) : msum (P ++ Q) = msum P + msum Q := by simp [msum]
theorem msum_len (P : List Ent) : P.length ≤ msum P := by
  induction P with
  | nil => simp
  | cons e r ih =>
    have : msum (e :: r) = max 1 (cnt (e.n + 1) e.us) + msum r := by simp [msum]
    simp only [List.length_cons]; omega
theorem msum_wsum {P : List Ent} (h : ∀ e ∈ P, e.us ≠ []) : msum P = wsum P := by
  induction P with
  | nil => rfl
  | cons e r ih =>
    have h1 := ih (fun x hx => h x (List.mem_cons_of_mem _ hx))
    have h2 := cnt_len e.n e.us
    have h3 := List.length_pos_iff.2 (h e List.mem_cons_self)
    have h4 : wsum (e :: r) = cnt (e.n + 1) e.us + wsum r := by simp [wsum]
    have h5 : msum (e :: r) = max 1 (cnt (e.n + 1) e.us) + msum r := by simp [msum]
    omega

end Go.Proofs.YtmbmfomeiioijabDoor

