/- Bundled: NGrow BenchW OpsL WrongW AgainW SameD. What each says stands ahead of it. -/
import Derived.Test.YtlchbhlmbphkpaaBundle11
import Derived.Test.YtlchbhlmbphkpaaBundle07
import Derived.Test.YtlchbhlmbphkpaaBundle13
import Derived.Test.YtlchbhlmbphkpaaBundle10
import Derived.Test.YtlchbhlmbphkpaaBundle00
import Derived.Deep.RegionHeld3
import Derived.Deep.RegionWith
import Derived.Deep.LoopGhost
import Derived.Deep.QuietTactic
import Derived.BigQuiet
import Derived.WalkSmall
/- A row of nodes of the call's own that grows; its nodes' attributes in blocks of attributes, their kids in rows of their own, apart from one another. No condition. -/
namespace Go.Proofs.Ytlchbhlmbphkpaa
open Go.ChangeShapes Go.WideShapes Go.ChangeAt Go.RowKit
set_option maxRecDepth 100000

theorem ownsRow_mono {w : World} {B B' : Nat} {e : TypeId} {size : Nat} {v : Value} {n : Nat} {xs : List Value} (h : w.ownsRow B e size v n xs) (hb : B' ≤ B) : w.ownsRow B' e size v n xs := by
  refine ⟨h.1, ?_⟩
  rcases h.2 with h2 | ⟨g, cap, cur, hv, hg, r⟩
  · exact Or.inl h2
  · exact Or.inr ⟨g, cap, cur, hv, Nat.le_trans hb hg, r⟩

/-- A node laid: its attributes in blocks of attributes, its kids a row of the call's own. -/
def RowIs (B : Nat) (w : World) (r : Rw) (x : Nd) : Prop := r.text = x.text ∧ r.s = x.s ∧ r.par = x.parent ∧ Attrs (OwnS B 44 w) w r.va x.attrs ∧ IRow B w r.vk x.kids

structure NGrow (B : Nat) (w : World) (v : Value) (ns : List Nd) (ms : List Rw) : Prop where
  len : ms.length = ns.length
  own : w.ownsRow B 42 5 v ns.length (rawCells ms)
  each : ∀ (i : Nat) (r : Rw) (x : Nd), ms[i]? = some r → ns[i]? = some x → RowIs B w r x
  apart : ∀ (i j : Nat) (r q : Rw) (b : Nat), i ≠ j → ms[i]? = some r → ms[j]? = some q → r.vk.ownBlock = some b → q.vk.ownBlock ≠ some b

theorem NGrow.nil (B : Nat) (w : World) : NGrow B w (.slice none 0 0) [] [] :=
  ⟨rfl, World.ownsRow_nil _ _ _ _, fun i r x h => by simp at h, fun i j r q b _ h => by simp at h⟩

theorem NGrow.shape {B : Nat} {w : World} {v : Value} {ns : List Nd} {ms : List Rw} (h : NGrow B w v ns ms) : ∃ a c, v = .slice a ns.length c ∧ ns.length ≤ c ∧ c ≤ maxLen := by
  rcases h.own.2 with ⟨hv, h0⟩ | ⟨g, cap, cur, hv, _, _, hc, hm, _⟩
  · exact ⟨none, 0, by rw [hv, h0], by omega, Nat.zero_le _⟩
  · exact ⟨_, _, hv, hc, hm⟩

theorem RowIs.keep {B : Nat} {w w' : World} {r : Rw} {x : Nd} (h : RowIs B w r x) (hA : ∀ b, OwnS B 44 w b → w'.heap[b]? = w.heap[b]?) (hI : ∀ b, r.vk.ownBlock = some b → w'.heap[b]? = w.heap[b]?) : RowIs B w' r x :=
  ⟨h.1, h.2.1, h.2.2.1, h.2.2.2.1.carry fun b hb => ⟨hb.to (Nat.le_refl _) (hA b hb), hA b hb⟩, ownsRow_heap h.2.2.2.2 hI⟩

/-- What stands in rows of nodes, of attributes and of numbers is as it was. -/
theorem NGrow.keep {B : Nat} {w w' : World} {v : Value} {ns : List Nd} {ms : List Rw} (h : NGrow B w v ns ms) (hA : ∀ b, OwnS B 44 w b → w'.heap[b]? = w.heap[b]?) (hI : ∀ b, OwnS B 3 w b → w'.heap[b]? = w.heap[b]?)
    (hN : ∀ b, v.ownBlock = some b → w'.heap[b]? = w.heap[b]?) : NGrow B w' v ns ms :=
  ⟨h.len, ownsRow_heap h.own hN, fun i r x hr hx => (h.each i r x hr hx).keep hA (fun b hb => hI b (ownsRow_type (h.each i r x hr hx).2.2.2.2 hb)), h.apart⟩

theorem NGrow.later {B : Nat} {w w' : World} {v : Value} {ns : List Nd} {ms : List Rw} (h : NGrow B w v ns ms) (hb : Below w.heap.size w w') : NGrow B w' v ns ms :=
  h.keep (fun b hs => hb.block b hs.lt) (fun b hs => hb.block b hs.lt) (fun b hs => hb.block b (h.own.lt b hs).2)

/-- A row of another type grows, or a new block is laid. -/
theorem NGrow.grown {B : Nat} {w w' : World} {v : Value} {ns : List Nd} {ms : List Rw} {row : Option Nat} (h : NGrow B w v ns ms) (hg : w.grownBy w' row) (hr : ∀ b, row = some b → ∃ e, e ≠ 42 ∧ e ≠ 44 ∧ e ≠ 3 ∧ OwnS 0 e w b) : NGrow B w' v ns ms := by
  have ne : ∀ {e' : TypeId} {b : Nat}, OwnS B e' w b → (e' = 42 ∨ e' = 44 ∨ e' = 3) → row ≠ some b := by
    intro e' b hs he hrow
    obtain ⟨e, h1, h2, h3, _, c, fz, hc⟩ := hr b hrow
    obtain ⟨_, c', fz', hc'⟩ := hs
    rw [hc] at hc'
    injection hc' with hc'
    injection hc' with _ h4 _
    subst h4
    rcases he with he | he | he
    · exact h1 he
    · exact h2 he
    · exact h3 he
  exact h.keep (fun b hs => hg.block b hs.lt (fun e => ne hs (Or.inr (Or.inl rfl)) e.symm)) (fun b hs => hg.block b hs.lt (fun e => ne hs (Or.inr (Or.inr rfl)) e.symm)) (fun b hs => hg.block b (h.own.lt b hs).2 (fun e => ne (ownsRow_type h.own hs) (Or.inl rfl) e.symm))

theorem rawCells_append (l m : List Rw) : rawCells (l ++ m) = rawCells l ++ rawCells m := by
  induction l with
  | nil => rfl
  | cons x r ih => simp [rawCells, ih]

theorem NGrow.snoc {B : Nat} {w w' : World} {v v' : Value} {ns : List Nd} {ms : List Rw} {r : Rw} {x : Nd} (h : NGrow B w v ns ms)
    (hown : w'.ownsRow B 42 5 v' (ns.length + 1) (rawCells ms ++ [.bool r.text, .string r.s, r.va, .int .i64 r.par, r.vk])) (hg : w.grownBy w' v.ownBlock) (hR : RowIs B w r x)
    (hap : ∀ (i : Nat) (q : Rw) (b : Nat), ms[i]? = some q → q.vk.ownBlock = some b → r.vk.ownBlock ≠ some b) : NGrow B w' v' (ns ++ [x]) (ms ++ [r]) := by
  have keep : ∀ {r : Rw} {x : Nd}, RowIs B w r x → RowIs B w' r x := by
    intro r x hR
    refine hR.keep (fun b hs => hg.block b hs.lt (ownBlock_ne_type h.own hs (by decide))) (fun b hs => hg.block b (IRow.lt hR.2.2.2.2 b hs).2 (ownBlock_ne_type h.own (ownsRow_type hR.2.2.2.2 hs) (by decide)))
  refine ⟨by simp [h.len], ?_, ?_, ?_⟩
  · rw [rawCells_append, List.length_append]; exact hown
  · intro i q y hq hy
    rcases Nat.lt_or_ge i ns.length with hi | hi
    · rw [List.getElem?_append_left (by rw [h.len]; exact hi)] at hq
      rw [List.getElem?_append_left hi] at hy
      exact keep (h.each i q y hq hy)
    · rw [List.getElem?_append_right (by rw [h.len]; exact hi)] at hq
      rw [List.getElem?_append_right hi] at hy
      rw [h.len] at hq
      have hz : i - ns.length = 0 := by
        rcases Nat.eq_zero_or_pos (i - ns.length) with h' | h'
        · exact h'
        · rw [List.getElem?_eq_none (by simp; omega)] at hy; cases hy
      rw [hz] at hq hy
      simp at hq hy
      subst hq hy
      exact keep hR
  · have last : ∀ {i : Nat} {q : Rw}, (ms ++ [r])[i]? = some q → (i < ms.length ∧ ms[i]? = some q) ∨ (i = ms.length ∧ q = r) := by
      intro i q hq
      rcases Nat.lt_or_ge i ms.length with hi | hi
      · rw [List.getElem?_append_left hi] at hq; exact Or.inl ⟨hi, hq⟩
      · rw [List.getElem?_append_right hi] at hq
        have hz : i - ms.length = 0 := by
          rcases Nat.eq_zero_or_pos (i - ms.length) with h' | h'
          · exact h'
          · rw [List.getElem?_eq_none (by simp; omega)] at hq; cases hq
        rw [hz] at hq
        simp at hq
        exact Or.inr ⟨by omega, hq.symm⟩
    intro i j p q b hne hp hq hb
    rcases last hp with ⟨hi, hp'⟩ | ⟨hi, hpr⟩
    · rcases last hq with ⟨hj, hq'⟩ | ⟨hj, hqr⟩
      · exact h.apart i j p q b hne hp' hq' hb
      · rw [hqr]; exact hap i p b hp' hb
    · rw [hpr] at hb
      rcases last hq with ⟨hj, hq'⟩ | ⟨hj, _⟩
      · exact fun e => hap j q b hq' e hb
      · omega

theorem NGrow.done {B : Nat} {w : World} {v : Value} {ns : List Nd} {ms : List Rw} (h : NGrow B w v ns ms) : Nodes (fun b => B ≤ b) w v ns := by
  rcases h.own.2 with ⟨hv, h0⟩ | ⟨g, cap, cur, hv, hB, hh, hc, hm, _⟩
  · have : ns = [] := List.eq_nil_of_length_eq_zero h0
    subst this hv
    exact Nodes.nil
  · subst hv
    refine ⟨_, _, rfl, hc, hm, fun _ => ⟨g, 0, rfl, hB, fun i x hx => ?_⟩⟩
    have hi : i < ns.length := by
      rcases Nat.lt_or_ge i ns.length with h' | h'
      · exact h'
      · rw [List.getElem?_eq_none h'] at hx; cases hx
    obtain ⟨r, hr⟩ : ∃ r, ms[i]? = some r := ⟨ms[i]'(by rw [h.len]; exact hi), by simp [h.len, hi]⟩
    obtain ⟨h1, h2, h3, h4, h5⟩ := h.each i r x hr hx
    obtain ⟨g0, g1, g2, g3, g4⟩ := rawCells_get ms i r hr
    refine ⟨r.va, r.vk, ?_, ?_, ?_, ?_, ?_, h4.carry (fun b hb => ⟨hb.1, rfl⟩), h5.ints⟩
    · rw [Nat.zero_add, World.ownsRow.cellAt h.own (i * 5) (by omega), g0, h1]
    · rw [Nat.zero_add, World.ownsRow.cellAt h.own (i * 5 + 1) (by omega), g1, h2]
    · rw [Nat.zero_add, World.ownsRow.cellAt h.own (i * 5 + 2) (by omega), g2]
    · rw [Nat.zero_add, World.ownsRow.cellAt h.own (i * 5 + 3) (by omega), g3, h3]
    · rw [Nat.zero_add, World.ownsRow.cellAt h.own (i * 5 + 4) (by omega), g4]

/-- The cells of a node in the row. -/
theorem NGrow.at {B : Nat} {w : World} {v : Value} {ns : List Nd} {ms : List Rw} (h : NGrow B w v ns ms) {i : Nat} {r : Rw} (hr : ms[i]? = some r) : ∃ g cap, v = .slice (some ⟨g, 0, none⟩) ns.length cap ∧ ns.length ≤ cap ∧ cap ≤ maxLen ∧ B ≤ g ∧ g < w.heap.size ∧
    w.cell? ⟨g, i * 5 + 3, none⟩ = some (.int .i64 r.par) ∧ w.cell? ⟨g, i * 5 + 4, none⟩ = some r.vk ∧ w.frozen? ⟨g, i * 5 + 4, none⟩ = false := by
  have hi : i < ns.length := by
    rw [← h.len]
    rcases Nat.lt_or_ge i ms.length with h' | h'
    · exact h'
    · rw [List.getElem?_eq_none h'] at hr; cases hr
  have hown := h.own
  rcases h.own.2 with ⟨hv, h0⟩ | ⟨g, cap, cur, hv, hB, hh, hc, hm, _⟩
  · omega
  · subst hv
    obtain ⟨g0, g1, g2, g3, g4⟩ := rawCells_get ms i r hr
    exact ⟨g, cap, rfl, hc, hm, hB, blk_lt hh, by rw [World.ownsRow.cellAt h.own (i * 5 + 3) (by omega), g3], by rw [World.ownsRow.cellAt h.own (i * 5 + 4) (by omega), g4], World.ownsRow.frozenAt h.own _⟩

/-- A kid more: its row has grown, and the node's cell holds the new row. -/
theorem NGrow.kid {B : Nat} {w w' : World} {g cap : Nat} {ns : List Nd} {ms : List Rw} {i : Nat} {r : Rw} {x : Nd} {v' : Value} {l : List Int} (h : NGrow B w (.slice (some ⟨g, 0, none⟩) ns.length cap) ns ms) (hr : ms[i]? = some r) (hx : ns[i]? = some x)
    (hown : IRow B w' v' l) (hg : w.grownBy w' r.vk.ownBlock) (hat : v'.ownBlock = r.vk.ownBlock ∨ v'.ownBlock = some w.heap.size) :
    NGrow B (w'.setCell ⟨g, i * 5 + 4, none⟩ v') (.slice (some ⟨g, 0, none⟩) ns.length cap) (ns.set i { x with kids := l }) (ms.set i { r with vk := v' }) := by
  have hR := h.each i r x hr hx
  have hgo : OwnS B 42 w g := ownsRow_type h.own rfl
  have hgl := hgo.lt
  have hgr : some g ≠ r.vk.ownBlock := ownBlock_ne_type hR.2.2.2.2 hgo (by decide)
  have hil : i < ns.length := by
    rcases Nat.lt_or_ge i ns.length with h' | h'
    · exact h'
    · rw [List.getElem?_eq_none h'] at hx; cases hx
  have own' : w'.ownsRow B 42 5 (.slice (some ⟨g, 0, none⟩) ns.length cap) ns.length (rawCells ms) := h.own.kept hg (Or.inr hgr)
  have hvg : v'.ownBlock ≠ some g := by
    rcases hat with e | e
    · rw [e]; exact fun e => hgr e.symm
    · rw [e]; intro e; injection e with e; omega
  have keepB : ∀ b, b < w.heap.size → b ≠ g → r.vk.ownBlock ≠ some b → (w'.setCell ⟨g, i * 5 + 4, none⟩ v').heap[b]? = w.heap[b]? := fun b h1 h2 h3 => by
    rw [blk_set_ne h2, hg.block b h1 (fun e => h3 e.symm)]
  have attrs : ∀ {r : Rw} {x : Nd}, RowIs B w r x → Attrs (OwnS B 44 (w'.setCell ⟨g, i * 5 + 4, none⟩ v')) (w'.setCell ⟨g, i * 5 + 4, none⟩ v') r.va x.attrs := by
    intro q y hq
    refine hq.2.2.2.1.carry fun b hb => ?_
    have e : (w'.setCell ⟨g, i * 5 + 4, none⟩ v').heap[b]? = w.heap[b]? := keepB b hb.lt (fun e => by
      subst e
      obtain ⟨_, c, fz, hc⟩ := hb
      obtain ⟨_, c', fz', hc'⟩ := hgo
      rw [hc] at hc'
      injection hc' with hc'
      injection hc' with _ h4 _
      exact absurd h4 (by decide)) (fun e => ownBlock_ne_type hR.2.2.2.2 hb (by decide) e.symm)
    exact ⟨hb.to (Nat.le_refl _) e, e⟩
  refine ⟨by simp [h.len], ?_, ?_, ?_⟩
  · rw [rawCells_setK ms i r v' hr, List.length_set]
    exact (own'.stored (i * 5 + 4) v').1
  · intro j q y hq hy
    by_cases hj : j = i
    · subst hj
      rw [List.getElem?_set_self (by rw [h.len]; exact hil)] at hq
      rw [List.getElem?_set_self hil] at hy
      injection hq with hq
      injection hy with hy
      subst hq hy
      exact ⟨hR.1, hR.2.1, hR.2.2.1, attrs (r := r) (x := x) hR, ownsRow_heap hown fun b hb => blk_set_ne (fun e => hvg (by rw [hb, e]))⟩
    · rw [List.getElem?_set_ne (fun e => hj e.symm)] at hq hy
      have hq' := h.each j q y hq hy
      exact ⟨hq'.1, hq'.2.1, hq'.2.2.1, attrs hq', ownsRow_heap hq'.2.2.2.2 fun b hb => keepB b (IRow.lt hq'.2.2.2.2 b hb).2 (fun e => ownBlock_ne_type hq'.2.2.2.2 hgo (by decide) (by rw [hb, e])) (fun e => h.apart i j r q b (fun e => hj e.symm) hr hq e hb)⟩
  · intro j k p q b hne hp hq hb e
    by_cases hj : j = i
    · subst hj
      rw [List.getElem?_set_self (by rw [h.len]; exact hil)] at hp
      injection hp with hp
      subst hp
      rw [List.getElem?_set_ne hne] at hq
      obtain ⟨y, hy⟩ : ∃ y, ns[k]? = some y := ⟨ns[k]'(by rw [← h.len]; exact (List.getElem?_eq_some_iff.1 hq).1), by simp⟩
      have hlt := (IRow.lt (h.each k q y hq hy).2.2.2.2 b e).2
      simp only at hb
      rcases hat with e1 | e1
      · rw [e1] at hb; exact h.apart j k r q b hne hr hq hb e
      · rw [e1] at hb; injection hb with hb; omega
    · rw [List.getElem?_set_ne (fun e => hj e.symm)] at hp
      by_cases hk : k = i
      · subst hk
        rw [List.getElem?_set_self (by rw [h.len]; exact hil)] at hq
        injection hq with hq
        subst hq
        obtain ⟨y, hy⟩ : ∃ y, ns[j]? = some y := ⟨ns[j]'(by rw [← h.len]; exact (List.getElem?_eq_some_iff.1 hp).1), by simp⟩
        have hlt := (IRow.lt (h.each j p y hp hy).2.2.2.2 b hb).2
        simp only at e
        rcases hat with e1 | e1
        · rw [e1] at e; exact h.apart j k p r b hne hp hr hb e
        · rw [e1] at e; injection e with e; omega
      · rw [List.getElem?_set_ne (fun e => hk e.symm)] at hq
        exact h.apart j k p q b hne hp hq hb e
end Go.Proofs.Ytlchbhlmbphkpaa

/- A bench in memory: a row of nodes of the call's own; the attributes of the first N of them and the kids of all in rows of their own, apart from one another; the attributes of the others in blocks that are not the call's. How it grows, and how one node is changed. No condition. -/
namespace Go.Proofs.Ytlchbhlmbphkpaa
open Go.ChangeShapes Go.WideShapes Go.ChangeAt Go.RowKit
set_option maxRecDepth 100000

/-- A row of the call's own that holds these attributes. -/
def ARow (B : Nat) (w : World) (v : Value) (l : List (ByteArray × ByteArray)) : Prop := w.ownsRow B 44 2 v l.length (attrCells l)

structure BRow (B : Nat) (T : Nat → Prop) (N i : Nat) (w : World) (r : Rw) (x : Nd) : Prop where
  text : r.text = x.text
  s : r.s = x.s
  par : r.par = x.parent
  kids : IRow B w r.vk x.kids
  own : i < N → ARow B w r.va x.attrs
  far : N ≤ i → Attrs T w r.va x.attrs

structure Bench (B : Nat) (T : Nat → Prop) (N : Nat) (w : World) (v : Value) (ns : List Nd) (ms : List Rw) : Prop where
  len : ms.length = ns.length
  row : w.ownsRow B 42 5 v ns.length (rawCells ms)
  each : ∀ (i : Nat) (r : Rw) (x : Nd), ms[i]? = some r → ns[i]? = some x → BRow B T N i w r x
  kids : ∀ (i j : Nat) (r q : Rw) (b : Nat), i ≠ j → ms[i]? = some r → ms[j]? = some q → r.vk.ownBlock = some b → q.vk.ownBlock ≠ some b
  attrs : ∀ (i j : Nat) (r q : Rw) (b : Nat), i ≠ j → i < N → j < N → ms[i]? = some r → ms[j]? = some q → r.va.ownBlock = some b → q.va.ownBlock ≠ some b
  low : ∀ b, T b → b < B
  le : B ≤ w.heap.size

theorem BRow.keep {B : Nat} {T : Nat → Prop} {N i : Nat} {w w' : World} {r : Rw} {x : Nd} (h : BRow B T N i w r x) (hlow : ∀ b, T b → w'.heap[b]? = w.heap[b]?) (hA : i < N → ∀ b, r.va.ownBlock = some b → w'.heap[b]? = w.heap[b]?) (hI : ∀ b, r.vk.ownBlock = some b → w'.heap[b]? = w.heap[b]?) : BRow B T N i w' r x :=
  ⟨h.text, h.s, h.par, ownsRow_heap h.kids hI, fun hi => ownsRow_heap (h.own hi) (hA hi), fun hi => (h.far hi).carry fun b hb => ⟨hb, hlow b hb⟩⟩

theorem Bench.get {B : Nat} {T : Nat → Prop} {N : Nat} {w : World} {v : Value} {ns : List Nd} {ms : List Rw} (h : Bench B T N w v ns ms) {i : Nat} {x : Nd} (hx : ns[i]? = some x) : ∃ r, ms[i]? = some r ∧ BRow B T N i w r x := by
  have hi : i < ns.length := (List.getElem?_eq_some_iff.1 hx).1
  have hr : ms[i]? = some (ms[i]'(by rw [h.len]; exact hi)) := by simp [h.len, hi]
  exact ⟨_, hr, h.each i _ x hr hx⟩

theorem Bench.get' {B : Nat} {T : Nat → Prop} {N : Nat} {w : World} {v : Value} {ns : List Nd} {ms : List Rw} (h : Bench B T N w v ns ms) {i : Nat} {r : Rw} (hr : ms[i]? = some r) : ∃ x, ns[i]? = some x ∧ BRow B T N i w r x := by
  have hi : i < ms.length := (List.getElem?_eq_some_iff.1 hr).1
  have hx : ns[i]? = some (ns[i]'(by rw [← h.len]; exact hi)) := by simp [← h.len, hi]
  exact ⟨_, hx, h.each i r _ hr hx⟩

theorem Bench.keep {B : Nat} {T : Nat → Prop} {N : Nat} {w w' : World} {v : Value} {ns : List Nd} {ms : List Rw} (h : Bench B T N w v ns ms) (hsz : w.heap.size ≤ w'.heap.size) (hlow : ∀ b, b < B → w'.heap[b]? = w.heap[b]?) (hA : ∀ b, OwnS B 44 w b → w'.heap[b]? = w.heap[b]?)
    (hI : ∀ b, OwnS B 3 w b → w'.heap[b]? = w.heap[b]?) (hN : ∀ b, OwnS B 42 w b → w'.heap[b]? = w.heap[b]?) : Bench B T N w' v ns ms :=
  ⟨h.len, ownsRow_heap h.row fun b hb => hN b (ownsRow_type h.row hb), fun i r x hr hx => (h.each i r x hr hx).keep (fun b hb => hlow b (h.low b hb)) (fun hi b hb => hA b (ownsRow_type ((h.each i r x hr hx).own hi) hb)) (fun b hb => hI b (ownsRow_type (h.each i r x hr hx).kids hb)),
    h.kids, h.attrs, h.low, Nat.le_trans h.le hsz⟩

theorem Bench.later {B : Nat} {T : Nat → Prop} {N : Nat} {w w' : World} {v : Value} {ns : List Nd} {ms : List Rw} (h : Bench B T N w v ns ms) (hb : Below w.heap.size w w') : Bench B T N w' v ns ms :=
  h.keep hb.size (fun b hb' => hb.block b (Nat.lt_of_lt_of_le hb' h.le)) (fun b hs => hb.block b hs.lt) (fun b hs => hb.block b hs.lt) (fun b hs => hb.block b hs.lt)

/-- A store into a block of another type, or growth of a row of another type. -/
theorem Bench.grown {B : Nat} {T : Nat → Prop} {N : Nat} {w w' : World} {v : Value} {ns : List Nd} {ms : List Rw} {row : Option Nat} (h : Bench B T N w v ns ms) (hg : w.grownBy w' row) (hr : ∀ b, row = some b → B ≤ b ∧ ∃ e, e ≠ 42 ∧ e ≠ 44 ∧ e ≠ 3 ∧ OwnS 0 e w b) : Bench B T N w' v ns ms := by
  have ne : ∀ {e' : TypeId} {b : Nat}, OwnS B e' w b → (e' = 42 ∨ e' = 44 ∨ e' = 3) → row ≠ some b := by
    intro e' b hs he hrow
    obtain ⟨_, e, h1, h2, h3, _, c, fz, hc⟩ := hr b hrow
    obtain ⟨_, c', fz', hc'⟩ := hs
    rw [hc] at hc'
    injection hc' with hc'
    injection hc' with _ h4 _
    subst h4
    rcases he with he | he | he
    · exact h1 he
    · exact h2 he
    · exact h3 he
  exact h.keep hg.size (fun b hb => hg.block b (Nat.lt_of_lt_of_le hb h.le) (fun e => by have := (hr b e.symm).1; omega)) (fun b hs => hg.block b hs.lt (fun e => ne hs (Or.inr (Or.inl rfl)) e.symm)) (fun b hs => hg.block b hs.lt (fun e => ne hs (Or.inr (Or.inr rfl)) e.symm)) (fun b hs => hg.block b hs.lt (fun e => ne hs (Or.inl rfl) e.symm))

theorem own_ne {w : World} {B B' : Nat} {e e' : TypeId} {b b' : Nat} (h : OwnS B e w b) (h' : OwnS B' e' w b') (hne : e ≠ e') : b ≠ b' := by
  intro hb
  subst hb
  obtain ⟨_, c, fz, hc⟩ := h
  obtain ⟨_, c', fz', hc'⟩ := h'
  rw [hc] at hc'
  injection hc' with hc'
  injection hc' with _ h4 _
  exact hne h4

/-- A node more, whose attributes are not the call's, without kids. -/
theorem Bench.snoc {B : Nat} {T : Nat → Prop} {N : Nat} {w w' : World} {v v' : Value} {ns : List Nd} {ms : List Rw} {r : Rw} {x : Nd} (h : Bench B T N w v ns ms)
    (hown : w'.ownsRow B 42 5 v' (ns.length + 1) (rawCells ms ++ [.bool r.text, .string r.s, r.va, .int .i64 r.par, r.vk])) (hg : w.grownBy w' v.ownBlock) (hR : BRow B T N ns.length w r x) (hN : N ≤ ns.length) (hk : r.vk.ownBlock = none) : Bench B T N w' v' (ns ++ [x]) (ms ++ [r]) := by
  have hvB : ∀ b, v.ownBlock = some b → B ≤ b := fun b hb => (h.row.lt b hb).1
  have keep : ∀ {i : Nat} {r : Rw} {x : Nd}, BRow B T N i w r x → BRow B T N i w' r x := by
    intro i r x hR
    refine hR.keep (fun b hb => hg.block b (Nat.lt_of_lt_of_le (h.low b hb) h.le) (fun e => by have := hvB b e.symm; have := h.low b hb; omega)) (fun hi b hb => ?_) (fun b hb => ?_)
    · have hs := ownsRow_type (hR.own hi) hb
      exact hg.block b hs.lt (ownBlock_ne_type h.row hs (by decide))
    · have hs := ownsRow_type hR.kids hb
      exact hg.block b hs.lt (ownBlock_ne_type h.row hs (by decide))
  have last : ∀ {i : Nat} {q : Rw}, (ms ++ [r])[i]? = some q → (i < ms.length ∧ ms[i]? = some q) ∨ (i = ms.length ∧ q = r) := by
    intro i q hq
    rcases Nat.lt_or_ge i ms.length with hi | hi
    · rw [List.getElem?_append_left hi] at hq; exact Or.inl ⟨hi, hq⟩
    · rw [List.getElem?_append_right hi] at hq
      have hz : i - ms.length = 0 := by
        rcases Nat.eq_zero_or_pos (i - ms.length) with h' | h'
        · exact h'
        · rw [List.getElem?_eq_none (by simp; omega)] at hq; cases hq
      rw [hz] at hq
      simp at hq
      exact Or.inr ⟨by omega, hq.symm⟩
  refine ⟨by simp [h.len], ?_, ?_, ?_, ?_, h.low, Nat.le_trans h.le hg.size⟩
  · rw [rawCells_append, List.length_append]; exact hown
  · intro i q y hq hy
    rcases last hq with ⟨hi, hq'⟩ | ⟨hi, hqr⟩
    · rw [List.getElem?_append_left (by rw [← h.len]; exact hi)] at hy
      exact keep (h.each i q y hq' hy)
    · subst hi hqr
      rw [h.len, List.getElem?_append_right (Nat.le_refl _)] at hy
      simp at hy
      subst hy
      rw [h.len]
      exact keep hR
  · intro i j p q b hne hp hq hb
    rcases last hp with ⟨hi, hp'⟩ | ⟨hi, hpr⟩
    · rcases last hq with ⟨hj, hq'⟩ | ⟨hj, hqr⟩
      · exact h.kids i j p q b hne hp' hq' hb
      · rw [hqr, hk]; exact fun e => by cases e
    · rw [hpr, hk] at hb; cases hb
  · intro i j p q b hne hiN hjN hp hq hb
    rcases last hp with ⟨hi, hp'⟩ | ⟨hi, hpr⟩
    · rcases last hq with ⟨hj, hq'⟩ | ⟨hj, hqr⟩
      · exact h.attrs i j p q b hne hiN hjN hp' hq' hb
      · rw [h.len] at hj; omega
    · rw [h.len] at hi; omega

/-- One node is changed: its rows may have, and the row of nodes holds what is new. -/
theorem Bench.put {B : Nat} {T : Nat → Prop} {N : Nat} {w w1 w2 : World} {v : Value} {ns : List Nd} {ms : List Rw} {i : Nat} {r r' : Rw} {x x' : Nd} (h : Bench B T N w v ns ms) (hr : ms[i]? = some r) (hx : ns[i]? = some x) (hsz : w.heap.size ≤ w1.heap.size) (hsz2 : w2.heap.size = w1.heap.size)
    (hkeep : ∀ b, b < w.heap.size → r.vk.ownBlock ≠ some b → (i < N → r.va.ownBlock ≠ some b) → w1.heap[b]? = w.heap[b]?)
    (hrow : w2.ownsRow B 42 5 v ns.length (rawCells (ms.set i r'))) (hk2 : ∀ b, v.ownBlock ≠ some b → w2.heap[b]? = w1.heap[b]?) (hR : BRow B T N i w1 r' x')
    (hk : ∀ b, r'.vk.ownBlock = some b → r.vk.ownBlock = some b ∨ w.heap.size ≤ b) (ha : i < N → ∀ b, r'.va.ownBlock = some b → r.va.ownBlock = some b ∨ w.heap.size ≤ b) : Bench B T N w2 v (ns.set i x') (ms.set i r') := by
  have hRi := h.each i r x hr hx
  have hil : i < ns.length := (List.getElem?_eq_some_iff.1 hx).1
  have him : i < ms.length := by rw [h.len]; exact hil
  have vnode : ∀ b, v.ownBlock = some b → OwnS B 42 w b := fun b hb => ownsRow_type h.row hb
  have keepLow : ∀ b, b < B → w2.heap[b]? = w.heap[b]? := fun b hb => by
    rw [hk2 b (fun e => by have := (h.row.lt b e).1; omega)]
    refine hkeep b (Nat.lt_of_lt_of_le hb h.le) (fun e => ?_) (fun hi e => ?_)
    · have := (IRow.lt hRi.kids b e).1; omega
    · have := ((hRi.own hi).lt b e).1; omega
  have new_ne : ∀ b, v.ownBlock = some b → b < w.heap.size := fun b hb => (vnode b hb).lt
  refine ⟨by simp [h.len], by rw [List.length_set]; exact hrow, ?_, ?_, ?_, h.low, ?_⟩
  · intro j q y hq hy
    by_cases hj : j = i
    · subst hj
      rw [List.getElem?_set_self him] at hq
      rw [List.getElem?_set_self hil] at hy
      injection hq with hq
      injection hy with hy
      subst hq hy
      refine hR.keep (fun b hb => hk2 b (fun e => by have := (h.row.lt b e).1; have := h.low b hb; omega)) (fun hi b hb => hk2 b (fun e => ?_)) (fun b hb => hk2 b (fun e => ?_))
      · rcases ha hi b hb with e1 | e1
        · exact own_ne (ownsRow_type (hRi.own hi) e1) (vnode b e) (by decide) rfl
        · have := new_ne b e; omega
      · rcases hk b hb with e1 | e1
        · exact own_ne (ownsRow_type hRi.kids e1) (vnode b e) (by decide) rfl
        · have := new_ne b e; omega
    · rw [List.getElem?_set_ne (fun e => hj e.symm)] at hq hy
      have hq' := h.each j q y hq hy
      refine hq'.keep (fun b hb => keepLow b (h.low b hb)) (fun hjN b hb => ?_) (fun b hb => ?_)
      · have hs := ownsRow_type (hq'.own hjN) hb
        rw [hk2 b (fun e => own_ne hs (vnode b e) (by decide) rfl)]
        exact hkeep b hs.lt (fun e => own_ne hs (ownsRow_type hRi.kids e) (by decide) rfl) (fun hi e => h.attrs i j r q b (fun e => hj e.symm) hi hjN hr hq e hb)
      · have hs := ownsRow_type hq'.kids hb
        rw [hk2 b (fun e => own_ne hs (vnode b e) (by decide) rfl)]
        exact hkeep b hs.lt (fun e => h.kids i j r q b (fun e => hj e.symm) hr hq e hb) (fun hi e => own_ne hs (ownsRow_type (hRi.own hi) e) (by decide) rfl)
  · intro j k p q b hne hp hq hb e
    have lt : ∀ {m : Nat} {q : Rw}, ms[m]? = some q → ∀ b, q.vk.ownBlock = some b → b < w.heap.size := fun hm b hb => by
      obtain ⟨y, _, hy⟩ := h.get' hm
      exact (IRow.lt hy.kids b hb).2
    by_cases hj : j = i
    · subst hj
      rw [List.getElem?_set_self him] at hp
      injection hp with hp
      subst hp
      rw [List.getElem?_set_ne hne] at hq
      rcases hk b hb with e1 | e1
      · exact h.kids j k r q b hne hr hq e1 e
      · have := lt hq b e; omega
    · rw [List.getElem?_set_ne (fun e => hj e.symm)] at hp
      by_cases hki : k = i
      · subst hki
        rw [List.getElem?_set_self him] at hq
        injection hq with hq
        subst hq
        rcases hk b e with e1 | e1
        · exact h.kids j k p r b hne hp hr hb e1
        · have := lt hp b hb; omega
      · rw [List.getElem?_set_ne (fun e => hki e.symm)] at hq
        exact h.kids j k p q b hne hp hq hb e
  · intro j k p q b hne hjN hkN hp hq hb e
    have lt : ∀ {m : Nat} {q : Rw}, m < N → ms[m]? = some q → ∀ b, q.va.ownBlock = some b → b < w.heap.size := fun hmN hm b hb => by
      obtain ⟨y, _, hy⟩ := h.get' hm
      exact ((hy.own hmN).lt b hb).2
    by_cases hj : j = i
    · subst hj
      rw [List.getElem?_set_self him] at hp
      injection hp with hp
      subst hp
      rw [List.getElem?_set_ne hne] at hq
      rcases ha hjN b hb with e1 | e1
      · exact h.attrs j k r q b hne hjN hkN hr hq e1 e
      · have := lt hkN hq b e; omega
    · rw [List.getElem?_set_ne (fun e => hj e.symm)] at hp
      by_cases hki : k = i
      · subst hki
        rw [List.getElem?_set_self him] at hq
        injection hq with hq
        subst hq
        rcases ha hkN b e with e1 | e1
        · exact h.attrs j k p r b hne hjN hkN hp hr hb e1
        · have := lt hjN hp b hb; omega
      · rw [List.getElem?_set_ne (fun e => hki e.symm)] at hq
        exact h.attrs j k p q b hne hjN hkN hp hq hb e
  · rw [hsz2]; exact Nat.le_trans h.le hsz
end Go.Proofs.Ytlchbhlmbphkpaa

/- How a list of changes lies in memory; whether two of them go against one another, one by one. No condition. -/
namespace Go.Proofs.Ytlchbhlmbphkpaa
open Go.ChangeShapes Go.WideShapes Go.ChangeAt Go.RowKit
set_option maxRecDepth 100000

/-- A list of changes at a slice value: blocks of S alone. -/
def Ops (S : Nat → Prop) (w : World) (n : Nat) (v : Value) (l : List Opn) : Prop :=
  ∃ a cap, v = .slice a l.length cap ∧ l.length ≤ cap ∧ cap ≤ maxLen ∧
    (l ≠ [] → ∃ b o, a = some ⟨b, o, none⟩ ∧ S b ∧ ∀ (i : Nat) (x : Opn), l[i]? = some x → ∃ ca cc,
      w.cell? ⟨b, o + i * 5, none⟩ = some (.int .i64 x.kind) ∧ w.cell? ⟨b, o + i * 5 + 1, none⟩ = some (.int .i64 x.target) ∧ w.cell? ⟨b, o + i * 5 + 2, none⟩ = some (.slice ca x.content.length cc) ∧
      w.cell? ⟨b, o + i * 5 + 3, none⟩ = some (.string x.name) ∧ w.cell? ⟨b, o + i * 5 + 4, none⟩ = some (.string x.s) ∧ Trees S w n (.slice ca x.content.length cc) x.content)

def TextsO (n : Nat) (l : List Opn) : Prop := ∀ x ∈ l, TextsN n x.content ∧ x.name.size ≤ maxLen ∧ x.s.size ≤ maxLen

theorem Ops.carry {S S' : Nat → Prop} {w w' : World} {n : Nat} {v : Value} {l : List Opn} (h : Ops S w n v l) (hw : ∀ b, S b → S' b ∧ w'.heap[b]? = w.heap[b]?) : Ops S' w' n v l := by
  obtain ⟨a, cap, h1, h2, h3, h4⟩ := h
  refine ⟨a, cap, h1, h2, h3, fun hne => ?_⟩
  obtain ⟨b, o, ha, hs, hc⟩ := h4 hne
  refine ⟨b, o, ha, (hw b hs).1, fun i x hx => ?_⟩
  obtain ⟨ca, cc, c0, c1, c2, c3, c4, hT⟩ := hc i x hx
  refine ⟨ca, cc, ?_, ?_, ?_, ?_, ?_, Trees.carry hw n hT⟩
  · rw [World.cell?_of_block (a := ⟨b, o + i * 5, none⟩) (hw b hs).2]; exact c0
  · rw [World.cell?_of_block (a := ⟨b, o + i * 5 + 1, none⟩) (hw b hs).2]; exact c1
  · rw [World.cell?_of_block (a := ⟨b, o + i * 5 + 2, none⟩) (hw b hs).2]; exact c2
  · rw [World.cell?_of_block (a := ⟨b, o + i * 5 + 3, none⟩) (hw b hs).2]; exact c3
  · rw [World.cell?_of_block (a := ⟨b, o + i * 5 + 4, none⟩) (hw b hs).2]; exact c4

theorem Ops.bounded {S : Nat → Prop} {w : World} {n : Nat} {v : Value} {l : List Opn} (h : Ops S w n v l) : Ops (fun b => S b ∧ b < w.heap.size) w n v l := by
  obtain ⟨a, cap, h1, h2, h3, h4⟩ := h
  refine ⟨a, cap, h1, h2, h3, fun hne => ?_⟩
  obtain ⟨b, o, ha, hs, hc⟩ := h4 hne
  refine ⟨b, o, ha, ⟨hs, ?_⟩, fun i x hx => ?_⟩
  · cases l with
    | nil => exact absurd rfl hne
    | cons x r =>
      obtain ⟨_, _, c0, _⟩ := hc 0 x rfl
      exact World.block_lt_of_cell? w _ c0
  · obtain ⟨ca, cc, c0, c1, c2, c3, c4, hT⟩ := hc i x hx
    exact ⟨ca, cc, c0, c1, c2, c3, c4, Trees.bounded n hT⟩

theorem Ops.later {S : Nat → Prop} {w w' : World} {n : Nat} {v : Value} {l : List Opn} (h : Ops S w n v l) (hb : Below w.heap.size w w') : Ops S w' n v l :=
  h.bounded.carry fun b hb' => ⟨hb'.1, hb.block b hb'.2⟩

theorem Ops.shape {S : Nat → Prop} {w : World} {n : Nat} {v : Value} {l : List Opn} (h : Ops S w n v l) : ∃ a c, v = .slice a l.length c ∧ l.length ≤ c ∧ c ≤ maxLen := by
  obtain ⟨a, cap, h1, h2, h3, _⟩ := h
  exact ⟨a, cap, h1, h2, h3⟩

theorem Ops.at {S : Nat → Prop} {w : World} {n : Nat} {v : Value} {l : List Opn} (h : Ops S w n v l) {i : Nat} {x : Opn} (hx : l[i]? = some x) : ∃ b o cap ca cc, v = .slice (some ⟨b, o, none⟩) l.length cap ∧ S b ∧ b < w.heap.size ∧
    w.cell? ⟨b, o + i * 5, none⟩ = some (.int .i64 x.kind) ∧ w.cell? ⟨b, o + i * 5 + 1, none⟩ = some (.int .i64 x.target) ∧ w.cell? ⟨b, o + i * 5 + 2, none⟩ = some (.slice ca x.content.length cc) ∧
    w.cell? ⟨b, o + i * 5 + 3, none⟩ = some (.string x.name) ∧ w.cell? ⟨b, o + i * 5 + 4, none⟩ = some (.string x.s) ∧ Trees S w n (.slice ca x.content.length cc) x.content := by
  obtain ⟨a, cap, h1, h2, h3, h4⟩ := h
  have hne : l ≠ [] := by intro e; subst e; simp at hx
  obtain ⟨b, o, rfl, hs, hc⟩ := h4 hne
  obtain ⟨ca, cc, c0, c1, c2, c3, c4, hT⟩ := hc i x hx
  exact ⟨b, o, cap, ca, cc, h1, hs, World.block_lt_of_cell? w _ c0, c0, c1, c2, c3, c4, hT⟩

/-- The changes with the lists that they hold, at a row that is known. -/
theorem Ops.pairs {S : Nat → Prop} {w : World} {n : Nat} {b o cap m : Nat} {l : List Opn} (h : Ops S w n (.slice (some ⟨b, o, none⟩) m cap) l) : ∃ zs : List (Opn × Value), zs.map (·.1) = l ∧
    ∀ (j : Nat) (z : Opn × Value), zs[j]? = some z → w.cell? ⟨b, o + j * 5, none⟩ = some (.int .i64 z.1.kind) ∧ w.cell? ⟨b, o + j * 5 + 1, none⟩ = some (.int .i64 z.1.target) ∧ w.cell? ⟨b, o + j * 5 + 2, none⟩ = some z.2 ∧
      w.cell? ⟨b, o + j * 5 + 3, none⟩ = some (.string z.1.name) ∧ w.cell? ⟨b, o + j * 5 + 4, none⟩ = some (.string z.1.s) := by
  refine ⟨l.mapIdx (fun i x => (x, (w.cell? ⟨b, o + i * 5 + 2, none⟩).getD undef)), ?_, ?_⟩
  · apply List.ext_getElem?
    intro i
    rw [List.getElem?_map, List.getElem?_mapIdx]
    cases l[i]? <;> rfl
  · intro j z hz
    rw [List.getElem?_mapIdx] at hz
    cases hx : l[j]? with
    | none => rw [hx] at hz; simp at hz
    | some x =>
      rw [hx] at hz
      obtain ⟨b', o', cap', ca, cc, hv, _, _, c0, c1, c2, c3, c4, _⟩ := h.at hx
      injection hv with hv1 _ _
      injection hv1 with hv1
      injection hv1 with hb ho _
      subst hb ho
      have : z = (x, (w.cell? ⟨b, o + j * 5 + 2, none⟩).getD undef) := by simpa using hz.symm
      subst this
      refine ⟨c0, c1, ?_, c3, c4⟩
      rw [c2]; rfl

theorem first_at {ns : List Nd} : ∀ {l : List Opn} {i : Nat} {x : Opn}, firstF ns (l.take i) = 0 → l[i]? = some x → firstF ns (l.take (i + 1)) = wrongF ns x ∧ (wrongF ns x ≠ 0 → firstF ns l = wrongF ns x) := by
  intro l
  induction l with
  | nil => intro i x _ h; simp at h
  | cons y r ih =>
    intro i x h hx
    cases i with
    | zero =>
      have : y = x := by simpa using hx
      subst this
      constructor
      · simp only [List.take, firstF]
        by_cases h0 : wrongF ns y = 0
        · rw [if_pos h0, h0]
        · rw [if_neg h0]
      · intro h0; rw [firstF, if_neg h0]
    | succ i =>
      simp only [List.take_succ_cons, firstF] at h
      by_cases h0 : wrongF ns y = 0
      · rw [if_pos h0] at h
        have := ih h (by simpa using hx)
        constructor
        · rw [List.take_succ_cons, firstF, if_pos h0]; exact this.1
        · intro hn; rw [firstF, if_pos h0]; exact this.2 hn
      · rw [if_neg h0] at h; exact absurd h h0

/-- No two of the first i go against one another. -/
theorem twice_take : ∀ (l : List Opn) (i : Nat) (x : Opn), l[i]? = some x → twiceB (l.take (i + 1)) = (twiceB (l.take i) || (l.take i).any (fun e => agB e x)) := by
  intro l
  induction l with
  | nil => intro i x h; simp at h
  | cons y r ih =>
    intro i x hx
    cases i with
    | zero => simp [twiceB]
    | succ i =>
      have h := ih i x (by simpa using hx)
      have ht : r.take (i + 1) = r.take i ++ [x] := by rw [List.take_add_one]; simp at hx; simp [hx]
      rw [List.take_succ_cons, twiceB, h, List.take_succ_cons, twiceB, List.any_cons, ht, List.any_append]
      simp only [List.any_cons, List.any_nil, Bool.or_false]
      cases (r.take i).any (agB y) <;> cases agB y x <;> cases twiceB (r.take i) <;> simp

theorem twice_mono : ∀ (l : List Opn) (i : Nat), twiceB (l.take i) = true → twiceB l = true := by
  intro l i h
  cases hn : twiceB l with
  | true => rfl
  | false =>
    rw [twiceB_false] at hn
    have : twiceB (l.take i) = false := (twiceB_false _).2 (hn.sublist (List.take_sublist _ _))
    rw [h] at this; exact absurd this (by decide)
end Go.Proofs.Ytlchbhlmbphkpaa

/- change.ofPlace, rightContent, rightName, rightS, wrongWith, Against: what is wrong with one change, or with two. Condition: texts of a size that can be read. -/
namespace Go.Proofs.Ytlchbhlmbphkpaa
open Go.ChangeShapes Go.WideShapes Go.ChangeAt Go.RowKit
set_option maxRecDepth 100000

attribute [local go_sem] cell_set

theorem ofPlace_any (k : Int) (w : World) : Calls Try.prog 60 #[.int .i64 k] w fun e w' => e = .returned (.bool (placeB k)) ∧ w' = w := by
  have HP : Hid (placeB k = (decide (k = 3) || decide (k = 4) || decide (k = 5) || decide (k = 6))) := rfl
  by_cases h3 : k = 3
  · have HE : Hid (placeB k = true) := by show _ = _; rw [HP.out]; simp [h3]
    subst h3
    go_enter Try.func60, Try.ntmps60
    go_wp2
    go_ret
    exact ⟨by rw [HE.out]; rfl, rfl⟩
  by_cases h4 : k = 4
  · have HE : Hid (placeB k = true) := by show _ = _; rw [HP.out]; simp [h4]
    subst h4
    go_enter Try.func60, Try.ntmps60
    go_wp2
    go_ret
    exact ⟨by rw [HE.out]; rfl, rfl⟩
  by_cases h5 : k = 5
  · have HE : Hid (placeB k = true) := by show _ = _; rw [HP.out]; simp [h5]
    subst h5
    go_enter Try.func60, Try.ntmps60
    go_wp2
    go_ret
    exact ⟨by rw [HE.out]; rfl, rfl⟩
  by_cases h6 : k = 6
  · have HE : Hid (placeB k = true) := by show _ = _; rw [HP.out]; simp [h6]
    subst h6
    go_enter Try.func60, Try.ntmps60
    go_wp2
    go_ret
    exact ⟨by rw [HE.out]; rfl, rfl⟩
  have HE : Hid (placeB k = false) := by show _ = _; rw [HP.out]; simp [h3, h4, h5, h6]
  have b3 : (k == 3) = false := by simpa using h3
  have b4 : (k == 4) = false := by simpa using h4
  have b5 : (k == 5) = false := by simpa using h5
  have b6 : (k == 6) = false := by simpa using h6
  clear h3 h4 h5 h6 HP
  go_enter Try.func60, Try.ntmps60
  go_wp2
  go_ret
  exact ⟨by rw [HE.out]; rfl, rfl⟩
theorem len_dec (n : Nat) : ((n : Int) == 0) = decide (n = 0) := by
  by_cases h : n = 0 <;> simp [h]
theorem nil_dec (a : ByteArray) : a.toList.isEmpty = decide (a = ⟨#[]⟩) := by
  rw [ByteArray.toList_eq]
  obtain ⟨d⟩ := a
  by_cases h : d = #[]
  · subst h; simp
  · have h2 : ¬ (⟨d⟩ : ByteArray) = ⟨#[]⟩ := by intro e; injection e with e; exact h e
    simp [h, h2]

theorem rightContent_any (S : Nat → Prop) (n : Nat) (ca : Option Addr) (cc : Nat) (o : Opn) (w : World) (hC : Trees S w n (.slice ca o.content.length cc) o.content) (hx : TextsN n o.content) :
    Calls Try.prog 57 #[.agg #[.int .i64 o.kind, .int .i64 o.target, .slice ca o.content.length cc, .string o.name, .string o.s]] w fun e w' => e = .returned (.bool (contOk o)) ∧ Below w.heap.size w w' := by
  have HP : Hid (hasC o.kind = (decide (o.kind = 1) || decide (o.kind = 2) || decide (o.kind = 3) || decide (o.kind = 4) || decide (o.kind = 6))) := rfl
  have HC : Hid (∀ W, Trees S W n (.slice ca o.content.length cc) o.content → Calls Try.prog 56 #[.slice ca o.content.length cc] W fun e w' => e = .returned (.bool (contentB o.content)) ∧ Below W.heap.size W w') := fun W hW => content_any S n _ _ W hW hx
  have HO : Hid (contOk o = if hasC o.kind then contentB o.content else decide (o.content.length = 0)) := rfl
  obtain ⟨k, tg, ct, nm, s⟩ := o
  dsimp only at *
  by_cases h1 : k = 1
  · have HE : Hid (contOk ⟨k, tg, ct, nm, s⟩ = contentB ct) := by show _ = _; rw [HO.out, HP.out]; simp [h1]
    clear HP HO
    subst h1
    have hb := Below.alloc1 w (.cells #[.int .i64 1, .int .i64 tg, .slice ca ct.length cc, .string nm, .string s] 30)
    go_enter Try.func57, Try.ntmps57
    go_wp2_with fail
    refine (HC.out _ (hC.later hb)).mono ?_
    rintro e w1 ⟨rfl, hb1⟩
    go_wp2_with fail
    go_ret
    exact ⟨by rw [HE.out]; rfl, hb.trans (hb1.mono hb.size)⟩
  by_cases h2 : k = 2
  · have HE : Hid (contOk ⟨k, tg, ct, nm, s⟩ = contentB ct) := by show _ = _; rw [HO.out, HP.out]; simp [h2]
    clear HP HO
    subst h2
    have hb := Below.alloc1 w (.cells #[.int .i64 2, .int .i64 tg, .slice ca ct.length cc, .string nm, .string s] 30)
    go_enter Try.func57, Try.ntmps57
    go_wp2_with fail
    refine (HC.out _ (hC.later hb)).mono ?_
    rintro e w1 ⟨rfl, hb1⟩
    go_wp2_with fail
    go_ret
    exact ⟨by rw [HE.out]; rfl, hb.trans (hb1.mono hb.size)⟩
  by_cases h3 : k = 3
  · have HE : Hid (contOk ⟨k, tg, ct, nm, s⟩ = contentB ct) := by show _ = _; rw [HO.out, HP.out]; simp [h3]
    clear HP HO
    subst h3
    have hb := Below.alloc1 w (.cells #[.int .i64 3, .int .i64 tg, .slice ca ct.length cc, .string nm, .string s] 30)
    go_enter Try.func57, Try.ntmps57
    go_wp2_with fail
    refine (HC.out _ (hC.later hb)).mono ?_
    rintro e w1 ⟨rfl, hb1⟩
    go_wp2_with fail
    go_ret
    exact ⟨by rw [HE.out]; rfl, hb.trans (hb1.mono hb.size)⟩
  by_cases h4 : k = 4
  · have HE : Hid (contOk ⟨k, tg, ct, nm, s⟩ = contentB ct) := by show _ = _; rw [HO.out, HP.out]; simp [h4]
    clear HP HO
    subst h4
    have hb := Below.alloc1 w (.cells #[.int .i64 4, .int .i64 tg, .slice ca ct.length cc, .string nm, .string s] 30)
    go_enter Try.func57, Try.ntmps57
    go_wp2_with fail
    refine (HC.out _ (hC.later hb)).mono ?_
    rintro e w1 ⟨rfl, hb1⟩
    go_wp2_with fail
    go_ret
    exact ⟨by rw [HE.out]; rfl, hb.trans (hb1.mono hb.size)⟩
  by_cases h6 : k = 6
  · have HE : Hid (contOk ⟨k, tg, ct, nm, s⟩ = contentB ct) := by show _ = _; rw [HO.out, HP.out]; simp [h6]
    clear HP HO
    subst h6
    have hb := Below.alloc1 w (.cells #[.int .i64 6, .int .i64 tg, .slice ca ct.length cc, .string nm, .string s] 30)
    go_enter Try.func57, Try.ntmps57
    go_wp2_with fail
    refine (HC.out _ (hC.later hb)).mono ?_
    rintro e w1 ⟨rfl, hb1⟩
    go_wp2_with fail
    go_ret
    exact ⟨by rw [HE.out]; rfl, hb.trans (hb1.mono hb.size)⟩
  have HE : Hid (contOk ⟨k, tg, ct, nm, s⟩ = decide (ct.length = 0)) := by show _ = _; rw [HO.out, HP.out]; simp [h1, h2, h3, h4, h6]
  have b1 : (k == 1) = false := by simpa using h1
  have b2 : (k == 2) = false := by simpa using h2
  have b3 : (k == 3) = false := by simpa using h3
  have b4 : (k == 4) = false := by simpa using h4
  have b6 : (k == 6) = false := by simpa using h6
  clear HP HO h1 h2 h3 h4 h6
  have hb := Below.alloc1 w (.cells #[.int .i64 k, .int .i64 tg, .slice ca ct.length cc, .string nm, .string s] 30)
  go_enter Try.func57, Try.ntmps57
  go_wp2_with fail
  go_ret
  exact ⟨by rw [HE.out, ← len_dec]; rfl, hb⟩

theorem rightName_any (vc : Value) (o : Opn) (w : World) (hx : o.name.size ≤ maxLen) :
    Calls Try.prog 58 #[.agg #[.int .i64 o.kind, .int .i64 o.target, vc, .string o.name, .string o.s]] w fun e w' => e = .returned (.bool (nameOk o)) ∧ Below w.heap.size w w' := by
  have HP : Hid (hasN o.kind = (decide (o.kind = 8) || decide (o.kind = 9) || decide (o.kind = 10))) := rfl
  have HC : Hid (∀ W, Calls Try.prog 77 #[.string o.name] W fun e w' => e = .returned (.bool (nameB o.name)) ∧ w' = W) := fun W => named_any _ W hx
  have HO : Hid (nameOk o = if hasN o.kind then nameB o.name else decide (o.name = ⟨#[]⟩)) := rfl
  obtain ⟨k, tg, ct, nm, s⟩ := o
  dsimp only at *
  by_cases h8 : k = 8
  · have HE : Hid (nameOk ⟨k, tg, ct, nm, s⟩ = nameB nm) := by show _ = _; rw [HO.out, HP.out]; simp [h8]
    clear HP HO
    subst h8
    have hb := Below.alloc1 w (.cells #[.int .i64 8, .int .i64 tg, vc, .string nm, .string s] 30)
    go_enter Try.func58, Try.ntmps58
    go_wp2_with fail
    refine (HC.out _).mono ?_
    rintro e w1 ⟨rfl, rfl⟩
    go_wp2_with fail
    go_ret
    exact ⟨by rw [HE.out]; rfl, hb⟩
  by_cases h9 : k = 9
  · have HE : Hid (nameOk ⟨k, tg, ct, nm, s⟩ = nameB nm) := by show _ = _; rw [HO.out, HP.out]; simp [h9]
    clear HP HO
    subst h9
    have hb := Below.alloc1 w (.cells #[.int .i64 9, .int .i64 tg, vc, .string nm, .string s] 30)
    go_enter Try.func58, Try.ntmps58
    go_wp2_with fail
    refine (HC.out _).mono ?_
    rintro e w1 ⟨rfl, rfl⟩
    go_wp2_with fail
    go_ret
    exact ⟨by rw [HE.out]; rfl, hb⟩
  by_cases h10 : k = 10
  · have HE : Hid (nameOk ⟨k, tg, ct, nm, s⟩ = nameB nm) := by show _ = _; rw [HO.out, HP.out]; simp [h10]
    clear HP HO
    subst h10
    have hb := Below.alloc1 w (.cells #[.int .i64 10, .int .i64 tg, vc, .string nm, .string s] 30)
    go_enter Try.func58, Try.ntmps58
    go_wp2_with fail
    refine (HC.out _).mono ?_
    rintro e w1 ⟨rfl, rfl⟩
    go_wp2_with fail
    go_ret
    exact ⟨by rw [HE.out]; rfl, hb⟩
  have HE : Hid (nameOk ⟨k, tg, ct, nm, s⟩ = decide (nm = ⟨#[]⟩)) := by show _ = _; rw [HO.out, HP.out]; simp [h8, h9, h10]
  have b8 : (k == 8) = false := by simpa using h8
  have b9 : (k == 9) = false := by simpa using h9
  have b10 : (k == 10) = false := by simpa using h10
  clear HP HO h8 h9 h10
  have hb := Below.alloc1 w (.cells #[.int .i64 k, .int .i64 tg, vc, .string nm, .string s] 30)
  go_enter Try.func58, Try.ntmps58
  go_wp2_with fail
  go_ret
  exact ⟨by rw [HE.out, ← nil_dec]; rfl, hb⟩

theorem rightS_any (vc : Value) (o : Opn) (w : World) (hx : o.s.size ≤ maxLen) :
    Calls Try.prog 59 #[.agg #[.int .i64 o.kind, .int .i64 o.target, vc, .string o.name, .string o.s]] w fun e w' => e = .returned (.bool (textOk o)) ∧ Below w.heap.size w w' := by
  have HP : Hid (hasS o.kind = (decide (o.kind = 7) || decide (o.kind = 9))) := rfl
  have HC : Hid (∀ W, Calls Try.prog 78 #[.string o.s] W fun e w' => e = .returned (.bool (plainB o.s)) ∧ w' = W) := fun W => plain_any _ W hx
  have HO : Hid (textOk o = if hasS o.kind then plainB o.s else decide (o.s = ⟨#[]⟩)) := rfl
  obtain ⟨k, tg, ct, nm, s⟩ := o
  dsimp only at *
  by_cases h7 : k = 7
  · have HE : Hid (textOk ⟨k, tg, ct, nm, s⟩ = plainB s) := by show _ = _; rw [HO.out, HP.out]; simp [h7]
    clear HP HO
    subst h7
    have hb := Below.alloc1 w (.cells #[.int .i64 7, .int .i64 tg, vc, .string nm, .string s] 30)
    go_enter Try.func59, Try.ntmps59
    go_wp2_with fail
    refine (HC.out _).mono ?_
    rintro e w1 ⟨rfl, rfl⟩
    go_wp2_with fail
    go_ret
    exact ⟨by rw [HE.out]; rfl, hb⟩
  by_cases h9 : k = 9
  · have HE : Hid (textOk ⟨k, tg, ct, nm, s⟩ = plainB s) := by show _ = _; rw [HO.out, HP.out]; simp [h9]
    clear HP HO
    subst h9
    have hb := Below.alloc1 w (.cells #[.int .i64 9, .int .i64 tg, vc, .string nm, .string s] 30)
    go_enter Try.func59, Try.ntmps59
    go_wp2_with fail
    refine (HC.out _).mono ?_
    rintro e w1 ⟨rfl, rfl⟩
    go_wp2_with fail
    go_ret
    exact ⟨by rw [HE.out]; rfl, hb⟩
  have HE : Hid (textOk ⟨k, tg, ct, nm, s⟩ = decide (s = ⟨#[]⟩)) := by show _ = _; rw [HO.out, HP.out]; simp [h7, h9]
  have b7 : (k == 7) = false := by simpa using h7
  have b9 : (k == 9) = false := by simpa using h9
  clear HP HO h7 h9
  have hb := Below.alloc1 w (.cells #[.int .i64 k, .int .i64 tg, vc, .string nm, .string s] 30)
  go_enter Try.func59, Try.ntmps59
  go_wp2_with fail
  go_ret
  exact ⟨by rw [HE.out, ← nil_dec]; rfl, hb⟩


theorem box_kept {w w1 : World} {cs : Array Value} {T : TypeId} (h : Below (w.alloc (.cells cs T)).heap.size (w.alloc (.cells cs T)) w1) : w1.heap[w.heap.size]? = some (.cells cs T (0, 0)) := by
  rw [h.block _ (by simp)]; show (w.heap.push _)[w.heap.size]? = _; simp
theorem box5 {W : World} {b : Nat} {T : TypeId} {c0 c1 c2 c3 c4 : Value} (h : W.heap[b]? = some (.cells #[c0, c1, c2, c3, c4] T (0, 0))) :
    W.cell? ⟨b, 0, none⟩ = some c0 ∧ W.cell? ⟨b, 1, none⟩ = some c1 ∧ W.cell? ⟨b, 2, none⟩ = some c2 ∧ W.cell? ⟨b, 3, none⟩ = some c3 ∧ W.cell? ⟨b, 4, none⟩ = some c4 := by
  simp [World.cell?, h]

set_option maxHeartbeats 4000000 in
theorem wrongWith_any (S : Nat → Prop) (n : Nat) (v : Value) (ca : Option Addr) (cc : Nat) (ns : List Nd) (o : Opn) (w : World) (hN : Nodes S w v ns) (hC : Trees S w n (.slice ca o.content.length cc) o.content) (hx : TextsN n o.content) (hn : o.name.size ≤ maxLen) (hs : o.s.size ≤ maxLen) :
    Calls Try.prog 27 #[v, .agg #[.int .i64 o.kind, .int .i64 o.target, .slice ca o.content.length cc, .string o.name, .string o.s]] w fun e w' => e = .returned (.int .i64 (wrongF ns o)) ∧ Below w.heap.size w w' := by
  have HC : Hid (∀ W, Below w.heap.size w W → Calls Try.prog 57 #[.agg #[.int .i64 o.kind, .int .i64 o.target, .slice ca o.content.length cc, .string o.name, .string o.s]] W fun e w' => e = .returned (.bool (contOk o)) ∧ Below W.heap.size W w') := fun W hW => rightContent_any S n ca cc o W (hC.later hW) hx
  have HM : Hid (∀ W, Calls Try.prog 58 #[.agg #[.int .i64 o.kind, .int .i64 o.target, .slice ca o.content.length cc, .string o.name, .string o.s]] W fun e w' => e = .returned (.bool (nameOk o)) ∧ Below W.heap.size W w') := fun W => rightName_any _ o W hn
  have HT : Hid (∀ W, Calls Try.prog 59 #[.agg #[.int .i64 o.kind, .int .i64 o.target, .slice ca o.content.length cc, .string o.name, .string o.s]] W fun e w' => e = .returned (.bool (textOk o)) ∧ Below W.heap.size W w') := fun W => rightS_any _ o W hs
  have HW : Hid (wrongF ns o = if decide (o.kind < 1) || decide (10 < o.kind) then 4
    else if decide (o.target < 0) || decide ((ns.length : Int) ≤ o.target) then 3
    else if !(contOk o) || !(nameOk o) || !(textOk o) then 1
    else if decide (o.target = 0) && placeB o.kind then 6
    else if textAt ns o.target && !(placeB o.kind) && !(decide (o.kind = 7)) then 4
    else 0) := rfl
  have HX : Hid (∀ i : Nat, textAt ns (i : Int) = match ns[i]? with
    | some x => x.text
    | none => false) := fun i => rfl
  have hb := Below.alloc1 w (.cells #[.int .i64 o.kind, .int .i64 o.target, .slice ca o.content.length cc, .string o.name, .string o.s] 30)
  have HN : Hid (Nodes S w v ns) := hN
  obtain ⟨na, nc, rfl, hnl, hnc, hnodes⟩ := hN
  clear hC hx hn hs hnodes
  generalize contOk o = bc at *
  generalize nameOk o = bn at *
  generalize textOk o = bt at *
  generalize wrongF ns o = R at *
  obtain ⟨k, tg, ct, nm, s⟩ := o
  dsimp only at *
  by_cases hk1 : k < 1
  · have HR : Hid (R = 4) := by show _ = _; rw [HW.out]; simp [hk1]
    clear HW
    go_enter Try.func27, Try.ntmps27
    go_wp2_with fail
    go_ret
    exact ⟨by rw [HR.out]; rfl, hb⟩
  by_cases hk2 : 10 < k
  · have HR : Hid (R = 4) := by show _ = _; rw [HW.out]; simp [hk2]
    clear HW
    go_enter Try.func27, Try.ntmps27
    go_wp2_with fail
    go_ret
    exact ⟨by rw [HR.out]; rfl, hb⟩
  by_cases ht1 : tg < 0
  · have HR : Hid (R = 3) := by show _ = _; rw [HW.out]; simp [hk1, hk2, ht1]
    clear HW
    go_enter Try.func27, Try.ntmps27
    go_wp2_with fail
    go_ret
    exact ⟨by rw [HR.out]; rfl, hb⟩
  by_cases ht2 : (ns.length : Int) ≤ tg
  · have HR : Hid (R = 3) := by show _ = _; rw [HW.out]; simp [hk1, hk2, ht2]
    clear HW
    go_enter Try.func27, Try.ntmps27
    go_wp2_with fail
    go_ret
    exact ⟨by rw [HR.out]; rfl, hb⟩
  have HR : Hid (R = if !bc || !bn || !bt then 1 else if decide (tg = 0) && placeB k then 6 else if textAt ns tg && !(placeB k) && !(decide (k = 7)) then 4 else 0) := by show _ = _; rw [HW.out]; simp [hk1, hk2, ht1, ht2]
  clear HW
  cases bc with
  | false =>
    go_enter Try.func27, Try.ntmps27
    go_wp2_with fail
    refine (HC.out _ hb).mono ?_
    rintro e w1 ⟨rfl, hb1⟩
    have hB1 := hb.trans (hb1.mono hb.size)
    have hz1 : w.heap.size < w1.heap.size := by have := hb1.size; simp at this; omega
    have HB1 : Hid (w1.heap[w.heap.size]? = some (.cells #[.int .i64 k, .int .i64 tg, .slice ca ct.length cc, .string nm, .string s] 30 (0, 0))) := box_kept hb1
    obtain ⟨x10, x11, x12, x13, x14⟩ := box5 HB1.out
    go_wp2_with fail
    go_ret
    exact ⟨by rw [HR.out]; rfl, hB1⟩
  | true =>
  cases bn with
  | false =>
    go_enter Try.func27, Try.ntmps27
    go_wp2_with fail
    refine (HC.out _ hb).mono ?_
    rintro e w1 ⟨rfl, hb1⟩
    have hB1 := hb.trans (hb1.mono hb.size)
    have hz1 : w.heap.size < w1.heap.size := by have := hb1.size; simp at this; omega
    have HB1 : Hid (w1.heap[w.heap.size]? = some (.cells #[.int .i64 k, .int .i64 tg, .slice ca ct.length cc, .string nm, .string s] 30 (0, 0))) := box_kept hb1
    obtain ⟨x10, x11, x12, x13, x14⟩ := box5 HB1.out
    go_wp2_with fail
    refine (HM.out _).mono ?_
    rintro e w2 ⟨rfl, hb2⟩
    have hB2 := hB1.trans (hb2.mono (by omega))
    have hz2 : w.heap.size < w2.heap.size := by have := hb2.size; omega
    have HB2 : Hid (w2.heap[w.heap.size]? = some (.cells #[.int .i64 k, .int .i64 tg, .slice ca ct.length cc, .string nm, .string s] 30 (0, 0))) := (hb2.block _ (by omega)).trans HB1.out
    clear x10 x11 x12 x13 x14
    obtain ⟨x20, x21, x22, x23, x24⟩ := box5 HB2.out
    go_wp2_with fail
    go_ret
    exact ⟨by rw [HR.out]; rfl, hB2⟩
  | true =>
  cases bt with
  | false =>
    go_enter Try.func27, Try.ntmps27
    go_wp2_with fail
    refine (HC.out _ hb).mono ?_
    rintro e w1 ⟨rfl, hb1⟩
    have hB1 := hb.trans (hb1.mono hb.size)
    have hz1 : w.heap.size < w1.heap.size := by have := hb1.size; simp at this; omega
    have HB1 : Hid (w1.heap[w.heap.size]? = some (.cells #[.int .i64 k, .int .i64 tg, .slice ca ct.length cc, .string nm, .string s] 30 (0, 0))) := box_kept hb1
    obtain ⟨x10, x11, x12, x13, x14⟩ := box5 HB1.out
    go_wp2_with fail
    refine (HM.out _).mono ?_
    rintro e w2 ⟨rfl, hb2⟩
    have hB2 := hB1.trans (hb2.mono (by omega))
    have hz2 : w.heap.size < w2.heap.size := by have := hb2.size; omega
    have HB2 : Hid (w2.heap[w.heap.size]? = some (.cells #[.int .i64 k, .int .i64 tg, .slice ca ct.length cc, .string nm, .string s] 30 (0, 0))) := (hb2.block _ (by omega)).trans HB1.out
    clear x10 x11 x12 x13 x14
    obtain ⟨x20, x21, x22, x23, x24⟩ := box5 HB2.out
    go_wp2_with fail
    refine (HT.out _).mono ?_
    rintro e w3 ⟨rfl, hb3⟩
    have hB3 := hB2.trans (hb3.mono (by omega))
    have hz3 : w.heap.size < w3.heap.size := by have := hb3.size; omega
    have HB3 : Hid (w3.heap[w.heap.size]? = some (.cells #[.int .i64 k, .int .i64 tg, .slice ca ct.length cc, .string nm, .string s] 30 (0, 0))) := (hb3.block _ (by omega)).trans HB2.out
    clear x20 x21 x22 x23 x24
    obtain ⟨x30, x31, x32, x33, x34⟩ := box5 HB3.out
    go_wp2_with fail
    go_ret
    exact ⟨by rw [HR.out]; rfl, hB3⟩
  | true =>
  have HR2 : Hid (R = if decide (tg = 0) && placeB k then 6 else if textAt ns tg && !(placeB k) && !(decide (k = 7)) then 4 else 0) := by show _ = _; rw [HR.out]; simp
  clear HR
  have HP : Hid (∀ W, Calls Try.prog 60 #[.int .i64 k] W fun e w' => e = .returned (.bool (placeB k)) ∧ w' = W) := fun W => ofPlace_any k W
  by_cases h0 : tg = 0
  · subst h0
    obtain ⟨x, hxi⟩ : ∃ x, ns[0]? = some x := ⟨ns[0]'(by omega), by simp⟩
    have HR3 : Hid (R = if placeB k then 6 else if x.text && !(placeB k) && !(decide (k = 7)) then 4 else 0) := by
      show _ = _
      have e : textAt ns 0 = x.text := by rw [show (0 : Int) = ((0 : Nat) : Int) from rfl, HX.out 0, hxi]
      rw [HR2.out, e]; simp
    obtain ⟨b, of, cap, va, vk, hv, _, _, hSb, hbw, c0, c1, c2, c3, c4, hAt, hKi⟩ := HN.out.at hxi
    clear HR2 HX HN c1 c2 c3 c4 hAt hKi hSb hxi
    injection hv with hv1 _ hv2
    subst hv1 hv2
    have hL0 : ¬ ns.length = 0 := by omega
    generalize ns.length = L at *
    generalize placeB k = pb at *
    cases pb with
    | true =>
      go_enter Try.func27, Try.ntmps27
      go_wp2_with fail
      refine (HC.out _ hb).mono ?_
      rintro e w1 ⟨rfl, hb1⟩
      have hB1 := hb.trans (hb1.mono hb.size)
      have hz1 : w.heap.size < w1.heap.size := by have := hb1.size; simp at this; omega
      have HB1 : Hid (w1.heap[w.heap.size]? = some (.cells #[.int .i64 k, .int .i64 0, .slice ca ct.length cc, .string nm, .string s] 30 (0, 0))) := box_kept hb1
      obtain ⟨x10, x11, x12, x13, x14⟩ := box5 HB1.out
      go_wp2_with fail
      refine (HM.out _).mono ?_
      rintro e w2 ⟨rfl, hb2⟩
      have hB2 := hB1.trans (hb2.mono (by omega))
      have hz2 : w.heap.size < w2.heap.size := by have := hb2.size; omega
      have HB2 : Hid (w2.heap[w.heap.size]? = some (.cells #[.int .i64 k, .int .i64 0, .slice ca ct.length cc, .string nm, .string s] 30 (0, 0))) := (hb2.block _ (by omega)).trans HB1.out
      clear x10 x11 x12 x13 x14
      obtain ⟨x20, x21, x22, x23, x24⟩ := box5 HB2.out
      go_wp2_with fail
      refine (HT.out _).mono ?_
      rintro e w3 ⟨rfl, hb3⟩
      have hB3 := hB2.trans (hb3.mono (by omega))
      have hz3 : w.heap.size < w3.heap.size := by have := hb3.size; omega
      have HB3 : Hid (w3.heap[w.heap.size]? = some (.cells #[.int .i64 k, .int .i64 0, .slice ca ct.length cc, .string nm, .string s] 30 (0, 0))) := (hb3.block _ (by omega)).trans HB2.out
      clear x20 x21 x22 x23 x24
      obtain ⟨x30, x31, x32, x33, x34⟩ := box5 HB3.out
      go_wp2_with fail
      refine (HP.out _).mono ?_
      rintro e w4 ⟨rfl, rfl⟩
      go_wp2_with fail
      go_ret
      exact ⟨by rw [HR3.out]; rfl, hB3⟩
    | false =>
      simp only [Nat.zero_mul, Nat.add_zero] at c0
      have d0 : Hid (∀ W, Below w.heap.size w W → W.cell? ⟨b, of, none⟩ = some (.bool x.text)) := fun W hW => (World.cell?_of_block (a := ⟨b, of, none⟩) (hW.block b hbw)).trans c0
      clear c0
      generalize x.text = tx at *
      cases tx with
      | false =>
        go_enter Try.func27, Try.ntmps27
        go_wp2_with fail
        refine (HC.out _ hb).mono ?_
        rintro e w1 ⟨rfl, hb1⟩
        have hB1 := hb.trans (hb1.mono hb.size)
        have hz1 : w.heap.size < w1.heap.size := by have := hb1.size; simp at this; omega
        have HB1 : Hid (w1.heap[w.heap.size]? = some (.cells #[.int .i64 k, .int .i64 0, .slice ca ct.length cc, .string nm, .string s] 30 (0, 0))) := box_kept hb1
        obtain ⟨x10, x11, x12, x13, x14⟩ := box5 HB1.out
        go_wp2_with fail
        refine (HM.out _).mono ?_
        rintro e w2 ⟨rfl, hb2⟩
        have hB2 := hB1.trans (hb2.mono (by omega))
        have hz2 : w.heap.size < w2.heap.size := by have := hb2.size; omega
        have HB2 : Hid (w2.heap[w.heap.size]? = some (.cells #[.int .i64 k, .int .i64 0, .slice ca ct.length cc, .string nm, .string s] 30 (0, 0))) := (hb2.block _ (by omega)).trans HB1.out
        clear x10 x11 x12 x13 x14
        obtain ⟨x20, x21, x22, x23, x24⟩ := box5 HB2.out
        go_wp2_with fail
        refine (HT.out _).mono ?_
        rintro e w3 ⟨rfl, hb3⟩
        have hB3 := hB2.trans (hb3.mono (by omega))
        have hz3 : w.heap.size < w3.heap.size := by have := hb3.size; omega
        have HB3 : Hid (w3.heap[w.heap.size]? = some (.cells #[.int .i64 k, .int .i64 0, .slice ca ct.length cc, .string nm, .string s] 30 (0, 0))) := (hb3.block _ (by omega)).trans HB2.out
        clear x20 x21 x22 x23 x24
        obtain ⟨x30, x31, x32, x33, x34⟩ := box5 HB3.out
        go_wp2_with fail
        refine (HP.out _).mono ?_
        rintro e w4 ⟨rfl, rfl⟩
        have e0 := d0.out _ hB3
        go_wp2_with fail
        go_ret
        exact ⟨by rw [HR3.out]; rfl, hB3⟩
      | true =>
        by_cases h7 : k = 7
        · subst h7
          go_enter Try.func27, Try.ntmps27
          go_wp2_with fail
          refine (HC.out _ hb).mono ?_
          rintro e w1 ⟨rfl, hb1⟩
          have hB1 := hb.trans (hb1.mono hb.size)
          have hz1 : w.heap.size < w1.heap.size := by have := hb1.size; simp at this; omega
          have HB1 : Hid (w1.heap[w.heap.size]? = some (.cells #[.int .i64 7, .int .i64 0, .slice ca ct.length cc, .string nm, .string s] 30 (0, 0))) := box_kept hb1
          obtain ⟨x10, x11, x12, x13, x14⟩ := box5 HB1.out
          go_wp2_with fail
          refine (HM.out _).mono ?_
          rintro e w2 ⟨rfl, hb2⟩
          have hB2 := hB1.trans (hb2.mono (by omega))
          have hz2 : w.heap.size < w2.heap.size := by have := hb2.size; omega
          have HB2 : Hid (w2.heap[w.heap.size]? = some (.cells #[.int .i64 7, .int .i64 0, .slice ca ct.length cc, .string nm, .string s] 30 (0, 0))) := (hb2.block _ (by omega)).trans HB1.out
          clear x10 x11 x12 x13 x14
          obtain ⟨x20, x21, x22, x23, x24⟩ := box5 HB2.out
          go_wp2_with fail
          refine (HT.out _).mono ?_
          rintro e w3 ⟨rfl, hb3⟩
          have hB3 := hB2.trans (hb3.mono (by omega))
          have hz3 : w.heap.size < w3.heap.size := by have := hb3.size; omega
          have HB3 : Hid (w3.heap[w.heap.size]? = some (.cells #[.int .i64 7, .int .i64 0, .slice ca ct.length cc, .string nm, .string s] 30 (0, 0))) := (hb3.block _ (by omega)).trans HB2.out
          clear x20 x21 x22 x23 x24
          obtain ⟨x30, x31, x32, x33, x34⟩ := box5 HB3.out
          go_wp2_with fail
          refine (HP.out _).mono ?_
          rintro e w4 ⟨rfl, rfl⟩
          have e0 := d0.out _ hB3
          go_wp2_with fail
          refine (HP.out _).mono ?_
          rintro e w5 ⟨rfl, rfl⟩
          go_wp2_with fail
          go_ret
          exact ⟨by rw [HR3.out]; rfl, hB3⟩
        · have HR4 : Hid (R = 4) := by show _ = _; rw [HR3.out]; simp [h7]
          have b7 : (k == 7) = false := by simpa using h7
          clear HR3 h7
          go_enter Try.func27, Try.ntmps27
          go_wp2_with fail
          refine (HC.out _ hb).mono ?_
          rintro e w1 ⟨rfl, hb1⟩
          have hB1 := hb.trans (hb1.mono hb.size)
          have hz1 : w.heap.size < w1.heap.size := by have := hb1.size; simp at this; omega
          have HB1 : Hid (w1.heap[w.heap.size]? = some (.cells #[.int .i64 k, .int .i64 0, .slice ca ct.length cc, .string nm, .string s] 30 (0, 0))) := box_kept hb1
          obtain ⟨x10, x11, x12, x13, x14⟩ := box5 HB1.out
          go_wp2_with fail
          refine (HM.out _).mono ?_
          rintro e w2 ⟨rfl, hb2⟩
          have hB2 := hB1.trans (hb2.mono (by omega))
          have hz2 : w.heap.size < w2.heap.size := by have := hb2.size; omega
          have HB2 : Hid (w2.heap[w.heap.size]? = some (.cells #[.int .i64 k, .int .i64 0, .slice ca ct.length cc, .string nm, .string s] 30 (0, 0))) := (hb2.block _ (by omega)).trans HB1.out
          clear x10 x11 x12 x13 x14
          obtain ⟨x20, x21, x22, x23, x24⟩ := box5 HB2.out
          go_wp2_with fail
          refine (HT.out _).mono ?_
          rintro e w3 ⟨rfl, hb3⟩
          have hB3 := hB2.trans (hb3.mono (by omega))
          have hz3 : w.heap.size < w3.heap.size := by have := hb3.size; omega
          have HB3 : Hid (w3.heap[w.heap.size]? = some (.cells #[.int .i64 k, .int .i64 0, .slice ca ct.length cc, .string nm, .string s] 30 (0, 0))) := (hb3.block _ (by omega)).trans HB2.out
          clear x20 x21 x22 x23 x24
          obtain ⟨x30, x31, x32, x33, x34⟩ := box5 HB3.out
          go_wp2_with fail
          refine (HP.out _).mono ?_
          rintro e w4 ⟨rfl, rfl⟩
          have e0 := d0.out _ hB3
          go_wp2_with fail
          refine (HP.out _).mono ?_
          rintro e w5 ⟨rfl, rfl⟩
          go_wp2_with fail
          go_ret
          exact ⟨by rw [HR4.out]; rfl, hB3⟩
  · obtain ⟨i, rfl⟩ : ∃ i : Nat, tg = (i : Int) := ⟨tg.toNat, by omega⟩
    have hil : i < ns.length := by omega
    obtain ⟨x, hxi⟩ : ∃ x, ns[i]? = some x := ⟨ns[i], by simp [hil]⟩
    have HR3 : Hid (R = if x.text && !(placeB k) && !(decide (k = 7)) then 4 else 0) := by
      show _ = _
      rw [HR2.out, HX.out i, hxi, decide_eq_false h0]; simp
    obtain ⟨b, of, cap, va, vk, hv, _, _, hSb, hbw, c0, c1, c2, c3, c4, hAt, hKi⟩ := HN.out.at hxi
    clear HR2 HX HN c1 c2 c3 c4 hAt hKi hSb hxi
    injection hv with hv1 _ hv2
    subst hv1 hv2
    have d0 : Hid (∀ W, Below w.heap.size w W → W.cell? ⟨b, of + i * 5, none⟩ = some (.bool x.text)) := fun W hW => (World.cell?_of_block (a := ⟨b, of + i * 5, none⟩) (hW.block b hbw)).trans c0
    have hi0 : ((i : Int) == 0) = false := by simpa using h0
    clear c0 h0
    generalize ns.length = L at *
    generalize placeB k = pb at *
    generalize x.text = tx at *
    cases tx with
    | false =>
      go_enter Try.func27, Try.ntmps27
      go_wp2_with fail
      refine (HC.out _ hb).mono ?_
      rintro e w1 ⟨rfl, hb1⟩
      have hB1 := hb.trans (hb1.mono hb.size)
      have hz1 : w.heap.size < w1.heap.size := by have := hb1.size; simp at this; omega
      have HB1 : Hid (w1.heap[w.heap.size]? = some (.cells #[.int .i64 k, .int .i64 (i : Int), .slice ca ct.length cc, .string nm, .string s] 30 (0, 0))) := box_kept hb1
      obtain ⟨x10, x11, x12, x13, x14⟩ := box5 HB1.out
      go_wp2_with fail
      refine (HM.out _).mono ?_
      rintro e w2 ⟨rfl, hb2⟩
      have hB2 := hB1.trans (hb2.mono (by omega))
      have hz2 : w.heap.size < w2.heap.size := by have := hb2.size; omega
      have HB2 : Hid (w2.heap[w.heap.size]? = some (.cells #[.int .i64 k, .int .i64 (i : Int), .slice ca ct.length cc, .string nm, .string s] 30 (0, 0))) := (hb2.block _ (by omega)).trans HB1.out
      clear x10 x11 x12 x13 x14
      obtain ⟨x20, x21, x22, x23, x24⟩ := box5 HB2.out
      go_wp2_with fail
      refine (HT.out _).mono ?_
      rintro e w3 ⟨rfl, hb3⟩
      have hB3 := hB2.trans (hb3.mono (by omega))
      have hz3 : w.heap.size < w3.heap.size := by have := hb3.size; omega
      have e0 := d0.out _ hB3
      have HB3 : Hid (w3.heap[w.heap.size]? = some (.cells #[.int .i64 k, .int .i64 (i : Int), .slice ca ct.length cc, .string nm, .string s] 30 (0, 0))) := (hb3.block _ (by omega)).trans HB2.out
      clear x20 x21 x22 x23 x24
      obtain ⟨x30, x31, x32, x33, x34⟩ := box5 HB3.out
      go_wp2_with fail
      go_ret
      exact ⟨by rw [HR3.out]; rfl, hB3⟩
    | true =>
      cases pb with
      | true =>
        go_enter Try.func27, Try.ntmps27
        go_wp2_with fail
        refine (HC.out _ hb).mono ?_
        rintro e w1 ⟨rfl, hb1⟩
        have hB1 := hb.trans (hb1.mono hb.size)
        have hz1 : w.heap.size < w1.heap.size := by have := hb1.size; simp at this; omega
        have HB1 : Hid (w1.heap[w.heap.size]? = some (.cells #[.int .i64 k, .int .i64 (i : Int), .slice ca ct.length cc, .string nm, .string s] 30 (0, 0))) := box_kept hb1
        obtain ⟨x10, x11, x12, x13, x14⟩ := box5 HB1.out
        go_wp2_with fail
        refine (HM.out _).mono ?_
        rintro e w2 ⟨rfl, hb2⟩
        have hB2 := hB1.trans (hb2.mono (by omega))
        have hz2 : w.heap.size < w2.heap.size := by have := hb2.size; omega
        have HB2 : Hid (w2.heap[w.heap.size]? = some (.cells #[.int .i64 k, .int .i64 (i : Int), .slice ca ct.length cc, .string nm, .string s] 30 (0, 0))) := (hb2.block _ (by omega)).trans HB1.out
        clear x10 x11 x12 x13 x14
        obtain ⟨x20, x21, x22, x23, x24⟩ := box5 HB2.out
        go_wp2_with fail
        refine (HT.out _).mono ?_
        rintro e w3 ⟨rfl, hb3⟩
        have hB3 := hB2.trans (hb3.mono (by omega))
        have hz3 : w.heap.size < w3.heap.size := by have := hb3.size; omega
        have e0 := d0.out _ hB3
        have HB3 : Hid (w3.heap[w.heap.size]? = some (.cells #[.int .i64 k, .int .i64 (i : Int), .slice ca ct.length cc, .string nm, .string s] 30 (0, 0))) := (hb3.block _ (by omega)).trans HB2.out
        clear x20 x21 x22 x23 x24
        obtain ⟨x30, x31, x32, x33, x34⟩ := box5 HB3.out
        go_wp2_with fail
        refine (HP.out _).mono ?_
        rintro e w5 ⟨rfl, rfl⟩
        go_wp2_with fail
        go_ret
        exact ⟨by rw [HR3.out]; rfl, hB3⟩
      | false =>
        by_cases h7 : k = 7
        · subst h7
          go_enter Try.func27, Try.ntmps27
          go_wp2_with fail
          refine (HC.out _ hb).mono ?_
          rintro e w1 ⟨rfl, hb1⟩
          have hB1 := hb.trans (hb1.mono hb.size)
          have hz1 : w.heap.size < w1.heap.size := by have := hb1.size; simp at this; omega
          have HB1 : Hid (w1.heap[w.heap.size]? = some (.cells #[.int .i64 7, .int .i64 (i : Int), .slice ca ct.length cc, .string nm, .string s] 30 (0, 0))) := box_kept hb1
          obtain ⟨x10, x11, x12, x13, x14⟩ := box5 HB1.out
          go_wp2_with fail
          refine (HM.out _).mono ?_
          rintro e w2 ⟨rfl, hb2⟩
          have hB2 := hB1.trans (hb2.mono (by omega))
          have hz2 : w.heap.size < w2.heap.size := by have := hb2.size; omega
          have HB2 : Hid (w2.heap[w.heap.size]? = some (.cells #[.int .i64 7, .int .i64 (i : Int), .slice ca ct.length cc, .string nm, .string s] 30 (0, 0))) := (hb2.block _ (by omega)).trans HB1.out
          clear x10 x11 x12 x13 x14
          obtain ⟨x20, x21, x22, x23, x24⟩ := box5 HB2.out
          go_wp2_with fail
          refine (HT.out _).mono ?_
          rintro e w3 ⟨rfl, hb3⟩
          have hB3 := hB2.trans (hb3.mono (by omega))
          have hz3 : w.heap.size < w3.heap.size := by have := hb3.size; omega
          have e0 := d0.out _ hB3
          have HB3 : Hid (w3.heap[w.heap.size]? = some (.cells #[.int .i64 7, .int .i64 (i : Int), .slice ca ct.length cc, .string nm, .string s] 30 (0, 0))) := (hb3.block _ (by omega)).trans HB2.out
          clear x20 x21 x22 x23 x24
          obtain ⟨x30, x31, x32, x33, x34⟩ := box5 HB3.out
          go_wp2_with fail
          refine (HP.out _).mono ?_
          rintro e w5 ⟨rfl, rfl⟩
          go_wp2_with fail
          go_ret
          exact ⟨by rw [HR3.out]; rfl, hB3⟩
        · have HR4 : Hid (R = 4) := by show _ = _; rw [HR3.out]; simp [h7]
          have b7 : (k == 7) = false := by simpa using h7
          clear HR3 h7
          go_enter Try.func27, Try.ntmps27
          go_wp2_with fail
          refine (HC.out _ hb).mono ?_
          rintro e w1 ⟨rfl, hb1⟩
          have hB1 := hb.trans (hb1.mono hb.size)
          have hz1 : w.heap.size < w1.heap.size := by have := hb1.size; simp at this; omega
          have HB1 : Hid (w1.heap[w.heap.size]? = some (.cells #[.int .i64 k, .int .i64 (i : Int), .slice ca ct.length cc, .string nm, .string s] 30 (0, 0))) := box_kept hb1
          obtain ⟨x10, x11, x12, x13, x14⟩ := box5 HB1.out
          go_wp2_with fail
          refine (HM.out _).mono ?_
          rintro e w2 ⟨rfl, hb2⟩
          have hB2 := hB1.trans (hb2.mono (by omega))
          have hz2 : w.heap.size < w2.heap.size := by have := hb2.size; omega
          have HB2 : Hid (w2.heap[w.heap.size]? = some (.cells #[.int .i64 k, .int .i64 (i : Int), .slice ca ct.length cc, .string nm, .string s] 30 (0, 0))) := (hb2.block _ (by omega)).trans HB1.out
          clear x10 x11 x12 x13 x14
          obtain ⟨x20, x21, x22, x23, x24⟩ := box5 HB2.out
          go_wp2_with fail
          refine (HT.out _).mono ?_
          rintro e w3 ⟨rfl, hb3⟩
          have hB3 := hB2.trans (hb3.mono (by omega))
          have hz3 : w.heap.size < w3.heap.size := by have := hb3.size; omega
          have e0 := d0.out _ hB3
          have HB3 : Hid (w3.heap[w.heap.size]? = some (.cells #[.int .i64 k, .int .i64 (i : Int), .slice ca ct.length cc, .string nm, .string s] 30 (0, 0))) := (hb3.block _ (by omega)).trans HB2.out
          clear x20 x21 x22 x23 x24
          obtain ⟨x30, x31, x32, x33, x34⟩ := box5 HB3.out
          go_wp2_with fail
          refine (HP.out _).mono ?_
          rintro e w5 ⟨rfl, rfl⟩
          go_wp2_with fail
          go_ret
          exact ⟨by rw [HR4.out]; rfl, hB3⟩

end Go.Proofs.Ytlchbhlmbphkpaa

/- change.Against: whether two changes go against one another. No condition. -/
namespace Go.Proofs.Ytlchbhlmbphkpaa
open Go.ChangeShapes Go.WideShapes Go.ChangeAt Go.RowKit
set_option maxRecDepth 100000

attribute [local go_sem] cell_set


set_option maxHeartbeats 4000000 in
theorem against_any (a b : Opn) (va vb : Value) (w : World) :
    Calls Try.prog 30 #[.agg #[.int .i64 a.kind, .int .i64 a.target, va, .string a.name, .string a.s], .agg #[.int .i64 b.kind, .int .i64 b.target, vb, .string b.name, .string b.s]] w fun e w' => e = .returned (.bool (agB a b)) ∧ Below w.heap.size w w' := by
  have HA : Hid (agB a b = (decide (a.target = b.target) && ((decide (a.kind = 6) && decide (b.kind = 6)) || (decide (a.kind = 7) && decide (b.kind = 7)) || (decide (a.kind = 8) && decide (b.kind = 8)) ||
    ((decide (a.kind = 9) || decide (a.kind = 10)) && (decide (b.kind = 9) || decide (b.kind = 10)) && decide (a.name = b.name))))) := rfl
  have hb := (Below.alloc1 w (.cells #[.int .i64 a.kind, .int .i64 a.target, va, .string a.name, .string a.s] 30)).alloc (by simp) (.cells #[.int .i64 b.kind, .int .i64 b.target, vb, .string b.name, .string b.s] 30)
  generalize agB a b = R at *
  obtain ⟨k, tg, ct, nm, s⟩ := a
  obtain ⟨k', tg', ct', nm', s'⟩ := b
  dsimp only at *
  by_cases ht : tg = tg'
  · subst ht
    by_cases h6 : k = 6
    · subst h6
      by_cases g : k' = 6
      · subst g
        have HR : Hid (R = true) := by show _ = _; rw [HA.out]; simp
        clear HA
        go_enter Try.func30, Try.ntmps30
        go_wp2_with fail
        go_ret
        exact ⟨by rw [HR.out]; rfl, hb⟩
      · have HR : Hid (R = false) := by show _ = _; rw [HA.out]; simp [g]
        have b1 : (k' == 6) = false := by simpa using g
        have b2 : ((6 : Int) == k') = false := by simpa using fun e => g e.symm
        clear HA g
        go_enter Try.func30, Try.ntmps30
        go_wp2_with fail
        go_ret
        exact ⟨by rw [HR.out]; rfl, hb⟩
    by_cases h7 : k = 7
    · subst h7
      by_cases g : k' = 7
      · subst g
        have HR : Hid (R = true) := by show _ = _; rw [HA.out]; simp
        clear HA
        go_enter Try.func30, Try.ntmps30
        go_wp2_with fail
        go_ret
        exact ⟨by rw [HR.out]; rfl, hb⟩
      · have HR : Hid (R = false) := by show _ = _; rw [HA.out]; simp [g]
        have b1 : (k' == 7) = false := by simpa using g
        have b2 : ((7 : Int) == k') = false := by simpa using fun e => g e.symm
        clear HA g
        go_enter Try.func30, Try.ntmps30
        go_wp2_with fail
        go_ret
        exact ⟨by rw [HR.out]; rfl, hb⟩
    by_cases h8 : k = 8
    · subst h8
      by_cases g : k' = 8
      · subst g
        have HR : Hid (R = true) := by show _ = _; rw [HA.out]; simp
        clear HA
        go_enter Try.func30, Try.ntmps30
        go_wp2_with fail
        go_ret
        exact ⟨by rw [HR.out]; rfl, hb⟩
      · have HR : Hid (R = false) := by show _ = _; rw [HA.out]; simp [g]
        have b1 : (k' == 8) = false := by simpa using g
        have b2 : ((8 : Int) == k') = false := by simpa using fun e => g e.symm
        clear HA g
        go_enter Try.func30, Try.ntmps30
        go_wp2_with fail
        go_ret
        exact ⟨by rw [HR.out]; rfl, hb⟩
    by_cases h9 : k = 9
    · subst h9
      by_cases g9 : k' = 9
      · subst g9
        have HR : Hid (R = decide (nm = nm')) := by show _ = _; rw [HA.out]; simp
        clear HA
        go_enter Try.func30, Try.ntmps30
        go_wp2_with fail
        go_ret
        exact ⟨by rw [HR.out, bytes_dec]; rfl, hb⟩
      by_cases g10 : k' = 10
      · subst g10
        have HR : Hid (R = decide (nm = nm')) := by show _ = _; rw [HA.out]; simp
        clear HA
        go_enter Try.func30, Try.ntmps30
        go_wp2_with fail
        go_ret
        exact ⟨by rw [HR.out, bytes_dec]; rfl, hb⟩
      have HR : Hid (R = false) := by show _ = _; rw [HA.out]; simp [g9, g10]
      have b1 : (k' == 9) = false := by simpa using g9
      have b2 : (k' == 10) = false := by simpa using g10
      clear HA g9 g10
      go_enter Try.func30, Try.ntmps30
      go_wp2_with fail
      go_ret
      exact ⟨by rw [HR.out]; rfl, hb⟩
    by_cases h10 : k = 10
    · subst h10
      by_cases g9 : k' = 9
      · subst g9
        have HR : Hid (R = decide (nm = nm')) := by show _ = _; rw [HA.out]; simp
        clear HA
        go_enter Try.func30, Try.ntmps30
        go_wp2_with fail
        go_ret
        exact ⟨by rw [HR.out, bytes_dec]; rfl, hb⟩
      by_cases g10 : k' = 10
      · subst g10
        have HR : Hid (R = decide (nm = nm')) := by show _ = _; rw [HA.out]; simp
        clear HA
        go_enter Try.func30, Try.ntmps30
        go_wp2_with fail
        go_ret
        exact ⟨by rw [HR.out, bytes_dec]; rfl, hb⟩
      have HR : Hid (R = false) := by show _ = _; rw [HA.out]; simp [g9, g10]
      have b1 : (k' == 9) = false := by simpa using g9
      have b2 : (k' == 10) = false := by simpa using g10
      clear HA g9 g10
      go_enter Try.func30, Try.ntmps30
      go_wp2_with fail
      go_ret
      exact ⟨by rw [HR.out]; rfl, hb⟩
    have HR : Hid (R = false) := by show _ = _; rw [HA.out]; simp [h6, h7, h8, h9, h10]
    have b6 : (k == 6) = false := by simpa using h6
    have b7 : (k == 7) = false := by simpa using h7
    have b8 : (k == 8) = false := by simpa using h8
    have b9 : (k == 9) = false := by simpa using h9
    have b10 : (k == 10) = false := by simpa using h10
    clear HA h6 h7 h8 h9 h10
    go_enter Try.func30, Try.ntmps30
    go_wp2_with fail
    go_ret
    exact ⟨by rw [HR.out]; rfl, hb⟩
  · have HR : Hid (R = false) := by show _ = _; rw [HA.out, decide_eq_false ht]; rfl
    have b1 : (tg == tg') = false := by simpa using ht
    clear HA ht
    go_enter Try.func30, Try.ntmps30
    go_wp2_with fail
    go_ret
    exact ⟨by rw [HR.out]; rfl, hb⟩
end Go.Proofs.Ytlchbhlmbphkpaa

/- topiarykeep.sameNumbers and sameDoc say true of what is the same. No condition. -/
namespace Go.Proofs.Ytlchbhlmbphkpaa
open Go.ChangeShapes Go.WideShapes Go.ChangeAt Go.RowKit
set_option maxRecDepth 100000

attribute [local go_sem] cell_set

theorem sameNumbers_any (S T : Nat → Prop) (va vb : Value) (l : List Int) (w : World) (h1 : Ints S w va l) (h2 : Ints T w vb l) :
    Calls Try.prog 23 #[va, vb] w fun e w' => e = .returned (.bool true) ∧ Below w.heap.size w w' := by
  obtain ⟨aa, ac, rfl, ha, hac⟩ := h1.shape
  obtain ⟨ba, bc, rfl, hb, hbc⟩ := h2.shape
  unfold maxLen at hac hbc
  have H1 : Hid _ := h1
  have H2 : Hid _ := h2
  clear h1 h2
  go_enter Try.func23, Try.ntmps23
  go_wp2_with fail
  go_loopg [13] l.length (fun g i wr => ∃ k : Nat, k + g = l.length ∧ i = .int .i64 k ∧ Below w.heap.size w wr)
  case atStart => exact ⟨0, by omega, rfl, Below.refl _ _⟩
  case round =>
    obtain ⟨k, hk, rfl, hB⟩ := hrel
    by_cases hlt : k < l.length
    · obtain ⟨x, hx⟩ : ∃ x, l[k]? = some x := ⟨l[k], by simp [hlt]⟩
      obtain ⟨b1, o1, c1, hv1, _, _, e1⟩ := (Ints.later H1.out hB).at hx
      obtain ⟨b2, o2, c2, hv2, _, _, e2⟩ := (Ints.later H2.out hB).at hx
      injection hv1 with hv1 _ hv1c
      injection hv2 with hv2 _ hv2c
      subst hv1 hv1c hv2 hv2c
      have hlti : (k : Int) < (l.length : Int) := by omega
      clear hx
      go_wp2_with fail
      go_quiet (fail)
      go_wp2_with fail
      go_roundg (l.length - (k + 1))
      case measure => omega
      case rel => exact ⟨k + 1, by omega, by go_num, below_drewN hB nq⟩
    · have hili : ¬ ((k : Int) < (l.length : Int)) := by omega
      go_wp2_with fail
      go_ret
      exact ⟨rfl, hB⟩

/-- The two documents' boxes. -/
structure SB (w : World) (va vb : Value) (W : World) : Prop where
  below : Below w.heap.size w W
  one : W.heap[w.heap.size]? = some (.cells #[va] 24 (0, 0))
  two : W.heap[w.heap.size + 1]? = some (.cells #[vb] 24 (0, 0))

theorem SB.later {w : World} {va vb : Value} {W W' : World} (h : SB w va vb W) (hb : Below W.heap.size W W') : SB w va vb W' :=
  ⟨h.below.trans (hb.mono h.below.size), (hb.block _ (blk_lt h.one)).trans h.one, (hb.block _ (blk_lt h.two)).trans h.two⟩

theorem two_boxes (w : World) (o1 o2 : Obj) : (∀ n, n ≤ w.heap.size → Below n w ((w.alloc o1).alloc o2).drew) ∧ ((w.alloc o1).alloc o2).drew.heap[w.heap.size]? = some o1 ∧ ((w.alloc o1).alloc o2).drew.heap[w.heap.size + 1]? = some o2 := by
  refine ⟨fun n hn => (((Below.refl n w).alloc hn _).alloc (by simp; omega) _).drew, ?_, ?_⟩
  · show ((w.alloc o1).alloc o2).heap[w.heap.size]? = some o1
    rw [heap_alloc_old _ _ (by simp)]; exact heap_alloc_new _ _
  · show ((w.alloc o1).alloc o2).heap[w.heap.size + 1]? = some o2
    have e := heap_alloc_new (w.alloc o1) o2
    rw [World.size_alloc] at e
    exact e

theorem two_swap {p q r : Prop} (h : p ∧ q ∧ r) : p ∧ r ∧ q := ⟨h.1, h.2.2, h.2.1⟩

set_option maxHeartbeats 2000000 in
theorem sameDoc_any (S T : Nat → Prop) (va vb : Value) (ns : List Nd) (w : World) (h1 : Nodes S w va ns) (h2 : Nodes T w vb ns) :
    Calls Try.prog 11 #[.agg #[va], .agg #[vb]] w fun e w' => e = .returned (.bool true) ∧ Below w.heap.size w w' := by
  obtain ⟨aa, ac, rfl, ha, hac⟩ := h1.shape
  obtain ⟨ba, bc, rfl, hb, hbc⟩ := h2.shape
  unfold maxLen at hac hbc
  have H1 : Hid _ := h1
  have H2 : Hid _ := h2
  clear h1 h2
  have HP0 : Hid (SB w (.slice aa ns.length ac) (.slice ba ns.length bc) ((w.alloc (.cells #[.slice aa ns.length ac] 24)).alloc (.cells #[.slice ba ns.length bc] 24))) := by
    refine ⟨(Below.alloc1 w _).alloc (by simp) _, ?_, ?_⟩
    · rw [Lib.alloc_old _ _ _ (by simp)]; exact heap_alloc_new _ _
    · have e := heap_alloc_new (w.alloc (.cells #[.slice aa ns.length ac] 24)) (.cells #[.slice ba ns.length bc] 24)
      rw [World.size_alloc] at e
      exact e
  go_enter Try.func11, Try.ntmps11
  go_wp2_with fail
  go_loopg [19] ns.length (fun g i wr => ∃ k : Nat, k + g = ns.length ∧ i = .int .i64 k ∧ SB w (.slice aa ns.length ac) (.slice ba ns.length bc) wr)
  case atStart => exact ⟨0, by omega, rfl, HP0.out⟩
  case round =>
    obtain ⟨k, hk, rfl, hP⟩ := hrel
    have HP : Hid _ := hP
    clear hP HP0
    by_cases hlt : k < ns.length
    · obtain ⟨x, hx⟩ : ∃ x, ns[k]? = some x := ⟨ns[k], by simp [hlt]⟩
      obtain ⟨b1, o1, c1, va1, vk1, hv1, _, _, _, hl1, p0, p1, p2, p3, p4, hA1, hK1⟩ := (Nodes.later H1.out HP.out.below).at hx
      obtain ⟨b2, o2, c2, va2, vk2, hv2, _, _, _, hl2, q0, q1, q2, q3, q4, hA2, hK2⟩ := (Nodes.later H2.out HP.out.below).at hx
      injection hv1 with hv1 _ hv1c
      injection hv2 with hv2 _ hv2c
      subst hv1 hv1c hv2 hv2c
      obtain ⟨a1, e1, rfl⟩ := hA1.shape
      obtain ⟨a2, e2, rfl⟩ := hA2.shape
      obtain ⟨k1, f1, rfl, _, hf1⟩ := hK1.shape
      obtain ⟨k2, f2, rfl, _, hf2⟩ := hK2.shape
      have hlti : (k : Int) < (ns.length : Int) := by omega
      have u1 : wr.cell? ⟨w.heap.size, 0, none⟩ = some (.slice (some ⟨b1, o1, none⟩) ns.length ac) := by rw [Lib.cell_of_heap HP.out.one]; rfl
      have u2 : wr.cell? ⟨w.heap.size + 1, 0, none⟩ = some (.slice (some ⟨b2, o2, none⟩) ns.length bc) := by rw [Lib.cell_of_heap HP.out.two]; rfl
      have hz := blk_lt HP.out.two
      have HSS : Hid (∀ W' : World, Below wr.heap.size wr W' → W'.cell? ⟨w.heap.size, 0, none⟩ = some (.slice (some ⟨b1, o1, none⟩) ns.length ac) ∧ W'.cell? ⟨w.heap.size + 1, 0, none⟩ = some (.slice (some ⟨b2, o2, none⟩) ns.length bc) ∧
          (W'.cell? ⟨b1, o1 + k * 5, none⟩ = some (.bool x.text) ∧ W'.cell? ⟨b1, o1 + k * 5 + 1, none⟩ = some (.string x.s) ∧ W'.cell? ⟨b1, o1 + k * 5 + 2, none⟩ = some (.slice a1 x.attrs.length e1) ∧ W'.cell? ⟨b1, o1 + k * 5 + 3, none⟩ = some (.int .i64 x.parent) ∧ W'.cell? ⟨b1, o1 + k * 5 + 4, none⟩ = some (.slice k1 x.kids.length f1)) ∧
          (W'.cell? ⟨b2, o2 + k * 5, none⟩ = some (.bool x.text) ∧ W'.cell? ⟨b2, o2 + k * 5 + 1, none⟩ = some (.string x.s) ∧ W'.cell? ⟨b2, o2 + k * 5 + 2, none⟩ = some (.slice a2 x.attrs.length e2) ∧ W'.cell? ⟨b2, o2 + k * 5 + 3, none⟩ = some (.int .i64 x.parent) ∧ W'.cell? ⟨b2, o2 + k * 5 + 4, none⟩ = some (.slice k2 x.kids.length f2))) := by
        intro W' hb'
        refine ⟨(hb'.cell (p := ⟨w.heap.size, 0, none⟩) (by show w.heap.size < wr.heap.size; omega)).trans u1, (hb'.cell (p := ⟨w.heap.size + 1, 0, none⟩) hz).trans u2, ⟨?_, ?_, ?_, ?_, ?_⟩, ?_, ?_, ?_, ?_, ?_⟩
        · exact (hb'.cell (p := ⟨b1, _, none⟩) hl1).trans p0
        · exact (hb'.cell (p := ⟨b1, _, none⟩) hl1).trans p1
        · exact (hb'.cell (p := ⟨b1, _, none⟩) hl1).trans p2
        · exact (hb'.cell (p := ⟨b1, _, none⟩) hl1).trans p3
        · exact (hb'.cell (p := ⟨b1, _, none⟩) hl1).trans p4
        · exact (hb'.cell (p := ⟨b2, _, none⟩) hl2).trans q0
        · exact (hb'.cell (p := ⟨b2, _, none⟩) hl2).trans q1
        · exact (hb'.cell (p := ⟨b2, _, none⟩) hl2).trans q2
        · exact (hb'.cell (p := ⟨b2, _, none⟩) hl2).trans q3
        · exact (hb'.cell (p := ⟨b2, _, none⟩) hl2).trans q4
      have HKP : Hid (∀ W' : World, Below wr.heap.size wr W' → SB w (.slice (some ⟨b1, o1, none⟩) ns.length ac) (.slice (some ⟨b2, o2, none⟩) ns.length bc) W' ∧ Attrs S W' (.slice a1 x.attrs.length e1) x.attrs ∧ Attrs T W' (.slice a2 x.attrs.length e2) x.attrs ∧ Ints S W' (.slice k1 x.kids.length f1) x.kids ∧ Ints T W' (.slice k2 x.kids.length f2) x.kids) := fun W' hb' => ⟨HP.out.later hb', hA1.later hb', hA2.later hb', hK1.later hb', hK2.later hb'⟩
      have HA1 : Hid _ := hA1
      have HA2 : Hid _ := hA2
      have HK1 : Hid _ := hK1
      have HK2 : Hid _ := hK2
      clear hx hA1 hA2 hK1 hK2
      go_wp2_with fail
      go_region_held3 (fun W' : World => W'.cell? ⟨w.heap.size, 0, none⟩ = some (.slice (some ⟨b1, o1, none⟩) ns.length ac) ∧ W'.cell? ⟨w.heap.size + 1, 0, none⟩ = some (.slice (some ⟨b2, o2, none⟩) ns.length bc) ∧
          (W'.cell? ⟨b1, o1 + k * 5, none⟩ = some (.bool x.text) ∧ W'.cell? ⟨b1, o1 + k * 5 + 1, none⟩ = some (.string x.s) ∧ W'.cell? ⟨b1, o1 + k * 5 + 2, none⟩ = some (.slice a1 x.attrs.length e1) ∧ W'.cell? ⟨b1, o1 + k * 5 + 3, none⟩ = some (.int .i64 x.parent) ∧ W'.cell? ⟨b1, o1 + k * 5 + 4, none⟩ = some (.slice k1 x.kids.length f1)) ∧
          (W'.cell? ⟨b2, o2 + k * 5, none⟩ = some (.bool x.text) ∧ W'.cell? ⟨b2, o2 + k * 5 + 1, none⟩ = some (.string x.s) ∧ W'.cell? ⟨b2, o2 + k * 5 + 2, none⟩ = some (.slice a2 x.attrs.length e2) ∧ W'.cell? ⟨b2, o2 + k * 5 + 3, none⟩ = some (.int .i64 x.parent) ∧ W'.cell? ⟨b2, o2 + k * 5 + 4, none⟩ = some (.slice k2 x.kids.length f2)))
        ((refine HSS.out _ ?_; repeat' (first | exact Below.refl _ wr | refine Below.drew ?_ | refine Below.alloc ?_ ?_ _ | refine Below.setCell ?_ ?_ _ | (simp; done) | (simp; omega))))
        (fail)
      all_goals
        first
          | (change Exit.then _ _ _ _ ((wr.alloc (.cells #[.bool x.text, .string x.s, .slice a1 x.attrs.length e1, .int .i64 x.parent, .slice k1 x.kids.length f1] 42)).alloc (.cells #[.bool x.text, .string x.s, .slice a2 x.attrs.length e2, .int .i64 x.parent, .slice k2 x.kids.length f2] 42)).drew
             have HH : Hid _ := two_boxes wr (.cells #[.bool x.text, .string x.s, .slice a1 x.attrs.length e1, .int .i64 x.parent, .slice k1 x.kids.length f1] 42) (.cells #[.bool x.text, .string x.s, .slice a2 x.attrs.length e2, .int .i64 x.parent, .slice k2 x.kids.length f2] 42)
             have HQ : Hid _ := HKP.out _ (HH.out.1 _ (Nat.le_refl _))
             generalize ((wr.alloc (.cells #[.bool x.text, .string x.s, .slice a1 x.attrs.length e1, .int .i64 x.parent, .slice k1 x.kids.length f1] 42)).alloc (.cells #[.bool x.text, .string x.s, .slice a2 x.attrs.length e2, .int .i64 x.parent, .slice k2 x.kids.length f2] 42)).drew = W4 at HH HQ ⊢
             generalize hbY : wr.heap.size + 1 = bY at HH ⊢
             generalize hbX : wr.heap.size = bX at HH ⊢)
          | (change Exit.then _ _ _ _ ((wr.alloc (.cells #[.bool x.text, .string x.s, .slice a2 x.attrs.length e2, .int .i64 x.parent, .slice k2 x.kids.length f2] 42)).alloc (.cells #[.bool x.text, .string x.s, .slice a1 x.attrs.length e1, .int .i64 x.parent, .slice k1 x.kids.length f1] 42)).drew
             have HH : Hid _ := two_swap (two_boxes wr (.cells #[.bool x.text, .string x.s, .slice a2 x.attrs.length e2, .int .i64 x.parent, .slice k2 x.kids.length f2] 42) (.cells #[.bool x.text, .string x.s, .slice a1 x.attrs.length e1, .int .i64 x.parent, .slice k1 x.kids.length f1] 42))
             have HQ : Hid _ := HKP.out _ (HH.out.1 _ (Nat.le_refl _))
             generalize ((wr.alloc (.cells #[.bool x.text, .string x.s, .slice a2 x.attrs.length e2, .int .i64 x.parent, .slice k2 x.kids.length f2] 42)).alloc (.cells #[.bool x.text, .string x.s, .slice a1 x.attrs.length e1, .int .i64 x.parent, .slice k1 x.kids.length f1] 42)).drew = W4 at HH HQ ⊢
             generalize hbX : wr.heap.size + 1 = bX at HH ⊢
             generalize hbY : wr.heap.size = bY at HH ⊢)
        clear hbX hbY
        have x0 : W4.cell? ⟨bX, 0, none⟩ = some (.bool x.text) := by rw [Lib.cell_of_heap HH.out.2.1]; rfl
        have x1 : W4.cell? ⟨bX, 1, none⟩ = some (.string x.s) := by rw [Lib.cell_of_heap HH.out.2.1]; rfl
        have x2 : W4.cell? ⟨bX, 2, none⟩ = some (.slice a1 x.attrs.length e1) := by rw [Lib.cell_of_heap HH.out.2.1]; rfl
        have x3 : W4.cell? ⟨bX, 3, none⟩ = some (.int .i64 x.parent) := by rw [Lib.cell_of_heap HH.out.2.1]; rfl
        have x4 : W4.cell? ⟨bX, 4, none⟩ = some (.slice k1 x.kids.length f1) := by rw [Lib.cell_of_heap HH.out.2.1]; rfl
        have y0 : W4.cell? ⟨bY, 0, none⟩ = some (.bool x.text) := by rw [Lib.cell_of_heap HH.out.2.2]; rfl
        have y1 : W4.cell? ⟨bY, 1, none⟩ = some (.string x.s) := by rw [Lib.cell_of_heap HH.out.2.2]; rfl
        have y2 : W4.cell? ⟨bY, 2, none⟩ = some (.slice a2 x.attrs.length e2) := by rw [Lib.cell_of_heap HH.out.2.2]; rfl
        have y3 : W4.cell? ⟨bY, 3, none⟩ = some (.int .i64 x.parent) := by rw [Lib.cell_of_heap HH.out.2.2]; rfl
        have y4 : W4.cell? ⟨bY, 4, none⟩ = some (.slice k2 x.kids.length f2) := by rw [Lib.cell_of_heap HH.out.2.2]; rfl
        have HX : Hid _ := HH.out.2.1
        have HY : Hid _ := HH.out.2.2
        clear HH HKP HP HSS HA1 HA2 HK1 HK2 u1 u2 p0 p1 p2 p3 p4 q0 q1 q2 q3 q4 hl1 hl2
        go_wp2_with fail
        refine (sameNumbers_any S T _ _ x.kids W4 HQ.out.2.2.2.1 HQ.out.2.2.2.2).mono ?_
        rintro e w5 ⟨rfl, hb5⟩
        have HP5 : Hid _ := HQ.out.1.later hb5
        have HA5 : Hid _ := Attrs.later HQ.out.2.1 hb5
        have HC5 : Hid _ := Attrs.later HQ.out.2.2.1 hb5
        have HX5 : Hid _ := (hb5.block bX (blk_lt HX.out)).trans HX.out
        have HY5 : Hid _ := (hb5.block bY (blk_lt HY.out)).trans HY.out
        have x5 : w5.cell? ⟨bX, 2, none⟩ = some (.slice a1 x.attrs.length e1) := by rw [Lib.cell_of_heap HX5.out]; rfl
        clear hb5 HQ HX HY x0 x1 x2 x3 x4 y0 y1 y2 y3 y4
        go_wp2_with fail
        go_loopg [71] x.attrs.length (fun g i wr => ∃ j : Nat, j + g = x.attrs.length ∧ i = .int .i64 j ∧ Below w5.heap.size w5 wr)
        case atStart => exact ⟨0, by omega, rfl, Below.refl _ _⟩
        case round =>
          obtain ⟨j, hj, rfl, hB6⟩ := hrel
          have HB6 : Hid _ := hB6
          have d1 : wr.cell? ⟨bX, 2, none⟩ = some (.slice a1 x.attrs.length e1) := by rw [Lib.cell_of_heap ((HB6.out.block bX (blk_lt HX5.out)).trans HX5.out)]; rfl
          have d2 : wr.cell? ⟨bY, 2, none⟩ = some (.slice a2 x.attrs.length e2) := by rw [Lib.cell_of_heap ((HB6.out.block bY (blk_lt HY5.out)).trans HY5.out)]; rfl
          clear hB6 x5
          by_cases hjl : j < x.attrs.length
          · obtain ⟨y, hy⟩ : ∃ y, x.attrs[j]? = some y := ⟨x.attrs[j], by simp [hjl]⟩
            obtain ⟨z1, c1, hw1, _, hm1, r1⟩ := Attrs.later HA5.out HB6.out
            obtain ⟨z2, c2, hw2, _, hm2, r2⟩ := Attrs.later HC5.out HB6.out
            injection hw1 with hw1 _ hw1c
            injection hw2 with hw2 _ hw2c
            subst hw1 hw1c hw2 hw2c
            have hne : x.attrs ≠ [] := by intro e; rw [e] at hjl; simp at hjl
            obtain ⟨g1, m1, rfl, _, t1⟩ := r1 hne
            obtain ⟨g2, m2, rfl, _, t2⟩ := r2 hne
            obtain ⟨i0, i1⟩ := t1 j y hy
            obtain ⟨j0, j1⟩ := t2 j y hy
            unfold maxLen at hm1 hm2
            clear t1 t2 hne
            have hjli : (j : Int) < (x.attrs.length : Int) := by omega
            clear hy
            go_wp2_with fail
            go_quiet (fail)
            go_wp2_with fail
            go_roundg (x.attrs.length - (j + 1))
            case measure => omega
            case rel => exact ⟨j + 1, by omega, by go_num, below_drewN HB6.out nq⟩
          · have hjli : ¬ ((j : Int) < (x.attrs.length : Int)) := by omega
            go_wp2_with fail
            go_roundg (ns.length - (k + 1))
            case measure => omega
            case rel => exact ⟨k + 1, by omega, by go_num, HP5.out.later HB6.out⟩
    · have hili : ¬ ((k : Int) < (ns.length : Int)) := by omega
      go_wp2_with fail
      go_ret
      exact ⟨rfl, HP.out.below⟩
end Go.Proofs.Ytlchbhlmbphkpaa

