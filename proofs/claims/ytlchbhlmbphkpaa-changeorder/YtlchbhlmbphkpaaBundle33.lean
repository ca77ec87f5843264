/- Bundled: OpenD OpenT. What each says stands ahead of it. -/
import Derived.Test.YtlchbhlmbphkpaaBundle32
import Derived.Test.YtlchbhlmbphkpaaBundle11
import Derived.Test.YtlchbhlmbphkpaaBundle10
/- An argument of type api.Doc opened: its nodes, with what the reach bounds. No condition. -/
namespace Go.Proofs.Ytlchbhlmbphkpaa
open Go.ChangeShapes Go.WideShapes Go.ChangeAt Go.RowKit
set_option maxRecDepth 100000

theorem nodeCellsOf : Try.prog.cellsOf 42 = 5 := by kernel_rfl
theorem docCellsOf : Try.prog.cellsOf 24 = 1 := by kernel_rfl
theorem nodesCellsOf : Try.prog.cellsOf 22 = 1 := by kernel_rfl
theorem intsCellsOf : Try.prog.cellsOf 40 = 1 := by kernel_rfl
theorem intCellsOf : Try.prog.cellsOf 3 = 1 := by kernel_rfl
theorem intBytesOf : Try.prog.bytesOf 3 = 8 := by kernel_rfl
theorem nodeBytesOf : Try.prog.bytesOf 42 = 80 := by kernel_rfl
theorem attrBytesOf : Try.prog.bytesOf 44 = 32 := by kernel_rfl

section
variable {H : Type} {enc : TypeId × Value → H} {W : World}

theorem weightsAll_mem {P : Program} {e : TypeId} {l : List (DataW H)} {d : DataW H} {y : Nat} (hd : d ∈ l) (hy : y ∈ d.weights P e) : y ∈ DataW.weightsAll P e l := by
  induction l with
  | nil => simp at hd
  | cons x r ih =>
    rw [List.mem_cons] at hd
    simp only [DataW.weightsAll, List.mem_append]
    rcases hd with rfl | hd
    · exact Or.inl hy
    · exact Or.inr (ih hd)

theorem attrs_reach {fuel : Nat} {a : Option Addr} {n c : Nat} {x : DataW H × List MemPlace} (h : DataW.trod enc Try.prog W 0 (fun _ => true) true fuel 39 [.slice a n c] = some x) (hw : ∀ y ∈ x.1.weights Try.prog 39, y ≤ reachBytes) : n ≤ 4398046511104 := by
  rcases DataW.trod_slice Try.underlying39 h with ⟨hc, _⟩ | ⟨a', len, cap, elems, rest, k, _, hc, rfl, _, _, _, hlen, _, _⟩
  · simp at hc; omega
  · simp only [List.cons.injEq, and_true, Value.slice.injEq] at hc
    have := hw ((elems.length + rest.length) * 32) (by
      simp only [DataW.weights, Try.underlying39, attrBytesOf, List.length_map]
      exact List.mem_cons_self)
    unfold reachBytes at this
    omega

theorem ints_reach {fuel : Nat} {a : Option Addr} {n c : Nat} {x : DataW H × List MemPlace} (h : DataW.trod enc Try.prog W 0 (fun _ => true) true fuel 40 [.slice a n c] = some x) (hw : ∀ y ∈ x.1.weights Try.prog 40, y ≤ reachBytes) : n ≤ 17592186044416 := by
  rcases DataW.trod_slice Try.underlying40 h with ⟨hc, _⟩ | ⟨a', len, cap, elems, rest, k, _, hc, rfl, _, _, _, hlen, _, _⟩
  · simp at hc; omega
  · simp only [List.cons.injEq, and_true, Value.slice.injEq] at hc
    have := hw ((elems.length + rest.length) * 8) (by
      simp only [DataW.weights, Try.underlying40, intBytesOf, List.length_map]
      exact List.mem_cons_self)
    unfold reachBytes at this
    omega

theorem open_ints {fuel : Nat} {cs : List Value} {x : DataW H × List MemPlace} (h : DataW.trod enc Try.prog W 0 (fun _ => true) true fuel 40 cs = some x) :
    ∃ v l, cs = [v] ∧ Ints (fun b => b < W.heap.size) W v l := by
  rcases DataW.trod_slice Try.underlying40 h with ⟨rfl, rfl⟩ | ⟨a, len, cap, elems, rest, n, _, rfl, rfl, _, hlc, hm, hlen, hel, _⟩
  · exact ⟨_, [], rfl, none, 0, rfl, Nat.zero_le _, Nat.zero_le _, fun h => absurd rfl h⟩
  · rw [intCellsOf] at hel
    by_cases hz : len = 0
    · subst hz
      exact ⟨_, [], rfl, some a, cap, rfl, Nat.zero_le _, hm, fun h => absurd rfl h⟩
    have hspot : a.spot = none := by
      have he := hel 0 (by omega)
      rw [List.getElem?_eq_getElem (by omega)] at he
      simp only [Option.bind_eq_some_iff] at he
      obtain ⟨cs', h1, _⟩ := he
      obtain ⟨_, hl', hcell⟩ := World.cells?_some h1
      have k := hcell 0 (by omega)
      rw [List.getElem?_eq_getElem (by omega)] at k
      simpa [Addr.add] using World.cell?_spot k
    obtain ⟨ab, ao, asp⟩ := a
    simp only at hspot
    subst hspot
    have each : ∀ i, i < len → ∃ y : Int, W.cell? ⟨ab, ao + i, none⟩ = some (.int .i64 y) := by
      intro i hi
      have he := hel i hi
      rw [List.getElem?_eq_getElem (by omega)] at he
      simp only [Option.bind_eq_some_iff] at he
      obtain ⟨cs', h1, h2⟩ := he
      obtain ⟨_, hl', hcell⟩ := World.cells?_some h1
      rw [Addr.add_lit] at hcell
      match cs', hl' with
      | [c0], _ =>
        have k0 := hcell 0 (by omega)
        rw [Addr.add_lit] at k0
        obtain ⟨y, hc0, _⟩ := DataW.trod_int Try.underlying3 h2
        simp only [List.cons.injEq, and_true] at hc0
        subst hc0
        exact ⟨y, by simpa using k0⟩
    obtain ⟨l, hl, hp⟩ := exists_list len each
    refine ⟨_, l, rfl, _, cap, by rw [hl], by omega, hm, fun hne => ?_⟩
    have h0 : 0 < l.length := List.length_pos_iff.2 hne
    have k0 := hp 0 l[0] (by simp [h0])
    exact ⟨ab, ao, rfl, World.block_lt_of_cell? W _ k0, fun i x hx => hp i x hx⟩

theorem open_nodes {fuel : Nat} {cs : List Value} {x : DataW H × List MemPlace} (h : DataW.trod enc Try.prog W 0 (fun _ => true) true fuel 22 cs = some x) (hw : ∀ y ∈ x.1.weights Try.prog 22, y ≤ reachBytes) :
    ∃ v ns, cs = [v] ∧ Nodes (fun b => b < W.heap.size) W v ns ∧ (∀ x ∈ ns, x.attrs.length ≤ 4398046511104) ∧ TextsD ns ∧ (∀ x ∈ ns, x.kids.length ≤ 17592186044416) ∧ ns.length ≤ 1759218604441 := by
  rcases DataW.trod_slice Try.underlying22 h with ⟨rfl, rfl⟩ | ⟨a, len, cap, elems, rest, n, _, rfl, rfl, _, hlc, hm, hlen, hel, _⟩
  · exact ⟨_, [], rfl, ⟨none, 0, rfl, Nat.zero_le _, Nat.zero_le _, fun h => absurd rfl h⟩, by simp, by intro x hx; simp at hx, by simp, by simp⟩
  · rw [nodeCellsOf] at hel
    by_cases hz : len = 0
    · subst hz
      exact ⟨_, [], rfl, ⟨some a, cap, rfl, Nat.zero_le _, hm, fun h => absurd rfl h⟩, by simp, by intro x hx; simp at hx, by simp, by simp⟩
    have hspot : a.spot = none := by
      have he := hel 0 (by omega)
      rw [List.getElem?_eq_getElem (by omega)] at he
      simp only [Option.bind_eq_some_iff] at he
      obtain ⟨cs', h1, _⟩ := he
      obtain ⟨_, hl', hcell⟩ := World.cells?_some h1
      have k := hcell 0 (by omega)
      rw [List.getElem?_eq_getElem (by omega)] at k
      simpa [Addr.add] using World.cell?_spot k
    obtain ⟨ab, ao, asp⟩ := a
    simp only at hspot
    subst hspot
    have hwe : ∀ e ∈ elems, ∀ y ∈ e.1.weights Try.prog 42, y ≤ reachBytes := by
      intro e he y hy
      refine hw y ?_
      simp only [DataW.weights, Try.underlying22]
      exact List.mem_cons_of_mem _ (List.mem_append_left _ (weightsAll_mem (List.mem_map_of_mem he) hy))
    have each : ∀ i, i < len → ∃ y : Nd, (∃ va vk, W.cell? ⟨ab, ao + i * 5, none⟩ = some (.bool y.text) ∧ W.cell? ⟨ab, ao + i * 5 + 1, none⟩ = some (.string y.s) ∧ W.cell? ⟨ab, ao + i * 5 + 2, none⟩ = some va ∧
        W.cell? ⟨ab, ao + i * 5 + 3, none⟩ = some (.int .i64 y.parent) ∧ W.cell? ⟨ab, ao + i * 5 + 4, none⟩ = some vk ∧ Attrs (fun b => b < W.heap.size) W va y.attrs ∧ Ints (fun b => b < W.heap.size) W vk y.kids) ∧
        y.attrs.length ≤ 4398046511104 ∧ (y.s.size ≤ maxLen ∧ ∀ z ∈ y.attrs, z.1.size ≤ maxLen ∧ z.2.size ≤ maxLen) ∧ y.kids.length ≤ 17592186044416 := by
      intro i hi
      have he := hel i hi
      have hmem := hwe elems[i] (List.getElem_mem (by omega))
      rw [List.getElem?_eq_getElem (by omega)] at he
      simp only [Option.bind_eq_some_iff] at he
      obtain ⟨cs', h1, h2⟩ := he
      obtain ⟨_, hl', hcell⟩ := World.cells?_some h1
      rw [Addr.add_lit] at hcell
      match cs', hl' with
      | [c0, c1, c2, c3, c4], _ =>
        have k0 := hcell 0 (by omega)
        have k1 := hcell 1 (by omega)
        have k2 := hcell 2 (by omega)
        have k3 := hcell 3 (by omega)
        have k4 := hcell 4 (by omega)
        rw [Addr.add_lit] at k0 k1 k2 k3 k4
        obtain ⟨xs, k, _, hxe, _, hxl, hf⟩ := DataW.trod_struct Try.underlying42 h2
        match xs, hxl with
        | [y0, y1, y2, y3, y4], _ =>
          have u0 := hf 0 _ rfl
          have u1 := hf 1 _ rfl
          have u2 := hf 2 _ rfl
          have u3 := hf 3 _ rfl
          have u4 := hf 4 _ rfl
          simp [boolCellsOf, strCellsOf, attrsCellsOf, intCellsOf, intsCellsOf] at u0 u1 u2 u3 u4
          obtain ⟨tx, hc0, _⟩ := DataW.trod_bool Try.underlying4 u0
          obtain ⟨s, hc1, _, hs⟩ := DataW.trod_string Try.underlying9 u1
          obtain ⟨va, l, hc2, hA, _, hAt⟩ := open_attrs u2
          obtain ⟨p, hc3, _⟩ := DataW.trod_int Try.underlying3 u3
          obtain ⟨vk, ks, hc4, hK⟩ := open_ints u4
          simp only [List.cons.injEq, and_true] at hc0 hc1 hc2 hc3 hc4
          subst hc0 hc1 hc2 hc3 hc4
          obtain ⟨aa, ac, rfl⟩ := hA.shape
          have hre := attrs_reach u2 (fun y hy => hmem y (by
            rw [hxe]
            simp only [DataW.weights, Try.underlying42, List.map_cons, List.map_nil, DataW.weightsEach, List.mem_append]
            exact Or.inr (Or.inr (Or.inl hy))))
          obtain ⟨kaa, kac, rfl, _, _⟩ := hK.shape
          have hrk := ints_reach u4 (fun y hy => hmem y (by
            rw [hxe]
            simp only [DataW.weights, Try.underlying42, List.map_cons, List.map_nil, DataW.weightsEach, List.mem_append]
            exact Or.inr (Or.inr (Or.inr (Or.inr (Or.inl hy))))))
          exact ⟨⟨tx, s, l, p, ks⟩, ⟨_, _, by simpa using k0, by simpa using k1, by simpa using k2, by simpa using k3, by simpa using k4, hA, hK⟩, hre, ⟨hs, hAt⟩, hrk⟩
    obtain ⟨l, hl, hp⟩ := exists_list len each
    refine ⟨_, l, rfl, ⟨_, cap, by rw [hl], by omega, hm, fun hne => ?_⟩, ?_, ?_, ?_, ?_⟩
    · have h0 : 0 < l.length := List.length_pos_iff.2 hne
      obtain ⟨⟨_, _, k0, _⟩, _⟩ := hp 0 l[0] (by simp [h0])
      exact ⟨ab, ao, rfl, World.block_lt_of_cell? W _ k0, fun i x hx => (hp i x hx).1⟩
    · intro y hy
      obtain ⟨i, hi⟩ := List.mem_iff_getElem?.1 hy
      exact (hp i y hi).2.1
    · intro y hy
      obtain ⟨i, hi⟩ := List.mem_iff_getElem?.1 hy
      exact (hp i y hi).2.2.1
    · intro y hy
      obtain ⟨i, hi⟩ := List.mem_iff_getElem?.1 hy
      exact (hp i y hi).2.2.2
    · have := hw ((elems.length + rest.length) * 80) (by
        simp only [DataW.weights, Try.underlying22, nodeBytesOf, List.length_map]
        exact List.mem_cons_self)
      unfold reachBytes at this
      omega

/-- A document that came in, with what the reach bounds of its lists. -/
theorem open_doc2 {fuel : Nat} {cs : List Value} {x : DataW H × List MemPlace} (hl : cs.length = 1) (h : DataW.trod enc Try.prog W 0 (fun _ => true) true fuel 24 cs = some x) (hw : ∀ y ∈ x.1.weights Try.prog 24, y ≤ reachBytes) :
    ∃ v ns, cs = [v] ∧ DocV (fun b => b < W.heap.size) W v ns ∧ (∀ x ∈ ns, x.kids.length ≤ 17592186044416) ∧ ns.length ≤ 1759218604441 := by
  match cs, hl with
  | [c0], _ =>
    obtain ⟨y0, k, hx, _, u0⟩ := trod_struct1 Try.underlying24 h
    simp [nodesCellsOf] at u0
    obtain ⟨v, ns, hc, hN, hf, ht, hk, hn⟩ := open_nodes u0 (fun y hy => hw y (by
      rw [hx]
      simp only [DataW.weights, Try.underlying24, List.map_cons, List.map_nil, DataW.weightsEach, List.mem_append]
      exact Or.inl hy))
    exact ⟨v, ns, hc, ⟨hN, fun b hb => hb, hf, ht⟩, hk, hn⟩

/-- A document that came in. -/
theorem open_doc {fuel : Nat} {cs : List Value} {x : DataW H × List MemPlace} (hl : cs.length = 1) (h : DataW.trod enc Try.prog W 0 (fun _ => true) true fuel 24 cs = some x) (hw : ∀ y ∈ x.1.weights Try.prog 24, y ≤ reachBytes) :
    ∃ v ns, cs = [v] ∧ DocV (fun b => b < W.heap.size) W v ns := by
  obtain ⟨v, ns, h1, h2, _⟩ := open_doc2 hl h hw
  exact ⟨v, ns, h1, h2⟩
end
end Go.Proofs.Ytlchbhlmbphkpaa

/- An argument of type api.Tree opened; depths brought to one; what the bound gives. No condition. -/
namespace Go.Proofs.Ytlchbhlmbphkpaa
open Go.ChangeShapes Go.WideShapes Go.ChangeAt Go.RowKit
set_option maxRecDepth 100000

section
variable {H : Type} {enc : TypeId × Value → H} {W : World}

theorem open_tree {fuel : Nat} {cs : List Value} {x : DataW H × List MemPlace} (hl : cs.length = 4) (h : DataW.trod enc Try.prog W 0 (fun _ => true) true fuel 47 cs = some x) :
    ∃ (t : Tr) (va vk : Value), cs = [.bool t.text, .string t.s, va, vk] ∧ Attrs (fun b => b < W.heap.size) W va t.attrs ∧ Trees (fun b => b < W.heap.size) W fuel vk t.kids ∧ wt (fuel + 1) [t] ≤ Rows.uptoBulk x.1 := by
  match cs, hl with
  | [c0, c1, c2, c3], _ =>
    obtain ⟨xs, k, hnk, hx, _, hxl, hf⟩ := DataW.trod_struct Try.underlying47 h
    match xs, hxl with
    | [y0, y1, y2, y3], _ =>
      have u0 := hf 0 _ rfl
      have u1 := hf 1 _ rfl
      have u2 := hf 2 _ rfl
      have u3 := hf 3 _ rfl
      simp [boolCellsOf, strCellsOf, attrsCellsOf, treesCellsOf] at u0 u1 u2 u3
      obtain ⟨tx, hc0, hy0⟩ := DataW.trod_bool Try.underlying4 u0
      obtain ⟨s, hc1, hy1, hs⟩ := DataW.trod_string Try.underlying9 u1
      obtain ⟨va, l, hc2, hA, hAb, hAt⟩ := open_attrs u2
      obtain ⟨vk, ks, hc3, hK, hKb, hKt⟩ := open_trees k u3
      simp only [List.cons.injEq, and_true] at hc0 hc1 hc2 hc3
      subst hc0 hc1 hc2 hc3
      have hdp := Trees.deep k hK
      subst hnk
      refine ⟨⟨tx, s, l, ks⟩, c2, c3, rfl, hA, Trees.deeper k hK, ?_⟩
      rw [wt_cons]
      rw [hx, hy0, hy1]
      simp only [List.map_cons, List.map_nil, Rows.uptoBulk, Rows.uptoBulkAll, size_list, wt_more k ks hdp]
      simp only [wt, List.map_nil, List.sum_nil]
      omega

theorem open_tree_texts {fuel : Nat} {cs : List Value} {x : DataW H × List MemPlace} (hl : cs.length = 4) (h : DataW.trod enc Try.prog W 0 (fun _ => true) true fuel 47 cs = some x) :
    ∃ (t : Tr) (va vk : Value), cs = [.bool t.text, .string t.s, va, vk] ∧ Attrs (fun b => b < W.heap.size) W va t.attrs ∧ Trees (fun b => b < W.heap.size) W fuel vk t.kids ∧ TextsN (fuel + 1) [t] := by
  match cs, hl with
  | [c0, c1, c2, c3], _ =>
    obtain ⟨xs, k, hnk, _, _, hxl, hf⟩ := DataW.trod_struct Try.underlying47 h
    match xs, hxl with
    | [y0, y1, y2, y3], _ =>
      have u0 := hf 0 _ rfl
      have u1 := hf 1 _ rfl
      have u2 := hf 2 _ rfl
      have u3 := hf 3 _ rfl
      simp [boolCellsOf, strCellsOf, attrsCellsOf, treesCellsOf] at u0 u1 u2 u3
      obtain ⟨tx, hc0, _⟩ := DataW.trod_bool Try.underlying4 u0
      obtain ⟨s, hc1, _, hs⟩ := DataW.trod_string Try.underlying9 u1
      obtain ⟨va, l, hc2, hA, _, hAt⟩ := open_attrs u2
      obtain ⟨vk, ks, hc3, hK, _, hKt⟩ := open_trees k u3
      simp only [List.cons.injEq, and_true] at hc0 hc1 hc2 hc3
      subst hc0 hc1 hc2 hc3
      have hdp := Trees.deep k hK
      subst hnk
      refine ⟨⟨tx, s, l, ks⟩, c2, c3, rfl, hA, Trees.deeper k hK, ?_⟩
      intro u hu
      simp only [List.mem_singleton] at hu
      subst hu
      exact ⟨⟨hs, hAt⟩, texts_more k ks hdp hKt⟩
end

theorem Trees.more {S : Nat → Prop} {w : World} {n m : Nat} {v : Value} {ts : List Tr} (h : Trees S w n v ts) (hnm : n ≤ m) : Trees S w m v ts := by
  obtain ⟨k, rfl⟩ := Nat.exists_eq_add_of_le hnm
  clear hnm
  induction k with
  | zero => exact h
  | succ k ih => exact Trees.deeper (n + k) ih

theorem wt_upto {S : Nat → Prop} {w : World} {n m : Nat} {v : Value} {ts : List Tr} (h : Trees S w n v ts) (hnm : n ≤ m) : wt m ts = wt n ts := by
  obtain ⟨k, rfl⟩ := Nat.exists_eq_add_of_le hnm
  clear hnm
  induction k with
  | zero => rfl
  | succ k ih => rw [show n + (k + 1) = n + k + 1 from rfl, wt_more (n + k) ts (Trees.deep (n + k) (h.more (Nat.le_add_right n k))), ih]

theorem wt_tex : ∀ (n : Nat) (ts : List Tr), wt n ts ≤ 1048576 → TexN n ts := by
  intro n
  induction n with
  | zero => intro ts _; trivial
  | succ n ih =>
    intro ts h t ht
    have h1 : 1 + t.s.size + (t.attrs.map awt).sum + wt n t.kids ≤ wt (n + 1) ts := sum_mem (fun t : Tr => 1 + t.s.size + (t.attrs.map awt).sum + wt n t.kids) ht
    refine ⟨by unfold maxLen; omega, fun x hx => ?_, ih t.kids (by omega)⟩
    have h2 := sum_mem awt hx
    have h3 : x.1.size + x.2.size ≤ awt x := by unfold awt; omega
    constructor <;> (unfold maxLen; omega)
end Go.Proofs.Ytlchbhlmbphkpaa

