/- Arguments of type []api.Op and api.Doc opened, with what the bulk bounds. No condition. -/
import Derived.Test.YtlchbhlmbphkpaaBundle33
import Derived.Test.YtlchbhlmbphkpaaBundle23
import Derived.Test.YtlchbhlmbphkpaaBundle14
namespace Go.Proofs.Ytlchbhlmbphkpaa
open Go.ChangeShapes Go.WideShapes Go.ChangeAt Go.RowKit
set_option maxRecDepth 100000

theorem opCellsOf : Try.prog.cellsOf 30 = 5 := by kernel_rfl

theorem sum_wt : ∀ (n : Nat) (ts : List Tr), sumN id n ts ≤ wt n ts := by
  intro n
  induction n with
  | zero => intro ts; exact Nat.le_refl _
  | succ n ih =>
    intro ts
    induction ts with
    | nil => rw [sumN_nil]; exact Nat.zero_le _
    | cons t r ihr => rw [sumN_cons, wt_cons]; have := ih t.kids; simp only [id]; omega

theorem sum_less : ∀ (n m : Nat) (ts : List Tr), n ≤ m → sumN id n ts ≤ sumN id m ts := by
  intro n
  induction n with
  | zero => intro m ts _; exact Nat.zero_le _
  | succ n ih =>
    intro m ts h
    obtain ⟨m, rfl⟩ : ∃ k, m = k + 1 := ⟨m - 1, by omega⟩
    induction ts with
    | nil => rw [sumN_nil]; exact Nat.zero_le _
    | cons t r ihr => rw [sumN_cons, sumN_cons]; have := ih m t.kids (by omega); omega

/-- However deep one looks, there is no more than there is. -/
theorem sum_any {d : Nat} {ts : List Tr} (hd : Deep d ts) (n : Nat) : sumN id n ts ≤ wt d ts := by
  rcases Nat.le_total n d with h | h
  · exact Nat.le_trans (sum_less n d ts h) (sum_wt d ts)
  · rw [sumN_wide hd h]; exact sum_wt d ts

section
variable {H : Type} {enc : TypeId × Value → H} {W : World}

theorem open_ops {fuel : Nat} {cs : List Value} {x : DataW H × List MemPlace} (h : DataW.trod enc Try.prog W 0 (fun _ => true) true fuel 25 cs = some x) :
    ∃ v l, cs = [v] ∧ Ops (fun b => b < W.heap.size) W fuel v l ∧ TextsO fuel l ∧ txtO l ≤ 2 * Rows.uptoBulk x.1 := by
  rcases DataW.trod_slice Try.underlying25 h with ⟨rfl, rfl⟩ | ⟨a, len, cap, elems, rest, n, rfl, rfl, rfl, _, hlc, hm, hlen, hel, _⟩
  · exact ⟨_, [], rfl, ⟨none, 0, rfl, Nat.zero_le _, Nat.zero_le _, fun h => absurd rfl h⟩, (by intro s hs; cases hs), Nat.zero_le _⟩
  · rw [opCellsOf] at hel
    by_cases hz : len = 0
    · subst hz
      exact ⟨_, [], rfl, ⟨some a, cap, rfl, Nat.zero_le _, hm, fun h => absurd rfl h⟩, (by intro s hs; cases hs), Nat.zero_le _⟩
    have hspot : a.spot = none := by
      have he := hel 0 (by omega)
      rw [List.getElem?_eq_getElem (by omega)] at he
      simp only [Option.bind_eq_some_iff] at he
      obtain ⟨cs', h1, _⟩ := he
      obtain ⟨_, hl', hcell⟩ := World.cells?_some h1
      have k := hcell 0 (by omega)
      rw [List.getElem?_eq_getElem (by omega)] at k
      simpa [Addr.add] using World.cell?_spot k
    obtain ⟨ab, ao, asp⟩ := a
    simp only at hspot
    subst hspot
    have each : ∀ i, i < len → ∃ y : Opn, (∃ ca cc, W.cell? ⟨ab, ao + i * 5, none⟩ = some (.int .i64 y.kind) ∧ W.cell? ⟨ab, ao + i * 5 + 1, none⟩ = some (.int .i64 y.target) ∧ W.cell? ⟨ab, ao + i * 5 + 2, none⟩ = some (.slice ca y.content.length cc) ∧
        W.cell? ⟨ab, ao + i * 5 + 3, none⟩ = some (.string y.name) ∧ W.cell? ⟨ab, ao + i * 5 + 4, none⟩ = some (.string y.s) ∧ Trees (fun b => b < W.heap.size) W n (.slice ca y.content.length cc) y.content) ∧
        (∀ e, elems[i]? = some e → opW id y ≤ 2 * Rows.uptoBulk e.1) ∧ TextsN n y.content ∧ y.name.size ≤ maxLen ∧ y.s.size ≤ maxLen := by
      intro i hi
      have he := hel i hi
      rw [List.getElem?_eq_getElem (by omega)] at he
      simp only [Option.bind_eq_some_iff] at he
      obtain ⟨cs', h1, h2⟩ := he
      obtain ⟨_, hl', hcell⟩ := World.cells?_some h1
      rw [Addr.add_lit] at hcell
      match cs', hl' with
      | [c0, c1, c2, c3, c4], _ =>
        have k0 := hcell 0 (by omega)
        have k1 := hcell 1 (by omega)
        have k2 := hcell 2 (by omega)
        have k3 := hcell 3 (by omega)
        have k4 := hcell 4 (by omega)
        rw [Addr.add_lit] at k0 k1 k2 k3 k4
        obtain ⟨xs, k, hnk, hxe, _, hxl, hf⟩ := DataW.trod_struct Try.underlying30 h2
        match xs, hxl with
        | [y0, y1, y2, y3, y4], _ =>
          have u0 := hf 0 _ rfl
          have u1 := hf 1 _ rfl
          have u2 := hf 2 _ rfl
          have u3 := hf 3 _ rfl
          have u4 := hf 4 _ rfl
          simp [strCellsOf, treesCellsOf, intCellsOf] at u0 u1 u2 u3 u4
          obtain ⟨kd, hc0, _⟩ := DataW.trod_int Try.underlying3 u0
          obtain ⟨tg, hc1, _⟩ := DataW.trod_int Try.underlying3 u1
          obtain ⟨vc, ts, hc2, hT, hTb, hTt⟩ := open_trees k u2
          obtain ⟨nm, hc3, hy3, hs3⟩ := DataW.trod_string Try.underlying9 u3
          obtain ⟨s, hc4, hy4, hs4⟩ := DataW.trod_string Try.underlying9 u4
          simp only [List.cons.injEq, and_true] at hc0 hc1 hc2 hc3 hc4
          subst hc0 hc1 hc2 hc3 hc4
          obtain ⟨ca, cc, rfl, _, _⟩ := Trees.shape k hT
          have hdp := Trees.deep k hT
          subst hnk
          refine ⟨⟨kd, tg, ts, nm, s⟩, ⟨ca, cc, by simpa using k0, by simpa using k1, by simpa using k2, by simpa using k3, by simpa using k4, Trees.deeper k hT⟩, ?_, texts_more k ts hdp hTt, hs3, hs4⟩
          intro e hee
          rw [List.getElem?_eq_getElem (by omega)] at hee
          cases hee
          rw [hxe, hy3, hy4]
          have h9 := sum_any hdp 9
          simp only [List.map_cons, List.map_nil, Rows.uptoBulk, Rows.uptoBulkAll, opW, id, size_list] at *
          omega
    obtain ⟨l, hl, hp⟩ := exists_list len each
    refine ⟨_, l, rfl, ⟨_, cap, by rw [hl], by omega, hm, fun hne => ?_⟩, ?_, ?_⟩
    · have h0 : 0 < l.length := List.length_pos_iff.2 hne
      obtain ⟨⟨_, _, k0, _⟩, _⟩ := hp 0 l[0] (by simp [h0])
      refine ⟨ab, ao, rfl, World.block_lt_of_cell? W _ k0, fun i x hx => ?_⟩
      obtain ⟨ca, cc, q0, q1, q2, q3, q4, q5⟩ := (hp i x hx).1
      exact ⟨ca, cc, q0, q1, q2, q3, q4, Trees.deeper n q5⟩
    · intro y hy
      obtain ⟨i, hi⟩ := List.mem_iff_getElem?.1 hy
      obtain ⟨⟨_, _, _, _, _, _, _, hT⟩, _, h3, h4⟩ := hp i y hi
      exact ⟨texts_more n _ (Trees.deep n hT) h3, h4⟩
    · unfold txtO
      simp only [Rows.uptoBulk]
      rw [bulkAll_sum, List.map_map]
      have := sum_le (opW id) ((fun z => 2 * z) ∘ Rows.uptoBulk ∘ (fun y : DataW H × List MemPlace => y.1)) l elems (by omega) (fun i x y hx hy => (hp i x hx).2.1 y hy)
      have e : (elems.map ((fun z => 2 * z) ∘ Rows.uptoBulk ∘ (fun y : DataW H × List MemPlace => y.1))).sum = 2 * (elems.map (Rows.uptoBulk ∘ (fun y : DataW H × List MemPlace => y.1))).sum := by
        have : ∀ es : List (DataW H × List MemPlace), (es.map ((fun z => 2 * z) ∘ Rows.uptoBulk ∘ (fun y : DataW H × List MemPlace => y.1))).sum = 2 * (es.map (Rows.uptoBulk ∘ (fun y : DataW H × List MemPlace => y.1))).sum := by
          intro es
          induction es with
          | nil => rfl
          | cons e es ih => rw [List.map_cons, List.sum_cons, List.map_cons, List.sum_cons, ih]; simp only [Function.comp]; omega
        exact this elems
      omega

theorem open_nodesU {fuel : Nat} {cs : List Value} {x : DataW H × List MemPlace} (h : DataW.trod enc Try.prog W 0 (fun _ => true) true fuel 22 cs = some x) :
    ∃ v ns, cs = [v] ∧ Nodes (fun b => b < W.heap.size) W v ns ∧ TextsD ns ∧ (∀ y ∈ ns, y.attrs.length ≤ Rows.uptoBulk x.1) ∧ txtD ns ≤ Rows.uptoBulk x.1 := by
  rcases DataW.trod_slice Try.underlying22 h with ⟨rfl, rfl⟩ | ⟨a, len, cap, elems, rest, n, _, rfl, rfl, _, hlc, hm, hlen, hel, _⟩
  · exact ⟨_, [], rfl, ⟨none, 0, rfl, Nat.zero_le _, Nat.zero_le _, fun h => absurd rfl h⟩, (by intro x hx; simp at hx), by simp, Nat.zero_le _⟩
  · rw [nodeCellsOf] at hel
    by_cases hz : len = 0
    · subst hz
      exact ⟨_, [], rfl, ⟨some a, cap, rfl, Nat.zero_le _, hm, fun h => absurd rfl h⟩, (by intro x hx; simp at hx), by simp, Nat.zero_le _⟩
    have hspot : a.spot = none := by
      have he := hel 0 (by omega)
      rw [List.getElem?_eq_getElem (by omega)] at he
      simp only [Option.bind_eq_some_iff] at he
      obtain ⟨cs', h1, _⟩ := he
      obtain ⟨_, hl', hcell⟩ := World.cells?_some h1
      have k := hcell 0 (by omega)
      rw [List.getElem?_eq_getElem (by omega)] at k
      simpa [Addr.add] using World.cell?_spot k
    obtain ⟨ab, ao, asp⟩ := a
    simp only at hspot
    subst hspot
    have each : ∀ i, i < len → ∃ y : Nd, (∃ va vk, W.cell? ⟨ab, ao + i * 5, none⟩ = some (.bool y.text) ∧ W.cell? ⟨ab, ao + i * 5 + 1, none⟩ = some (.string y.s) ∧ W.cell? ⟨ab, ao + i * 5 + 2, none⟩ = some va ∧
        W.cell? ⟨ab, ao + i * 5 + 3, none⟩ = some (.int .i64 y.parent) ∧ W.cell? ⟨ab, ao + i * 5 + 4, none⟩ = some vk ∧ Attrs (fun b => b < W.heap.size) W va y.attrs ∧ Ints (fun b => b < W.heap.size) W vk y.kids) ∧
        (y.s.size ≤ maxLen ∧ ∀ z ∈ y.attrs, z.1.size ≤ maxLen ∧ z.2.size ≤ maxLen) ∧ (∀ e, elems[i]? = some e → y.s.size + y.attrs.length ≤ Rows.uptoBulk e.1) := by
      intro i hi
      have he := hel i hi
      rw [List.getElem?_eq_getElem (by omega)] at he
      simp only [Option.bind_eq_some_iff] at he
      obtain ⟨cs', h1, h2⟩ := he
      obtain ⟨_, hl', hcell⟩ := World.cells?_some h1
      rw [Addr.add_lit] at hcell
      match cs', hl' with
      | [c0, c1, c2, c3, c4], _ =>
        have k0 := hcell 0 (by omega)
        have k1 := hcell 1 (by omega)
        have k2 := hcell 2 (by omega)
        have k3 := hcell 3 (by omega)
        have k4 := hcell 4 (by omega)
        rw [Addr.add_lit] at k0 k1 k2 k3 k4
        obtain ⟨xs, k, _, hxe, _, hxl, hf⟩ := DataW.trod_struct Try.underlying42 h2
        match xs, hxl with
        | [y0, y1, y2, y3, y4], _ =>
          have u0 := hf 0 _ rfl
          have u1 := hf 1 _ rfl
          have u2 := hf 2 _ rfl
          have u3 := hf 3 _ rfl
          have u4 := hf 4 _ rfl
          simp [boolCellsOf, strCellsOf, attrsCellsOf, intCellsOf, intsCellsOf] at u0 u1 u2 u3 u4
          obtain ⟨tx, hc0, _⟩ := DataW.trod_bool Try.underlying4 u0
          obtain ⟨s, hc1, hy1, hs⟩ := DataW.trod_string Try.underlying9 u1
          obtain ⟨va, l, hc2, hA, hAb, hAt⟩ := open_attrs u2
          obtain ⟨p, hc3, _⟩ := DataW.trod_int Try.underlying3 u3
          obtain ⟨vk, ks, hc4, hK⟩ := open_ints u4
          simp only [List.cons.injEq, and_true] at hc0 hc1 hc2 hc3 hc4
          subst hc0 hc1 hc2 hc3 hc4
          refine ⟨⟨tx, s, l, p, ks⟩, ⟨_, _, by simpa using k0, by simpa using k1, by simpa using k2, by simpa using k3, by simpa using k4, hA, hK⟩, ⟨hs, hAt⟩, ?_⟩
          intro e hee
          rw [List.getElem?_eq_getElem (by omega)] at hee
          cases hee
          rw [hxe, hy1]
          have h3 : ∀ l : List (ByteArray × ByteArray), l.length ≤ (l.map awt).sum := by
            intro l
            induction l with
            | nil => simp
            | cons x r ih => simp only [List.length_cons, List.map_cons, List.sum_cons]; have : 1 ≤ awt x := by unfold awt; omega
                             omega
          have h4 := h3 l
          simp only [List.map_cons, List.map_nil, Rows.uptoBulk, Rows.uptoBulkAll, size_list] at *
          omega
    obtain ⟨l, hl, hp⟩ := exists_list len each
    have hsum : (l.map fun y : Nd => y.s.size + y.attrs.length).sum ≤ (elems.map (Rows.uptoBulk ∘ (fun y : DataW H × List MemPlace => y.1))).sum := sum_le (fun y : Nd => y.s.size + y.attrs.length) (Rows.uptoBulk ∘ (fun y : DataW H × List MemPlace => y.1)) l elems (by omega) (fun i x y hx hy => (hp i x hx).2.2 y hy)
    refine ⟨_, l, rfl, ⟨_, cap, by rw [hl], by omega, hm, fun hne => ?_⟩, ?_, ?_, ?_⟩
    · have h0 : 0 < l.length := List.length_pos_iff.2 hne
      obtain ⟨⟨_, _, k0, _⟩, _⟩ := hp 0 l[0] (by simp [h0])
      exact ⟨ab, ao, rfl, World.block_lt_of_cell? W _ k0, fun i x hx => (hp i x hx).1⟩
    · intro y hy
      obtain ⟨i, hi⟩ := List.mem_iff_getElem?.1 hy
      exact (hp i y hi).2.1
    · intro y hy
      have h1 := sum_mem (fun y : Nd => y.s.size + y.attrs.length) hy
      simp only [Rows.uptoBulk]
      rw [bulkAll_sum, List.map_map]
      omega
    · have h1 : ∀ l : List Nd, txtD l ≤ (l.map fun y : Nd => y.s.size + y.attrs.length).sum := by
        intro l
        induction l with
        | nil => exact Nat.le_refl _
        | cons y l ih => unfold txtD at ih ⊢; rw [List.map_cons, List.sum_cons, List.map_cons, List.sum_cons]; omega
      have h2 := h1 l
      simp only [Rows.uptoBulk]
      rw [bulkAll_sum, List.map_map]
      omega

/-- A document that came in, with what its bulk bounds. -/
theorem open_docU {fuel : Nat} {cs : List Value} {x : DataW H × List MemPlace} (hl : cs.length = 1) (h : DataW.trod enc Try.prog W 0 (fun _ => true) true fuel 24 cs = some x) :
    ∃ v ns, cs = [v] ∧ Nodes (fun b => b < W.heap.size) W v ns ∧ TextsD ns ∧ (∀ y ∈ ns, y.attrs.length ≤ Rows.uptoBulk x.1) ∧ txtD ns ≤ Rows.uptoBulk x.1 := by
  match cs, hl with
  | [c0], _ =>
    obtain ⟨y0, k, hx, _, u0⟩ := trod_struct1 Try.underlying24 h
    simp [nodesCellsOf] at u0
    obtain ⟨v, ns, hc, hN, ht, ha, hs⟩ := open_nodesU u0
    refine ⟨v, ns, hc, hN, ht, fun y hy => ?_, ?_⟩
    · have := ha y hy
      rw [hx]
      simp only [Rows.uptoBulk, Rows.uptoBulkAll]
      omega
    · rw [hx]
      simp only [Rows.uptoBulk, Rows.uptoBulkAll]
      omega
end
end Go.Proofs.Ytlchbhlmbphkpaa

