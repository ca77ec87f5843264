/- Bundled: TreeO CopyD SameD WithR IsDocR DocsL. What each says stands ahead of it. -/
import Derived.Test.YtfghbfocjjmcmaaDoorBundle12
import Derived.Test.YtfghbfocjjmcmaaDoorBundle07
import Derived.Test.YtfghbfocjjmcmaaDoorBundle11
import Derived.Test.YtfghbfocjjmcmaaDoorBundle09
/- The document's own treeOf: the tree at a node, by the parents alone. Condition: at most 80 nodes; attributes of a size that can be read. -/
namespace Go.Proofs.YtfghbfocjjmcmaaDoor
open Go.ChangeShapes Go.WideShapes Go.ChangeAt Go.RowKit
set_option maxRecDepth 100000

attribute [local go_sem] cell_set

/-- The copy of a list of attributes, as a step of a region that draws (as step_attrs, for all lists that can be read). -/
theorem step_attrs2 {ops : Array Oper} {o : Oper} {a : Act} {w : World} {K : Act → World → Prop} {Q : Exit → Act → World → Prop} {E : Prop}
    (hg : o.guard = none) (x : Operand) (hop : o.op = Op.call { callee := Callee.builtin Builtin.append, args := #[.const (.slice none 0 0), x], argTypes := #[22, 22] })
    (S : Nat → Prop) (v : Value) (l : List (ByteArray × ByteArray)) (hx : a.eval x = v) (h : Attrs S w v l) (hl : l.length ≤ 4398046511104)
    (hK : ∀ v' w', Attrs (OwnS w.heap.size 65 w') w' v' l → Below w.heap.size w w' → K (a.put o.dst v') w') :
    if Region.wanted o (yielded ops a.tmps) = true then Oper.wp Tryd.prog o a w K Q else E := by
  have hw : Region.wanted o (yielded ops a.tmps) = true := by simp [Region.wanted, hg]
  rw [if_pos hw]
  obtain ⟨i0, hi, hz0, hz1, hz2⟩ := info_parts attrInfo
  obtain ⟨ad, cap, rfl, h2, h3, h4⟩ := h
  have hs : a.eval (.const (.slice none 0 0)) = .slice none 0 0 := rfl
  cases ad with
  | none =>
    have hn : l = [] := by
      apply Classical.byContradiction; intro hne
      obtain ⟨b, o, ha, _⟩ := h4 hne
      cases ha
    subst hn
    have hrun : (Builtin.append_ #[22, 22] o.type #[.slice none 0 0, .slice none 0 cap]).run Tryd.prog w = .ok (.slice none 0 0) w := by
      simp [Builtin.append_, run_underlying Tryd.underlying22, sizeOf, typeInfo, hi, Builtin.lenOf, Builtin.firstCells]
    simp only [List.length_nil] at hx
    unfold Oper.wp
    simp [execOp, hop, resolve, invoke, builtin, hs, hx, hrun, Result.andThen]
    exact hK _ _ ⟨none, 0, rfl, Nat.le_refl _, Nat.zero_le _, fun hne => absurd rfl hne⟩ (Below.refl _ _)
  | some ad =>
    have hcells : ∀ j u, (attrCells l)[j]? = some u → w.cell? (ad.add j) = some u := by
      by_cases hne : l = []
      · subst hne; intro j u hj; simp [attrCells] at hj
      · obtain ⟨b, o, ha, _, hc⟩ := h4 hne
        cases ha
        intro j u hj
        rw [Addr.add_lit]
        exact Attrs.cells hc j u hj
    obtain ⟨v', w', hrun, r1, r2, _⟩ := run_append_own (P := Tryd.prog) w w.heap.size 22 o.type 65 i0 _ 2 32 Tryd.underlying22 hi hz0 hz1 hz2 rfl (by decide) (.slice none 0 0) 0 [] (World.ownsRow_nil w _ _ _) ad l.length cap (attrCells l) (attrCells_length l) hcells (attrCells_one l) (by unfold maxLen; omega) (by omega) (Nat.le_refl _)
    unfold Oper.wp
    simp [execOp, hop, resolve, invoke, builtin, hs, hx, hrun, Result.andThen]
    refine hK _ _ (Attrs.of_owns (by simpa using r1)) ((Below.refl _ w).grown r2 (Nat.le_refl _) (fun k hk => by simp [Value.ownBlock] at hk))

def TreeOfOk (f : Nat) : Prop := ∀ (S : Nat → Prop) (v : Value) (ns : List Nd) (n : Nat) (w : World), Nodes S w v ns → (∀ x ∈ ns, x.attrs.length ≤ 4398046511104) → ns.length ≤ 80 → n < ns.length → ns.length ≤ n + f →
  Calls Tryd.prog 65 #[.agg #[v], .int .i64 (n : Int)] w fun e w' => ∃ va vk, e = .returned (.agg #[.bool (treeF f ns n).text, .string (treeF f ns n).s, va, vk]) ∧
    Attrs (fun b => w.heap.size ≤ b) w' va (treeF f ns n).attrs ∧ Trees (fun b => w.heap.size ≤ b) w' f vk (treeF f ns n).kids ∧ Below w.heap.size w w'

theorem sonsF_none (ns : List Nd) (n : Nat) : ∀ m, m ≤ n + 1 → sonsF ns n m = [] := by
  intro m
  induction m with
  | zero => intro _; rfl
  | succ m ih =>
    intro h
    rw [sonsF, ih (by omega), if_neg (by omega)]
    rfl

theorem sonsF_len (ns : List Nd) (n : Nat) : ∀ m, (sonsF ns n m).length ≤ m := by
  intro m
  induction m with
  | zero => exact Nat.le_refl _
  | succ m ih =>
    rw [sonsF, List.length_append]
    split
    · simp; exact ih
    · simp; omega

/-- What stands behind the region that makes the tree: the document's box, the answer's box, the tree's box. -/
structure GT (w : World) (dv : Value) (b2 M : Nat) (tr : Array Value) (va : Value) (l : List (ByteArray × ByteArray)) (W : World) : Prop where
  below : Below w.heap.size w W
  box : W.heap[w.heap.size]? = some (.cells #[dv] 47 (0, 0))
  res : W.heap[w.heap.size + 1]? = some (.cells #[.bool false, .string ⟨#[]⟩, .slice none 0 0, .slice none 0 0] 25 (0, 0))
  tre : W.heap[b2]? = some (.cells tr 25 (0, 0))
  lo : w.heap.size + 2 ≤ b2
  hi : b2 < M
  le : M ≤ W.heap.size
  att : Attrs (fun b => w.heap.size + 2 ≤ b ∧ b ≠ b2 ∧ b < M) W va l

theorem treeOf_step {w : World} {dv : Value} {b2 M f i : Nat} {c0 c1 c2 : Value} {va : Value} {l : List (ByteArray × ByteArray)} {wr w5 w6 : World} {ja : Option Addr} {jc : Nat} {us : List Tr} {qs : List (Bool × ByteArray × Value × Value)} {t : Tr} {a5 k5 : Option Addr} {d5 e5 : Nat} {a6 : Option Addr} {n6 c6 : Nat}
    (hG : GT w dv b2 M #[c0, c1, c2, .slice ja i jc] va l wr) (hR : Grow (fun _ => False) f M wr.drew (.slice ja i jc) us qs) (hi : us.length = i) (hb5 : Below wr.drew.heap.size wr.drew w5)
    (hA : Attrs (fun b => wr.drew.heap.size ≤ b) w5 (.slice a5 t.attrs.length d5) t.attrs) (hK : Trees (fun b => wr.drew.heap.size ≤ b) w5 f (.slice k5 t.kids.length e5) t.kids)
    (hown : w6.ownsRow M 25 4 (.slice a6 n6 c6) (i + 1) (quadCells qs ++ [.bool t.text, .string t.s, .slice a5 t.attrs.length d5, .slice k5 t.kids.length e5]))
    (hgr : (w5.alloc (.cells #[.bool t.text, .string t.s, .slice a5 t.attrs.length d5, .slice k5 t.kids.length e5] 25)).grownBy w6 (Value.slice ja i jc).ownBlock)
    (hat : (Value.slice a6 n6 c6).ownBlock = (Value.slice ja i jc).ownBlock ∨ (Value.slice a6 n6 c6).ownBlock = some (w5.alloc (.cells #[.bool t.text, .string t.s, .slice a5 t.attrs.length d5, .slice k5 t.kids.length e5] 25)).heap.size) :
    GT w dv b2 M #[c0, c1, c2, .slice a6 n6 c6] va l (w6.setCell ⟨b2, 3, none⟩ (.slice a6 n6 c6)) ∧ M ≤ (w6.setCell ⟨b2, 3, none⟩ (.slice a6 n6 c6)).heap.size ∧
      Grow (fun _ => False) f M (w6.setCell ⟨b2, 3, none⟩ (.slice a6 n6 c6)) (.slice a6 n6 c6) (us ++ [t]) (qs ++ [(t.text, t.s, .slice a5 t.attrs.length d5, .slice k5 t.kids.length e5)]) := by
  have hs5 : wr.heap.size ≤ w5.heap.size := hb5.size
  have hMr := hG.le
  have hhi := hG.hi
  have hs6 := hgr.size
  simp only [World.size_alloc] at hs6
  have hkeep : ∀ b, b < wr.heap.size → b < M → w6.heap[b]? = wr.heap[b]? := by
    intro b h1 h2
    rw [hgr.block b (by simp; omega) (fun e => by have := (hR.own.lt b e.symm).1; omega), Lib.alloc_old _ _ _ (by omega)]
    exact hb5.block b h1
  have hB6 : Below w.heap.size w w6 := ((hG.below.drew.trans (hb5.mono hG.below.size)).alloc (by have := hG.below.size; omega) _).grown hgr (by simp; have := hG.below.size; omega) (fun k hk => by have := (hR.own.lt k hk).1; have := hG.lo; omega)
  have hsz : (w6.setCell ⟨b2, 3, none⟩ (.slice a6 n6 c6)).heap.size = w6.heap.size := by simp
  have hlo := hG.lo
  have hres := blk_lt hG.res
  have hbox := blk_lt hG.box
  have htre := blk_lt hG.tre
  refine ⟨⟨hB6.setCell (p := ⟨b2, 3, none⟩) (by show w.heap.size ≤ b2; omega) _, ?_, ?_, ?_, hlo, hhi, by rw [hsz]; omega, ?_⟩, by rw [hsz]; omega, ?_⟩
  · rw [blk_set_ne (by omega), hkeep _ hbox (by omega)]; exact hG.box
  · rw [blk_set_ne (by omega), hkeep _ hres (by omega)]; exact hG.res
  · have := (hkeep b2 htre hhi).trans hG.tre
    simp [World.setCell, Array.getElem?_modify, this]
  · refine hG.att.bounded.carry fun b hb => ⟨hb.1, ?_⟩
    rw [blk_set_ne hb.1.2.1, hkeep b hb.2 hb.1.2.2]
  · have hfr := hR.fresh (w' := w5.alloc (.cells #[.bool t.text, .string t.s, .slice a5 t.attrs.length d5, .slice k5 t.kids.length e5] 25)) (Nat.le_refl _) hMr
    have hG3 := (hR.later hb5).later (Below.alloc1 w5 (.cells #[.bool t.text, .string t.s, .slice a5 t.attrs.length d5, .slice k5 t.kids.length e5] 25))
    have hG4 := hG3.snoc (t := t) (q := (t.text, t.s, .slice a5 t.attrs.length d5, .slice k5 t.kids.length e5)) (by rw [hi]; exact hown) hgr hat rfl rfl
      ((hA.later (Below.alloc1 w5 _)).bounded.carry (fun b hb => ⟨hfr b ⟨hb.1, hb.2⟩, rfl⟩))
      (Trees.carry (fun b hb => ⟨hfr b ⟨hb.1, hb.2⟩, rfl⟩) f (Trees.bounded f (Trees.later (Below.alloc1 w5 _) f hK)))
    have hne : ∀ b, M ≤ b → b ≠ b2 := fun b h => by omega
    refine ⟨hG4.len, ownsRow_heap hG4.own (fun b hb => blk_set_ne (hne b (hG4.own.lt b hb).1)), fun j q u hq hu => ?_⟩
    obtain ⟨x1, x2, x3, x4⟩ := hG4.each j q u hq hu
    have carry : ∀ b, Oth (fun _ => False) M w6 (.slice a6 n6 c6) b → Oth (fun _ => False) M (w6.setCell ⟨b2, 3, none⟩ (.slice a6 n6 c6)) (.slice a6 n6 c6) b ∧ (w6.setCell ⟨b2, 3, none⟩ (.slice a6 n6 c6)).heap[b]? = w6.heap[b]? := by
      intro b hb
      refine ⟨⟨hb.1, by rw [hsz]; exact hb.2.1, hb.2.2⟩, blk_set_ne (hne b ?_)⟩
      rcases hb.1 with h1 | h1
      · exact h1.elim
      · exact h1
    exact ⟨x1, x2, x3.carry carry, Trees.carry carry f x4⟩

set_option maxHeartbeats 2000000 in
theorem treeOf_succ (f : Nat) (ih : TreeOfOk f) : TreeOfOk (f + 1) := by
  intro S v ns n w hN hfew h80 hn hf
  obtain ⟨x, hx⟩ : ∃ x, ns[n]? = some x := ⟨ns[n], by simp [hn]⟩
  have HG : Hid (treeF (f + 1) ns n = ⟨x.text, x.s, x.attrs, (sonsF ns n ns.length).map fun k => treeF f ns k.toNat⟩) := by show _ = _; rw [treeF, hx]
  have hal := hfew x (List.mem_of_getElem? hx)
  obtain ⟨b, o, cap, va, vk, rfl, hlc, hcm, hSb, hbw, c0, c1, c2, c3, c4, hAt, hKi⟩ := hN.at hx
  obtain ⟨aa, ac, rfl⟩ := hAt.shape
  obtain ⟨ka, kc, rfl, hkl2, hkm⟩ := hKi.shape
  unfold maxLen at hcm hkm
  have hb3 : Below w.heap.size w (((w.alloc (.cells #[.slice (some ⟨b, o, none⟩) ns.length cap] 47)).alloc (.cells #[.bool false, .string ⟨#[]⟩, .slice none 0 0, .slice none 0 0] 25)).alloc (.cells #[.bool x.text, .string x.s, .slice aa x.attrs.length ac, .int .i64 x.parent, .slice ka x.kids.length kc] 86)) := ((Below.alloc1 w _).alloc (by simp) _).alloc (by simp; omega) _
  have IH : Hid (TreeOfOk f) := ih
  have hni : (n : Int) < (ns.length : Int) := by omega
  clear ih
  go_enter Tryd.func65, Tryd.ntmps65
  go_wp2_with fail
  have hD3 : (((w.alloc (.cells #[.slice (some ⟨b, o, none⟩) ns.length cap] 47)).alloc (.cells #[.bool false, .string ⟨#[]⟩, .slice none 0 0, .slice none 0 0] 25)).alloc (.cells #[.bool x.text, .string x.s, .slice aa x.attrs.length ac, .int .i64 x.parent, .slice ka x.kids.length kc] 86)).heap[w.heap.size]? = some (.cells #[(.slice (some ⟨b, o, none⟩) ns.length cap)] 47 (0, 0)) := by
    rw [Lib.alloc_old _ _ _ (by simp; omega), Lib.alloc_old _ _ _ (by simp)]; exact heap_alloc_new _ _
  have hX3 : (((w.alloc (.cells #[.slice (some ⟨b, o, none⟩) ns.length cap] 47)).alloc (.cells #[.bool false, .string ⟨#[]⟩, .slice none 0 0, .slice none 0 0] 25)).alloc (.cells #[.bool x.text, .string x.s, .slice aa x.attrs.length ac, .int .i64 x.parent, .slice ka x.kids.length kc] 86)).heap[w.heap.size + 1]? = some (.cells #[.bool false, .string ⟨#[]⟩, .slice none 0 0, .slice none 0 0] 25 (0, 0)) := by
    rw [Lib.alloc_old _ _ _ (by simp)]
    have e := heap_alloc_new (w.alloc (.cells #[(.slice (some ⟨b, o, none⟩) ns.length cap)] 47)) (.cells #[.bool false, .string ⟨#[]⟩, .slice none 0 0, .slice none 0 0] 25)
    rw [World.size_alloc] at e
    exact e
  have hY3 : (((w.alloc (.cells #[.slice (some ⟨b, o, none⟩) ns.length cap] 47)).alloc (.cells #[.bool false, .string ⟨#[]⟩, .slice none 0 0, .slice none 0 0] 25)).alloc (.cells #[.bool x.text, .string x.s, .slice aa x.attrs.length ac, .int .i64 x.parent, .slice ka x.kids.length kc] 86)).heap[w.heap.size + 2]? = some (.cells #[.bool x.text, .string x.s, .slice aa x.attrs.length ac, .int .i64 x.parent, .slice ka x.kids.length kc] 86 (0, 0)) := by
    have e := heap_alloc_new ((w.alloc (.cells #[(.slice (some ⟨b, o, none⟩) ns.length cap)] 47)).alloc (.cells #[.bool false, .string ⟨#[]⟩, .slice none 0 0, .slice none 0 0] 25)) (.cells #[.bool x.text, .string x.s, .slice aa x.attrs.length ac, .int .i64 x.parent, .slice ka x.kids.length kc] 86)
    rw [World.size_alloc, World.size_alloc] at e
    exact e
  have hZ : (((w.alloc (.cells #[.slice (some ⟨b, o, none⟩) ns.length cap] 47)).alloc (.cells #[.bool false, .string ⟨#[]⟩, .slice none 0 0, .slice none 0 0] 25)).alloc (.cells #[.bool x.text, .string x.s, .slice aa x.attrs.length ac, .int .i64 x.parent, .slice ka x.kids.length kc] 86)).heap.size = w.heap.size + 3 := by simp
  generalize ((w.alloc (.cells #[.slice (some ⟨b, o, none⟩) ns.length cap] 47)).alloc (.cells #[.bool false, .string ⟨#[]⟩, .slice none 0 0, .slice none 0 0] 25)).alloc (.cells #[.bool x.text, .string x.s, .slice aa x.attrs.length ac, .int .i64 x.parent, .slice ka x.kids.length kc] 86) = W2 at hb3 hD3 hX3 hY3 hZ ⊢
  have HZ2 : Hid (W2.heap.size = w.heap.size + 3) := hZ
  have hZ3 : w.heap.size + 2 < W2.heap.size := by omega
  clear hZ
  have HAT : Hid (∀ W, Below w.heap.size w W → Attrs S W (.slice aa x.attrs.length ac) x.attrs) := fun W hW => hAt.later hW
  have HNN : Hid (Nodes S w (.slice (some ⟨b, o, none⟩) ns.length cap) ns) := hN
  have HWW : Hid (∀ W' : World, W'.heap[w.heap.size + 2]? = W2.heap[w.heap.size + 2]? → W'.cell? ⟨w.heap.size + 2, 0, none⟩ = some (.bool x.text) ∧ W'.cell? ⟨w.heap.size + 2, 1, none⟩ = some (.string x.s) ∧ W'.cell? ⟨w.heap.size + 2, 2, none⟩ = some (.slice aa x.attrs.length ac)) := by
    intro W' h2
    rw [hY3] at h2
    exact ⟨by rw [Lib.cell_of_heap h2]; rfl, by rw [Lib.cell_of_heap h2]; rfl, by rw [Lib.cell_of_heap h2]; rfl⟩
  obtain ⟨y0, y1, y2⟩ := HWW.out W2 rfl
  have HB4 : Hid (Below w.heap.size w (W2.alloc (.cells #[.bool false, .string ⟨#[]⟩, .slice none 0 0, .slice none 0 0] 25)).drew) := (hb3.alloc (by omega) _).drew
  have HZ4 : Hid (w.heap.size + 2 < (W2.alloc (.cells #[.bool false, .string ⟨#[]⟩, .slice none 0 0, .slice none 0 0] 25)).drew.heap.size) := by show w.heap.size + 2 < (W2.alloc (.cells #[.bool false, .string ⟨#[]⟩, .slice none 0 0, .slice none 0 0] 25)).heap.size; rw [World.size_alloc]; omega
  have HZ5 : Hid (W2.heap.size < (W2.alloc (.cells #[.bool false, .string ⟨#[]⟩, .slice none 0 0, .slice none 0 0] 25)).drew.heap.size) := by show W2.heap.size < (W2.alloc (.cells #[.bool false, .string ⟨#[]⟩, .slice none 0 0, .slice none 0 0] 25)).heap.size; rw [World.size_alloc]; omega
  have HD3 : Hid (W2.heap[w.heap.size]? = some (.cells #[(.slice (some ⟨b, o, none⟩) ns.length cap)] 47 (0, 0))) := hD3
  have HX3 : Hid (W2.heap[w.heap.size + 1]? = some (.cells #[.bool false, .string ⟨#[]⟩, .slice none 0 0, .slice none 0 0] 25 (0, 0))) := hX3
  clear c0 c1 c2 c3 c4 hAt hKi hN hx hX3 hD3 hY3
  go_region_held3 (fun W : World => W.cell? ⟨w.heap.size + 2, 0, none⟩ = some (.bool x.text) ∧ W.cell? ⟨w.heap.size + 2, 1, none⟩ = some (.string x.s) ∧ W.cell? ⟨w.heap.size + 2, 2, none⟩ = some (.slice aa x.attrs.length ac))
    (first
      | exact HWW.out w3 (hbB.block _ hZ3)
      | exact HWW.out (w3.alloc (.cells #[.bool false, .string ⟨#[]⟩, .slice none 0 0, .slice none 0 0] 25)) ((Lib.alloc_old _ _ _ (Nat.lt_of_lt_of_le hZ3 hbB.size)).trans (hbB.block _ hZ3))
      | exact HWW.out (w3.alloc (.cells #[.bool x.text, .string x.s, .slice a3 x.attrs.length c3', .slice none 0 0] 25)) ((Lib.alloc_old _ _ _ (Nat.lt_of_lt_of_le hZ3 hbB.size)).trans (hbB.block _ hZ3))
      | exact HWW.out w3 ((hbA.block _ HZ4.out).trans (Lib.alloc_old _ _ _ hZ3))
      | exact HWW.out _ (by rw [blk_set_ne (Nat.ne_of_lt hZ3), blk_set_ne (Nat.ne_of_lt hZ3), blk_set_ne (Nat.ne_of_lt hZ3), blk_set_ne (Nat.ne_of_lt hZ3)]; exact (hbA.block _ HZ4.out).trans (Lib.alloc_old _ _ _ hZ3))
      | exact HWW.out W2.drew rfl
      | exact HWW.out (W2.alloc (.cells #[.bool false, .string ⟨#[]⟩, .slice none 0 0, .slice none 0 0] 25)).drew (Lib.alloc_old _ _ _ hZ3))
    (first
      | (refine step_attrs2 (by rfl) (.tmp 18) (by rfl) S (.slice aa x.attrs.length ac) x.attrs (by simp [Act.eval]) (HAT.out (W2.alloc (.cells #[.bool false, .string ⟨#[]⟩, .slice none 0 0, .slice none 0 0] 25)).drew HB4.out) hal ?_; intro va3 w3 hA3 hbA; obtain ⟨a3, c3', rfl⟩ := hA3.shape; have hV3 : w3.heap[W2.heap.size]? = some (.cells #[.bool false, .string ⟨#[]⟩, .slice none 0 0, .slice none 0 0] 25 (0, 0)) := (hbA.block _ HZ5.out).trans (heap_alloc_new _ _); have g0 := Lib.cell_of_heap hV3 0; have g1 := Lib.cell_of_heap hV3 1; have g2 := Lib.cell_of_heap hV3 2; have g3 := Lib.cell_of_heap hV3 3; have k0 := Lib.frozen_of_heap hV3 0; have k1 := Lib.frozen_of_heap hV3 1; have k2 := Lib.frozen_of_heap hV3 2; have k3 := Lib.frozen_of_heap hV3 3; simp at g0 g1 g2 g3)
      | (refine step_attrs2 (by rfl) (.tmp 18) (by rfl) S (.slice aa x.attrs.length ac) x.attrs (by simp [Act.eval]) (HAT.out W2.drew hb3.drew) hal ?_; intro va3 w3 hA3 hbB; obtain ⟨a3, c3', rfl⟩ := hA3.shape))
  all_goals
    first
      | (have hGS : GT w (.slice (some ⟨b, o, none⟩) ns.length cap) w3.heap.size (w3.alloc (.cells #[.bool x.text, .string x.s, .slice a3 x.attrs.length c3', .slice none 0 0] 25)).heap.size #[.bool x.text, .string x.s, .slice a3 x.attrs.length c3', .slice none 0 0] (.slice a3 x.attrs.length c3') x.attrs (w3.alloc (.cells #[.bool x.text, .string x.s, .slice a3 x.attrs.length c3', .slice none 0 0] 25)) := by
          have hB3 : Below w.heap.size w w3 := hb3.drew.trans (hbB.mono (by have := HZ2.out; show w.heap.size ≤ W2.heap.size; omega))
          have hs3 : W2.heap.size ≤ w3.heap.size := hbB.size
          have hz := HZ2.out
          refine ⟨hB3.alloc hB3.size _, ?_, ?_, heap_alloc_new _ _, by omega, by simp, Nat.le_refl _, ?_⟩
          · rw [Lib.alloc_old _ _ _ (by omega)]; exact (hbB.block _ (by show w.heap.size < W2.heap.size; omega)).trans HD3.out
          · rw [Lib.alloc_old _ _ _ (by omega)]; exact (hbB.block _ (by show w.heap.size + 1 < W2.heap.size; omega)).trans HX3.out
          · exact (hA3.later (Below.alloc1 w3 _)).bounded.carry fun b hb => ⟨⟨by have h1 : W2.heap.size ≤ b := hb.1.1; omega, by have := hb.1.lt; omega, hb.2⟩, rfl⟩
         generalize w3.alloc (.cells #[.bool x.text, .string x.s, .slice a3 x.attrs.length c3', .slice none 0 0] 25) = W4 at hGS ⊢
         generalize w3.heap.size = b2 at hGS ⊢
         clear hb3 hbB hA3 HAT HWW HB4 HZ4 HZ5 HX3 HD3 HZ2 hZ3 y0 y1 y2)
      | (have hGS : GT w (.slice (some ⟨b, o, none⟩) ns.length cap) W2.heap.size ((((w3.setCell ⟨W2.heap.size, 0, none⟩ (.bool x.text)).setCell ⟨W2.heap.size, 1, none⟩ (.string x.s)).setCell ⟨W2.heap.size, 2, none⟩ (.slice a3 x.attrs.length c3')).setCell ⟨W2.heap.size, 3, none⟩ (.slice none 0 0)).heap.size #[.bool x.text, .string x.s, .slice a3 x.attrs.length c3', .slice none 0 0] (.slice a3 x.attrs.length c3') x.attrs ((((w3.setCell ⟨W2.heap.size, 0, none⟩ (.bool x.text)).setCell ⟨W2.heap.size, 1, none⟩ (.string x.s)).setCell ⟨W2.heap.size, 2, none⟩ (.slice a3 x.attrs.length c3')).setCell ⟨W2.heap.size, 3, none⟩ (.slice none 0 0)) := by
          have hB3 : Below w.heap.size w w3 := HB4.out.trans (hbA.mono HB4.out.size)
          have hz := HZ2.out
          have hle : w.heap.size ≤ W2.heap.size := by omega
          refine ⟨(((hB3.setCell (p := ⟨W2.heap.size, 0, none⟩) hle _).setCell (p := ⟨W2.heap.size, 1, none⟩) hle _).setCell (p := ⟨W2.heap.size, 2, none⟩) hle _).setCell (p := ⟨W2.heap.size, 3, none⟩) hle _, ?_, ?_, ?_, by omega, by have := blk_lt hV3; simpa using this, Nat.le_refl _, ?_⟩
          · rw [blk_set_ne (by omega), blk_set_ne (by omega), blk_set_ne (by omega), blk_set_ne (by omega)]
            exact (hbA.block _ (by have := HZ4.out; omega)).trans ((Lib.alloc_old _ _ _ (by omega)).trans HD3.out)
          · rw [blk_set_ne (by omega), blk_set_ne (by omega), blk_set_ne (by omega), blk_set_ne (by omega)]
            exact (hbA.block _ (by have := HZ4.out; omega)).trans ((Lib.alloc_old _ _ _ (by omega)).trans HX3.out)
          · simp [World.setCell, Array.getElem?_modify, hV3]
          · refine hA3.bounded.carry fun b hb => ⟨⟨by have h1 : (W2.alloc (.cells #[.bool false, .string ⟨#[]⟩, .slice none 0 0, .slice none 0 0] 25)).drew.heap.size ≤ b := hb.1.1; have := HZ5.out; omega, by have h1 : (W2.alloc (.cells #[.bool false, .string ⟨#[]⟩, .slice none 0 0, .slice none 0 0] 25)).drew.heap.size ≤ b := hb.1.1; have := HZ5.out; omega, by have := hb.2; simpa using this⟩, ?_⟩
            have h1 : (W2.alloc (.cells #[.bool false, .string ⟨#[]⟩, .slice none 0 0, .slice none 0 0] 25)).drew.heap.size ≤ b := hb.1.1
            have h2 := HZ5.out
            rw [blk_set_ne (by omega), blk_set_ne (by omega), blk_set_ne (by omega), blk_set_ne (by omega)]
         generalize ((((w3.setCell ⟨W2.heap.size, 0, none⟩ (.bool x.text)).setCell ⟨W2.heap.size, 1, none⟩ (.string x.s)).setCell ⟨W2.heap.size, 2, none⟩ (.slice a3 x.attrs.length c3')).setCell ⟨W2.heap.size, 3, none⟩ (.slice none 0 0)) = W4 at hGS ⊢
         generalize W2.heap.size = b2 at hGS ⊢
         clear hb3 hbA hA3 HAT HWW HB4 HZ4 HZ5 HX3 HD3 HZ2 hZ3 y0 y1 y2 hV3 g0 g1 g2 g3 k0 k1 k2 k3)
    have d4 : W4.cell? ⟨w.heap.size, 0, none⟩ = some (.slice (some ⟨b, o, none⟩) ns.length cap) := by rw [Lib.cell_of_heap hGS.box]; rfl
    have HGS : Hid _ := hGS
    have hlo := hGS.lo
    clear hGS
    go_wp2_with fail
    go_loopg [7] (ns.length - (n + 1)) (fun g j wr => ∃ (i : Nat) (v : Value) (qs : List (Bool × ByteArray × Value × Value)), i + g = ns.length ∧ n < i ∧ j = .int .i64 (i : Int) ∧ GT w (.slice (some ⟨b, o, none⟩) ns.length cap) b2 W4.heap.size #[.bool x.text, .string x.s, .slice a3 x.attrs.length c3', v] (.slice a3 x.attrs.length c3') x.attrs wr ∧ W4.heap.size ≤ wr.heap.size ∧ Grow (fun _ => False) f W4.heap.size wr v ((sonsF ns n i).map fun k => treeF f ns k.toNat) qs)
    case atStart => exact ⟨n + 1, .slice none 0 0, [], by omega, by omega, by go_num, HGS.out, Nat.le_refl _, by rw [sonsF_none _ _ _ (Nat.le_refl _)]; exact Grow.nil _ _ _ _⟩
    case round =>
      obtain ⟨i, v, qs, hi, hni2, rfl, hG, hWs, hGr⟩ := hrel
      have HG4 : Hid _ := hG
      have hB4 := hG.below
      obtain ⟨ja, jc, rfl⟩ := hGr.shape
      have HGR : Hid _ := hGr
      have d5 : wr.cell? ⟨w.heap.size, 0, none⟩ = some (.slice (some ⟨b, o, none⟩) ns.length cap) := by rw [Lib.cell_of_heap HG4.out.box]; rfl
      by_cases hil : i < ns.length
      · obtain ⟨y, hy⟩ : ∃ y, ns[i]? = some y := ⟨ns[i], by simp [hil]⟩
        obtain ⟨b', o', cap2, xva, xvk, hv, _, _, _, hbw2, _, _, _, c3, _, _, _⟩ := (HNN.out.later hB4).at hy
        cases hv
        have hili : (i : Int) < (ns.length : Int) := by omega
        by_cases hp : y.parent = (n : Int)
        · have hsn : (sonsF ns n (i + 1)).map (fun k => treeF f ns k.toNat) = (sonsF ns n i).map (fun k => treeF f ns k.toNat) ++ [treeF f ns i] := by
            rw [sonsF, if_pos ⟨by omega, by unfold parB; rw [hy]; simp [hp]⟩, List.map_append]; rfl
          have HSN : Hid _ := hsn
          rw [hp] at c3
          have HCALL : Hid (∀ W, Below w.heap.size w W → Calls Tryd.prog 65 #[.agg #[(.slice (some ⟨b, o, none⟩) ns.length cap)], .int .i64 (i : Int)] W fun e w' => ∃ r, e = .returned r ∧ ∃ va vk, r = .agg #[.bool (treeF f ns i).text, .string (treeF f ns i).s, va, vk] ∧
              Attrs (fun b => W.heap.size ≤ b) w' va (treeF f ns i).attrs ∧ Trees (fun b => W.heap.size ≤ b) w' f vk (treeF f ns i).kids ∧ Below W.heap.size W w') := by
            intro W hW
            refine (IH.out S _ ns i W (HNN.out.later hW) hfew h80 (by omega) (by omega)).mono ?_
            rintro e w' ⟨va, vk, rfl, h1, h2, h3⟩
            exact ⟨_, rfl, va, vk, rfl, h1, h2, h3⟩
          have hln : ((sonsF ns n i).map fun k => treeF f ns k.toNat).length ≤ 80 := by rw [List.length_map]; have := sonsF_len ns n i; omega
          obtain ⟨us, hus⟩ : ∃ us, (sonsF ns n i).map (fun k => treeF f ns k.toNat) = us := ⟨_, rfl⟩
          obtain ⟨t, ht⟩ : ∃ t, treeF f ns i = t := ⟨_, rfl⟩
          rw [hus] at HGR HG4 HSN hln
          rw [ht] at HCALL HSN
          obtain ⟨L, hL⟩ : ∃ L, us.length = L := ⟨_, rfl⟩
          rw [hL] at HGR HG4 hln
          have HLN : Hid (us.length = L) := hL
          have hz3 : wr.cell? ⟨b2, 3, none⟩ = some (.slice ja L jc) := by rw [Lib.cell_of_heap HG4.out.tre]; rfl
          have hf3 : wr.frozen? ⟨b2, 3, none⟩ = false := Lib.frozen_of_heap HG4.out.tre 3
          have hi20 : L ≤ 1048576 := by omega
          have hwrs := hB4.size
          have hb2r := blk_lt HG4.out.tre
          have HGD : Hid (Grow (fun _ => False) f W4.heap.size wr.drew (.slice ja L jc) us qs) := HGR.out.later (Below.refl _ wr).drew
          have HCH : Hid (∀ (w5 w6 : World) (X : Obj), Below wr.drew.heap.size wr.drew w5 → (w5.alloc X).grownBy w6 (Value.slice ja L jc).ownBlock → w6.heap[b2]? = some (.cells #[.bool x.text, .string x.s, .slice a3 x.attrs.length c3', .slice ja L jc] 25 (0, 0))) := by
            intro w5 w6 X h5 h6
            have h7 : b2 < w5.heap.size := Nat.lt_of_lt_of_le hb2r h5.size
            rw [h6.block b2 (by simp; omega) (fun e => by have := (HGR.out.own.lt b2 e.symm).1; have := HG4.out.hi; omega), Lib.alloc_old _ _ _ h7]
            exact (h5.block b2 hb2r).trans HG4.out.tre
          clear hG hGr hy hsn hus ht d4 hL hp
          go_wp2_with fail
          go_region_law (first
            | (refine step_enter (by rfl) 65 #[.agg #[(.slice (some ⟨b, o, none⟩) ns.length cap)], .int .i64 (i : Int)] (by go_simp) _ (HCALL.out _ hB4.drew) ?_; intro r5 w5 hR5; obtain ⟨va5, vk5, rfl, hA5, hK5, hb5⟩ := hR5; obtain ⟨a5, c5, rfl⟩ := hA5.shape; obtain ⟨k5, d5, rfl, _, _⟩ := Trees.shape f hK5; have z5 : w5.cell? ⟨b2, 3, none⟩ = some (.slice ja L jc) := (hb5.cell (p := ⟨b2, 3, none⟩) hb2r).trans hz3; have z5a : (w5.alloc (.cells #[.bool t.text, .string t.s, .slice a5 t.attrs.length c5, .slice k5 t.kids.length d5] 25)).cell? ⟨b2, 3, none⟩ = some (.slice ja L jc) := Lib.cell?_alloc_some _ z5)
            | (refine step_tree (by rfl) (.tmp 39) (.tmp 43) (by rfl) W4.heap.size (.slice ja L jc) L (quadCells qs) (by simp [Act.eval]) (by have := (ownsRow_later HGD.out.own hb5).alloc (.cells #[.bool t.text, .string t.s, .slice a5 t.attrs.length c5, .slice k5 t.kids.length d5] 25); rw [HLN.out] at this; exact this) ⟨w5.heap.size, 0, none⟩ t.text t.s a5 t.attrs.length c5 k5 t.kids.length d5 (by simp [Act.eval]) (new_quad _ _ _ _ _ _) hi20 (by have := hb5.size; simp at this ⊢; omega) ?_; intro v6 w6 hown6 hgr6 hat6; obtain ⟨a6, n6, c6, rfl⟩ := row_slice6 hown6; have hk6 := HCH.out w5 w6 _ hb5 hgr6; have z6 := Lib.cell_of_heap hk6 3; have f6 := Lib.frozen_of_heap hk6 3; simp at z6))
          all_goals
            have HG7 : Hid _ := treeOf_step HG4.out HGD.out HLN.out hb5 hA5 hK5 hown6 hgr6 hat6
            clear hown6 hgr6 hat6 hA5 hK5
            go_wp2_with fail
            go_roundg (ns.length - (i + 1))
            case measure => omega
            case rel => exact ⟨i + 1, _, _, by omega, by omega, by go_num, HG7.out.1, HG7.out.2.1, by rw [HSN.out]; exact HG7.out.2.2⟩
        · have hpb : (y.parent == (n : Int)) = false := by simpa using hp
          have hsn : sonsF ns n (i + 1) = sonsF ns n i := by
            rw [sonsF, if_neg (fun h => by have h2 := h.2; unfold parB at h2; rw [hy] at h2; simp at h2; exact hp h2), List.append_nil]
          have HSN : Hid _ := hsn
          clear hG hGr hy hsn hp d4
          go_wp2_with fail
          go_roundg (ns.length - (i + 1))
          case measure => omega
          case rel => exact ⟨i + 1, _, _, by omega, by omega, by go_num, HG4.out, hWs, by rw [HSN.out]; exact HGR.out⟩
      · have hii : i = ns.length := by omega
        have HII : Hid (i = ns.length) := hii
        have hili : ¬ ((i : Int) < (ns.length : Int)) := by omega
        clear hii
        have p0 : wr.cell? ⟨w.heap.size + 1, 0, none⟩ = some (.bool false) := by rw [Lib.cell_of_heap HG4.out.res]; rfl
        have p1 : wr.cell? ⟨w.heap.size + 1, 1, none⟩ = some (.string ⟨#[]⟩) := by rw [Lib.cell_of_heap HG4.out.res]; rfl
        have p2 : wr.cell? ⟨w.heap.size + 1, 2, none⟩ = some (.slice none 0 0) := by rw [Lib.cell_of_heap HG4.out.res]; rfl
        have p3 : wr.cell? ⟨w.heap.size + 1, 3, none⟩ = some (.slice none 0 0) := by rw [Lib.cell_of_heap HG4.out.res]; rfl
        have f0 : wr.frozen? ⟨w.heap.size + 1, 0, none⟩ = false := Lib.frozen_of_heap HG4.out.res 0
        have f1 : wr.frozen? ⟨w.heap.size + 1, 1, none⟩ = false := Lib.frozen_of_heap HG4.out.res 1
        have f2 : wr.frozen? ⟨w.heap.size + 1, 2, none⟩ = false := Lib.frozen_of_heap HG4.out.res 2
        have f3 : wr.frozen? ⟨w.heap.size + 1, 3, none⟩ = false := Lib.frozen_of_heap HG4.out.res 3
        have q0 : wr.cell? ⟨b2, 0, none⟩ = some (.bool x.text) := by rw [Lib.cell_of_heap HG4.out.tre]; rfl
        have q1 : wr.cell? ⟨b2, 1, none⟩ = some (.string x.s) := by rw [Lib.cell_of_heap HG4.out.tre]; rfl
        have q2 : wr.cell? ⟨b2, 2, none⟩ = some (.slice a3 x.attrs.length c3') := by rw [Lib.cell_of_heap HG4.out.tre]; rfl
        have q3 : wr.cell? ⟨b2, 3, none⟩ = some (.slice ja ((sonsF ns n i).map fun k => treeF f ns k.toNat).length jc) := by rw [Lib.cell_of_heap HG4.out.tre]; rfl
        clear hG hGr d4
        generalize hvv : Value.slice ja ((sonsF ns n i).map fun k => treeF f ns k.toNat).length jc = vv at HGR HG4 q3
        obtain ⟨va7, vn7, vc7, rfl⟩ : ∃ a n c, vv = .slice a n c := ⟨_, _, _, hvv.symm⟩
        clear hvv
        rw [HII.out] at HGR
        go_wp2_with fail
        refine bodyPost_ret (v := .agg #[.bool x.text, .string x.s, .slice a3 x.attrs.length c3', .slice va7 vn7 vc7]) (by simp [results, Tryd.results65, go_sem, cell_set, p0, p1, p2, p3, World.cell?_setCell_other]) rfl ⟨.slice a3 x.attrs.length c3', .slice va7 vn7 vc7, ?_, ?_, ?_, ?_⟩
        · rw [HG.out]
        · rw [HG.out]
          refine HG4.out.att.carry fun b hb => ⟨by have := hb.1; omega, ?_⟩
          rw [blk_set_ne (by have := hb.1; omega), blk_set_ne (by have := hb.1; omega), blk_set_ne (by have := hb.1; omega), blk_set_ne (by have := hb.1; omega)]
        · rw [HG.out]
          have hW := HG4.out.hi
          refine Trees.carry (fun b hb => ⟨?_, ?_⟩) (f + 1) HGR.out.done
          · rcases hb with hb | hb
            · exact hb.elim
            · omega
          · rcases hb with hb | hb
            · exact hb.elim
            · rw [blk_set_ne (by omega), blk_set_ne (by omega), blk_set_ne (by omega), blk_set_ne (by omega)]
        · exact (((hB4.setCell (p := ⟨w.heap.size + 1, 0, none⟩) (Nat.le_succ _) _).setCell (p := ⟨w.heap.size + 1, 1, none⟩) (Nat.le_succ _) _).setCell (p := ⟨w.heap.size + 1, 2, none⟩) (Nat.le_succ _) _).setCell (p := ⟨w.heap.size + 1, 3, none⟩) (Nat.le_succ _) _

theorem treeOf_any (f : Nat) : TreeOfOk f := by
  induction f with
  | zero => intro S v ns n w _ _ _ hn hf; omega
  | succ f ih => exact treeOf_succ f ih
end Go.Proofs.YtfghbfocjjmcmaaDoor

/- The document's own CopyDoc: the same document in new memory. Condition: lists of a size that can be read. -/
namespace Go.Proofs.YtfghbfocjjmcmaaDoor
open Go.ChangeShapes Go.WideShapes Go.ChangeAt Go.RowKit
set_option maxRecDepth 100000

attribute [local go_sem] cell_set

/-- The copy of a list of numbers, as a step of a region that draws. -/
theorem step_ints0 {ops : Array Oper} {o : Oper} {a : Act} {w : World} {K : Act → World → Prop} {Q : Exit → Act → World → Prop} {E : Prop}
    (hg : o.guard = none) (x : Operand) (hop : o.op = Op.call { callee := Callee.builtin Builtin.append, args := #[.const (.slice none 0 0), x], argTypes := #[84, 84] })
    (S : Nat → Prop) (v : Value) (l : List Int) (hx : a.eval x = v) (h : Ints S w v l) (hl : l.length ≤ 17592186044416)
    (hK : ∀ v' w', IRow w.heap.size w' v' l → Below w.heap.size w w' → K (a.put o.dst v') w') :
    if Region.wanted o (yielded ops a.tmps) = true then Oper.wp Tryd.prog o a w K Q else E := by
  have hw : Region.wanted o (yielded ops a.tmps) = true := by simp [Region.wanted, hg]
  rw [if_pos hw]
  obtain ⟨i0, hi, hz0, hz1, hz2⟩ := info_parts intInfoR
  have h' := h
  obtain ⟨ad, cap, rfl, h2, h3, h4⟩ := h
  have hs : a.eval (.const (.slice none 0 0)) = .slice none 0 0 := rfl
  cases ad with
  | none =>
    have hn : l = [] := by
      apply Classical.byContradiction; intro hne
      obtain ⟨b, o, ha, _⟩ := h4 hne
      cases ha
    subst hn
    have hrun : (Builtin.append_ #[84, 84] o.type #[.slice none 0 0, .slice none 0 cap]).run Tryd.prog w = .ok (.slice none 0 0) w := by
      simp [Builtin.append_, run_underlying Tryd.underlying84, sizeOf, typeInfo, hi, Builtin.lenOf, Builtin.firstCells]
    simp only [List.length_nil] at hx
    unfold Oper.wp
    simp [execOp, hop, resolve, invoke, builtin, hs, hx, hrun, Result.andThen]
    exact hK _ _ (IRow.nil _ _) (Below.refl _ _)
  | some ad =>
    obtain ⟨v', w', hrun, r1, r2, _⟩ := run_append_own (P := Tryd.prog) w w.heap.size 84 o.type 3 i0 _ 1 8 Tryd.underlying84 hi hz0 hz1 hz2 rfl (by decide) (.slice none 0 0) 0 [] (World.ownsRow_nil w _ _ _) ad l.length cap (intCells l) (by rw [intCells_length]; omega) h'.cells (intCells_one l) (by unfold maxLen; omega) (by omega) (Nat.le_refl _)
    unfold Oper.wp
    simp [execOp, hop, resolve, invoke, builtin, hs, hx, hrun, Result.andThen]
    refine hK _ _ (by unfold IRow; simpa using r1) ((Below.refl _ w).grown r2 (Nat.le_refl _) (fun k hk => by simp [Value.ownBlock] at hk))

theorem nodeInfoC : (Tryd.prog.info? 86).map (fun i => (i.zero, i.size, i.bytes)) = some (some (.agg #[.bool false, .string ⟨#[]⟩, .slice none 0 0, .int .i64 0, .slice none 0 0]), 5, 80) := by kernel_rfl

theorem new_node (w : World) (a b c d e : Value) (t : TypeId) : ∀ (j : Nat) (u : Value), ([a, b, c, d, e] : List Value)[j]? = some u → (w.alloc (.cells #[a, b, c, d, e] t)).cell? ((⟨w.heap.size, 0, none⟩ : Addr).add j) = some u := by
  intro j u hj
  match j, hj with
  | 0, hj | 1, hj | 2, hj | 3, hj | 4, hj => simp at hj; subst hj; simp [Addr.add]

/-- What stands behind k nodes that are copied: the boxes of the document, of the answer, of what is made. -/
structure CD (w : World) (dv : Value) (v : Value) (l : List Nd) (ms : List Rw) (W : World) : Prop where
  below : Below w.heap.size w W
  box : W.heap[w.heap.size]? = some (.cells #[dv] 47 (0, 0))
  res : W.heap[w.heap.size + 1]? = some (.cells #[.slice none 0 0] 47 (0, 0))
  out : W.heap[w.heap.size + 2]? = some (.cells #[v] 47 (0, 0))
  row : NGrow (w.heap.size + 3) W v l ms

theorem copyDoc_step {w wr w3 w4 : World} {dv : Value} {ja : Option Addr} {jc k : Nat} {l : List Nd} {ms : List Rw} {x : Nd} {va vk v' : Value}
    (hC : CD w dv (.slice ja k jc) l ms wr) (hk : l.length = k) (hb : Below wr.heap.size wr w3)
    (hA : Attrs (OwnS (wr.heap.size) 65 w3) w3 va x.attrs) (hK : IRow wr.heap.size w3 vk x.kids)
    (hown : w4.ownsRow (w.heap.size + 3) 86 5 v' (k + 1) (rawCells ms ++ [.bool x.text, .string x.s, va, .int .i64 x.parent, vk]))
    (hgr : (w3.alloc (.cells #[.bool x.text, .string x.s, va, .int .i64 x.parent, vk] 86)).grownBy w4 (Value.slice ja k jc).ownBlock) :
    CD w dv v' (l ++ [x]) (ms ++ [⟨x.text, x.s, va, x.parent, vk⟩]) (w4.setCell ⟨w.heap.size + 2, 0, none⟩ v') := by
  have hs3 := hb.size
  have hlo := blk_lt hC.out
  have hsr := hC.below.size
  have hs4 := hgr.size
  simp only [World.size_alloc] at hs4
  have hB3 : w.heap.size + 3 ≤ wr.heap.size := by omega
  have hB4 : Below w.heap.size w w4 := (hC.below.trans (hb.mono hsr)).alloc (by omega) _ |>.grown hgr (by simp; omega) (fun g hg => by have := (hC.row.own.lt g hg).1; omega)
  have hkeep : ∀ b, b < w.heap.size + 3 → b < wr.heap.size → w4.heap[b]? = wr.heap[b]? := by
    intro b h1 h2
    rw [hgr.block b (by simp; omega) (fun e => by have := (hC.row.own.lt b e.symm).1; omega), Lib.alloc_old _ _ _ (by omega)]
    exact hb.block b h2
  have hR3 := (hC.row.later hb).later (Below.alloc1 w3 (.cells #[.bool x.text, .string x.s, va, .int .i64 x.parent, vk] 86))
  have hG := hR3.snoc (r := ⟨x.text, x.s, va, x.parent, vk⟩) (x := x) (by rw [hk]; exact hown) hgr
    ⟨rfl, rfl, rfl, (hA.own_later (Below.alloc1 w3 _)).carry (fun b hb' => ⟨hb'.to hB3 rfl, rfl⟩), ownsRow_mono (World.ownsRow.alloc hK _) hB3⟩
    (fun i q b hq hb' e => by
      obtain ⟨y, hy⟩ : ∃ y, l[i]? = some y := ⟨l[i]'(by rw [← hC.row.len]; exact (List.getElem?_eq_some_iff.1 hq).1), by simp⟩
      have h1 := (IRow.lt (hC.row.each i q y hq hy).2.2.2.2 b hb').2
      have h2 := (IRow.lt hK b e).1
      omega)
  refine ⟨hB4.setCell (p := ⟨w.heap.size + 2, 0, none⟩) (by show w.heap.size ≤ w.heap.size + 2; omega) _, ?_, ?_, ?_, ?_⟩
  · rw [blk_set_ne (by omega), hkeep _ (by omega) (blk_lt hC.box)]; exact hC.box
  · rw [blk_set_ne (by omega), hkeep _ (by omega) (blk_lt hC.res)]; exact hC.res
  · have := (hkeep _ (by omega) hlo).trans hC.out
    simp [World.setCell, Array.getElem?_modify, this]
  · exact hG.keep (fun b hs => blk_set_ne (by have := hs.1; omega)) (fun b hs => blk_set_ne (by have := hs.1; omega)) (fun b hs => blk_set_ne (by have := (hG.own.lt b hs).1; omega))

set_option maxHeartbeats 2000000 in
theorem copyDoc_any (S : Nat → Prop) (v : Value) (ns : List Nd) (w : World) (hN : Nodes S w v ns) (hfew : ∀ x ∈ ns, x.attrs.length ≤ 4398046511104 ∧ x.kids.length ≤ 17592186044416) (hlen : ns.length ≤ 1759218604441) :
    Calls Tryd.prog 36 #[.agg #[v]] w fun e w' => ∃ v', e = .returned (.agg #[v']) ∧ Nodes (fun b => w.heap.size ≤ b) w' v' ns ∧ Below w.heap.size w w' := by
  obtain ⟨i0, hi, hz0, hz1, hz2⟩ := info_parts nodeInfoC
  obtain ⟨a, cap, rfl, hlc, hcm⟩ := hN.shape
  unfold maxLen at hcm
  have HN : Hid (Nodes S w (.slice a ns.length cap) ns) := hN
  have hC0 : CD w (.slice a ns.length cap) (.slice none 0 0) [] [] (((w.alloc (.cells #[.slice a ns.length cap] 47)).alloc (.cells #[.slice none 0 0] 47)).alloc (.cells #[.slice none 0 0] 47)) := by
    refine ⟨((Below.alloc1 w _).alloc (by simp) _).alloc (by simp; omega) _, ?_, ?_, ?_, NGrow.nil _ _⟩
    · rw [Lib.alloc_old _ _ _ (by simp; omega), Lib.alloc_old _ _ _ (by simp)]; exact heap_alloc_new _ _
    · rw [Lib.alloc_old _ _ _ (by simp)]
      have e := heap_alloc_new (w.alloc (.cells #[.slice a ns.length cap] 47)) (.cells #[.slice none 0 0] 47)
      rw [World.size_alloc] at e
      exact e
    · have e := heap_alloc_new ((w.alloc (.cells #[.slice a ns.length cap] 47)).alloc (.cells #[.slice none 0 0] 47)) (.cells #[.slice none 0 0] 47)
      rw [World.size_alloc, World.size_alloc] at e
      exact e
  have HC0 : Hid _ := hC0
  clear hN
  go_enter Tryd.func36, Tryd.ntmps36
  go_wp2_with fail
  generalize (((w.alloc (.cells #[.slice a ns.length cap] 47)).alloc (.cells #[.slice none 0 0] 47)).alloc (.cells #[.slice none 0 0] 47)) = W0 at *
  clear hC0
  go_loopg [9] ns.length (fun g j wr => ∃ (k : Nat) (v : Value) (ms : List Rw), k + g = ns.length ∧ j = .int .i64 (k : Int) ∧ CD w (.slice a ns.length cap) v (ns.take k) ms wr)
  case atStart => exact ⟨0, _, [], by omega, rfl, HC0.out⟩
  case round =>
    obtain ⟨k, v, ms, hk, rfl, hC⟩ := hrel
    have HC : Hid _ := hC
    have hB := hC.below
    have hwr := blk_lt hC.out
    obtain ⟨ja, jc, rfl, hjl, hjm⟩ := hC.row.shape
    by_cases hlt : k < ns.length
    · obtain ⟨x, hx⟩ : ∃ x, ns[k]? = some x := ⟨ns[k], by simp [hlt]⟩
      obtain ⟨b, o, cap', va, vk, hv, _, _, hSb, hbw, c0, c1, c2, c3, c4, hAt, hKi⟩ := (HN.out.later hB).at hx
      cases hv
      obtain ⟨hal, hkl⟩ := hfew x (List.mem_of_getElem? hx)
      obtain ⟨aa, ac, rfl⟩ := hAt.shape
      obtain ⟨ka, kc, rfl, _, _⟩ := hKi.shape
      have hsn : ns.take (k + 1) = ns.take k ++ [x] := by
        rw [List.take_succ_eq_append_getElem hlt]; congr 2; simpa [hlt] using hx
      have HS : Hid (ns.take (k + 1) = ns.take k ++ [x]) := hsn
      have hlk : (ns.take k).length = k := by rw [List.length_take]; omega
      obtain ⟨us, hus⟩ : ∃ us, ns.take k = us := ⟨_, rfl⟩
      rw [hus] at HC hlk HS hjl
      rw [hlk] at HC hjl
      have HL : Hid (us.length = k) := hlk
      have hki : (k : Int) < (ns.length : Int) := by omega
      have o0 : wr.cell? ⟨w.heap.size + 1 + 1, 0, none⟩ = some (.slice ja k jc) := by rw [Lib.cell_of_heap HC.out.out]; rfl
      have of0 : wr.frozen? ⟨w.heap.size + 1 + 1, 0, none⟩ = false := Lib.frozen_of_heap HC.out.out 0
      have hbx := heap_alloc_new wr (.cells #[.bool x.text, .string x.s, .slice aa x.attrs.length ac, .int .i64 x.parent, .slice ka x.kids.length kc] 86)
      have hb1 := Below.alloc1 wr (.cells #[.bool x.text, .string x.s, .slice aa x.attrs.length ac, .int .i64 x.parent, .slice ka x.kids.length kc] 86)
      have hwl : wr.heap.size < (wr.alloc (.cells #[.bool x.text, .string x.s, .slice aa x.attrs.length ac, .int .i64 x.parent, .slice ka x.kids.length kc] 86)).heap.size := by simp
      clear hC hx hsn hus hlk
      go_wp2_with fail
      generalize wr.alloc (.cells #[.bool x.text, .string x.s, .slice aa x.attrs.length ac, .int .i64 x.parent, .slice ka x.kids.length kc] 86) = W1 at *
      have n2 : W1.cell? ⟨wr.heap.size, 2, none⟩ = some (.slice aa x.attrs.length ac) := by rw [Lib.cell_of_heap hbx]; rfl
      have n4 : W1.cell? ⟨wr.heap.size, 4, none⟩ = some (.slice ka x.kids.length kc) := by rw [Lib.cell_of_heap hbx]; rfl
      have HAT : Hid (Attrs S wr (.slice aa x.attrs.length ac) x.attrs) := hAt
      have HKI : Hid (Ints S wr (.slice ka x.kids.length kc) x.kids) := hKi
      clear hAt hKi c0 c1 c2 c3 c4
      go_region_law (first
        | (refine step_attrs2 (by rfl) (.tmp 14) (by rfl) S (.slice aa x.attrs.length ac) x.attrs (by first | rfl | simp [Act.eval]) (HAT.out.later hb1.drew) hal ?_; intro v1 w1 hA1 hB1; obtain ⟨a1, c1', rfl⟩ := hA1.shape; have hx1 := (hB1.block wr.heap.size hwl).trans hbx; have n4a : w1.cell? ⟨wr.heap.size, 4, none⟩ = some (.slice ka x.kids.length kc) := by (rw [Lib.cell_of_heap hx1]; rfl))
        | (refine step_ints0 (by rfl) (.tmp 17) (by rfl) S (.slice ka x.kids.length kc) x.kids (by first | rfl | simp [Act.eval]) (HKI.out.later (hb1.drew.trans (hB1.mono (by exact hb1.size)))) hkl ?_; intro v2 w2 hI2 hB2; obtain ⟨a2, c2', rfl, _, _⟩ := hI2.shape; have hx2 := (hB2.block _ (blk_lt hx1)).trans hx1; have n2b := Lib.cell_of_heap hx2 2; have n4b := Lib.cell_of_heap hx2 4; have f2b := Lib.frozen_of_heap hx2 2; have f4b := Lib.frozen_of_heap hx2 4; simp at n2b n4b))
      all_goals
        have hW4 : (((w2.setCell ⟨wr.heap.size, 2, none⟩ (.slice a1 x.attrs.length c1')).setCell ⟨wr.heap.size, 4, none⟩ (.slice a2 x.kids.length c2'))).heap[wr.heap.size]? = some (.cells #[.bool x.text, .string x.s, .slice a1 x.attrs.length c1', .int .i64 x.parent, .slice a2 x.kids.length c2'] 86 (0, 0)) := by
          simp [World.setCell, Array.getElem?_modify, hx2]
        have hk4 : ∀ b, wr.heap.size < b → (((w2.setCell ⟨wr.heap.size, 2, none⟩ (.slice a1 x.attrs.length c1')).setCell ⟨wr.heap.size, 4, none⟩ (.slice a2 x.kids.length c2'))).heap[b]? = w2.heap[b]? := fun b hb => by rw [blk_set_ne (by omega), blk_set_ne (by omega)]
        have hs12 : W1.heap.size ≤ w1.heap.size := hB1.size
        have hs22 := hB2.size
        have hB4 : Below wr.heap.size wr (((w2.setCell ⟨wr.heap.size, 2, none⟩ (.slice a1 x.attrs.length c1')).setCell ⟨wr.heap.size, 4, none⟩ (.slice a2 x.kids.length c2'))) := (((hb1.drew.trans (hB1.mono hb1.size)).trans (hB2.mono (by omega))).setCell (p := ⟨wr.heap.size, 2, none⟩) (Nat.le_refl _) _).setCell (p := ⟨wr.heap.size, 4, none⟩) (Nat.le_refl _) _
        have hA4 : Attrs (OwnS wr.heap.size 65 (((w2.setCell ⟨wr.heap.size, 2, none⟩ (.slice a1 x.attrs.length c1')).setCell ⟨wr.heap.size, 4, none⟩ (.slice a2 x.kids.length c2')))) (((w2.setCell ⟨wr.heap.size, 2, none⟩ (.slice a1 x.attrs.length c1')).setCell ⟨wr.heap.size, 4, none⟩ (.slice a2 x.kids.length c2'))) (.slice a1 x.attrs.length c1') x.attrs :=
          (hA1.own_later hB2).carry fun b hb => by
            have h1 : W1.heap.size ≤ b := hb.1
            exact ⟨hb.to (by show wr.heap.size ≤ W1.heap.size; omega) (hk4 b (by omega)), hk4 b (by omega)⟩
        have hI4 : IRow wr.heap.size (((w2.setCell ⟨wr.heap.size, 2, none⟩ (.slice a1 x.attrs.length c1')).setCell ⟨wr.heap.size, 4, none⟩ (.slice a2 x.kids.length c2'))) (.slice a2 x.kids.length c2') x.kids :=
          ownsRow_mono (ownsRow_heap hI2 fun b hb => hk4 b (by have := (IRow.lt hI2 b hb).1; omega)) (by omega)
        generalize ((w2.setCell ⟨wr.heap.size, 2, none⟩ (.slice a1 x.attrs.length c1')).setCell ⟨wr.heap.size, 4, none⟩ (.slice a2 x.kids.length c2')) = W4 at hW4 hB4 hA4 hI4 ⊢
        have m0 : W4.cell? ⟨wr.heap.size, 0, none⟩ = some (.bool x.text) := by rw [Lib.cell_of_heap hW4]; rfl
        have m1 : W4.cell? ⟨wr.heap.size, 1, none⟩ = some (.string x.s) := by rw [Lib.cell_of_heap hW4]; rfl
        have m2 : W4.cell? ⟨wr.heap.size, 2, none⟩ = some (.slice a1 x.attrs.length c1') := by rw [Lib.cell_of_heap hW4]; rfl
        have m3 : W4.cell? ⟨wr.heap.size, 3, none⟩ = some (.int .i64 x.parent) := by rw [Lib.cell_of_heap hW4]; rfl
        have m4 : W4.cell? ⟨wr.heap.size, 4, none⟩ = some (.slice a2 x.kids.length c2') := by rw [Lib.cell_of_heap hW4]; rfl
        have hd4 := (hB4.block _ hwr).trans HC.out.out
        have o4 : W4.cell? ⟨w.heap.size + 1 + 1, 0, none⟩ = some (.slice ja k jc) := by rw [Lib.cell_of_heap hd4]; rfl
        have hown4 := (HC.out.row.later hB4).own
        rw [HL.out] at hown4
        have hs4 := hB4.size
        clear hk4 n2 n4 n4a n2b n4b f2b f4b hx1 hx2 hbx hA1 hB1 hI2 hB2 hb1 hwl hs12 hs22
        go_wp2_with (at_builtin; refine wpList_append_own_at _ rfl _ _ 45 rfl (w.heap.size + 3) 86 i0 _ 5 80 Tryd.underlying45 hi hz0 hz1 hz2 rfl (by decide) _ _ _ rfl (World.ownsRow.alloc hown4 _) ⟨W4.heap.size, 0, none⟩ 1 1 [.bool x.text, .string x.s, .slice a1 x.attrs.length c1', .int .i64 x.parent, .slice a2 x.kids.length c2'] rfl ?qc1 ?qc2 ?qc3 ?qc4 ?qc5 ?qc6 ?_)
        case qc1 => rfl
        case qc2 => exact new_node _ _ _ _ _ _ _
        case qc3 => intro u hu; simp at hu; rcases hu with rfl | rfl | rfl | rfl | rfl <;> rfl
        case qc4 => unfold maxLen; omega
        case qc5 => omega
        case qc6 => simp; omega
        intro v' w5 hown' hgrow _ _
        obtain ⟨a5, n5, c5, rfl⟩ := row_slice6 hown'
        have HST : Hid _ := copyDoc_step HC.out HL.out hB4 hA4 hI4 hown' hgrow
        have hd5 : w5.heap[w.heap.size + 1 + 1]? = some (.cells #[.slice ja k jc] 47 (0, 0)) := by
          have h1 : w.heap.size + 1 + 1 < wr.heap.size := hwr
          rw [hgrow.block _ (by simp; omega) (fun e => by have := (HC.out.row.own.lt _ e.symm).1; omega), Lib.alloc_old _ _ _ (by omega)]
          exact hd4
        have o5 : w5.cell? ⟨w.heap.size + 1 + 1, 0, none⟩ = some (.slice ja k jc) := by rw [Lib.cell_of_heap hd5]; rfl
        have f5 : w5.frozen? ⟨w.heap.size + 1 + 1, 0, none⟩ = false := Lib.frozen_of_heap hd5 0
        clear hown' hgrow hA4 hI4
        go_wp2_with fail
        go_roundg (ns.length - (k + 1))
        case measure => omega
        case rel => exact ⟨k + 1, _, _, by omega, by go_num, by rw [HS.out]; exact HST.out⟩
    · have hki : ¬ ((k : Int) < (ns.length : Int)) := by omega
      have hkk : k = ns.length := by omega
      have HKK : Hid (ns.take k = ns) := by show _ = _; rw [hkk, List.take_length]
      have hlk : (ns.take k).length = ns.length := by rw [HKK.out]
      rw [hlk] at HC hjl
      have o0 : wr.cell? ⟨w.heap.size + 1 + 1, 0, none⟩ = some (.slice ja ns.length jc) := by rw [Lib.cell_of_heap HC.out.out]; rfl
      have r0 : wr.cell? ⟨w.heap.size + 1, 0, none⟩ = some (.slice none 0 0) := by rw [Lib.cell_of_heap HC.out.res]; rfl
      have rf0 : wr.frozen? ⟨w.heap.size + 1, 0, none⟩ = false := Lib.frozen_of_heap HC.out.res 0
      clear hC hkk hlk
      go_wp2_with fail
      refine bodyPost_ret (v := .agg #[.slice ja ns.length jc]) (by simp [results, Tryd.results36, go_sem, cell_set, r0]) rfl ⟨_, rfl, ?_, ?_⟩
      · have := HC.out.row.done
        rw [HKK.out] at this
        exact this.carry fun b hb => ⟨by omega, blk_set_ne (by omega)⟩
      · exact hB.setCell (p := ⟨w.heap.size + 1, 0, none⟩) (Nat.le_succ _) _
end Go.Proofs.YtfghbfocjjmcmaaDoor

/- The document's own SameDoc, for every two documents. No condition. -/
namespace Go.Proofs.YtfghbfocjjmcmaaDoor
open Go.ChangeShapes Go.WideShapes Go.ChangeAt Go.RowKit
set_option maxRecDepth 100000

attribute [local go_sem] cell_set

theorem ndsB_len : ∀ {a b : List Nd}, a.length ≠ b.length → ndsB a b = false := by
  intro a b h
  cases hq : ndsB a b with
  | false => rfl
  | true => exact absurd (by rw [ndsB_iff.1 hq]) h
theorem ndsB_drop {a b : List Nd} {i : Nat} {x y : Nd} (hx : a[i]? = some x) (hy : b[i]? = some y) : ndsB (a.drop i) (b.drop i) = (ndB x y && ndsB (a.drop (i + 1)) (b.drop (i + 1))) := by
  have ha : i < a.length := by
    rcases Nat.lt_or_ge i a.length with h' | h'
    · exact h'
    · rw [List.getElem?_eq_none h'] at hx; cases hx
  have hb : i < b.length := by
    rcases Nat.lt_or_ge i b.length with h' | h'
    · exact h'
    · rw [List.getElem?_eq_none h'] at hy; cases hy
  have e1 : a.drop i = x :: a.drop (i + 1) := by rw [List.drop_eq_getElem_cons ha]; congr 1; simpa [ha] using hx
  have e2 : b.drop i = y :: b.drop (i + 1) := by rw [List.drop_eq_getElem_cons hb]; congr 1; simpa [hb] using hy
  rw [e1, e2, ndsB]

set_option maxHeartbeats 4000000 in
theorem sameDoc_ex (S T : Nat → Prop) (va vb : Value) (ns ms : List Nd) (w : World) (h1 : Nodes S w va ns) (h2 : Nodes T w vb ms) :
    Calls Tryd.prog 34 #[.agg #[va], .agg #[vb]] w fun e w' => e = .returned (.bool (ndsB ns ms)) ∧ Below w.heap.size w w' := by
  have H1 : Hid (Nodes S w va ns) := h1
  have H2 : Hid (Nodes T w vb ms) := h2
  obtain ⟨a, ca, rfl, _, hcm⟩ := h1.shape
  obtain ⟨b, cb, rfl, _, hcm2⟩ := h2.shape
  unfold maxLen at hcm hcm2
  have hb0 : Below w.heap.size w ((w.alloc (.cells #[.slice a ns.length ca] 47)).alloc (.cells #[.slice b ms.length cb] 47)) := (Below.alloc1 w _).alloc (by simp) _
  have hx0 : ((w.alloc (.cells #[.slice a ns.length ca] 47)).alloc (.cells #[.slice b ms.length cb] 47)).heap[w.heap.size]? = some (.cells #[.slice a ns.length ca] 47 (0, 0)) := by
    rw [Lib.alloc_old _ _ _ (by simp)]; exact heap_alloc_new _ _
  have hy0 : ((w.alloc (.cells #[.slice a ns.length ca] 47)).alloc (.cells #[.slice b ms.length cb] 47)).heap[w.heap.size + 1]? = some (.cells #[.slice b ms.length cb] 47 (0, 0)) := by
    have e := heap_alloc_new (w.alloc (.cells #[.slice a ns.length ca] 47)) (.cells #[.slice b ms.length cb] 47)
    rw [World.size_alloc] at e
    exact e
  clear h1 h2
  by_cases hlm : ns.length = ms.length
  · have hne : ((ns.length : Int) != (ms.length : Int)) = false := by simp [hlm]
    have HLM : Hid (ns.length = ms.length) := hlm
    clear hlm
    go_enter Tryd.func34, Tryd.ntmps34
    go_wp2_with fail
    generalize ((w.alloc (.cells #[.slice a ns.length ca] 47)).alloc (.cells #[.slice b ms.length cb] 47)) = W1 at *
    go_loopg [18] ns.length (fun g j wr => ∃ (i : Nat), i + g = ns.length ∧ j = .int .i64 (i : Int) ∧ Below W1.heap.size W1 wr ∧ ndsB ns ms = ndsB (ns.drop i) (ms.drop i))
    case atStart => exact ⟨0, by omega, rfl, Below.refl _ _, rfl⟩
    case round =>
      obtain ⟨i, hi, rfl, hB, hT⟩ := hrel
      have HT : Hid (ndsB ns ms = ndsB (ns.drop i) (ms.drop i)) := hT
      clear hT
      have hBw : Below w.heap.size w wr := hb0.trans (hB.mono hb0.size)
      have hxr := (hB.block _ (blk_lt hx0)).trans hx0
      have hyr := (hB.block _ (blk_lt hy0)).trans hy0
      have dx : wr.cell? ⟨w.heap.size, 0, none⟩ = some (.slice a ns.length ca) := by rw [Lib.cell_of_heap hxr]; rfl
      have dy : wr.cell? ⟨w.heap.size + 1, 0, none⟩ = some (.slice b ms.length cb) := by rw [Lib.cell_of_heap hyr]; rfl
      by_cases hil : i < ns.length
      · have him : i < ms.length := by have := HLM.out; omega
        obtain ⟨x, hx⟩ : ∃ x, ns[i]? = some x := ⟨ns[i], by simp [hil]⟩
        obtain ⟨y, hy⟩ : ∃ y, ms[i]? = some y := ⟨ms[i], by simp [him]⟩
        obtain ⟨b1, o1, c1, xva, xvk, hv1, _, _, _, hbw1, p0, p1, p2, p3, p4, hxA, hxK⟩ := (H1.out.later hBw).at hx
        injection hv1 with hv1 hvl hv2
        subst hv1 hv2
        clear hvl
        obtain ⟨b2, o2, c2, yva, yvk, hv3, _, _, _, hbw2, q0, q1, q2, q3, q4, hyA, hyK⟩ := (H2.out.later hBw).at hy
        injection hv3 with hv3 hvl hv4
        subst hv3 hv4
        clear hvl
        obtain ⟨xaa, xac, rfl⟩ := hxA.shape
        obtain ⟨xka, xkc, rfl, _, _⟩ := hxK.shape
        obtain ⟨yaa, yac, rfl⟩ := hyA.shape
        obtain ⟨yka, ykc, rfl, _, _⟩ := hyK.shape
        have HTD : Hid _ := ndsB_drop hx hy
        have hili : (i : Int) < (ns.length : Int) := by omega
        have himi : (i : Int) < (ms.length : Int) := by omega
        have hlt0 : w.heap.size < wr.heap.size := blk_lt hxr
        have hlt1 : w.heap.size + 1 < wr.heap.size := blk_lt hyr
        have hne0 : wr.heap.size ≠ w.heap.size := by omega
        have hne1 : wr.heap.size ≠ w.heap.size + 1 := by omega
        have hne2 : wr.heap.size ≠ b1 := by omega
        have hne3 : wr.heap.size ≠ b2 := by omega
        clear hx hy hxr hyr
        go_wp2_with fail
        go_region
        · have hW2 : Below wr.heap.size wr ((wr.alloc (.cells #[.bool x.text, .string x.s, .slice xaa x.attrs.length xac, .int .i64 x.parent, .slice xka x.kids.length xkc] 86)).alloc (.cells #[.bool y.text, .string y.s, .slice yaa y.attrs.length yac, .int .i64 y.parent, .slice yka y.kids.length ykc] 86)).drew := (((Below.refl _ wr).alloc (Nat.le_refl _) _).alloc (by simp) _).drew
          have hF : (((wr.alloc (.cells #[.bool x.text, .string x.s, .slice xaa x.attrs.length xac, .int .i64 x.parent, .slice xka x.kids.length xkc] 86)).alloc (.cells #[.bool y.text, .string y.s, .slice yaa y.attrs.length yac, .int .i64 y.parent, .slice yka y.kids.length ykc] 86)).drew).heap[wr.heap.size]? = some (.cells #[.bool x.text, .string x.s, .slice xaa x.attrs.length xac, .int .i64 x.parent, .slice xka x.kids.length xkc] 86 (0, 0)) := by
            show ((wr.alloc (.cells #[.bool x.text, .string x.s, .slice xaa x.attrs.length xac, .int .i64 x.parent, .slice xka x.kids.length xkc] 86)).alloc (.cells #[.bool y.text, .string y.s, .slice yaa y.attrs.length yac, .int .i64 y.parent, .slice yka y.kids.length ykc] 86)).heap[wr.heap.size]? = _
            rw [Lib.alloc_old _ _ _ (by simp)]; exact heap_alloc_new _ _
          have hG : (((wr.alloc (.cells #[.bool x.text, .string x.s, .slice xaa x.attrs.length xac, .int .i64 x.parent, .slice xka x.kids.length xkc] 86)).alloc (.cells #[.bool y.text, .string y.s, .slice yaa y.attrs.length yac, .int .i64 y.parent, .slice yka y.kids.length ykc] 86)).drew).heap[wr.heap.size + 1]? = some (.cells #[.bool y.text, .string y.s, .slice yaa y.attrs.length yac, .int .i64 y.parent, .slice yka y.kids.length ykc] 86 (0, 0)) := by
            show ((wr.alloc (.cells #[.bool x.text, .string x.s, .slice xaa x.attrs.length xac, .int .i64 x.parent, .slice xka x.kids.length xkc] 86)).alloc (.cells #[.bool y.text, .string y.s, .slice yaa y.attrs.length yac, .int .i64 y.parent, .slice yka y.kids.length ykc] 86)).heap[wr.heap.size + 1]? = _
            have e := heap_alloc_new (wr.alloc (.cells #[.bool x.text, .string x.s, .slice xaa x.attrs.length xac, .int .i64 x.parent, .slice xka x.kids.length xkc] 86)) (.cells #[.bool y.text, .string y.s, .slice yaa y.attrs.length yac, .int .i64 y.parent, .slice yka y.kids.length ykc] 86)
            rw [World.size_alloc] at e
            exact e
          generalize ((wr.alloc (.cells #[.bool x.text, .string x.s, .slice xaa x.attrs.length xac, .int .i64 x.parent, .slice xka x.kids.length xkc] 86)).alloc (.cells #[.bool y.text, .string y.s, .slice yaa y.attrs.length yac, .int .i64 y.parent, .slice yka y.kids.length ykc] 86)).drew = W2 at *
          have x0 : W2.cell? ⟨wr.heap.size, 0, none⟩ = some (.bool x.text) := by rw [Lib.cell_of_heap hF]; rfl
          have x1 : W2.cell? ⟨wr.heap.size, 1, none⟩ = some (.string x.s) := by rw [Lib.cell_of_heap hF]; rfl
          have x2 : W2.cell? ⟨wr.heap.size, 2, none⟩ = some (.slice xaa x.attrs.length xac) := by rw [Lib.cell_of_heap hF]; rfl
          have x3 : W2.cell? ⟨wr.heap.size, 3, none⟩ = some (.int .i64 x.parent) := by rw [Lib.cell_of_heap hF]; rfl
          have x4 : W2.cell? ⟨wr.heap.size, 4, none⟩ = some (.slice xka x.kids.length xkc) := by rw [Lib.cell_of_heap hF]; rfl
          have y0 : W2.cell? ⟨wr.heap.size + 1, 0, none⟩ = some (.bool y.text) := by rw [Lib.cell_of_heap hG]; rfl
          have y1 : W2.cell? ⟨wr.heap.size + 1, 1, none⟩ = some (.string y.s) := by rw [Lib.cell_of_heap hG]; rfl
          have y2 : W2.cell? ⟨wr.heap.size + 1, 2, none⟩ = some (.slice yaa y.attrs.length yac) := by rw [Lib.cell_of_heap hG]; rfl
          have y3 : W2.cell? ⟨wr.heap.size + 1, 3, none⟩ = some (.int .i64 y.parent) := by rw [Lib.cell_of_heap hG]; rfl
          have y4 : W2.cell? ⟨wr.heap.size + 1, 4, none⟩ = some (.slice yka y.kids.length ykc) := by rw [Lib.cell_of_heap hG]; rfl
          have HAT : Hid (∀ W, Below W2.heap.size W2 W → Calls Tryd.prog 53 #[.slice xaa x.attrs.length xac, .slice yaa y.attrs.length yac] W fun e w' => e = .returned (.bool (decide (x.attrs = y.attrs))) ∧ Below W.heap.size W w') := fun W h => sameAttrs_ex _ _ _ _ x.attrs y.attrs W ((hxA.later hW2).later h) ((hyA.later hW2).later h)
          have HKN : Hid (∀ W, Below W2.heap.size W2 W → Calls Tryd.prog 62 #[.slice xka x.kids.length xkc, .slice yka y.kids.length ykc] W fun e w' => e = .returned (.bool (decide (x.kids = y.kids))) ∧ Below W.heap.size W w') := fun W h => sameNumbers_ex _ _ _ _ x.kids y.kids W ((hxK.later hW2).later h) ((hyK.later hW2).later h)
          have hBW2 : Below w.heap.size w W2 := hBw.trans (hW2.mono hBw.size)
          have hB12 : Below W1.heap.size W1 W2 := hB.trans (hW2.mono hB.size)
          have KF : ndB x y = false → Hid (ndsB ns ms = false) := by
            intro hq
            show _ = _
            rw [HT.out, HTD.out, hq]; rfl
          clear p0 p1 p2 p3 p4 q0 q1 q2 q3 q4 dx dy hne0 hne1 hne2 hne3 hlt0 hlt1
          by_cases k1 : x.text = y.text
          · have k1b : (x.text == y.text) = true := by simp [k1]
            by_cases k2 : x.s = y.s
            · have k2b : (x.s.toList == y.s.toList) = true := by rw [k2]; simp
              by_cases k3 : x.parent = y.parent
              · have k3b : (x.parent != y.parent) = false := by simp [k3]
                have k3c : (x.parent == y.parent) = true := by simp [k3]
                by_cases k4 : x.attrs = y.attrs
                · have HAT2 : Hid (∀ W, Below W2.heap.size W2 W → Calls Tryd.prog 53 #[.slice xaa x.attrs.length xac, .slice yaa y.attrs.length yac] W fun e w' => e = .returned (.bool true) ∧ Below W.heap.size W w') := by
                    intro W h; have := HAT.out W h; rw [decide_eq_true k4] at this; exact this
                  by_cases k5 : x.kids = y.kids
                  · have HKN2 : Hid (∀ W, Below W2.heap.size W2 W → Calls Tryd.prog 62 #[.slice xka x.kids.length xkc, .slice yka y.kids.length ykc] W fun e w' => e = .returned (.bool true) ∧ Below W.heap.size W w') := by
                      intro W h; have := HKN.out W h; rw [decide_eq_true k5] at this; exact this
                    have HN : Hid (ndsB ns ms = ndsB (ns.drop (i + 1)) (ms.drop (i + 1))) := by
                      show _ = _
                      rw [HT.out, HTD.out, show ndB x y = true by unfold ndB; simp [k1, k2, k3, k4, k5]]; rfl
                    clear KF k1 k2 k3 k4 k5 HAT HKN
                    go_wp2_with fail
                    refine (Calls.mono (HAT2.out _ (Below.refl _ _)) ?_)
                    rintro e w3 ⟨rfl, hb3⟩
                    have hX3 := (hb3.block _ (blk_lt hF)).trans hF
                    have hY3 := (hb3.block _ (blk_lt hG)).trans hG
                    have hu4 : w3.cell? ⟨wr.heap.size, 4, none⟩ = some (.slice xka x.kids.length xkc) := by rw [Lib.cell_of_heap hX3]; rfl
                    have hv4 : w3.cell? ⟨wr.heap.size + 1, 4, none⟩ = some (.slice yka y.kids.length ykc) := by rw [Lib.cell_of_heap hY3]; rfl
                    go_wp2_with fail
                    refine (Calls.mono (HKN2.out _ hb3) ?_)
                    rintro e w4 ⟨rfl, hb4⟩
                    go_wp2_with fail
                    go_roundg (ns.length - (i + 1))
                    case measure => omega
                    case rel => exact ⟨i + 1, by omega, by go_num, hB12.trans ((hb3.trans (hb4.mono hb3.size)).mono hB12.size), HN.out⟩
                  · have HKN2 : Hid (∀ W, Below W2.heap.size W2 W → Calls Tryd.prog 62 #[.slice xka x.kids.length xkc, .slice yka y.kids.length ykc] W fun e w' => e = .returned (.bool false) ∧ Below W.heap.size W w') := by
                      intro W h; have := HKN.out W h; rw [decide_eq_false k5] at this; exact this
                    have HE := KF (by unfold ndB; simp [k5])
                    clear KF k1 k2 k3 k4 k5 HAT HKN
                    go_wp2_with fail
                    refine (Calls.mono (HAT2.out _ (Below.refl _ _)) ?_)
                    rintro e w3 ⟨rfl, hb3⟩
                    have hX3 := (hb3.block _ (blk_lt hF)).trans hF
                    have hY3 := (hb3.block _ (blk_lt hG)).trans hG
                    have hu4 : w3.cell? ⟨wr.heap.size, 4, none⟩ = some (.slice xka x.kids.length xkc) := by rw [Lib.cell_of_heap hX3]; rfl
                    have hv4 : w3.cell? ⟨wr.heap.size + 1, 4, none⟩ = some (.slice yka y.kids.length ykc) := by rw [Lib.cell_of_heap hY3]; rfl
                    go_wp2_with fail
                    refine (Calls.mono (HKN2.out _ hb3) ?_)
                    rintro e w4 ⟨rfl, hb4⟩
                    go_wp2_with fail
                    go_ret
                    exact ⟨by rw [HE.out]; rfl, hBW2.trans ((hb3.trans (hb4.mono hb3.size)).mono hBW2.size)⟩
                · have HAT2 : Hid (∀ W, Below W2.heap.size W2 W → Calls Tryd.prog 53 #[.slice xaa x.attrs.length xac, .slice yaa y.attrs.length yac] W fun e w' => e = .returned (.bool false) ∧ Below W.heap.size W w') := by
                    intro W h; have := HAT.out W h; rw [decide_eq_false k4] at this; exact this
                  have HE := KF (by unfold ndB; simp [k4])
                  clear KF k1 k2 k3 k4 HAT HKN
                  go_wp2_with fail
                  refine (Calls.mono (HAT2.out _ (Below.refl _ _)) ?_)
                  rintro e w3 ⟨rfl, hb3⟩
                  go_wp2_with fail
                  go_ret
                  exact ⟨by rw [HE.out]; rfl, hBW2.trans (hb3.mono hBW2.size)⟩
              · have k3b : (x.parent != y.parent) = true := by simpa using k3
                have k3c : (x.parent == y.parent) = false := by simpa using k3
                have HE := KF (by unfold ndB; simp [k3])
                clear KF k1 k2 k3 HAT HKN
                go_wp2_with fail
                go_ret
                exact ⟨by rw [HE.out]; rfl, hBW2⟩
            · have k2b : (x.s.toList == y.s.toList) = false := bytes_ne k2
              have HE := KF (by unfold ndB; simp [k2])
              clear KF k1 k2 HAT HKN
              go_wp2_with fail
              go_ret
              exact ⟨by rw [HE.out]; rfl, hBW2⟩
          · have k1b : (x.text == y.text) = false := by simpa using k1
            have HE := KF (by unfold ndB; simp [k1])
            clear KF k1 HAT HKN
            go_wp2_with fail
            go_ret
            exact ⟨by rw [HE.out]; rfl, hBW2⟩
        · have hW2 : Below wr.heap.size wr ((wr.alloc (.cells #[.bool y.text, .string y.s, .slice yaa y.attrs.length yac, .int .i64 y.parent, .slice yka y.kids.length ykc] 86)).alloc (.cells #[.bool x.text, .string x.s, .slice xaa x.attrs.length xac, .int .i64 x.parent, .slice xka x.kids.length xkc] 86)).drew := (((Below.refl _ wr).alloc (Nat.le_refl _) _).alloc (by simp) _).drew
          have hF : (((wr.alloc (.cells #[.bool y.text, .string y.s, .slice yaa y.attrs.length yac, .int .i64 y.parent, .slice yka y.kids.length ykc] 86)).alloc (.cells #[.bool x.text, .string x.s, .slice xaa x.attrs.length xac, .int .i64 x.parent, .slice xka x.kids.length xkc] 86)).drew).heap[wr.heap.size]? = some (.cells #[.bool y.text, .string y.s, .slice yaa y.attrs.length yac, .int .i64 y.parent, .slice yka y.kids.length ykc] 86 (0, 0)) := by
            show ((wr.alloc (.cells #[.bool y.text, .string y.s, .slice yaa y.attrs.length yac, .int .i64 y.parent, .slice yka y.kids.length ykc] 86)).alloc (.cells #[.bool x.text, .string x.s, .slice xaa x.attrs.length xac, .int .i64 x.parent, .slice xka x.kids.length xkc] 86)).heap[wr.heap.size]? = _
            rw [Lib.alloc_old _ _ _ (by simp)]; exact heap_alloc_new _ _
          have hG : (((wr.alloc (.cells #[.bool y.text, .string y.s, .slice yaa y.attrs.length yac, .int .i64 y.parent, .slice yka y.kids.length ykc] 86)).alloc (.cells #[.bool x.text, .string x.s, .slice xaa x.attrs.length xac, .int .i64 x.parent, .slice xka x.kids.length xkc] 86)).drew).heap[wr.heap.size + 1]? = some (.cells #[.bool x.text, .string x.s, .slice xaa x.attrs.length xac, .int .i64 x.parent, .slice xka x.kids.length xkc] 86 (0, 0)) := by
            show ((wr.alloc (.cells #[.bool y.text, .string y.s, .slice yaa y.attrs.length yac, .int .i64 y.parent, .slice yka y.kids.length ykc] 86)).alloc (.cells #[.bool x.text, .string x.s, .slice xaa x.attrs.length xac, .int .i64 x.parent, .slice xka x.kids.length xkc] 86)).heap[wr.heap.size + 1]? = _
            have e := heap_alloc_new (wr.alloc (.cells #[.bool y.text, .string y.s, .slice yaa y.attrs.length yac, .int .i64 y.parent, .slice yka y.kids.length ykc] 86)) (.cells #[.bool x.text, .string x.s, .slice xaa x.attrs.length xac, .int .i64 x.parent, .slice xka x.kids.length xkc] 86)
            rw [World.size_alloc] at e
            exact e
          generalize ((wr.alloc (.cells #[.bool y.text, .string y.s, .slice yaa y.attrs.length yac, .int .i64 y.parent, .slice yka y.kids.length ykc] 86)).alloc (.cells #[.bool x.text, .string x.s, .slice xaa x.attrs.length xac, .int .i64 x.parent, .slice xka x.kids.length xkc] 86)).drew = W2 at *
          have x0 : W2.cell? ⟨wr.heap.size + 1, 0, none⟩ = some (.bool x.text) := by rw [Lib.cell_of_heap hG]; rfl
          have x1 : W2.cell? ⟨wr.heap.size + 1, 1, none⟩ = some (.string x.s) := by rw [Lib.cell_of_heap hG]; rfl
          have x2 : W2.cell? ⟨wr.heap.size + 1, 2, none⟩ = some (.slice xaa x.attrs.length xac) := by rw [Lib.cell_of_heap hG]; rfl
          have x3 : W2.cell? ⟨wr.heap.size + 1, 3, none⟩ = some (.int .i64 x.parent) := by rw [Lib.cell_of_heap hG]; rfl
          have x4 : W2.cell? ⟨wr.heap.size + 1, 4, none⟩ = some (.slice xka x.kids.length xkc) := by rw [Lib.cell_of_heap hG]; rfl
          have y0 : W2.cell? ⟨wr.heap.size, 0, none⟩ = some (.bool y.text) := by rw [Lib.cell_of_heap hF]; rfl
          have y1 : W2.cell? ⟨wr.heap.size, 1, none⟩ = some (.string y.s) := by rw [Lib.cell_of_heap hF]; rfl
          have y2 : W2.cell? ⟨wr.heap.size, 2, none⟩ = some (.slice yaa y.attrs.length yac) := by rw [Lib.cell_of_heap hF]; rfl
          have y3 : W2.cell? ⟨wr.heap.size, 3, none⟩ = some (.int .i64 y.parent) := by rw [Lib.cell_of_heap hF]; rfl
          have y4 : W2.cell? ⟨wr.heap.size, 4, none⟩ = some (.slice yka y.kids.length ykc) := by rw [Lib.cell_of_heap hF]; rfl
          have HAT : Hid (∀ W, Below W2.heap.size W2 W → Calls Tryd.prog 53 #[.slice xaa x.attrs.length xac, .slice yaa y.attrs.length yac] W fun e w' => e = .returned (.bool (decide (x.attrs = y.attrs))) ∧ Below W.heap.size W w') := fun W h => sameAttrs_ex _ _ _ _ x.attrs y.attrs W ((hxA.later hW2).later h) ((hyA.later hW2).later h)
          have HKN : Hid (∀ W, Below W2.heap.size W2 W → Calls Tryd.prog 62 #[.slice xka x.kids.length xkc, .slice yka y.kids.length ykc] W fun e w' => e = .returned (.bool (decide (x.kids = y.kids))) ∧ Below W.heap.size W w') := fun W h => sameNumbers_ex _ _ _ _ x.kids y.kids W ((hxK.later hW2).later h) ((hyK.later hW2).later h)
          have hBW2 : Below w.heap.size w W2 := hBw.trans (hW2.mono hBw.size)
          have hB12 : Below W1.heap.size W1 W2 := hB.trans (hW2.mono hB.size)
          have KF : ndB x y = false → Hid (ndsB ns ms = false) := by
            intro hq
            show _ = _
            rw [HT.out, HTD.out, hq]; rfl
          clear p0 p1 p2 p3 p4 q0 q1 q2 q3 q4 dx dy hne0 hne1 hne2 hne3 hlt0 hlt1
          by_cases k1 : x.text = y.text
          · have k1b : (x.text == y.text) = true := by simp [k1]
            by_cases k2 : x.s = y.s
            · have k2b : (x.s.toList == y.s.toList) = true := by rw [k2]; simp
              by_cases k3 : x.parent = y.parent
              · have k3b : (x.parent != y.parent) = false := by simp [k3]
                have k3c : (x.parent == y.parent) = true := by simp [k3]
                by_cases k4 : x.attrs = y.attrs
                · have HAT2 : Hid (∀ W, Below W2.heap.size W2 W → Calls Tryd.prog 53 #[.slice xaa x.attrs.length xac, .slice yaa y.attrs.length yac] W fun e w' => e = .returned (.bool true) ∧ Below W.heap.size W w') := by
                    intro W h; have := HAT.out W h; rw [decide_eq_true k4] at this; exact this
                  by_cases k5 : x.kids = y.kids
                  · have HKN2 : Hid (∀ W, Below W2.heap.size W2 W → Calls Tryd.prog 62 #[.slice xka x.kids.length xkc, .slice yka y.kids.length ykc] W fun e w' => e = .returned (.bool true) ∧ Below W.heap.size W w') := by
                      intro W h; have := HKN.out W h; rw [decide_eq_true k5] at this; exact this
                    have HN : Hid (ndsB ns ms = ndsB (ns.drop (i + 1)) (ms.drop (i + 1))) := by
                      show _ = _
                      rw [HT.out, HTD.out, show ndB x y = true by unfold ndB; simp [k1, k2, k3, k4, k5]]; rfl
                    clear KF k1 k2 k3 k4 k5 HAT HKN
                    go_wp2_with fail
                    refine (Calls.mono (HAT2.out _ (Below.refl _ _)) ?_)
                    rintro e w3 ⟨rfl, hb3⟩
                    have hX3 := (hb3.block _ (blk_lt hG)).trans hG
                    have hY3 := (hb3.block _ (blk_lt hF)).trans hF
                    have hu4 : w3.cell? ⟨wr.heap.size + 1, 4, none⟩ = some (.slice xka x.kids.length xkc) := by rw [Lib.cell_of_heap hX3]; rfl
                    have hv4 : w3.cell? ⟨wr.heap.size, 4, none⟩ = some (.slice yka y.kids.length ykc) := by rw [Lib.cell_of_heap hY3]; rfl
                    go_wp2_with fail
                    refine (Calls.mono (HKN2.out _ hb3) ?_)
                    rintro e w4 ⟨rfl, hb4⟩
                    go_wp2_with fail
                    go_roundg (ns.length - (i + 1))
                    case measure => omega
                    case rel => exact ⟨i + 1, by omega, by go_num, hB12.trans ((hb3.trans (hb4.mono hb3.size)).mono hB12.size), HN.out⟩
                  · have HKN2 : Hid (∀ W, Below W2.heap.size W2 W → Calls Tryd.prog 62 #[.slice xka x.kids.length xkc, .slice yka y.kids.length ykc] W fun e w' => e = .returned (.bool false) ∧ Below W.heap.size W w') := by
                      intro W h; have := HKN.out W h; rw [decide_eq_false k5] at this; exact this
                    have HE := KF (by unfold ndB; simp [k5])
                    clear KF k1 k2 k3 k4 k5 HAT HKN
                    go_wp2_with fail
                    refine (Calls.mono (HAT2.out _ (Below.refl _ _)) ?_)
                    rintro e w3 ⟨rfl, hb3⟩
                    have hX3 := (hb3.block _ (blk_lt hG)).trans hG
                    have hY3 := (hb3.block _ (blk_lt hF)).trans hF
                    have hu4 : w3.cell? ⟨wr.heap.size + 1, 4, none⟩ = some (.slice xka x.kids.length xkc) := by rw [Lib.cell_of_heap hX3]; rfl
                    have hv4 : w3.cell? ⟨wr.heap.size, 4, none⟩ = some (.slice yka y.kids.length ykc) := by rw [Lib.cell_of_heap hY3]; rfl
                    go_wp2_with fail
                    refine (Calls.mono (HKN2.out _ hb3) ?_)
                    rintro e w4 ⟨rfl, hb4⟩
                    go_wp2_with fail
                    go_ret
                    exact ⟨by rw [HE.out]; rfl, hBW2.trans ((hb3.trans (hb4.mono hb3.size)).mono hBW2.size)⟩
                · have HAT2 : Hid (∀ W, Below W2.heap.size W2 W → Calls Tryd.prog 53 #[.slice xaa x.attrs.length xac, .slice yaa y.attrs.length yac] W fun e w' => e = .returned (.bool false) ∧ Below W.heap.size W w') := by
                    intro W h; have := HAT.out W h; rw [decide_eq_false k4] at this; exact this
                  have HE := KF (by unfold ndB; simp [k4])
                  clear KF k1 k2 k3 k4 HAT HKN
                  go_wp2_with fail
                  refine (Calls.mono (HAT2.out _ (Below.refl _ _)) ?_)
                  rintro e w3 ⟨rfl, hb3⟩
                  go_wp2_with fail
                  go_ret
                  exact ⟨by rw [HE.out]; rfl, hBW2.trans (hb3.mono hBW2.size)⟩
              · have k3b : (x.parent != y.parent) = true := by simpa using k3
                have k3c : (x.parent == y.parent) = false := by simpa using k3
                have HE := KF (by unfold ndB; simp [k3])
                clear KF k1 k2 k3 HAT HKN
                go_wp2_with fail
                go_ret
                exact ⟨by rw [HE.out]; rfl, hBW2⟩
            · have k2b : (x.s.toList == y.s.toList) = false := bytes_ne k2
              have HE := KF (by unfold ndB; simp [k2])
              clear KF k1 k2 HAT HKN
              go_wp2_with fail
              go_ret
              exact ⟨by rw [HE.out]; rfl, hBW2⟩
          · have k1b : (x.text == y.text) = false := by simpa using k1
            have HE := KF (by unfold ndB; simp [k1])
            clear KF k1 HAT HKN
            go_wp2_with fail
            go_ret
            exact ⟨by rw [HE.out]; rfl, hBW2⟩
      · have hili : ¬ ((i : Int) < (ns.length : Int)) := by omega
        have HE : Hid (ndsB ns ms = true) := by
          show _ = _
          rw [HT.out, List.drop_of_length_le (by omega), List.drop_of_length_le (by have := HLM.out; omega)]
          rfl
        go_wp2_with fail
        go_ret
        exact ⟨by rw [HE.out]; rfl, hBw⟩
  · have hne : ((ns.length : Int) != (ms.length : Int)) = true := by simp; omega
    have HE : Hid (ndsB ns ms = false) := ndsB_len hlm
    clear hlm
    go_enter Tryd.func34, Tryd.ntmps34
    go_wp2_with fail
    go_ret
    exact ⟨by rw [HE.out]; rfl, hb0⟩
end Go.Proofs.YtfghbfocjjmcmaaDoor

/- The document's own within, IsIn and EndOf, for every document and nodes, from what IsDoc answers. Condition: texts and attributes of a size that can be read. -/
namespace Go.Proofs.YtfghbfocjjmcmaaDoor
open Go.ChangeShapes Go.WideShapes Go.ChangeAt Go.RowKit
set_option maxRecDepth 100000

attribute [local go_sem] cell_set

/-- What IsDoc must answer. -/
def IsDocOk : Prop := ∀ (S : Nat → Prop) (v : Value) (ns : List Nd) (w : World), DocV S w v ns →
  Calls Tryd.prog 40 #[.agg #[v]] w fun e w' => e = .returned (.bool (goodD ns)) ∧ Below w.heap.size w w'

theorem withF_neg (f : Nat) (ns : List Nd) (m : Int) : withF f ns (-1) m = false := by
  cases f with
  | zero => rfl
  | succ f => rw [withF, if_pos (by omega)]

set_option maxHeartbeats 1000000 in
theorem within_any (S : Nat → Prop) (v : Value) (ns : List Nd) (n : Nat) (m : Int) (w : World) (hD : DocV S w v ns) (hg : goodD ns = true) (hn : n < ns.length) :
    Calls Tryd.prog 68 #[.agg #[v], .int .i64 (n : Int), .int .i64 m] w fun e w' => e = .returned (.bool (withF (n + 1) ns (n : Int) m)) ∧ Below w.heap.size w w' := by
  have hb1 := Below.alloc1 w (.cells #[v] 47)
  have hx1 := heap_alloc_new w (.cells #[v] 47)
  have HG : Hid (goodD ns = true) := hg
  have HN : Hid (Nodes S w v ns) := hD.nodes
  obtain ⟨a, cap, rfl, hlc, hcm⟩ := hD.nodes.shape
  unfold maxLen at hcm
  have HW : Hid (withF (n + 1) ns (n : Int) m = withF (n + 1) ns (n : Int) m) := rfl
  clear hD hg
  go_enter Tryd.func68, Tryd.ntmps68
  go_wp2_with fail
  generalize w.alloc (.cells #[.slice a ns.length cap] 47) = W1 at *
  have d1 : W1.cell? ⟨w.heap.size, 0, none⟩ = some (.slice a ns.length cap) := by rw [Lib.cell_of_heap hx1]; rfl
  have HN1 : Hid (Nodes S W1 (.slice a ns.length cap) ns) := HN.out.later hb1
  clear hx1 HN
  go_loopg [1] (n + 1) (fun g j wr => ∃ (kk : Int) (f : Nat), (kk + 1).toNat = g ∧ j = .int .i64 kk ∧ wr = W1 ∧ withF (n + 1) ns (n : Int) m = withF f ns kk m ∧ (kk = -1 ∨ ∃ q : Nat, kk = (q : Int) ∧ q < ns.length ∧ q < f))
  case atStart => exact ⟨(n : Int), n + 1, by omega, rfl, rfl, rfl, Or.inr ⟨n, rfl, hn, by omega⟩⟩
  case round =>
    obtain ⟨kk, f, hgg, rfl, hwr, hE, hor⟩ := hrel
    subst hwr
    have HE : Hid (withF (n + 1) ns (n : Int) m = withF f ns kk m) := hE
    clear hE
    rcases hor with rfl | ⟨q, rfl, hq, hqf⟩
    · have HE2 : Hid (withF (n + 1) ns (n : Int) m = false) := by show _ = _; rw [HE.out, withF_neg]
      clear HE hgg
      go_wp2_with fail
      go_ret
      exact ⟨by rw [HE2.out]; rfl, hb1⟩
    · obtain ⟨f', rfl⟩ : ∃ f', f = f' + 1 := ⟨f - 1, by omega⟩
      obtain ⟨x, hx⟩ : ∃ x, ns[q]? = some x := ⟨ns[q], by simp [hq]⟩
      have hq0 : (0 : Int) ≤ (q : Int) := by omega
      have hqi : (q : Int) < (ns.length : Int) := by omega
      by_cases hqm : (q : Int) = m
      · have hqmb : ((q : Int) == m) = true := by simp [hqm]
        have HE2 : Hid (withF (n + 1) ns (n : Int) m = true) := by show _ = _; rw [HE.out, withF, if_neg (by omega), if_pos hqm]
        clear HE hqm hgg
        go_wp2_with fail
        go_ret
        exact ⟨by rw [HE2.out]; rfl, hb1⟩
      · have hqmb : ((q : Int) == m) = false := by simpa using hqm
        have HE2 : Hid (withF (n + 1) ns (n : Int) m = withF f' ns x.parent m) := by
          show _ = _
          rw [HE.out, withF, if_neg (by omega), if_neg hqm, Int.toNat_natCast, hx]
        obtain ⟨b, o, cap2, xva, xvk, hv, _, _, _, hbw, _, _, _, c3, _, _, _⟩ := HN1.out.at hx
        injection hv with hv1 hvl hv2
        subst hv1 hv2
        clear hvl
        have hpar := (good_fam HG.out hx).par
        clear HE hqm hx
        go_wp2_with fail
        rcases hpar with ⟨_, hp⟩ | ⟨q2, y, hy, hp, hq2, _⟩
        · rw [hp] at HE2 ⊢
          go_roundg 0
          case measure => omega
          case rel => exact ⟨-1, f', by omega, rfl, rfl, HE2.out, Or.inl rfl⟩
        · have hy2 := lt_of_some hy
          rw [hp] at HE2 ⊢
          go_roundg (q2 + 1)
          case measure => omega
          case rel => exact ⟨(q2 : Int), f', by omega, rfl, rfl, HE2.out, Or.inr ⟨q2, rfl, hy2, by omega⟩⟩

theorem endD_bad {ns : List Nd} {m : Int} (h : m < 0 ∨ (ns.length : Int) ≤ m) : endD ns m = 0 := by
  unfold endD amongB
  rcases h with h | h
  · simp [show ¬ 0 ≤ m by omega]
  · simp [show ¬ m < ns.length by omega]

theorem endD_le {ns : List Nd} (hg : goodD ns = true) (m : Int) : endD ns m ≤ ns.length := by
  by_cases h : m < 0 ∨ (ns.length : Int) ≤ m
  · rw [endD_bad h]; omega
  · obtain ⟨k, rfl⟩ : ∃ k : Nat, m = (k : Int) := ⟨m.toNat, by omega⟩
    have hk : k < ns.length := by omega
    exact (good_nest hg (j := k) (x := ns[k]) (by simp [hk])).le

/-- What IsIn answers is what doc.In answers. -/
theorem inD_cases {ns : List Nd} (n m : Int) : inD ns n m = (goodD ns && decide (0 ≤ n) && decide (n < ns.length) && decide (0 ≤ m) && withF (n.toNat + 1) ns n m) := by
  cases hg : goodD ns with
  | false =>
    have : endD ns m = 0 := by unfold endD; rw [hg]; rfl
    unfold inD
    rw [this]
    simp
  | true =>
    have hle := endD_le hg m
    by_cases hm : m < 0
    · have : endD ns m = 0 := endD_bad (Or.inl hm)
      unfold inD
      rw [this]
      simp [show ¬ 0 ≤ m by omega]
    · obtain ⟨M, rfl⟩ : ∃ M : Nat, m = (M : Int) := ⟨m.toNat, by omega⟩
      by_cases hn : 0 ≤ n ∧ n < ns.length
      · obtain ⟨N, rfl⟩ : ∃ N : Nat, n = (N : Int) := ⟨n.toNat, by omega⟩
        have hN : N < ns.length := by omega
        rw [Int.toNat_natCast, (with_in hg M (N + 1) N (by omega) hN).1]
        unfold inD
        by_cases h1 : (M : Int) ≤ (N : Int)
        · by_cases h2 : (N : Int) < endD ns (M : Int)
          · have h3 : 0 < endD ns (M : Int) := by omega
            simp [h1, h2, h3]
            omega
          · simp [h2]
        · simp [h1]
      · have e1 : (decide (0 ≤ n) && decide (n < (ns.length : Int))) = false := by
          rcases Classical.not_and_iff_not_or_not.1 hn with h | h
          · simp [h]
          · simp [h]
        have e2 : inD ns n (M : Int) = false := by
          unfold inD
          rcases Classical.not_and_iff_not_or_not.1 hn with h | h
          · simp [show ¬ (M : Int) ≤ n by omega]
          · simp [show ¬ n < endD ns (M : Int) by omega]
        rw [e2, Bool.true_and, e1]
        rfl

set_option maxHeartbeats 1000000 in
theorem isIn_any (hI : IsDocOk) (S : Nat → Prop) (v : Value) (ns : List Nd) (n m : Int) (w : World) (hD : DocV S w v ns) :
    Calls Tryd.prog 44 #[.agg #[v], .int .i64 n, .int .i64 m] w fun e w' => e = .returned (.bool (inD ns n m)) ∧ Below w.heap.size w w' := by
  have hb1 := Below.alloc1 w (.cells #[v] 47)
  have hx1 := heap_alloc_new w (.cells #[v] 47)
  have HG : Hid _ := hI S v ns _ (hD.later hb1)
  have HD : Hid (DocV S w v ns) := hD
  have HC : Hid _ := inD_cases (ns := ns) n m
  obtain ⟨a, cap, rfl, hlc, hcm⟩ := hD.nodes.shape
  unfold maxLen at hcm
  clear hD hI
  go_enter Tryd.func44, Tryd.ntmps44
  go_wp2_with fail
  refine (Calls.mono HG.out ?_)
  rintro e w2 ⟨rfl, hb2⟩
  have hx2 := (hb2.block _ (blk_lt hx1)).trans hx1
  have hB2 : Below w.heap.size w w2 := hb1.trans (hb2.mono hb1.size)
  have d2 : w2.cell? ⟨w.heap.size, 0, none⟩ = some (.slice a ns.length cap) := by rw [Lib.cell_of_heap hx2]; rfl
  clear HG hb1 hx1 hb2
  obtain ⟨q, hq⟩ : ∃ q, goodD ns = q := ⟨_, rfl⟩
  rw [hq]
  cases q with
  | false =>
    have HE : Hid (inD ns n m = false) := by show _ = _; rw [HC.out, hq]; rfl
    clear HC hq
    go_wp2_with fail
    go_ret
    exact ⟨by rw [HE.out]; rfl, hB2⟩
  | true =>
    have HQ : Hid (goodD ns = true) := hq
    clear hq
    by_cases h1 : n < 0
    · have HE : Hid (inD ns n m = false) := by show _ = _; rw [HC.out]; simp [show ¬ 0 ≤ n by omega]
      clear HC
      go_wp2_with fail
      go_ret
      exact ⟨by rw [HE.out]; rfl, hB2⟩
    · by_cases h2 : (ns.length : Int) ≤ n
      · have HE : Hid (inD ns n m = false) := by show _ = _; rw [HC.out]; simp [show ¬ n < ns.length by omega]
        clear HC
        go_wp2_with fail
        go_ret
        exact ⟨by rw [HE.out]; rfl, hB2⟩
      · by_cases h3 : m < 0
        · have HE : Hid (inD ns n m = false) := by show _ = _; rw [HC.out]; simp [show ¬ 0 ≤ m by omega]
          clear HC
          go_wp2_with fail
          go_ret
          exact ⟨by rw [HE.out]; rfl, hB2⟩
        · obtain ⟨N, rfl⟩ : ∃ N : Nat, n = (N : Int) := ⟨n.toNat, by omega⟩
          have HE : Hid (inD ns (N : Int) m = withF (N + 1) ns (N : Int) m) := by
            show _ = _
            rw [HC.out, HQ.out, Int.toNat_natCast]
            simp [show (0 : Int) ≤ m by omega, show (N : Int) < ns.length by omega]
          have HWI : Hid _ := within_any S _ ns N m w2 (HD.out.later hB2) HQ.out (by omega)
          clear HC
          go_wp2_with fail
          refine (Calls.mono HWI.out ?_)
          rintro e w3 ⟨rfl, hb3⟩
          go_wp2_with fail
          go_ret
          exact ⟨by rw [HE.out]; rfl, hB2.trans (hb3.mono hB2.size)⟩

/-- The end so far. -/
def endU (ns : List Nd) (n : Int) : Nat → Int
  | 0 => 0
  | k + 1 => if inD ns (k : Int) n then (k : Int) + 1 else endU ns n k

theorem endU_bounds (ns : List Nd) (n : Int) : ∀ k, 0 ≤ endU ns n k ∧ endU ns n k ≤ k := by
  intro k
  induction k with
  | zero => exact ⟨Int.le_refl _, Int.le_refl _⟩
  | succ k ih =>
    rw [endU]
    split <;> omega

theorem endU_end {ns : List Nd} (n : Int) : endU ns n ns.length = endD ns n := by
  by_cases hz : endD ns n = 0
  · have : ∀ k, endU ns n k = 0 := by
      intro k
      induction k with
      | zero => rfl
      | succ k ih =>
        rw [endU, ih]
        have : inD ns (k : Int) n = false := by unfold inD; rw [hz]; simp
        rw [this]; rfl
    rw [this, hz]
  · have hg : goodD ns = true := by
      cases h : goodD ns with
      | true => rfl
      | false => exact absurd (by unfold endD; rw [h]; rfl) hz
    have hn : ¬ (n < 0 ∨ (ns.length : Int) ≤ n) := fun h => hz (endD_bad h)
    obtain ⟨N, rfl⟩ : ∃ N : Nat, n = (N : Int) := ⟨n.toNat, by omega⟩
    have hN : N < ns.length := by omega
    have hgt := (good_fam hg (j := N) (x := ns[N]) (by simp [hN])).gt
    have hle := endD_le hg (N : Int)
    have key : ∀ k : Nat, endU ns (N : Int) k = if (k : Int) ≤ N then 0 else min (k : Int) (endD ns (N : Int)) := by
      intro k
      induction k with
      | zero => simp [endU]
      | succ k ih =>
        rw [endU, ih]
        have hin : inD ns (k : Int) (N : Int) = (decide ((N : Int) ≤ k) && decide ((k : Int) < endD ns (N : Int))) := by
          unfold inD
          have : 0 < endD ns (N : Int) := by omega
          simp [this]
        rw [hin]
        by_cases h1 : (N : Int) ≤ k
        · by_cases h2 : (k : Int) < endD ns (N : Int)
          · simp only [h1, h2, decide_true, Bool.and_self, if_true]
            rw [if_neg (by omega)]
            push_cast
            omega
          · simp only [h1, h2, decide_true, decide_false, Bool.and_false]
            rw [if_neg (by simp), if_neg (by omega)]
            split
            · omega
            · push_cast; omega
        · simp only [h1, decide_false, Bool.false_and]
          rw [if_neg (by simp), if_pos (by omega)]
          split
          · rfl
          · push_cast at *; omega
    rw [key, if_neg (by omega)]
    omega

set_option maxHeartbeats 1000000 in
theorem endOf_any (hI : IsDocOk) (S : Nat → Prop) (v : Value) (ns : List Nd) (n : Int) (w : World) (hD : DocV S w v ns) :
    Calls Tryd.prog 42 #[.agg #[v], .int .i64 n] w fun e w' => e = .returned (.int .i64 (endD ns n)) ∧ Below w.heap.size w w' := by
  have hb1 := Below.alloc1 w (.cells #[v] 47)
  have hx1 := heap_alloc_new w (.cells #[v] 47)
  have HII : Hid (∀ (k : Int) (W : World), Below w.heap.size w W → Calls Tryd.prog 44 #[.agg #[v], .int .i64 k, .int .i64 n] W fun e w' => e = .returned (.bool (inD ns k n)) ∧ Below W.heap.size W w') := fun k W h => isIn_any hI S v ns k n W (hD.later h)
  have HE : Hid (endU ns n ns.length = endD ns n) := endU_end n
  obtain ⟨a, cap, rfl, hlc, hcm⟩ := hD.nodes.shape
  unfold maxLen at hcm
  clear hD hI
  go_enter Tryd.func42, Tryd.ntmps42
  go_wp2_with fail
  generalize w.alloc (.cells #[.slice a ns.length cap] 47) = W1 at *
  have hz1 := blk_lt hx1
  go_loopg [10, 5] ns.length (fun g j z wr => ∃ (k : Nat), k + g = ns.length ∧ j = .int .i64 (k : Int) ∧ z = .int .i64 (endU ns n k) ∧ Below W1.heap.size W1 wr)
  case atStart => exact ⟨0, by omega, rfl, rfl, Below.refl _ _⟩
  case round =>
    obtain ⟨k, hk, rfl, rfl, hB⟩ := hrel
    have hbd := endU_bounds ns n k
    have hxr := (hB.block _ hz1).trans hx1
    have hBw : Below w.heap.size w wr := hb1.trans (hB.mono hb1.size)
    have dr : wr.cell? ⟨w.heap.size, 0, none⟩ = some (.slice a ns.length cap) := by rw [Lib.cell_of_heap hxr]; rfl
    by_cases hkl : k < ns.length
    · have hkli : (k : Int) < (ns.length : Int) := by omega
      have HC : Hid _ := HII.out (k : Int) wr hBw
      have HU : Hid (endU ns n (k + 1) = if inD ns (k : Int) n then (k : Int) + 1 else endU ns n k) := rfl
      obtain ⟨q, hq⟩ : ∃ q, inD ns (k : Int) n = q := ⟨_, rfl⟩
      rw [hq] at HC HU
      obtain ⟨z, hz⟩ : ∃ z, endU ns n k = z := ⟨_, rfl⟩
      rw [hz] at HU hbd ⊢
      clear hq hz hxr
      cases q with
      | true =>
        have HU2 : Hid (endU ns n (k + 1) = (k : Int) + 1) := HU.out
        clear HU
        go_wp2_with fail
        refine (Calls.mono HC.out ?_)
        rintro e w3 ⟨rfl, hb3⟩
        go_wp2_with fail
        go_roundg (ns.length - (k + 1))
        case measure => omega
        case rel => exact ⟨k + 1, by omega, by go_num, by rw [HU2.out], hB.trans (hb3.mono hB.size)⟩
      | false =>
        have HU2 : Hid (endU ns n (k + 1) = z) := HU.out
        clear HU
        go_wp2_with fail
        refine (Calls.mono HC.out ?_)
        rintro e w3 ⟨rfl, hb3⟩
        go_wp2_with fail
        go_roundg (ns.length - (k + 1))
        case measure => omega
        case rel => exact ⟨k + 1, by omega, by go_num, by rw [HU2.out], hB.trans (hb3.mono hB.size)⟩
    · have hkli : ¬ ((k : Int) < (ns.length : Int)) := by omega
      have hkk : k = ns.length := by omega
      have HE2 : Hid (endU ns n k = endD ns n) := by show _ = _; rw [hkk, HE.out]
      clear hkk
      go_wp2_with fail
      go_ret
      exact ⟨by rw [← HE2.out]; rfl, hBw⟩
end Go.Proofs.YtfghbfocjjmcmaaDoor

/- The document's own IsDoc and TreeAt, from what MakeDoc answers. Condition: texts and attributes of a size that can be read. -/
namespace Go.Proofs.YtfghbfocjjmcmaaDoor
open Go.ChangeShapes Go.WideShapes Go.ChangeAt Go.RowKit
set_option maxRecDepth 100000

attribute [local go_sem] cell_set

/-- What MakeDoc must answer. -/
def MakeDocOk : Prop := ∀ (S : Nat → Prop) (n : Nat) (va vk : Value) (t : Tr) (w : World), Attrs S w va t.attrs → Trees S w n vk t.kids → TextsN (n + 1) [t] → cnt (n + 1) [t] ≤ 1048576 → (∀ b, S b → b < w.heap.size) →
    Calls Tryd.prog 33 #[.agg #[.bool t.text, .string t.s, va, vk]] w fun e w' => ∃ v, e = .returned (.tuple #[.agg #[v], .int .i64 (makeE t)]) ∧ Nodes (fun b => w.heap.size ≤ b) w' v (makeD n t) ∧ Below w.heap.size w w'

theorem tree_texts {ns : List Nd} (h : TextsD ns) : ∀ (f n : Nat), Texts (treeF f ns n) ∧ TextsN f (treeF f ns n).kids := by
  intro f
  induction f with
  | zero => intro n; exact ⟨⟨Nat.zero_le _, by intro y hy; simp [treeF] at hy⟩, trivial⟩
  | succ f ih =>
    intro n
    rw [treeF]
    cases hx : ns[n]? with
    | none => exact ⟨⟨Nat.zero_le _, by intro y hy; simp at hy⟩, by intro t ht; simp at ht⟩
    | some x =>
      refine ⟨h x (List.mem_of_getElem? hx), fun t ht => ?_⟩
      simp only [List.mem_map] at ht
      obtain ⟨k, _, rfl⟩ := ht
      exact ih _

theorem cnt_depR : ∀ (d e : Nat) (ks : List Tr), Deep d ks → Deep e ks → cnt d ks = cnt e ks := by
  intro d
  induction d with
  | zero => intro e ks h _; have h : ks = [] := h; subst h; rw [cnt_nil, cnt_nil]
  | succ d ih =>
    intro e ks h1 h2
    cases e with
    | zero => have h : ks = [] := h2; subst h; rw [cnt_nil, cnt_nil]
    | succ e =>
      induction ks with
      | nil => rw [cnt_nil, cnt_nil]
      | cons k r ihr =>
        rw [cnt_cons, cnt_cons, ih e k.kids (h1 k List.mem_cons_self) (h2 k List.mem_cons_self), ihr (fun t ht => h1 t (List.mem_cons_of_mem _ ht)) (fun t ht => h2 t (List.mem_cons_of_mem _ ht))]

theorem starts_dep (d e : Nat) : ∀ (ks : List Tr) (a : Nat), (∀ k ∈ ks, Deep d k.kids ∧ Deep e k.kids) → startsOf d a ks = startsOf e a ks := by
  intro ks
  induction ks with
  | nil => intro a _; rfl
  | cons k r ih =>
    intro a h
    have hk := h k List.mem_cons_self
    rw [startsOf, startsOf, cnt_one, cnt_one, cnt_depR d e _ hk.1 hk.2, ih _ (fun t ht => h t (List.mem_cons_of_mem _ ht))]

theorem lays_dep (d e : Nat) (f g : Tr → Int → Nat → List Nd) (par : Nat) : ∀ (ks : List Tr) (a : Nat), (∀ k ∈ ks, Deep d k.kids ∧ Deep e k.kids) → (∀ k ∈ ks, ∀ p a, f k p a = g k p a) → laysOf d f par a ks = laysOf e g par a ks := by
  intro ks
  induction ks with
  | nil => intro a _ _; rfl
  | cons k r ih =>
    intro a h hfg
    have hk := h k List.mem_cons_self
    rw [laysOf, laysOf, cnt_one, cnt_one, cnt_depR d e _ hk.1 hk.2, hfg k List.mem_cons_self, ih _ (fun t ht => h t (List.mem_cons_of_mem _ ht)) (fun t ht => hfg t (List.mem_cons_of_mem _ ht))]

theorem lay_dep : ∀ (d e : Nat) (t : Tr) (par : Int) (a : Nat), Deep d t.kids → Deep e t.kids → layF d t par a = layF e t par a := by
  intro d
  induction d with
  | zero =>
    intro e t par a h1 h2
    have h : t.kids = [] := h1
    cases e with
    | zero => rfl
    | succ e => rw [layF, layF, h]; rfl
  | succ d ih =>
    intro e t par a h1 h2
    cases e with
    | zero =>
      have h : t.kids = [] := h2
      rw [layF, layF, h]; rfl
    | succ e =>
      rw [layF, layF, starts_dep d e _ _ (fun k hk => ⟨h1 k hk, h2 k hk⟩), lays_dep d e (layF d) (layF e) a _ _ (fun k hk => ⟨h1 k hk, h2 k hk⟩) (fun k hk p q => ih e k p q (h1 k hk) (h2 k hk))]

/-- IsDoc, part by part. -/
theorem isDoc_parts {ns : List Nd} {x : Nd} {t : Tr} {n : Nat} (hx : ns[0]? = some x) (h80 : ns.length ≤ 80) (hp : x.parent = -1) (hps : parsB ns ns.length = true) (ht : treeF ns.length ns 0 = t) (hd : Deep n t.kids) :
    goodD ns = (goodB t && ndsB (layF n t (-1) 0) ns) := by
  have hpos : 0 < ns.length := lt_of_some hx
  rw [Bool.eq_iff_iff, isDoc_iff, Bool.and_eq_true, ndsB_iff, ht]
  constructor
  · rintro ⟨_, _, _, _, hg, d, hd2, hl⟩
    exact ⟨hg, by rw [lay_dep n d t (-1) 0 hd hd2]; exact hl⟩
  · rintro ⟨hg, hl⟩
    exact ⟨hpos, h80, ⟨x, hx, hp⟩, hps, hg, n, hd, hl⟩

theorem goodD_false {ns : List Nd} (h : ¬ (0 < ns.length ∧ ns.length ≤ 80 ∧ (∃ x, ns[0]? = some x ∧ x.parent = -1) ∧ parsB ns ns.length = true)) : goodD ns = false := by
  cases hg : goodD ns with
  | false => rfl
  | true =>
    have := isDoc_iff.1 hg
    exact absurd ⟨this.1, this.2.1, this.2.2.1, this.2.2.2.1⟩ h

theorem parsB_mono {ns : List Nd} {k : Nat} (h : parsB ns k = false) : ∀ m, k ≤ m → parsB ns m = false := by
  intro m
  induction m with
  | zero => intro hm; have : k = 0 := by omega
            subst this; exact h
  | succ m ih =>
    intro hm
    by_cases hk : k = m + 1
    · rw [← hk]; exact h
    · rw [parsB, ih (by omega)]; rfl

set_option maxHeartbeats 2000000 in
theorem isDoc_any (hM : MakeDocOk) : IsDocOk := by
  intro S v ns w hD
  have hb1 := Below.alloc1 w (.cells #[v] 47)
  have hx1 := heap_alloc_new w (.cells #[v] 47)
  have HD : Hid (DocV S w v ns) := hD
  have HM : Hid MakeDocOk := hM
  have HN1 : Hid (Nodes S (w.alloc (.cells #[v] 47)) v ns) := hD.nodes.later hb1
  obtain ⟨a, cap, rfl, hlc, hcm⟩ := hD.nodes.shape
  unfold maxLen at hcm
  clear hD hM
  by_cases h0 : ns.length = 0
  · have hn : ns = [] := List.eq_nil_of_length_eq_zero h0
    subst hn
    have HE : Hid (goodD [] = false) := goodD_false (by simp)
    clear hx1
    go_enter Tryd.func40, Tryd.ntmps40
    go_wp2_with fail
    go_ret
    exact ⟨by rw [HE.out]; rfl, hb1⟩
  obtain ⟨x0, hx0⟩ : ∃ x, ns[0]? = some x := ⟨ns[0]'(by omega), by simp [show 0 < ns.length by omega]⟩
  obtain ⟨b, o, cap2, xva, xvk, hv, _, _, hSb, hbw, _, _, _, c3, _, _, _⟩ := HN1.out.at hx0
  injection hv with hv1 hvl hv2
  subst hv1 hv2
  clear hvl
  have h0b : ((ns.length : Int) == 0) = false := by simpa using h0
  have hpos : (0 : Int) < (ns.length : Int) := by omega
  have c3z : (w.alloc (.cells #[.slice (some ⟨b, o, none⟩) ns.length cap] 47)).cell? ⟨b, o + 3, none⟩ = some (.int .i64 x0.parent) := by simpa using c3
  clear c3
  go_enter Tryd.func40, Tryd.ntmps40
  by_cases h80 : ns.length ≤ 80
  · have h80i : ¬ (80 : Int) < (ns.length : Int) := by omega
    by_cases hp0 : x0.parent = -1
    · rw [hp0] at c3z
      go_wp2_with fail
      have HN2 : Hid (Nodes S (w.alloc (.cells #[.slice (some ⟨b, o, none⟩) ns.length cap] 47)) (.slice (some ⟨b, o, none⟩) ns.length cap) ns) := HN1.out
      generalize w.alloc (.cells #[.slice (some ⟨b, o, none⟩) ns.length cap] 47) = W1 at hb1 hx1 HN2 ⊢
      have hz1 := blk_lt hx1
      clear c3z HN1
      go_loopg [28] ns.length (fun g j wr => ∃ (k : Nat), k + g = ns.length ∧ j = .int .i64 (k : Int) ∧ Below W1.heap.size W1 wr ∧ parsB ns k = true)
      case atStart => exact ⟨0, by omega, rfl, Below.refl _ _, rfl⟩
      case round =>
        obtain ⟨k, hk, rfl, hB, hpk⟩ := hrel
        have HPK : Hid (parsB ns k = true) := hpk
        clear hpk
        have hxr := (hB.block _ hz1).trans hx1
        have hBw : Below w.heap.size w wr := hb1.trans (hB.mono hb1.size)
        have dr : wr.cell? ⟨w.heap.size, 0, none⟩ = some (.slice (some ⟨b, o, none⟩) ns.length cap) := by rw [Lib.cell_of_heap hxr]; rfl
        by_cases hkl : k < ns.length
        · have hkli : (k : Int) < (ns.length : Int) := by omega
          obtain ⟨y, hy⟩ : ∃ y, ns[k]? = some y := ⟨ns[k], by simp [hkl]⟩
          have HPS : Hid (parsB ns (k + 1) = (decide (k = 0) || (decide (0 ≤ y.parent) && decide (y.parent < (k : Int))))) := by show _ = _; rw [parsB, HPK.out, hy]; rfl
          obtain ⟨b', o', cap3, yva, yvk, hv, _, _, _, hbw2, c0, c1, c2, c3, c4, hAt, hKi⟩ := (HN2.out.later hB).at hy
          cases hv
          obtain ⟨aa, ac, rfl⟩ := hAt.shape
          obtain ⟨ka, kc, rfl, _, _⟩ := hKi.shape
          have hBa : ∀ X, Below W1.heap.size W1 (wr.alloc X) := fun X => hB.alloc hB.size X
          have hBwa : ∀ X, Below w.heap.size w (wr.alloc X) := fun X => hBw.alloc hBw.size X
          clear hAt hKi hy hxr
          by_cases hk0 : k = 0
          · have HP2 : Hid (parsB ns (k + 1) = true) := by show _ = _; rw [HPS.out]; simp [hk0]
            have hk0i : ¬ (0 : Int) < (k : Int) := by omega
            clear hk0 HPS
            go_wp2_with fail
            go_roundg (ns.length - (k + 1))
            case measure => omega
            case rel => exact ⟨k + 1, by omega, by go_num, hBa _, HP2.out⟩
          · have hk0i : (0 : Int) < (k : Int) := by omega
            by_cases hneg : y.parent < 0
            · have HE : Hid (goodD ns = false) := goodD_false (fun h => by
                have h1 : parsB ns (k + 1) = false := by rw [HPS.out]; simp [hk0]; omega
                have h2 := parsB_mono h1 ns.length (by omega)
                rw [h2] at h; exact absurd h.2.2.2 (by simp))
              clear hk0 HPS
              go_wp2_with fail
              go_ret
              exact ⟨by rw [HE.out]; rfl, hBwa _⟩
            · by_cases hge : (k : Int) ≤ y.parent
              · have HE : Hid (goodD ns = false) := goodD_false (fun h => by
                  have h1 : parsB ns (k + 1) = false := by rw [HPS.out]; simp [hk0]; omega
                  have h2 := parsB_mono h1 ns.length (by omega)
                  rw [h2] at h; exact absurd h.2.2.2 (by simp))
                clear hk0 HPS
                go_wp2_with fail
                go_ret
                exact ⟨by rw [HE.out]; rfl, hBwa _⟩
              · have HP2 : Hid (parsB ns (k + 1) = true) := by show _ = _; rw [HPS.out]; simp [hk0]; omega
                clear hk0 HPS
                go_wp2_with fail
                go_roundg (ns.length - (k + 1))
                case measure => omega
                case rel => exact ⟨k + 1, by omega, by go_num, hBa _, HP2.out⟩
        · have hkli : ¬ ((k : Int) < (ns.length : Int)) := by omega
          have hkk : k = ns.length := by omega
          have HPA : Hid (parsB ns ns.length = true) := by show _ = _; rw [← hkk]; exact HPK.out
          have HT : Hid _ := treeOf_any ns.length S _ ns 0 wr (HD.out.later hBw).nodes HD.out.few h80 (by omega) (by omega)
          rw [show ((0 : Nat) : Int) = 0 from rfl] at HT
          obtain ⟨t, ht⟩ : ∃ t, treeF ns.length ns 0 = t := ⟨_, rfl⟩
          have HX : Hid (TextsN (ns.length + 1) [t]) := by
            show TextsN (ns.length + 1) [t]
            intro u hu
            rw [List.mem_singleton] at hu
            rw [hu, ← ht]
            exact tree_texts HD.out.short _ _
          have HCT : Hid (cnt (ns.length + 1) [t] ≤ 1048576) := by show cnt (ns.length + 1) [t] ≤ 1048576; rw [← ht]; exact tree_few (by omega) h80 h80
          rw [ht] at HT
          have HPT : Hid (∀ n, Deep n t.kids → goodD ns = (goodB t && ndsB (layF n t (-1) 0) ns)) := fun n hd => isDoc_parts hx0 h80 hp0 HPA.out ht hd
          clear hkk ht hx0
          go_wp2_with fail
          refine (Calls.mono HT.out ?_)
          rintro e w3 ⟨va, vk, rfl, hA, hK, hb3⟩
          have HTD : Hid _ := HPT.out _ (Trees.deep _ hK)
          have HMM : Hid _ := HM.out _ _ _ _ t w3 hA.bounded (Trees.bounded _ hK) HX.out HCT.out (fun b hb => hb.2)
          obtain ⟨aa, ac, rfl⟩ := hA.shape
          obtain ⟨ka, kc, rfl, _, _⟩ := Trees.shape _ hK
          have hB3 : Below w.heap.size w w3 := hBw.trans (hb3.mono hBw.size)
          have hx3 := (hb3.block _ (blk_lt hxr)).trans hxr
          have d3 : w3.cell? ⟨w.heap.size, 0, none⟩ = some (.slice (some ⟨b, o, none⟩) ns.length cap) := by rw [Lib.cell_of_heap hx3]; rfl
          clear hA hK HT
          go_wp2_with fail
          refine (Calls.mono HMM.out ?_)
          rintro e w4 ⟨v4, rfl, hN4, hb4⟩
          have hB4 : Below w.heap.size w w4 := hB3.trans (hb4.mono hB3.size)
          have hx4 := (hb4.block _ (blk_lt hx3)).trans hx3
          have d4 : w4.cell? ⟨w.heap.size, 0, none⟩ = some (.slice (some ⟨b, o, none⟩) ns.length cap) := by rw [Lib.cell_of_heap hx4]; rfl
          have hb5 := Below.alloc1 w4 (.cells #[v4] 47)
          have HSD : Hid _ := sameDoc_ex _ S _ _ _ ns _ (hN4.later hb5) (HD.out.later (hB4.alloc hB4.size (.cells #[v4] 47))).nodes
          have hx5 := (hb5.block _ (blk_lt hx4)).trans hx4
          have d5 : (w4.alloc (.cells #[v4] 47)).cell? ⟨w.heap.size, 0, none⟩ = some (.slice (some ⟨b, o, none⟩) ns.length cap) := by rw [Lib.cell_of_heap hx5]; rfl
          have hB5 : Below w.heap.size w (w4.alloc (.cells #[v4] 47)) := hB4.alloc hB4.size _
          obtain ⟨a4, cap4, rfl, _, _⟩ := hN4.shape
          obtain ⟨g, hg⟩ : ∃ g, goodB t = g := ⟨_, rfl⟩
          obtain ⟨q, hq⟩ : ∃ q, (makeD ns.length t).length = q := ⟨_, rfl⟩
          rw [hq] at HSD hB5 d5 ⊢
          unfold makeE
          unfold makeD at HSD
          rw [hg] at HTD HSD ⊢
          clear hN4 HMM hg hxr hx3 hx4 hx5 hb5 hq
          cases g with
          | false =>
            have HE : Hid (goodD ns = false) := by show _ = _; rw [HTD.out]; rfl
            clear HTD HSD
            go_wp2_with fail
            go_ret
            exact ⟨by rw [HE.out]; rfl, hB5⟩
          | true =>
            have HE : Hid (goodD ns = ndsB (layF ns.length t (-1) 0) ns) := by show _ = _; rw [HTD.out]; rfl
            clear HTD
            simp only [if_true] at HSD
            go_wp2_with fail
            refine (Calls.mono HSD.out ?_)
            rintro e w6 ⟨rfl, hb6⟩
            go_wp2_with fail
            go_ret
            exact ⟨by rw [HE.out]; rfl, hB5.trans (hb6.mono hB5.size)⟩
    · have hpb : (x0.parent == -1) = false := by simpa using hp0
      have HE : Hid (goodD ns = false) := goodD_false (fun h => by obtain ⟨_, _, ⟨x, hx, hp⟩, _⟩ := h; rw [hx0] at hx; cases hx; exact hp0 hp)
      clear hp0 hx0 HN1
      go_wp2_with fail
      go_ret
      exact ⟨by rw [HE.out]; rfl, hb1⟩
  · have h80i : (80 : Int) < (ns.length : Int) := by omega
    have HE : Hid (goodD ns = false) := goodD_false (fun h => h80 h.2.1)
    clear h80 hx0 HN1
    go_wp2_with fail
    go_ret
    exact ⟨by rw [HE.out]; rfl, hb1⟩

set_option maxHeartbeats 2000000 in
theorem treeAt_any (hI : IsDocOk) (S : Nat → Prop) (v : Value) (ns : List Nd) (n : Int) (w : World) (h : DocV S w v ns) :
    Calls Tryd.prog 38 #[.agg #[v], .int .i64 n] w fun e w' => ∃ va vk, e = .returned (.tuple #[.agg #[.bool (treeD ns n).1.text, .string (treeD ns n).1.s, va, vk], .int .i64 (treeD ns n).2]) ∧
      Attrs (fun b => w.heap.size ≤ b) w' va (treeD ns n).1.attrs ∧ Trees (fun b => w.heap.size ≤ b) w' ns.length vk (treeD ns n).1.kids ∧ Below w.heap.size w w' := by
  have hb1 : Below w.heap.size w ((w.alloc (.cells #[v] 47)).alloc (.cells #[.bool false, .string ⟨#[]⟩, .slice none 0 0, .slice none 0 0] 25)) := (Below.alloc1 w _).alloc (by simp) _
  have hx1 : ((w.alloc (.cells #[v] 47)).alloc (.cells #[.bool false, .string ⟨#[]⟩, .slice none 0 0, .slice none 0 0] 25)).heap[w.heap.size]? = some (.cells #[v] 47 (0, 0)) := by
    rw [Lib.alloc_old _ _ _ (by simp)]; exact heap_alloc_new _ _
  have hy1 : ((w.alloc (.cells #[v] 47)).alloc (.cells #[.bool false, .string ⟨#[]⟩, .slice none 0 0, .slice none 0 0] 25)).heap[w.heap.size + 1]? = some (.cells #[.bool false, .string ⟨#[]⟩, .slice none 0 0, .slice none 0 0] 25 (0, 0)) := by
    have e := heap_alloc_new (w.alloc (.cells #[v] 47)) (.cells #[.bool false, .string ⟨#[]⟩, .slice none 0 0, .slice none 0 0] 25)
    rw [World.size_alloc] at e
    exact e
  have H : Hid (DocV S w v ns) := h
  have HG : Hid _ := hI S v ns _ (h.later hb1)
  have HE : Hid (treeD ns n = if goodD ns then (if amongB ns n then (growF ns.length ns n.toNat, 0) else (noTr, 3)) else (noTr, 1)) := rfl
  obtain ⟨a, cap, rfl, hlc, hcm⟩ := h.nodes.shape
  unfold maxLen at hcm
  clear h
  go_enter Tryd.func38, Tryd.ntmps38
  go_wp2_with fail
  refine (Calls.mono HG.out ?_)
  rintro e w2 ⟨rfl, hb2⟩
  have hx2 := (hb2.block _ (blk_lt hx1)).trans hx1
  have hy2 := (hb2.block _ (blk_lt hy1)).trans hy1
  have hB2 : Below w.heap.size w w2 := hb1.trans (hb2.mono hb1.size)
  have d0 : w2.cell? ⟨w.heap.size, 0, none⟩ = some (.slice a ns.length cap) := by rw [Lib.cell_of_heap hx2]; rfl
  have p0 : w2.cell? ⟨w.heap.size + 1, 0, none⟩ = some (.bool false) := by rw [Lib.cell_of_heap hy2]; rfl
  have p1 : w2.cell? ⟨w.heap.size + 1, 1, none⟩ = some (.string ⟨#[]⟩) := by rw [Lib.cell_of_heap hy2]; rfl
  have p2 : w2.cell? ⟨w.heap.size + 1, 2, none⟩ = some (.slice none 0 0) := by rw [Lib.cell_of_heap hy2]; rfl
  have p3 : w2.cell? ⟨w.heap.size + 1, 3, none⟩ = some (.slice none 0 0) := by rw [Lib.cell_of_heap hy2]; rfl
  have f0 : w2.frozen? ⟨w.heap.size + 1, 0, none⟩ = false := Lib.frozen_of_heap hy2 0
  have f1 : w2.frozen? ⟨w.heap.size + 1, 1, none⟩ = false := Lib.frozen_of_heap hy2 1
  have f2 : w2.frozen? ⟨w.heap.size + 1, 2, none⟩ = false := Lib.frozen_of_heap hy2 2
  have f3 : w2.frozen? ⟨w.heap.size + 1, 3, none⟩ = false := Lib.frozen_of_heap hy2 3
  clear HG hb1 hx1 hb2 hy1
  obtain ⟨q, hq⟩ : ∃ q, goodD ns = q := ⟨_, rfl⟩
  rw [hq]
  have hle1 : w.heap.size ≤ w.heap.size + 1 := Nat.le_succ _
  cases q with
  | false =>
    have HE2 : Hid (treeD ns n = (noTr, 1)) := by show _ = _; rw [HE.out, hq]; rfl
    clear HE hq
    go_wp2_with fail
    refine bodyPost_ret (v := .tuple #[.agg #[.bool false, .string ⟨#[]⟩, .slice none 0 0, .slice none 0 0], .int .i64 1]) (by simp [results, Tryd.results38, go_sem, cell_set, p0, p1, p2, p3, World.cell?_setCell_other]) rfl ⟨.slice none 0 0, .slice none 0 0, by rw [HE2.out]; rfl, by rw [HE2.out]; exact Attrs.nil, by rw [HE2.out]; exact Trees.nil _ ⟨none, 0, rfl, Nat.zero_le _⟩, ?_⟩
    exact (((hB2.setCell (p := ⟨w.heap.size + 1, 0, none⟩) hle1 _).setCell (p := ⟨w.heap.size + 1, 1, none⟩) hle1 _).setCell (p := ⟨w.heap.size + 1, 2, none⟩) hle1 _).setCell (p := ⟨w.heap.size + 1, 3, none⟩) hle1 _
  | true =>
    have HE2 : Hid (treeD ns n = if amongB ns n then (growF ns.length ns n.toNat, 0) else (noTr, 3)) := by show _ = _; rw [HE.out, hq]; rfl
    have HGQ : Hid (goodD ns = true) := hq
    clear HE hq
    have HAB : Hid (amongB ns n = (decide (0 ≤ n) && decide (n < ns.length))) := rfl
    obtain ⟨q2, hq2⟩ : ∃ q, amongB ns n = q := ⟨_, rfl⟩
    rw [hq2] at HE2 HAB
    clear hq2
    cases q2 with
    | false =>
      have HE3 : Hid (treeD ns n = (noTr, 3)) := by show _ = _; rw [HE2.out]; rfl
      clear HE2
      have hr := HAB.out.symm
      simp only [Bool.and_eq_false_iff, decide_eq_false_iff_not] at hr
      by_cases hn0 : n < 0
      · clear hr HAB
        go_wp2_with fail
        refine bodyPost_ret (v := .tuple #[.agg #[.bool false, .string ⟨#[]⟩, .slice none 0 0, .slice none 0 0], .int .i64 3]) (by simp [results, Tryd.results38, go_sem, cell_set, p0, p1, p2, p3, World.cell?_setCell_other]) rfl ⟨.slice none 0 0, .slice none 0 0, by rw [HE3.out]; rfl, by rw [HE3.out]; exact Attrs.nil, by rw [HE3.out]; exact Trees.nil _ ⟨none, 0, rfl, Nat.zero_le _⟩, ?_⟩
        exact (((hB2.setCell (p := ⟨w.heap.size + 1, 0, none⟩) hle1 _).setCell (p := ⟨w.heap.size + 1, 1, none⟩) hle1 _).setCell (p := ⟨w.heap.size + 1, 2, none⟩) hle1 _).setCell (p := ⟨w.heap.size + 1, 3, none⟩) hle1 _
      · have hnl : (ns.length : Int) ≤ n := by omega
        clear hr HAB
        go_wp2_with fail
        refine bodyPost_ret (v := .tuple #[.agg #[.bool false, .string ⟨#[]⟩, .slice none 0 0, .slice none 0 0], .int .i64 3]) (by simp [results, Tryd.results38, go_sem, cell_set, p0, p1, p2, p3, World.cell?_setCell_other]) rfl ⟨.slice none 0 0, .slice none 0 0, by rw [HE3.out]; rfl, by rw [HE3.out]; exact Attrs.nil, by rw [HE3.out]; exact Trees.nil _ ⟨none, 0, rfl, Nat.zero_le _⟩, ?_⟩
        exact (((hB2.setCell (p := ⟨w.heap.size + 1, 0, none⟩) hle1 _).setCell (p := ⟨w.heap.size + 1, 1, none⟩) hle1 _).setCell (p := ⟨w.heap.size + 1, 2, none⟩) hle1 _).setCell (p := ⟨w.heap.size + 1, 3, none⟩) hle1 _
    | true =>
      have hr := HAB.out.symm
      simp only [Bool.and_eq_true, decide_eq_true_eq] at hr
      obtain ⟨m, rfl⟩ : ∃ m : Nat, n = (m : Int) := ⟨n.toNat, by omega⟩
      have HE3 : Hid (treeD ns (m : Int) = (growF ns.length ns m, 0)) := by show _ = _; rw [HE2.out]; rfl
      have h80 : ns.length ≤ 80 := (isDoc_iff.1 HGQ.out).2.1
      have HGR : Hid _ := treeOf_any ns.length S _ ns m w2 (H.out.later hB2).nodes H.out.few h80 (by omega) (by omega)
      rw [tree_grow HGQ.out] at HGR
      have hn0 : ¬ ((m : Int) < 0) := by omega
      have hnl : ¬ ((ns.length : Int) ≤ (m : Int)) := by omega
      clear HE2 HAB hr h80
      go_wp2_with fail
      refine (Calls.mono HGR.out ?_)
      rintro e w4 ⟨va4, vk4, rfl, hA4, hK4, hb4⟩
      have hB4 : Below w.heap.size w w4 := hB2.trans (hb4.mono hB2.size)
      obtain ⟨aa, ac, rfl⟩ := hA4.shape
      obtain ⟨ka, kc, rfl, _, _⟩ := Trees.shape ns.length hK4
      have hy4 := (hb4.block _ (blk_lt hy2)).trans hy2
      have hs2 := blk_lt hy2
      clear p0 p1 p2 p3 f0 f1 f2 f3 HGR
      have p0 : w4.cell? ⟨w.heap.size + 1, 0, none⟩ = some (.bool false) := by rw [Lib.cell_of_heap hy4]; rfl
      have p1 : w4.cell? ⟨w.heap.size + 1, 1, none⟩ = some (.string ⟨#[]⟩) := by rw [Lib.cell_of_heap hy4]; rfl
      have p2 : w4.cell? ⟨w.heap.size + 1, 2, none⟩ = some (.slice none 0 0) := by rw [Lib.cell_of_heap hy4]; rfl
      have p3 : w4.cell? ⟨w.heap.size + 1, 3, none⟩ = some (.slice none 0 0) := by rw [Lib.cell_of_heap hy4]; rfl
      have f0 : w4.frozen? ⟨w.heap.size + 1, 0, none⟩ = false := Lib.frozen_of_heap hy4 0
      have f1 : w4.frozen? ⟨w.heap.size + 1, 1, none⟩ = false := Lib.frozen_of_heap hy4 1
      have f2 : w4.frozen? ⟨w.heap.size + 1, 2, none⟩ = false := Lib.frozen_of_heap hy4 2
      have f3 : w4.frozen? ⟨w.heap.size + 1, 3, none⟩ = false := Lib.frozen_of_heap hy4 3
      obtain ⟨t, ht⟩ : ∃ t, growF ns.length ns m = t := ⟨_, rfl⟩
      rw [ht] at hA4 hK4 HE3 ⊢
      clear ht
      go_wp2_with fail
      refine bodyPost_ret (v := .tuple #[.agg #[.bool t.text, .string t.s, .slice aa t.attrs.length ac, .slice ka t.kids.length kc], .int .i64 0]) (by simp [results, Tryd.results38, go_sem, cell_set, p0, p1, p2, p3, World.cell?_setCell_other]) rfl ⟨.slice aa t.attrs.length ac, .slice ka t.kids.length kc, by rw [HE3.out], ?_, ?_, ?_⟩
      · rw [HE3.out]
        refine hA4.carry fun b hb => ⟨by omega, ?_⟩
        rw [blk_set_ne (by omega), blk_set_ne (by omega), blk_set_ne (by omega), blk_set_ne (by omega)]
      · rw [HE3.out]
        refine Trees.carry (fun b hb => ⟨by omega, ?_⟩) ns.length hK4
        rw [blk_set_ne (by omega), blk_set_ne (by omega), blk_set_ne (by omega), blk_set_ne (by omega)]
      · exact (((hB4.setCell (p := ⟨w.heap.size + 1, 0, none⟩) hle1 _).setCell (p := ⟨w.heap.size + 1, 1, none⟩) hle1 _).setCell (p := ⟨w.heap.size + 1, 2, none⟩) hle1 _).setCell (p := ⟨w.heap.size + 1, 3, none⟩) hle1 _
end Go.Proofs.YtfghbfocjjmcmaaDoor

/- The closed sentence 'docs' of the package topiarylaw is true. No condition. -/
namespace Go.Proofs.YtfghbfocjjmcmaaDoor
open Go.ChangeShapes Go.WideShapes Go.ChangeAt Go.RowKit
set_option maxRecDepth 100000

attribute [local go_sem] cell_set

set_option maxHeartbeats 1000000 in
theorem docsL_any (w : World) : Calls Tryd.prog 35 #[] w fun e w' => e = .returned (.bool true) ∧ Below w.heap.size w w' := by
  go_enter Tryd.func35, Tryd.ntmps35
  go_wp2_with fail
  have hb1 : Below w.heap.size w ((w.alloc (.cells #[.bool true, .string ⟨#[120]⟩, .slice none 0 0, .slice none 0 0] 25)).alloc (.cells #[.bool false, .string ⟨#[98]⟩, .slice none 0 0, .slice (some ⟨w.heap.size, 0, none⟩) 1 1, .bool false, .string ⟨#[99]⟩, .slice none 0 0, .slice none 0 0] 25)) := (Below.alloc1 w _).alloc (by simp) _
  have hx1 : ((w.alloc (.cells #[.bool true, .string ⟨#[120]⟩, .slice none 0 0, .slice none 0 0] 25)).alloc (.cells #[.bool false, .string ⟨#[98]⟩, .slice none 0 0, .slice (some ⟨w.heap.size, 0, none⟩) 1 1, .bool false, .string ⟨#[99]⟩, .slice none 0 0, .slice none 0 0] 25)).heap[w.heap.size]? = some (.cells #[.bool true, .string ⟨#[120]⟩, .slice none 0 0, .slice none 0 0] 25 (0, 0)) := by
    rw [Lib.alloc_old _ _ _ (by simp)]; exact heap_alloc_new _ _
  have hy1 : ((w.alloc (.cells #[.bool true, .string ⟨#[120]⟩, .slice none 0 0, .slice none 0 0] 25)).alloc (.cells #[.bool false, .string ⟨#[98]⟩, .slice none 0 0, .slice (some ⟨w.heap.size, 0, none⟩) 1 1, .bool false, .string ⟨#[99]⟩, .slice none 0 0, .slice none 0 0] 25)).heap[w.heap.size + 1]? = some (.cells #[.bool false, .string ⟨#[98]⟩, .slice none 0 0, .slice (some ⟨w.heap.size, 0, none⟩) 1 1, .bool false, .string ⟨#[99]⟩, .slice none 0 0, .slice none 0 0] 25 (0, 0)) := by
    have e := heap_alloc_new (w.alloc (.cells #[.bool true, .string ⟨#[120]⟩, .slice none 0 0, .slice none 0 0] 25)) (.cells #[.bool false, .string ⟨#[98]⟩, .slice none 0 0, .slice (some ⟨w.heap.size, 0, none⟩) 1 1, .bool false, .string ⟨#[99]⟩, .slice none 0 0, .slice none 0 0] 25)
    rw [World.size_alloc] at e
    exact e
  have hz1 : ((w.alloc (.cells #[.bool true, .string ⟨#[120]⟩, .slice none 0 0, .slice none 0 0] 25)).alloc (.cells #[.bool false, .string ⟨#[98]⟩, .slice none 0 0, .slice (some ⟨w.heap.size, 0, none⟩) 1 1, .bool false, .string ⟨#[99]⟩, .slice none 0 0, .slice none 0 0] 25)).heap.size = w.heap.size + 2 := by simp
  generalize ((w.alloc (.cells #[.bool true, .string ⟨#[120]⟩, .slice none 0 0, .slice none 0 0] 25)).alloc (.cells #[.bool false, .string ⟨#[98]⟩, .slice none 0 0, .slice (some ⟨w.heap.size, 0, none⟩) 1 1, .bool false, .string ⟨#[99]⟩, .slice none 0 0, .slice none 0 0] 25)) = W1 at hb1 hx1 hy1 hz1 ⊢
  have hT1 : Trees (fun b => False ∨ b = w.heap.size) W1 1 (.slice (some ⟨w.heap.size, 0, none⟩) 1 1) [⟨true, ⟨#[120]⟩, [], []⟩] :=
    Trees.of_block (qs := [(true, ⟨#[120]⟩, .slice none 0 0, .slice none 0 0)]) hx1 rfl rfl rfl (Nat.le_refl _) (by unfold maxLen; omega) (by
      intro i q t hq ht
      match i, hq, ht with
      | 0, hq, ht =>
        simp at hq ht
        subst hq ht
        exact ⟨rfl, rfl, Attrs.nil, rfl, none, 0, rfl, Nat.zero_le _⟩
      | i + 1, hq, _ => simp at hq)
  have hT2 : Trees (fun b => (False ∨ b = w.heap.size) ∨ b = w.heap.size + 1) W1 2 (.slice (some ⟨w.heap.size + 1, 0, none⟩) 2 2) docsT.kids :=
    Trees.of_block (qs := [(false, ⟨#[98]⟩, .slice none 0 0, .slice (some ⟨w.heap.size, 0, none⟩) 1 1), (false, ⟨#[99]⟩, .slice none 0 0, .slice none 0 0)]) hy1 rfl rfl rfl (Nat.le_refl _) (by unfold maxLen; omega) (by
      intro i q t hq ht
      match i, hq, ht with
      | 0, hq, ht =>
        simp [docsT] at hq ht
        subst hq ht
        exact ⟨rfl, rfl, Attrs.nil, hT1⟩
      | 1, hq, ht =>
        simp [docsT] at hq ht
        subst hq ht
        exact ⟨rfl, rfl, Attrs.nil, Trees.nil _ ⟨none, 0, rfl, Nat.zero_le _⟩⟩
      | i + 2, hq, _ => simp at hq)
  have hmk := make_any _ 2 (.slice none 0 0) _ docsT W1 Attrs.nil hT2 docs_texts (by intro b hb; rw [hz1]; rcases hb with (hb | hb) | hb; exact hb.elim; omega; omega)
  rw [docs_made, show makeE docsT = 0 by unfold makeE; rw [docs_good]; rfl] at hmk
  have HMK : Hid _ := hmk
  clear hmk hT1 hT2 hx1 hy1
  refine (Calls.mono HMK.out ?_)
  rintro e w2 ⟨v, rfl, hN2, hb2⟩
  have hB2 : Below w.heap.size w w2 := hb1.trans (hb2.mono hb1.size)
  obtain ⟨na, nc, rfl, _, _⟩ := hN2.shape
  have hb3 := Below.alloc1 w2 (.cells #[.slice na docsN.length nc] 47)
  have hx3 := heap_alloc_new w2 (.cells #[.slice na docsN.length nc] 47)
  have hN3 := (hN2.later hb3).bounded
  have hV3 := docsV hN3 (fun b hb => hb.2)
  have hB3 : Below w.heap.size w _ := hB2.trans (hb3.mono hB2.size)
  have hE := endD_any _ _ docsN 1 _ hV3
  rw [docs_end] at hE
  have HE : Hid _ := hE
  clear HMK hE hN2
  go_wp2_with fail
  generalize w2.alloc (.cells #[.slice na docsN.length nc] 47) = W3 at *
  refine (Calls.mono HE.out ?_)
  rintro e w4 ⟨rfl, hb4⟩
  have hx4 := (hb4.block _ (blk_lt hx3)).trans hx3
  have d4 : w4.cell? ⟨w2.heap.size, 0, none⟩ = some (.slice na docsN.length nc) := by rw [Lib.cell_of_heap hx4]; rfl
  have hV4 := hV3.later hb4
  have hB4 : Below w.heap.size w w4 := hB3.trans (hb4.mono hB3.size)
  have hS := strD_any _ _ docsN 0 w4 hV4 (by decide)
  rw [docs_str] at hS
  have HSS : Hid _ := hS
  clear hS HE
  go_wp2_with fail
  refine (Calls.mono HSS.out ?_)
  rintro e w5 ⟨rfl, hb5⟩
  have hx5 := (hb5.block _ (blk_lt hx4)).trans hx4
  have d5 : w5.cell? ⟨w2.heap.size, 0, none⟩ = some (.slice na docsN.length nc) := by rw [Lib.cell_of_heap hx5]; rfl
  have hV5 := hV4.later hb5
  have hB5 : Below w.heap.size w w5 := hB4.trans (hb5.mono hB4.size)
  have hI := inD_any _ _ docsN 2 1 w5 hV5
  rw [docs_in] at hI
  have HI : Hid _ := hI
  clear hI HSS
  go_wp2_with fail
  refine (Calls.mono HI.out ?_)
  rintro e w6 ⟨rfl, hb6⟩
  have hB6 : Below w.heap.size w w6 := hB5.trans (hb6.mono hB5.size)
  go_wp2_with fail
  go_ret
  exact ⟨rfl, hB6⟩
end Go.Proofs.YtfghbfocjjmcmaaDoor

