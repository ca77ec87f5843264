/- Bundled: Lay CountS SizeT DocMk DocB MakeM BenchM BenchP. What each says stands ahead of it. -/
import Derived.Test.YtlchbhlmbphkpaaBundle11
import Derived.Deep.RegionHeld3
import Derived.Deep.RegionWith
import Derived.Deep.QuietTactic
import Derived.BigQuiet
import Derived.Test.YtlchbhlmbphkpaaBundle10
import Derived.Test.YtlchbhlmbphkpaaBundle04
/- doc.lay: a tree's nodes are laid into a row. Condition: at most 80 nodes; at most 2^20 attributes of each. -/
namespace Go.Proofs.Ytlchbhlmbphkpaa
open Go.ChangeShapes Go.WideShapes Go.ChangeAt Go.RowKit
set_option maxRecDepth 100000

attribute [local go_sem] cell_set

theorem intInfo : (Try.prog.info? 3).map (fun i => (i.zero, i.size, i.bytes)) = some (some (.int .i64 0), 1, 8) := by kernel_rfl

/-- A number appended onto a list of the call's own, as a step of a region that draws. -/
theorem step_int {ops : Array Oper} {o : Oper} {a : Act} {w : World} {K : Act → World → Prop} {Q : Exit → Act → World → Prop} {E : Prop}
    (hg : o.guard = none) (s x : Operand) (hop : o.op = Op.call { callee := Callee.builtin Builtin.append, args := #[s, x], argTypes := #[40, 40] })
    (B : Nat) (v : Value) (n : Nat) (xs : List Value) (hs : a.eval s = v) (hown : w.ownsRow B 3 1 v n xs) (ad : Addr) (k : Int) (hx : a.eval x = .slice (some ad) 1 1)
    (hnews : ∀ j u, [Value.int .i64 k][j]? = some u → w.cell? (ad.add j) = some u) (hn : n ≤ 1048576) (hB : B ≤ w.heap.size)
    (hK : ∀ v' w', w'.ownsRow B 3 1 v' (n + 1) (xs ++ [.int .i64 k]) → w.grownBy w' v.ownBlock → (v'.ownBlock = v.ownBlock ∨ v'.ownBlock = some w.heap.size) → K (a.put o.dst v') w') :
    if Region.wanted o (yielded ops a.tmps) = true then Oper.wp Try.prog o a w K Q else E := by
  have hw : Region.wanted o (yielded ops a.tmps) = true := by simp [Region.wanted, hg]
  rw [if_pos hw]
  obtain ⟨i0, hi, hz0, hz1, hz2⟩ := info_parts intInfo
  obtain ⟨v', w', hr, h2, h3, _, h5⟩ := run_append_own_at (P := Try.prog) w B 40 o.type 3 i0 _ 1 8 Try.underlying40 hi hz0 hz1 hz2 rfl (by decide) v n xs hown ad 1 1 [.int .i64 k] rfl hnews (by intro u hu; simp at hu; subst hu; rfl) (by unfold maxLen; omega) (by omega) hB
  unfold Oper.wp
  simp [execOp, hop, resolve, invoke, builtin, hs, hx, hr, Result.andThen]
  exact hK v' w' h2 h3 h5

def LayOk (d : Nat) : Prop := ∀ (S : Nat → Prop) (va vk : Value) (t : Tr) (par : Int) (nb cb nx : Nat) (ms : List Rw) (w : World), Attrs S w va t.attrs → Trees S w d vk t.kids → (∀ b, S b → b < w.heap.size ∧ b ≠ nb ∧ b ≠ cb) → nb ≠ cb → Row nb ms w → Cnt cb nx w →
  nx + cnt (d + 1) [t] ≤ ms.length → ms.length ≤ 80 → FewN (d + 1) [t] →
  Calls Try.prog 53 #[.slice (some ⟨nb, 0, none⟩) ms.length ms.length, .agg #[.bool t.text, .string t.s, va, vk], .int .i64 par, .pointer (some ⟨cb, 0, none⟩)] w fun e w' => e = .returned (.tuple #[]) ∧
    ∃ ms', Row nb ms' w' ∧ ms'.length = ms.length ∧ Cnt cb (nx + cnt (d + 1) [t]) w' ∧ (∀ i, i < nx ∨ nx + cnt (d + 1) [t] ≤ i → ms'[i]? = ms[i]?) ∧ Laid (fun b => w.heap.size ≤ b) w' ms' nx (layF d t par nx) ∧ LFr nb cb w w'

/-- What stands behind i kids that are laid. -/
structure LS (w : World) (nb cb nx d : Nat) (t : Tr) (par : Int) (ms : List Rw) (bx : Array Value) (M : Nat) (va : Value) (i j : Nat) (v : Value) (mi : List Rw) (W : World) : Prop where
  row : Row nb mi W
  len : mi.length = ms.length
  num : Cnt cb (nx + 1 + cnt d (t.kids.take j)) W
  old : ∀ l, l < nx ∨ nx + cnt (d + 1) [t] ≤ l → mi[l]? = ms[l]?
  me : mi[nx]? = some ⟨t.text, t.s, va, par, v⟩
  own : W.ownsRow M 3 1 v i ((startsOf (d - 1) (nx + 1) (t.kids.take i)).map fun k => Value.int .i64 k)
  att : Attrs (fun b => w.heap.size ≤ b ∧ b < M) W va t.attrs
  laid : Laid (fun b => w.heap.size ≤ b ∧ v.ownBlock ≠ some b) W mi (nx + 1) (laysOf (d - 1) (layF (d - 1)) nx (nx + 1) (t.kids.take j))
  box : W.heap[w.heap.size]? = some (.cells bx 47 (0, 0))
  fr : LFr nb cb w W
  le : M ≤ W.heap.size
  lo : w.heap.size < M

theorem cnt_upto {d : Nat} {ts : List Tr} {i : Nat} {k : Tr} (hk : ts[i]? = some k) : cnt (d + 1) (ts.take (i + 1)) = cnt (d + 1) (ts.take i) + cnt (d + 1) [k] ∧ cnt (d + 1) (ts.take i) + cnt (d + 1) [k] ≤ cnt (d + 1) ts := by
  have hi : i < ts.length := by
    rcases Nat.lt_or_ge i ts.length with h' | h'
    · exact h'
    · rw [List.getElem?_eq_none h'] at hk; cases hk
  have e1 : ts.take (i + 1) = ts.take i ++ [k] := by
    rw [List.take_succ_eq_append_getElem hi]; congr 2; simpa [hi] using hk
  have e2 : ts = ts.take (i + 1) ++ ts.drop (i + 1) := (List.take_append_drop _ _).symm
  have happ : ∀ a b : List Tr, cnt (d + 1) (a ++ b) = cnt (d + 1) a + cnt (d + 1) b := by intro a b; simp [cnt]
  refine ⟨by rw [e1, happ], ?_⟩
  have h3 : cnt (d + 1) ts = cnt (d + 1) (ts.take (i + 1)) + cnt (d + 1) (ts.drop (i + 1)) := by conv => lhs; rw [e2]
                                                                                                 exact happ _ _
  rw [h3, e1, happ]
  omega

theorem take_more {ts : List Tr} {i : Nat} {k : Tr} (hk : ts[i]? = some k) : ts.take (i + 1) = ts.take i ++ [k] := by
  have hi : i < ts.length := by
    rcases Nat.lt_or_ge i ts.length with h' | h'
    · exact h'
    · rw [List.getElem?_eq_none h'] at hk; cases hk
  rw [List.take_succ_eq_append_getElem hi]; congr 2; simpa [hi] using hk

theorem lay_step1 {w : World} {nb cb nx d : Nat} {t : Tr} {par : Int} {ms : List Rw} {bx : Array Value} {M : Nat} {va : Value} {i : Nat} {v v' : Value} {mi : List Rw} {wr w6 : World} {k : Tr} {X Y : Obj}
    (hL : LS w nb cb nx (d + 1) t par ms bx M va i i v mi wr) (hk : t.kids[i]? = some k) (hnl : nb < w.heap.size) (hcl : cb < w.heap.size) (hnc : nb ≠ cb)
    (hown : w6.ownsRow M 3 1 v' (i + 1) ((startsOf d (nx + 1) (t.kids.take i)).map (fun k => Value.int .i64 k) ++ [.int .i64 ((nx + 1 + cnt (d + 1) (t.kids.take i) : Nat) : Int)]))
    (hgr : ((wr.alloc Y).alloc X).drew.grownBy w6 v.ownBlock) (hat : v'.ownBlock = v.ownBlock ∨ v'.ownBlock = some ((wr.alloc Y).alloc X).drew.heap.size) :
    LS w nb cb nx (d + 1) t par ms bx M va (i + 1) i v' (mi.set nx ⟨t.text, t.s, va, par, v'⟩) (w6.setCell ⟨nb, nx * 5 + 4, none⟩ v') ∧ (∀ b, b < wr.heap.size → b < M → b ≠ nb → (w6.setCell ⟨nb, nx * 5 + 4, none⟩ v').heap[b]? = wr.heap[b]?) ∧ (w6.setCell ⟨nb, nx * 5 + 4, none⟩ v').heap[wr.heap.size]? = some Y ∧ wr.heap.size < (w6.setCell ⟨nb, nx * 5 + 4, none⟩ v').heap.size := by
  have hlo := hL.lo
  have hle := hL.le
  have hs6 := hgr.size
  have hsx : ((wr.alloc Y).alloc X).drew.heap.size = wr.heap.size + 1 + 1 := by
    show ((wr.alloc Y).alloc X).heap.size = _
    rw [World.size_alloc, World.size_alloc]
  rw [hsx] at hs6
  have hrow : ∀ b, v.ownBlock = some b → M ≤ b ∧ b < wr.heap.size := fun b hb => hL.own.lt b hb
  have hkeep6 : ∀ b, b < wr.heap.size → v.ownBlock ≠ some b → w6.heap[b]? = wr.heap[b]? := by
    intro b h1 h2
    rw [hgr.block b (by rw [hsx]; omega) (fun e => h2 e.symm)]
    show ((wr.alloc Y).alloc X).heap[b]? = _
    rw [Lib.alloc_old _ _ _ (by rw [World.size_alloc]; omega)]
    exact Lib.alloc_old _ _ _ h1
  have hkeep : ∀ b, b < wr.heap.size → b ≠ nb → v.ownBlock ≠ some b → (w6.setCell ⟨nb, nx * 5 + 4, none⟩ v').heap[b]? = wr.heap[b]? := fun b h1 h2 h3 => by rw [blk_set_ne h2, hkeep6 b h1 h3]
  have hsz : (w6.setCell ⟨nb, nx * 5 + 4, none⟩ v').heap.size = w6.heap.size := by simp
  have hnv : v.ownBlock ≠ some nb := fun e => by have := (hrow nb e).1; omega
  have hcv : v.ownBlock ≠ some cb := fun e => by have := (hrow cb e).1; omega
  have hfr := hL.fr.below.size
  have hr6 : Row nb mi w6 := (hkeep6 nb (by omega) hnv).trans hL.row
  have hnx : nx < mi.length := by
    rcases Nat.lt_or_ge nx mi.length with h' | h'
    · exact h'
    · have := hL.me; rw [List.getElem?_eq_none h'] at this; cases this
  have hvb : v.ownBlock ≠ some wr.heap.size := fun e => by have := (hrow _ e).2; omega
  have hB6 : Below 0 w w6 := ((hL.fr.below.alloc (Nat.zero_le _) Y).alloc (Nat.zero_le _) X).drew.grown hgr (Nat.zero_le _) (fun _ _ => Nat.zero_le _)
  refine ⟨⟨hr6.putK hL.me v', by simp [hL.len], ?_, ?_, ?_, ?_, ?_, ?_, ?_, ⟨hB6.setCell (p := ⟨nb, nx * 5 + 4, none⟩) (Nat.zero_le _) _, ?_⟩, by rw [hsz]; omega, hlo⟩, ?_, ?_, by rw [hsz]; omega⟩
  · unfold Cnt
    rw [hkeep cb (by omega) (fun e => hnc e.symm) hcv]
    exact hL.num
  · intro l hl
    rw [List.getElem?_set_ne (by have := cnt_one (d + 1) t; omega)]
    exact hL.old l hl
  · rw [List.getElem?_set_self hnx]
  · have e : (startsOf (d + 1 - 1) (nx + 1) (t.kids.take (i + 1))).map (fun k => Value.int .i64 k) = (startsOf d (nx + 1) (t.kids.take i)).map (fun k => Value.int .i64 k) ++ [.int .i64 ((nx + 1 + cnt (d + 1) (t.kids.take i) : Nat) : Int)] := by
      rw [take_more hk]
      show (startsOf d (nx + 1) (t.kids.take i ++ [k])).map _ = _
      rw [startsOf_append, List.map_append]
      rfl
    rw [e]
    refine ownsRow_heap hown fun b hb => blk_set_ne ?_
    have := (hown.lt b hb).1
    omega
  · refine hL.att.bounded.carry fun b hb => ⟨hb.1, hkeep b hb.2 (by have := hb.1.1; omega) (fun e => by have := (hrow b e).1; have := hb.1.2; omega)⟩
  · refine hL.laid.carry (fun b hb hlt => ⟨⟨hb.1, fun e => ?_⟩, hkeep b hlt (by have := hb.1; omega) hb.2⟩) (fun l h1 _ => by rw [List.getElem?_set_ne (by omega)])
    rcases hat with h1 | h1
    · exact hb.2 (h1.symm.trans e)
    · rw [h1, hsx] at e; injection e with e; omega
  · rw [hkeep _ (by omega) (by omega) (fun e => by have := (hrow _ e).1; omega)]; exact hL.box
  · intro b h1 h2 h3
    rw [hkeep b (by omega) h2 (fun e => by have := (hrow b e).1; omega)]
    exact hL.fr.frame b h1 h2 h3
  · intro b h1 h2 h3
    exact hkeep b h1 h3 (fun e => by have := (hrow b e).1; omega)
  · rw [blk_set_ne (by omega), hgr.block _ (by rw [hsx]; omega) (fun e => hvb e.symm)]
    show ((wr.alloc Y).alloc X).heap[wr.heap.size]? = _
    rw [Lib.alloc_old _ _ _ (by rw [World.size_alloc]; omega)]
    exact heap_alloc_new _ _

theorem lay_step2 {w : World} {nb cb nx d : Nat} {t : Tr} {par : Int} {ms : List Rw} {bx : Array Value} {M : Nat} {va : Value} {i : Nat} {v : Value} {mi mj : List Rw} {w7 w8 : World} {k : Tr}
    (hL : LS w nb cb nx (d + 1) t par ms bx M va (i + 1) i v mi w7) (hk : t.kids[i]? = some k) (hdk : Deep d k.kids) (hdt : Deep (d + 1) t.kids) (hnl : nb < w.heap.size) (hcl : cb < w.heap.size) (hR : Row nb mj w8) (hlen : mj.length = mi.length)
    (hC : Cnt cb (nx + 1 + cnt (d + 1) (t.kids.take i) + cnt (d + 1) [k]) w8) (hold : ∀ l, l < nx + 1 + cnt (d + 1) (t.kids.take i) ∨ nx + 1 + cnt (d + 1) (t.kids.take i) + cnt (d + 1) [k] ≤ l → mj[l]? = mi[l]?)
    (hLd : Laid (fun b => w7.heap.size ≤ b) w8 mj (nx + 1 + cnt (d + 1) (t.kids.take i)) (layF d k nx (nx + 1 + cnt (d + 1) (t.kids.take i)))) (hF : LFr nb cb w7 w8) :
    LS w nb cb nx (d + 1) t par ms bx M va (i + 1) (i + 1) v mj w8 := by
  have hs := hF.below.size
  have hfr := hL.fr.below.size
  have hlo := hL.lo
  obtain ⟨hcu, hcl2⟩ := cnt_upto (d := d) hk
  have hct := cnt_one (d + 1) t
  have hrow : ∀ b, v.ownBlock = some b → M ≤ b ∧ b < w7.heap.size := fun b hb => hL.own.lt b hb
  have hkeep : ∀ b, b < w7.heap.size → w.heap.size ≤ b → w8.heap[b]? = w7.heap[b]? := fun b h1 h2 => hF.frame b h1 (by omega) (by omega)
  have hll : (laysOf d (layF d) nx (nx + 1) (t.kids.take i)).length = cnt (d + 1) (t.kids.take i) := by
    have : ∀ (ts : List Tr) (a : Nat), Deep (d + 1) ts → (laysOf d (layF d) nx a ts).length = cnt (d + 1) ts := by
      intro ts
      induction ts with
      | nil => intro _ _; rfl
      | cons u ts ih2 =>
        intro a hd
        rw [laysOf, List.length_append, layF_length d u _ _ (hd u List.mem_cons_self), ih2 _ (fun x hx => hd x (List.mem_cons_of_mem _ hx)), cnt_more d u ts]
    exact this _ _ (fun u hu => hdt u (List.mem_of_mem_take hu))
  have hlk := layF_length d k (nx : Int) (nx + 1 + cnt (d + 1) (t.kids.take i)) hdk
  refine ⟨hR, hlen.trans hL.len, ?_, ?_, ?_, ?_, ?_, ?_, ?_, ?_, by have := hL.le; omega, hlo⟩
  · rw [hcu, ← Nat.add_assoc]; exact hC
  · intro l hl
    rw [hold l (by omega)]
    exact hL.old l hl
  · rw [hold nx (by omega)]; exact hL.me
  · exact ownsRow_heap hL.own fun b hb => hkeep b (hrow b hb).2 (by have := (hrow b hb).1; omega)
  · exact hL.att.bounded.carry fun b hb => ⟨hb.1, hkeep b hb.2 hb.1.1⟩
  · rw [take_more hk]
    show Laid _ _ _ _ (laysOf d (layF d) nx (nx + 1) (t.kids.take i ++ [k]))
    rw [laysOf_append]
    have hone : laysOf d (layF d) nx (nx + 1 + cnt (d + 1) (t.kids.take i)) [k] = layF d k nx (nx + 1 + cnt (d + 1) (t.kids.take i)) := by simp [laysOf]
    rw [hone]
    refine Laid.append (hL.laid.carry (fun b hb hlt => ⟨hb, hkeep b hlt hb.1⟩) (fun l h1 h2 => ?_)) ?_
    · rw [hold l (Or.inl ?_)]
      have h3 : (laysOf (d + 1 - 1) (layF (d + 1 - 1)) nx (nx + 1) (t.kids.take i)).length = cnt (d + 1) (t.kids.take i) := hll
      omega
    · rw [hll]
      exact hLd.carry (fun b hb _ => ⟨⟨by omega, fun e => by have := (hrow b e).2; omega⟩, rfl⟩) (fun _ _ _ => rfl)
  · rw [hkeep _ (blk_lt hL.box) (Nat.le_refl _)]; exact hL.box
  · exact hL.fr.trans hF

theorem Ints.of_owns {w : World} {B : Nat} {v : Value} {l : List Int} {S : Nat → Prop} (hS : ∀ b, B ≤ b → S b) (h : w.ownsRow B 3 1 v l.length (l.map fun k => Value.int .i64 k)) : Ints S w v l := by
  rcases h.2 with ⟨hv, h0⟩ | ⟨g, cap, cur, hv, hg, hh, hc, hm, hs, ht⟩
  · have : l = [] := List.eq_nil_of_length_eq_zero h0
    subst this hv
    exact Ints.nil
  · subst hv
    refine ⟨_, cap, rfl, hc, hm, fun _ => ⟨g, 0, rfl, hS g hg, fun i x hx => ?_⟩⟩
    have hi : i < l.length := by
      rcases Nat.lt_or_ge i l.length with h' | h'
      · exact h'
      · rw [List.getElem?_eq_none h'] at hx; cases hx
    rw [Nat.zero_add, World.ownsRow.cellAt h i (by omega)]
    simp [hx]

theorem layF_eq {d : Nat} {t : Tr} (h : Deep d t.kids) (par : Int) (nx : Nat) : layF d t par nx = ⟨t.text, t.s, t.attrs, par, startsOf (d - 1) (nx + 1) t.kids⟩ :: laysOf (d - 1) (layF (d - 1)) nx (nx + 1) t.kids := by
  cases d with
  | zero =>
    have e : t.kids = [] := h
    rw [e]
    rfl
  | succ d => rfl

theorem lay_done {w : World} {nb cb nx d : Nat} {t : Tr} {par : Int} {ms : List Rw} {bx : Array Value} {M : Nat} {va : Value} {v : Value} {mi : List Rw} {W : World} (hd : Deep d t.kids) (h : LS w nb cb nx d t par ms bx M va t.kids.length t.kids.length v mi W) :
    Row nb mi W ∧ mi.length = ms.length ∧ Cnt cb (nx + cnt (d + 1) [t]) W ∧ (∀ i, i < nx ∨ nx + cnt (d + 1) [t] ≤ i → mi[i]? = ms[i]?) ∧ Laid (fun b => w.heap.size ≤ b) W mi nx (layF d t par nx) ∧ LFr nb cb w W := by
  have hn := h.num
  rw [List.take_length] at hn
  have hlo := h.lo
  refine ⟨h.row, h.len, ?_, h.old, ?_, h.fr⟩
  · rw [cnt_one, ← Nat.add_assoc]; exact hn
  · rw [layF_eq hd]
    have hl := h.laid
    have ho := h.own
    rw [List.take_length] at hl ho
    intro i x hx
    cases i with
    | zero =>
      simp only [List.getElem?_cons_zero, Option.some.injEq] at hx
      subst hx
      refine ⟨_, h.me, rfl, rfl, rfl, h.att.carry fun b hb => ⟨hb.1, rfl⟩, ?_⟩
      exact Ints.of_owns (B := M) (fun b hb => by omega) (by rw [startsOf_length]; exact ho)
    | succ i =>
      simp only [List.getElem?_cons_succ] at hx
      obtain ⟨r, hr, hR⟩ := hl i x hx
      exact ⟨r, by rw [show nx + (i + 1) = nx + 1 + i by omega]; exact hr, hR.carry fun b hb => ⟨hb.1, rfl⟩⟩

set_option maxHeartbeats 2000000 in
theorem lay_of (d : Nat) (ih : ∀ m, d = m + 1 → LayOk m) : LayOk d := by
  intro S va vk t par nb cb nx ms w hA hK hS hnc hR hC hN h80 hFw
  obtain ⟨aa, ac, rfl⟩ := hA.shape
  obtain ⟨ka, kc, rfl, hkl, hkm⟩ := Trees.shape d hK
  unfold maxLen at hkm
  have hcnt := cnt_one d t
  have hnx : nx < ms.length := by omega
  obtain ⟨r0, hr0⟩ : ∃ r0, ms[nx]? = some r0 := ⟨ms[nx], by simp [hnx]⟩
  have hal := (hFw t List.mem_cons_self).1
  have c0 := hC.c0
  have f0 := hC.f0
  have hcl := hC.lt
  have hnl : nb < w.heap.size := blk_lt hR
  have IH : Hid (∀ m, d = m + 1 → LayOk m) := ih
  have hcx : ∀ X, (w.alloc X).cell? ⟨cb, 0, none⟩ = some (.int .i64 (nx : Int)) := fun X => Lib.cell?_alloc_some _ c0
  have hb1 := Below.alloc1 w (.cells #[.bool t.text, .string t.s, .slice aa t.attrs.length ac, .slice ka t.kids.length kc] 47)
  have hx1 := heap_alloc_new w (.cells #[.bool t.text, .string t.s, .slice aa t.attrs.length ac, .slice ka t.kids.length kc] 47)
  have hC1 := hC.later hb1
  have hfz1 := hC1.f0
  have hce1 := hC1.c0
  have hz1 : (w.alloc (.cells #[.bool t.text, .string t.s, .slice aa t.attrs.length ac, .slice ka t.kids.length kc] 47)).heap.size = w.heap.size + 1 := by simp
  clear ih hcx c0 f0
  go_enter Try.func53, Try.ntmps53
  go_wp2_with fail
  have hc2 : Cnt cb (nx + 1) (w.setCell ⟨cb, 0, none⟩ (.int .i64 ((nx : Int) + 1))) := by
    have := hC.put (nx + 1)
    simpa using this
  have hsz2 : (w.setCell ⟨cb, 0, none⟩ (.int .i64 ((nx : Int) + 1))).heap.size = w.heap.size := by simp
  have hb2 := Below.alloc1 (w.setCell ⟨cb, 0, none⟩ (.int .i64 ((nx : Int) + 1))) (.cells #[.bool t.text, .string t.s, .slice aa t.attrs.length ac, .slice ka t.kids.length kc] 47)
  have hx2 := heap_alloc_new (w.setCell ⟨cb, 0, none⟩ (.int .i64 ((nx : Int) + 1))) (.cells #[.bool t.text, .string t.s, .slice aa t.attrs.length ac, .slice ka t.kids.length kc] 47)
  rw [hsz2] at hx2
  have hC2 := hc2.later hb2
  have hF2 : LFr nb cb w _ := (LFr.putC nb cb w 0 (.int .i64 ((nx : Int) + 1))).trans (LFr.later hb2)
  have hR2 : Row nb ms ((w.setCell ⟨cb, 0, none⟩ (.int .i64 ((nx : Int) + 1))).alloc (.cells #[.bool t.text, .string t.s, .slice aa t.attrs.length ac, .slice ka t.kids.length kc] 47)) := by
    unfold Row
    rw [hb2.block nb (by rw [hsz2]; exact hnl), blk_set_ne hnc]
    exact hR
  have hz2 : ((w.setCell ⟨cb, 0, none⟩ (.int .i64 ((nx : Int) + 1))).alloc (.cells #[.bool t.text, .string t.s, .slice aa t.attrs.length ac, .slice ka t.kids.length kc] 47)).heap.size = w.heap.size + 1 := by simp
  generalize (w.setCell ⟨cb, 0, none⟩ (.int .i64 ((nx : Int) + 1))).alloc (.cells #[.bool t.text, .string t.s, .slice aa t.attrs.length ac, .slice ka t.kids.length kc] 47) = W2 at hb2 hx2 hC2 hF2 hR2 hz2 ⊢
  have HZ2 : Hid (W2.heap.size = w.heap.size + 1) := hz2
  have hlt2 : w.heap.size < W2.heap.size := by omega
  have HCL : Hid (∀ W, (∀ b, S b → W.heap[b]? = w.heap[b]?) → Calls Try.prog 37 #[.slice aa t.attrs.length ac] W fun e w' => ∃ v', e = .returned v' ∧ Attrs (OwnS W.heap.size 44 w') w' v' t.attrs ∧ Below W.heap.size W w') := fun W hW => clone_any S _ t.attrs W (hA.carry fun b hb => ⟨hb, hW b hb⟩) (Nat.le_trans hal (by decide))
  have HSF : Hid (∀ W, LFr nb cb w W → ∀ b, S b → W.heap[b]? = w.heap[b]?) := fun W hW b hb => hW.frame b (hS b hb).1 (hS b hb).2.1 (hS b hb).2.2
  have HWW : Hid (∀ W' : World, W'.heap[w.heap.size]? = W2.heap[w.heap.size]? → W'.cell? ⟨w.heap.size, 0, none⟩ = some (.bool t.text) ∧ W'.cell? ⟨w.heap.size, 1, none⟩ = some (.string t.s) ∧ W'.cell? ⟨w.heap.size, 2, none⟩ = some (.slice aa t.attrs.length ac)) := by
    intro W' h2
    rw [hx2] at h2
    exact ⟨by rw [Lib.cell_of_heap h2]; rfl, by rw [Lib.cell_of_heap h2]; rfl, by rw [Lib.cell_of_heap h2]; rfl⟩
  have HKT : Hid (Trees S w d (.slice ka t.kids.length kc) t.kids) := hK
  have HFW : Hid (FewN d t.kids) := (hFw t List.mem_cons_self).2
  have HSS : Hid (∀ b, S b → b < w.heap.size ∧ b ≠ nb ∧ b ≠ cb) := hS
  have HR2 : Hid (Row nb ms W2) := hR2
  have HC2 : Hid (Cnt cb (nx + 1) W2) := hC2
  have HF2 : Hid (LFr nb cb w W2) := hF2
  have HX2 : Hid _ := hx2
  have HFD : Hid (LFr nb cb w W2.drew) := ⟨hF2.below.drew, hF2.frame⟩
  have hnxi : (nx : Int) < (ms.length : Int) := by omega
  obtain ⟨y0, y1, y2⟩ := HWW.out W2 rfl
  have HSD : Hid _ := HWW.out W2.drew rfl
  have hnbw : w.heap.size ≠ nb := by omega
  have hncw : w.heap.size ≠ cb := by omega
  clear hA hK hS hR hC hFw hb1 hx1 hC1 hfz1 hce1 hz1 hb2 hx2 hC2 hF2 hR2 hz2 hc2 hsz2
  go_region_held3 (fun W : World => W.cell? ⟨w.heap.size, 0, none⟩ = some (.bool t.text) ∧ W.cell? ⟨w.heap.size, 1, none⟩ = some (.string t.s) ∧ W.cell? ⟨w.heap.size, 2, none⟩ = some (.slice aa t.attrs.length ac))
    (first
      | with_reducible exact HS3.out
      | with_reducible exact HS4.out
      | with_reducible exact HSD.out)
    (first
      | (go_at_call 37; refine (Calls.mono (HCL.out W2.drew (HSF.out _ HFD.out)) ?_); rintro e w3 ⟨va3, rfl, hA3, hb3⟩; obtain ⟨a3, c3', rfl⟩ := hA3.shape; have hr3 : Row nb ms w3 := (hb3.block nb (Nat.lt_trans hnl hlt2)).trans HR2.out; obtain ⟨g0, g1, g2, g3, g4⟩ := hr3.cells hr0; have k0 := hr3.frozen (nx * 5); have k1 := hr3.frozen (nx * 5 + 1); have k2 := hr3.frozen (nx * 5 + 2); have k3 := hr3.frozen (nx * 5 + 3); have k4 := hr3.frozen (nx * 5 + 4); have HS3 : Hid _ := HWW.out w3 (hb3.block _ hlt2); have HS4 : Hid _ := HWW.out (((((w3.setCell ⟨nb, nx * 5, none⟩ (.bool t.text)).setCell ⟨nb, nx * 5 + 1, none⟩ (.string t.s)).setCell ⟨nb, nx * 5 + 2, none⟩ (.slice a3 t.attrs.length c3')).setCell ⟨nb, nx * 5 + 3, none⟩ (.int .i64 par)).setCell ⟨nb, nx * 5 + 4, none⟩ (.slice none 0 0)) (by rw [blk_set_ne hnbw, blk_set_ne hnbw, blk_set_ne hnbw, blk_set_ne hnbw, blk_set_ne hnbw]; exact hb3.block _ hlt2)))
  have hLS : LS w nb cb nx d t par ms #[.bool t.text, .string t.s, .slice aa t.attrs.length ac, .slice ka t.kids.length kc] (((((w3.setCell ⟨nb, nx * 5, none⟩ (.bool t.text)).setCell ⟨nb, nx * 5 + 1, none⟩ (.string t.s)).setCell ⟨nb, nx * 5 + 2, none⟩ (.slice a3 t.attrs.length c3')).setCell ⟨nb, nx * 5 + 3, none⟩ (.int .i64 par)).setCell ⟨nb, nx * 5 + 4, none⟩ (.slice none 0 0)).heap.size (.slice a3 t.attrs.length c3') 0 0 (.slice none 0 0) (ms.set nx ⟨t.text, t.s, .slice a3 t.attrs.length c3', par, .slice none 0 0⟩) (((((w3.setCell ⟨nb, nx * 5, none⟩ (.bool t.text)).setCell ⟨nb, nx * 5 + 1, none⟩ (.string t.s)).setCell ⟨nb, nx * 5 + 2, none⟩ (.slice a3 t.attrs.length c3')).setCell ⟨nb, nx * 5 + 3, none⟩ (.int .i64 par)).setCell ⟨nb, nx * 5 + 4, none⟩ (.slice none 0 0)) := by
    have hz := HZ2.out
    have hs3 : W2.heap.size ≤ w3.heap.size := hb3.size
    have hsz : (((((w3.setCell ⟨nb, nx * 5, none⟩ (.bool t.text)).setCell ⟨nb, nx * 5 + 1, none⟩ (.string t.s)).setCell ⟨nb, nx * 5 + 2, none⟩ (.slice a3 t.attrs.length c3')).setCell ⟨nb, nx * 5 + 3, none⟩ (.int .i64 par)).setCell ⟨nb, nx * 5 + 4, none⟩ (.slice none 0 0)).heap.size = w3.heap.size := by simp
    have hkeep : ∀ b, b ≠ nb → (((((w3.setCell ⟨nb, nx * 5, none⟩ (.bool t.text)).setCell ⟨nb, nx * 5 + 1, none⟩ (.string t.s)).setCell ⟨nb, nx * 5 + 2, none⟩ (.slice a3 t.attrs.length c3')).setCell ⟨nb, nx * 5 + 3, none⟩ (.int .i64 par)).setCell ⟨nb, nx * 5 + 4, none⟩ (.slice none 0 0)).heap[b]? = w3.heap[b]? := fun b hb => by rw [blk_set_ne hb, blk_set_ne hb, blk_set_ne hb, blk_set_ne hb, blk_set_ne hb]
    refine ⟨hr3.put hnx ⟨t.text, t.s, .slice a3 t.attrs.length c3', par, .slice none 0 0⟩, by simp, ?_, ?_, ?_, World.ownsRow_nil _ _ _ _, ?_, ?_, ?_, ?_, Nat.le_refl _, by rw [hsz]; omega⟩
    · unfold Cnt
      rw [hkeep cb (fun e => hnc e.symm), hb3.block cb (by show cb < W2.heap.size; omega)]
      have e : nx + 1 + cnt d (t.kids.take 0) = nx + 1 := by simp [cnt_nil]
      rw [e]
      exact HC2.out
    · intro j hj
      rw [List.getElem?_set_ne (by omega)]
    · rw [List.getElem?_set_self hnx]
    · refine hA3.bounded.carry fun b hb => ⟨⟨by have h1 : W2.heap.size ≤ b := hb.1.1; omega, by rw [hsz]; exact hb.2⟩, hkeep b (by have h1 : W2.heap.size ≤ b := hb.1.1; omega)⟩
    · intro j x hx; simp [laysOf] at hx
    · rw [hkeep _ hnbw, hb3.block _ hlt2]; exact HX2.out
    · exact ⟨(HFD.out.below.trans (hb3.mono (Nat.zero_le _))).trans (((((Below.refl 0 w3).setCell (p := ⟨nb, nx * 5, none⟩) (Nat.zero_le _) _).setCell (p := ⟨nb, nx * 5 + 1, none⟩) (Nat.zero_le _) _).setCell (p := ⟨nb, nx * 5 + 2, none⟩) (Nat.zero_le _) _).setCell (p := ⟨nb, nx * 5 + 3, none⟩) (Nat.zero_le _) _ |>.setCell (p := ⟨nb, nx * 5 + 4, none⟩) (Nat.zero_le _) _),
        fun b h1 h2 h3 => by rw [hkeep b h2, hb3.block b (by show b < W2.heap.size; omega)]; exact HFD.out.frame b h1 h2 h3⟩
  generalize (((((w3.setCell ⟨nb, nx * 5, none⟩ (.bool t.text)).setCell ⟨nb, nx * 5 + 1, none⟩ (.string t.s)).setCell ⟨nb, nx * 5 + 2, none⟩ (.slice a3 t.attrs.length c3')).setCell ⟨nb, nx * 5 + 3, none⟩ (.int .i64 par)).setCell ⟨nb, nx * 5 + 4, none⟩ (.slice none 0 0)) = W4 at hLS ⊢
  have q3 : W4.cell? ⟨w.heap.size, 3, none⟩ = some (.slice ka t.kids.length kc) := by rw [Lib.cell_of_heap hLS.box]; rfl
  have HLS : Hid _ := hLS
  clear hLS HS3 HS4 HSD HWW HCL HFD HX2 HF2 HC2 HR2 hr3 hA3 hb3 g0 g1 g2 g3 g4 k0 k1 k2 k3 k4 y0 y1 y2 HZ2 hlt2
  go_wp2_with fail
  go_loopg [34] t.kids.length (fun g j wr => ∃ (i : Nat) (v : Value) (mi : List Rw), i + g = t.kids.length ∧ j = .int .i64 (i : Int) ∧ LS w nb cb nx d t par ms #[.bool t.text, .string t.s, .slice aa t.attrs.length ac, .slice ka t.kids.length kc] W4.heap.size (.slice a3 t.attrs.length c3') i i v mi wr)
  case atStart => exact ⟨0, .slice none 0 0, _, by omega, rfl, HLS.out⟩
  case round =>
    obtain ⟨i, v, mi, hi, rfl, hL⟩ := hrel
    have HL : Hid _ := hL
    obtain ⟨ja, jn, jc, rfl⟩ := row_slice6 hL.own
    by_cases hil : i < t.kids.length
    · obtain ⟨d', rfl⟩ : ∃ d', d = d' + 1 := by
        cases d with
        | zero => have : t.kids = [] := (Trees.deep 0 HKT.out); rw [this] at hil; simp at hil
        | succ d' => exact ⟨d', rfl⟩
      obtain ⟨k, hk⟩ : ∃ k, t.kids[i]? = some k := ⟨t.kids[i], by simp [hil]⟩
      obtain ⟨ta, tcap, htv, _, _, ht4⟩ := HKT.out
      obtain ⟨tb, tof, hta, hSb, htc⟩ := ht4 (by intro e; rw [e] at hil; simp at hil)
      injection htv with htv1 _ htv2
      subst htv1 htv2 hta
      obtain ⟨kva, kvk, e0, e1, e2, e3, hkA, hkK⟩ := htc i k hk
      have hbw : tb < w.heap.size := World.block_lt_of_cell? w _ e0
      have hbr : wr.heap[tb]? = w.heap[tb]? := HSF.out wr HL.out.fr tb hSb
      rw [← World.cell?_of_block (a := ⟨tb, tof + i * 4, none⟩) hbr] at e0
      rw [← World.cell?_of_block (a := ⟨tb, tof + i * 4 + 1, none⟩) hbr] at e1
      rw [← World.cell?_of_block (a := ⟨tb, tof + i * 4 + 2, none⟩) hbr] at e2
      rw [← World.cell?_of_block (a := ⟨tb, tof + i * 4 + 3, none⟩) hbr] at e3
      obtain ⟨xa, xc, rfl⟩ := hkA.shape
      obtain ⟨ya, yc, rfl, _, _⟩ := Trees.shape d' hkK
      obtain ⟨m, hm⟩ : ∃ m, nx + 1 + cnt (d' + 1) (t.kids.take i) = m := ⟨_, rfl⟩
      have hnum := HL.out.num
      rw [hm] at hnum
      have hb5 := Below.alloc1 wr (.cells #[.bool k.text, .string k.s, .slice xa k.attrs.length xc, .slice ya k.kids.length yc] 47)
      have hC5 := hnum.later hb5
      have hR5 : Row nb mi (wr.alloc (.cells #[.bool k.text, .string k.s, .slice xa k.attrs.length xc, .slice ya k.kids.length yc] 47)) := (hb5.block nb (blk_lt HL.out.row)).trans HL.out.row
      obtain ⟨_, _, _, _, g4⟩ := hR5.cells HL.out.me
      have cc := hC5.c0
      have g4a : ((wr.alloc (.cells #[.bool k.text, .string k.s, .slice xa k.attrs.length xc, .slice ya k.kids.length yc] 47)).alloc (.cells #[.int .i64 (m : Int)] 3)).cell? ⟨nb, nx * 5 + 4, none⟩ = some (.slice ja jn jc) := Lib.cell?_alloc_some _ g4
      have hOW : ∀ Y X, ((wr.alloc Y).alloc X).drew.ownsRow W4.heap.size 3 1 (.slice ja jn jc) i ((startsOf d' (nx + 1) (t.kids.take i)).map fun k => Value.int .i64 k) := fun Y X =>
        ownsRow_later (ownsRow_later HL.out.own (Below.alloc1 wr Y)) (Below.alloc1 _ X).drew
      have HOW : Hid _ := hOW
      have HM : Hid (nx + 1 + cnt (d' + 1) (t.kids.take i) = m) := hm
      have hlen5 : mi.length = ms.length := HL.out.len
      have HME : Hid _ := HL.out.me
      have hili : (i : Int) < (t.kids.length : Int) := by omega
      have hi20 : i ≤ 1048576 := by
        have h1 := (cnt_upto (d := d') hk).2
        have h2 := cnt_one (d' + 1) t
        have h3 : i ≤ cnt (d' + 1) (t.kids.take i) := by
          have : ∀ (l : List Tr), l.length ≤ cnt (d' + 1) l := by
            intro l
            induction l with
            | nil => simp
            | cons x l ihl => rw [cnt_more d' x l, cnt_one, List.length_cons]; omega
          have := this (t.kids.take i)
          rw [List.length_take] at this
          omega
        omega
      have hsr : W4.heap.size ≤ wr.heap.size := HL.out.le
      have HKA : Hid (Attrs S w (.slice xa k.attrs.length xc) k.attrs) := hkA
      have HKK : Hid (Trees S w d' (.slice ya k.kids.length yc) k.kids) := hkK
      have hroom : m + cnt (d' + 1) [k] ≤ ms.length := by
        have h1 := (cnt_upto (d := d') hk).2
        have h2 := cnt_one (d' + 1) t
        omega
      have hnxm : nx < mi.length := by omega
      have hfz4 : (wr.alloc (.cells #[.bool k.text, .string k.s, .slice xa k.attrs.length xc, .slice ya k.kids.length yc] 47)).frozen? ⟨nb, nx * 5 + 4, none⟩ = false := hR5.frozen _
      have HRW : Hid (∀ (X : Obj) (w6 : World), ((wr.alloc (.cells #[.bool k.text, .string k.s, .slice xa k.attrs.length xc, .slice ya k.kids.length yc] 47)).alloc X).drew.grownBy w6 (Value.slice ja jn jc).ownBlock → Row nb mi w6) := by
        intro X w6 hg
        have hlt5 : nb < (wr.alloc (.cells #[.bool k.text, .string k.s, .slice xa k.attrs.length xc, .slice ya k.kids.length yc] 47)).heap.size := blk_lt hR5
        unfold Row
        rw [hg.block nb (by show nb < ((wr.alloc (.cells #[.bool k.text, .string k.s, .slice xa k.attrs.length xc, .slice ya k.kids.length yc] 47)).alloc X).heap.size; rw [World.size_alloc]; omega) (fun e => by have := (HL.out.own.lt nb e.symm).1; have := HL.out.lo; omega)]
        show ((wr.alloc (.cells #[.bool k.text, .string k.s, .slice xa k.attrs.length xc, .slice ya k.kids.length yc] 47)).alloc X).heap[nb]? = _
        rw [Lib.alloc_old _ _ _ hlt5]
        exact hR5
      clear hL hkA hkK htc ht4 hnum hOW hm hR5 hC5 q3
      go_wp2_with fail
      go_region_law (first
        | (refine step_int (by rfl) (.tmp 44) (.tmp 48) (by rfl) W4.heap.size (.slice ja jn jc) i ((startsOf d' (nx + 1) (t.kids.take i)).map fun k => Value.int .i64 k) (by simp [Act.eval]) (HOW.out _ _) ⟨(wr.alloc (.cells #[.bool k.text, .string k.s, .slice xa k.attrs.length xc, .slice ya k.kids.length yc] 47)).heap.size, 0, none⟩ (m : Int) (by simp [Act.eval]) (fun j u hj => cell_one_new _ _ _ j u hj) hi20 (by simp; omega) ?_; intro v6 w6 hown6 hgr6 hat6; obtain ⟨a6, n6, c6, rfl⟩ := row_slice6 hown6; obtain ⟨_, _, _, _, z6⟩ := (HRW.out _ w6 hgr6).cells HME.out; have f6 := (HRW.out _ w6 hgr6).frozen (nx * 5 + 4)))
      all_goals
        obtain ⟨hL7, hkp7, hbx7, hs7⟩ := lay_step1 HL.out hk hnl hcl hnc (by rw [HM.out]; exact hown6) hgr6 hat6
        generalize w6.setCell ⟨nb, nx * 5 + 4, none⟩ (.slice a6 n6 c6) = W7 at hL7 hkp7 hbx7 hs7 ⊢
        have q0 : W7.cell? ⟨wr.heap.size, 0, none⟩ = some (.bool k.text) := by rw [Lib.cell_of_heap hbx7]; rfl
        have q1 : W7.cell? ⟨wr.heap.size, 1, none⟩ = some (.string k.s) := by rw [Lib.cell_of_heap hbx7]; rfl
        have q2 : W7.cell? ⟨wr.heap.size, 2, none⟩ = some (.slice xa k.attrs.length xc) := by rw [Lib.cell_of_heap hbx7]; rfl
        have q3 : W7.cell? ⟨wr.heap.size, 3, none⟩ = some (.slice ya k.kids.length yc) := by rw [Lib.cell_of_heap hbx7]; rfl
        have hn7 := hL7.num
        rw [HM.out] at hn7
        have hSF7 := HSF.out W7 hL7.fr
        have hw7 := hL7.fr.below.size
        have hcall := IH.out d' rfl S _ _ k (nx : Int) nb cb m _ W7 (HKA.out.carry fun b hb => ⟨hb, hSF7 b hb⟩) (Trees.carry (fun b hb => ⟨hb, hSF7 b hb⟩) d' HKK.out) (fun b hb => ⟨by have := (HSS.out b hb).1; omega, (HSS.out b hb).2⟩) hnc hL7.row hn7 (by rw [hL7.len]; exact hroom) (by rw [hL7.len]; exact h80) (by
          intro u hu
          simp only [List.mem_singleton] at hu
          subst hu
          exact HFW.out _ (List.mem_of_getElem? hk))
        rw [hL7.len] at hcall
        have HCALL : Hid _ := hcall
        have HL7 : Hid _ := hL7
        clear hcall hL7 hown6 hgr6 hat6 z6 f6 g4 g4a cc e0 e1 e2 e3 hn7 hSF7 hkp7 hbx7
        go_wp2_with fail
        refine (Calls.mono HCALL.out ?_)
        rintro e w8 ⟨rfl, mj, hR8, hlen8, hC8, hold8, hLd8, hF8⟩
        have HL8 : Hid _ := lay_step2 HL7.out hk (Trees.deep d' HKK.out) (Trees.deep (d' + 1) HKT.out) hnl hcl hR8 (by rw [HL7.out.len]; exact hlen8) (by rw [HM.out]; exact hC8) (by rw [HM.out]; exact hold8) (by rw [HM.out]; exact hLd8) hF8
        clear HCALL hR8 hC8 hold8 hLd8 hF8
        go_wp2_with fail
        go_roundg (t.kids.length - (i + 1))
        case measure => omega
        case rel => exact ⟨i + 1, _, mj, by omega, by go_num, HL8.out⟩
    · have hii : i = t.kids.length := by omega
      have hili : ¬ (i : Int) < (t.kids.length : Int) := by omega
      have HLD : Hid _ := lay_done (Trees.deep d HKT.out) (by rw [← hii]; exact HL.out)
      clear hL hii q3
      go_wp2_with fail
      go_returns
      obtain ⟨h1, h2, h3, h4, h5, h6⟩ := HLD.out
      exact ⟨rfl, mi, h1, h2, h3, h4, h5, h6⟩

theorem lay_any (d : Nat) : LayOk d := by
  induction d with
  | zero => exact lay_of 0 (fun m hm => by omega)
  | succ d ih => exact lay_of (d + 1) (fun m hm => by cases hm; exact ih)
end Go.Proofs.Ytlchbhlmbphkpaa

/- (*counter).add at some levels. Condition: at most 2^20 trees. -/
namespace Go.Proofs.Ytlchbhlmbphkpaa
open Go.ChangeShapes Go.WideShapes Go.ChangeAt Go.RowKit
set_option maxRecDepth 100000

attribute [local go_sem] cell_set

/-- The loop's state ahead of round k. -/
structure LoopC (S : Nat → Prop) (B cb : Nat) (w : World) (m o k : Nat) (ts : List Tr) (bx by_ : Value) (dd cc : Nat) (wv : Value) (G : List (Value × Nat)) (w' : World) (P : List CE) (dd' cc' : Nat) (wv' : Value) : Prop where
  below : Below B w w'
  cst : Cst B cb w' dd' cc' wv' (G ++ P.map grp)
  row : wv'.ownBlock = wv.ownBlock ∨ ∃ b, wv'.ownBlock = some b ∧ w.heap.size + 1 ≤ b
  frame : ∀ b, b < w.heap.size → b ≠ cb → wv.ownBlock ≠ some b → w'.heap[b]? = w.heap[b]?
  box0 : w'.cell? ⟨w.heap.size, 0, none⟩ = some bx
  box1 : w'.cell? ⟨w.heap.size, 1, none⟩ = some by_
  size : w.heap.size + 1 ≤ w'.heap.size
  pend : ∀ e ∈ P, PendC S w e
  dmax : max dd' (cmax P) = max dd (max (o + 1) (o + dep (m + 1) (ts.take k)))
  csum : cc' + csum P = cc + ts.length + cnt m (nx (ts.take k))
  more : cc + ts.length ≤ cc'

theorem csum_len {S : Nat → Prop} {w : World} {P : List CE} (h : ∀ e ∈ P, PendC S w e) : P.length ≤ csum P := by
  induction P with
  | nil => simp
  | cons e r ih =>
    have h1 := ih (fun x hx => h x (List.mem_cons_of_mem _ hx))
    obtain ⟨h2, h3, _⟩ := h e List.mem_cons_self
    have h4 := (Trees.deep e.n h3).len
    have h5 := List.length_pos_iff.2 h2
    have h6 : csum (e :: r) = cnt e.n e.ts + csum r := by simp [csum]
    simp only [List.length_cons]; omega

theorem loopC_step {S : Nat → Prop} {B cb : Nat} {w : World} {m o k L : Nat} {ts : List Tr} {bx by_ : Value} {dd cc : Nat} {wv : Value} {G : List (Value × Nat)} {wr w3 : World} {P P1 : List CE} {dd' cc' dd3 cc3 : Nat} {wv' wv3 : Value} {t : Tr}
    (hS : ∀ b, S b → wr.heap[b]? = w.heap[b]?) (I : LoopC S B cb w m o k ts bx by_ dd cc wv G wr P dd' cc' wv') (hwv : ∀ b, wv.ownBlock = some b → b < w.heap.size) (hcb : cb < w.heap.size) (hsn : ts.take (k + 1) = ts.take k ++ [t])
    (J : AddP S B cb wr (if t.kids = [] then 0 else o + 1 + dep m t.kids) (cnt m t.kids) L (o + 1) t.kids dd' cc' wv' (G ++ P.map grp) w3 P1 dd3 cc3 wv3) :
    LoopC S B cb w m o (k + 1) ts bx by_ dd cc wv G w3 (P ++ P1) dd3 cc3 wv3 := by
  have hsz3 := J.below.size
  have hszr := I.size
  have hrow : ∀ b, b < w.heap.size + 1 → wv.ownBlock ≠ some b → wv'.ownBlock ≠ some b := by
    intro b hb h1 h2
    rcases I.row with h | ⟨b', h, h3⟩
    · exact h1 (h.symm.trans h2)
    · rw [h] at h2; cases h2; omega
  have hbox : w3.heap[w.heap.size]? = wr.heap[w.heap.size]? := J.frame _ (by omega) (by omega) (hrow _ (by omega) (fun e => by have := hwv _ e; omega))
  refine ⟨I.below.trans J.below, ?_, ?_, ?_, ?_, ?_, by omega, ?_, ?_, ?_, ?_⟩
  · have := J.cst; simpa using this
  · rcases J.row with h | ⟨b, h, h1⟩
    · rw [h]; exact I.row
    · exact Or.inr ⟨b, h, by omega⟩
  · intro b hb h1 h2
    rw [J.frame b (by omega) h1 (hrow b (by omega) h2), I.frame b hb h1 h2]
  · rw [World.cell?_of_block (a := ⟨w.heap.size, 0, none⟩) hbox]; exact I.box0
  · rw [World.cell?_of_block (a := ⟨w.heap.size, 1, none⟩) hbox]; exact I.box1
  · intro e he
    rcases List.mem_append.1 he with he | he
    · exact I.pend e he
    · obtain ⟨h1, h2, h3⟩ := J.pend e he
      exact ⟨h1, Trees.carry (fun b hb => ⟨hb, (hS b hb).symm⟩) e.n h2, h3⟩
  · rw [cmax_append, hsn, dep_append, dep_cons, dep_nil]
    have h1 := J.dmax
    have h2 := I.dmax
    by_cases hk : t.kids = []
    · rw [if_pos hk] at h1
      rw [hk, dep_nil]
      omega
    · rw [if_neg hk] at h1
      omega
  · rw [csum_append, hsn, nx_append, nx_cons, nx_nil, List.append_nil, cnt_append]
    have h1 := J.csum
    have h2 := I.csum
    omega
  · have := J.more.1; have := I.more; omega

theorem loopC_start {S : Nat → Prop} {B cb : Nat} {w W0 : World} {m o d : Nat} {ts : List Tr} {bx by_ : Value} {dd cc : Nat} {wv : Value} {G : List (Value × Nat)} (hd : d = o + 1) (hBw : B ≤ w.heap.size) (hcb : cb < w.heap.size) (hsz : W0.heap.size = w.heap.size + 1) (hbx : Below w.heap.size w W0) (hX : Cst B cb W0 dd cc wv G)
    (b0 : W0.cell? ⟨w.heap.size, 0, none⟩ = some bx) (b1 : W0.cell? ⟨w.heap.size, 1, none⟩ = some by_) :
    LoopC S B cb w m o 0 ts bx by_ dd cc wv G ((W0.setCell ⟨cb, 0, none⟩ (.int .i64 (max (dd : Int) (d : Int)))).setCell ⟨cb, 1, none⟩ (.int .i64 ((cc : Int) + (ts.length : Int)))).drew.drew [] (max dd d) (cc + ts.length) wv := by
  have hk : ∀ b, b ≠ cb → ((W0.setCell ⟨cb, 0, none⟩ (.int .i64 (max (dd : Int) (d : Int)))).setCell ⟨cb, 1, none⟩ (.int .i64 ((cc : Int) + (ts.length : Int)))).drew.drew.heap[b]? = W0.heap[b]? := by
    intro b hb
    show ((W0.setCell ⟨cb, 0, none⟩ (.int .i64 (max (dd : Int) (d : Int)))).setCell ⟨cb, 1, none⟩ (.int .i64 ((cc : Int) + (ts.length : Int)))).heap[b]? = _
    rw [Below.heap_setCell _ _ _ _ hb, Below.heap_setCell _ _ _ _ hb]
  subst hd
  refine ⟨((((hbx.mono hBw).setCell hX.base _).setCell hX.base _).drew).drew, ⟨hX.base, ?_, ?_, ?_⟩, Or.inl rfl, ?_, ?_, ?_, ?_, by simp, ?_, ?_, Nat.le_refl _⟩
  · show ((W0.setCell ⟨cb, 0, none⟩ _).setCell ⟨cb, 1, none⟩ _).heap[cb]? = _
    have e1 : (((max dd (o + 1) : Nat)) : Int) = max (dd : Int) ((o + 1 : Nat) : Int) := by omega
    have e2 : (((cc + ts.length : Nat)) : Int) = (cc : Int) + (ts.length : Int) := by omega
    rw [e1, e2]
    simp [World.setCell, Array.getElem?_modify, hX.held]
  · simp only [List.map_nil, List.append_nil]
    exact ownsRow_heap hX.own fun b hb => hk b (fun e => hX.apart (by rw [hb, e]))
  · simp only [List.map_nil, List.append_nil]
    exact hX.slices
  · intro b hb h1 _
    rw [hk b h1, hbx.block b hb]
  · rw [World.cell?_of_block (a := ⟨w.heap.size, 0, none⟩) (hk w.heap.size (by omega))]; exact b0
  · rw [World.cell?_of_block (a := ⟨w.heap.size, 1, none⟩) (hk w.heap.size (by omega))]; exact b1
  · show w.heap.size + 1 ≤ ((W0.setCell ⟨cb, 0, none⟩ _).setCell ⟨cb, 1, none⟩ _).heap.size
    simp; omega
  · simp [cmax, dep_nil]
  · simp [Go.Proofs.Ytlchbhlmbphkpaa.csum, nx_nil, cnt_nil]

theorem loopC_stop {S : Nat → Prop} {B cb : Nat} {w : World} {m o L : Nat} {ts : List Tr} {bx by_ : Value} {dd cc : Nat} {wv : Value} {G : List (Value × Nat)} {wr : World} {P : List CE} {dd' cc' : Nat} {wv' : Value}
    (hne : ts ≠ []) (I : LoopC S B cb w m o ts.length ts bx by_ dd cc wv G wr P dd' cc' wv') : AddP S B cb w (o + dep (m + 1) ts) (cnt (m + 1) ts) L o ts dd cc wv G wr P dd' cc' wv' := by
  refine ⟨I.below, I.cst, ?_, I.frame, I.pend, ?_, ?_, ?_, fun _ => I.more⟩
  · rcases I.row with h | ⟨b, h, h1⟩
    · exact Or.inl h
    · exact Or.inr ⟨b, h, by omega⟩
  · have h := I.dmax
    rw [List.take_length] at h
    rw [h, dep_nx m ts hne]; omega
  · have h := I.csum
    rw [List.take_length] at h
    rw [h, cnt_nx m ts]; omega
  · have := I.more; omega

theorem AddP.undrew {S : Nat → Prop} {B cb : Nat} {w : World} {ds cs L o : Nat} {ts : List Tr} {dd cc : Nat} {wv : Value} {G : List (Value × Nat)} {w' : World} {P : List CE} {dd' cc' : Nat} {wv' : Value}
    (h : AddP S B cb w.drew ds cs L o ts dd cc wv G w' P dd' cc' wv') : AddP S B cb w ds cs L o ts dd cc wv G w' P dd' cc' wv' :=
  ⟨(Below.refl B w).drew.trans h.below, h.cst, h.row, h.frame, fun e he => by
    obtain ⟨h1, h2, h3⟩ := h.pend e he
    exact ⟨h1, Trees.carry (w := w.drew) (w' := w) (fun b hb => ⟨hb, rfl⟩) e.n h2, h3⟩, h.dmax, h.csum, h.more⟩

theorem add_succ (S : Nat → Prop) (B cb : Nat) (L : Nat) (hL : L < 1000) (ih : AddOk S B cb L) : AddOk S B cb (L + 1) := by
  intro n v ts o d dd cc wv G w hd hS0 hT hC hBw hod hdd hcc hG
  have HS0 : Hid (∀ b, S b → b < w.heap.size ∧ b ≠ cb ∧ wv.ownBlock ≠ some b) := hS0
  clear hS0
  have HD : Hid (d = o + 1) := hd
  by_cases hne : ts = []
  · subst hne
    simpa using add_nil S B cb (L + 1) n v o d dd cc wv G w hT hC hBw
  · have hTo : Hid (Trees S w n v ts) := hT
    obtain ⟨va, vc, rfl, _, hvm⟩ := Trees.shape n hT
    have hl0 : 0 < ts.length := List.length_pos_iff.2 hne
    have hcn := (Trees.deep n hT).len
    have hlt := hC.lt
    have hap := hC.apart
    have hne1 : ((ts.length : Int) == 0) = false := by
      have : (ts.length : Int) ≠ 0 := by omega
      simpa using this
    have hne2 : ((((L + 1 : Nat) : Int)) == 0) = false := by
      have : (((L + 1 : Nat) : Int)) ≠ 0 := by omega
      simpa using this
    obtain ⟨M, hM⟩ : ∃ M, L + 1 = M := ⟨_, rfl⟩
    rw [hM] at hne2 ⊢
    have hbx := Below.alloc1 w (.cells #[.slice va ts.length vc, .int .i64 (d : Int)] 134)
    have hX := hC.later hbx
    have b0 : (w.alloc (.cells #[.slice va ts.length vc, .int .i64 (d : Int)] 134)).cell? ⟨w.heap.size, 0, none⟩ = some (.slice va ts.length vc) := by simp
    have b1 : (w.alloc (.cells #[.slice va ts.length vc, .int .i64 (d : Int)] 134)).cell? ⟨w.heap.size, 1, none⟩ = some (.int .i64 (d : Int)) := by simp
    have hsz : (w.alloc (.cells #[.slice va ts.length vc, .int .i64 (d : Int)] 134)).heap.size = w.heap.size + 1 := by simp
    have HO : Hid (o + dep n ts ≤ 1048577) := hod
    have HIH : Hid (AddOk S B cb L) := ih
    have HM : Hid (L + 1 = M) := hM
    clear hT hd ih hM
    unfold maxLen at hvm
    go_enter Try.func87, Try.ntmps87
    go_wp2_with fail
    generalize w.alloc (.cells #[.slice va ts.length vc, .int .i64 (d : Int)] 134) = W0 at hbx hX b0 b1 hsz ⊢
    have HS : Hid (W0.heap.size = w.heap.size + 1) := hsz
    have hB0 : B ≤ W0.heap.size := by omega
    have hszl : w.heap.size < W0.heap.size := by omega
    have hcw : cb ≠ w.heap.size := by omega
    clear hsz
    have k0 : W0.cell? ⟨cb, 0, none⟩ = some (.int .i64 (dd : Int)) := by rw [Lib.cell_of_heap hX.held]; rfl
    have k1 : W0.cell? ⟨cb, 1, none⟩ = some (.int .i64 (cc : Int)) := by rw [Lib.cell_of_heap hX.held]; rfl
    have kf0 : W0.frozen? ⟨cb, 0, none⟩ = false := Lib.frozen_of_heap hX.held 0
    have kf1 : W0.frozen? ⟨cb, 1, none⟩ = false := Lib.frozen_of_heap hX.held 1
    have HX : Hid (Cst B cb W0 dd cc wv G) := hX
    have HWV : Hid (∀ b, wv.ownBlock = some b → b < w.heap.size) := fun b hb => (hC.own.lt b hb).2
    clear hX hC
    go_region
    go_wp2_with fail
    go_region
    go_wp2_with fail
    cases n with
    | zero => exact absurd hTo.out.1 hne
    | succ m =>
    have hwv : ∀ b, wv.ownBlock = some b → b < w.heap.size := fun b hb => HWV.out b hb
    have HW : Hid (∀ b, wv.ownBlock = some b → b < w.heap.size) := hwv
    clear hwv
    go_loopg [46] ts.length (fun g i wr => ∃ (k : Nat) (P : List CE) (dd' cc' : Nat) (wv' : Value), k + g = ts.length ∧ i = .int .i64 k ∧ LoopC S B cb w m o k ts (.slice va ts.length vc) (.int .i64 (d : Int)) dd cc wv G wr P dd' cc' wv')
    case atStart => exact ⟨0, [], _, _, _, by omega, rfl, loopC_start HD.out hBw hlt HS.out hbx HX.out b0 b1⟩
    case round =>
      obtain ⟨k, P, dd', cc', wv', hk, rfl, I⟩ := hrel
      have HI : Hid (LoopC S B cb w m o k ts (.slice va ts.length vc) (.int .i64 (d : Int)) dd cc wv G wr P dd' cc' wv') := I
      have x0 := I.box0
      have x1 := I.box1
      have hBr := I.below
      have hsr := I.size
      clear I b0 b1 k0 k1 kf0 kf1 HX hbx hcw hB0 hszl HS
      by_cases hlt' : k < ts.length
      · obtain ⟨_, _, hve, _, _, h4⟩ := hTo.out
        obtain ⟨b, o', hao, hs, hcc'⟩ := h4 hne
        injection hve with e1 e2 e3
        subst e1
        subst hao
        obtain ⟨t, ht⟩ : ∃ t, ts[k]? = some t := ⟨ts[k], by simp [hlt']⟩
        obtain ⟨xa, xk, c0, c1, c2, c3, hat, hkt⟩ := hcc' k t ht
        obtain ⟨ka, kc, rfl, _, hkm⟩ := Trees.shape m hkt
        have hkeep : ∀ b, S b → wr.heap[b]? = w.heap[b]? := fun b hb => HI.out.frame b (HS0.out b hb).1 (HS0.out b hb).2.1 (HS0.out b hb).2.2
        have HKEEP : Hid (∀ b, S b → wr.heap[b]? = w.heap[b]?) := hkeep
        rw [← World.cell?_of_block (a := ⟨b, o' + k * 4 + 3, none⟩) (hkeep b hs)] at c3
        have hsn : ts.take (k + 1) = ts.take k ++ [t] := by
          rw [List.take_succ_eq_append_getElem hlt']; congr 2; simpa [hlt'] using ht
        have HSN : Hid (ts.take (k + 1) = ts.take k ++ [t]) := hsn
        have hkT : Trees S wr m (.slice ka t.kids.length kc) t.kids := Trees.carry (fun b hb => ⟨hb, hkeep b hb⟩) m hkt
        have HKT : Hid (Trees S wr m (.slice ka t.kids.length kc) t.kids) := hkT
        have hkids : dep m t.kids + 1 ≤ dep (m + 1) ts ∧ cnt m (nx (ts.take (k + 1))) ≤ cnt m (nx ts) ∧ dep (m + 1) (ts.take k) ≤ dep (m + 1) ts := by
          refine ⟨?_, ?_, ?_⟩
          · obtain ⟨a, b, e⟩ := List.append_of_mem (List.mem_of_getElem? ht)
            rw [e, dep_append, dep_cons]; omega
          · have e : nx ts = nx (ts.take (k + 1)) ++ nx (ts.drop (k + 1)) := by rw [← nx_append, List.take_append_drop]
            rw [e, cnt_append]; omega
          · have e : dep (m + 1) ts = max (dep (m + 1) (ts.take k)) (dep (m + 1) (ts.drop k)) := by rw [← dep_append, List.take_append_drop]
            omega
        have HCALL : Hid (Calls Try.prog 87 #[.pointer (some ⟨cb, 0, none⟩), .agg #[.slice ka t.kids.length kc, .int .i64 ((d : Int) + 1)], .int .i64 ((M : Int) - 1)] wr.drew fun e w' => ∃ r, e = .returned r ∧ (r = .tuple #[] ∧ ∃ P1 dd3 cc3 wv3, AddP S B cb wr (if t.kids = [] then 0 else o + 1 + dep m t.kids) (cnt m t.kids) L (o + 1) t.kids dd' cc' wv' (G ++ P.map grp) w' P1 dd3 cc3 wv3)) := by
          have I := HI.out
          have h1 := I.dmax
          have h2 := I.csum
          have h3 := csum_len I.pend
          have h4 := I.more
          have h5 := cnt_nx m ts
          obtain ⟨h6, h7, h8⟩ := hkids
          rw [hsn, nx_append, nx_cons, nx_nil, List.append_nil, cnt_append] at h7
          have hd := HD.out
          have hfree : ∀ b, S b → b < wr.drew.heap.size ∧ b ≠ cb ∧ wv'.ownBlock ≠ some b := by
            intro b hb
            obtain ⟨q1, q2, q3⟩ := HS0.out b hb
            refine ⟨Nat.lt_of_lt_of_le q1 (Nat.le_trans (Nat.le_succ _) I.size), q2, fun h => ?_⟩
            rcases I.row with h' | ⟨b', h', h''⟩
            · exact q3 (h'.symm.trans h)
            · rw [h'] at h; cases h; omega
          have hcst : Cst B cb wr.drew dd' cc' wv' (G ++ P.map grp) := ⟨I.cst.base, I.cst.held, I.cst.own, I.cst.slices⟩
          have hTd : Trees S wr.drew m (.slice ka t.kids.length kc) t.kids := Trees.carry (w := wr) (w' := wr.drew) (fun b hb => ⟨hb, rfl⟩) m HKT.out
          have := HIH.out m (.slice ka t.kids.length kc) t.kids (o + 1) (d + 1) dd' cc' wv' (G ++ P.map grp) wr.drew (by omega) hfree hTd hcst (by show B ≤ wr.heap.size; omega) (by omega) (by omega) (by omega) (by rw [List.length_append, List.length_map]; omega)
          have e1 : ((d + 1 : Nat) : Int) = (d : Int) + 1 := by omega
          have e2 : (L : Int) = (M : Int) - 1 := by have := HM.out; omega
          rw [e1, e2] at this
          refine this.mono ?_
          rintro e w' ⟨rfl, P1, dd3, cc3, wv3, J⟩
          exact ⟨_, rfl, rfl, P1, dd3, cc3, wv3, J.undrew⟩
        have hkb : (k : Int) < (ts.length : Int) := by omega
        have hdb : d ≤ 1048578 := by have := HD.out; omega
        have hMb : 1 ≤ M ∧ M ≤ 1000 := by have := HM.out; omega
        clear c0 c1 c2 hat hkt hkT hcc' h4 e2 e3 ht hsn hs hkids hkeep
        go_wp2_with fail
        go_region_law (first
          | (refine step_enter (by rfl) 87 #[.pointer (some ⟨cb, 0, none⟩), .agg #[.slice ka t.kids.length kc, .int .i64 ((d : Int) + 1)], .int .i64 ((M : Int) - 1)] (by go_simp; exact ⟨IntWalk.i64_in _ (by omega), IntWalk.i64_in _ (by omega)⟩) _ HCALL.out ?_; intro r w3 hR; obtain ⟨hr, P1, dd3, cc3, wv3, J⟩ := hR))
        all_goals
          go_wp2_with fail
          go_roundg (ts.length - (k + 1))
          case measure => omega
          case rel => exact ⟨k + 1, _, _, _, _, by omega, by go_num, loopC_step HKEEP.out HI.out HW.out hlt HSN.out J⟩
      · have hkk : k = ts.length := by omega
        subst hkk
        go_wp2_with fail
        go_returns
        exact ⟨rfl, _, _, _, _, loopC_stop hne HI.out⟩
end Go.Proofs.Ytlchbhlmbphkpaa

/- tree.Size, for every tree: as deep and as many as the document's. Condition: at most 2^20 trees. -/
namespace Go.Proofs.Ytlchbhlmbphkpaa
open Go.ChangeShapes Go.WideShapes Go.ChangeAt Go.RowKit
set_option maxRecDepth 100000

attribute [local go_sem] cell_set

theorem add_any (S : Nat → Prop) (B cb : Nat) : ∀ L, L ≤ 1000 → AddOk S B cb L := by
  intro L
  induction L with
  | zero => intro _; exact add_zero S B cb
  | succ L ih => intro h; exact add_succ S B cb L (by omega) (ih (by omega))

structure CntI (S : Nat → Prop) (B cb : Nat) (w : World) (D C : Nat) (w' : World) (P : List CE) (dd cc : Nat) (wv : Value) : Prop where
  below : Below B w w'
  cst : Cst B cb w' dd cc wv (P.map grp)
  keep : ∀ b, S b → w'.heap[b]? = w.heap[b]?
  free : ∀ b, S b → wv.ownBlock ≠ some b
  pend : ∀ e ∈ P, PendC S w e
  dmax : max dd (cmax P) = D
  csum : cc + csum P = C

theorem cnt_start {S : Nat → Prop} {B cb n : Nat} {va : Option Addr} {vc : Nat} {ts : List Tr} {w : World} (hS : ∀ b, S b → b < w.heap.size ∧ b ≠ cb) (hne : ts ≠ []) (hT : Trees S w n (.slice va ts.length vc) ts) (hD : dep n ts ≤ 1048577) (hC : Cst B cb w 0 0 (.slice none 0 0) []) (hBw : B ≤ w.heap.size) :
    CntI S B cb w (dep n ts) (cnt n ts) ((w.setCell ⟨cb, 2, none⟩ (.slice (some ⟨w.heap.size, 0, none⟩) 1 1)).alloc (.cells #[.slice va ts.length vc, .int .i64 1] 134)) [⟨.slice va ts.length vc, n, ts, 0⟩] 0 0 (.slice (some ⟨w.heap.size, 0, none⟩) 1 1) := by
  have hlt := hC.lt
  refine ⟨((Below.refl B w).setCell hC.base _).alloc (by simp; omega) _, ⟨hC.base, ?_, ?_, ?_⟩, ?_, ?_, ?_, ?_, ?_⟩
  · rw [Lib.alloc_old _ _ _ (by simp; omega)]
    simp [World.setCell, Array.getElem?_modify, hC.held]
  · have := World.ownsRow_lit (base := B) (e := 134) (size := 2) (w.setCell ⟨cb, 2, none⟩ (.slice (some ⟨w.heap.size, 0, none⟩) 1 1)) #[.slice va ts.length vc, .int .i64 1] 1 (by simp; omega) (by unfold maxLen; omega) rfl
    simpa [grp, groupCells] using this
  · intro x hx
    simp [grp] at hx
    subst hx
    exact ⟨_, _, _, rfl⟩
  · intro b hb
    rw [Lib.alloc_old _ _ _ (by simp; exact (hS b hb).1), Below.heap_setCell _ _ _ _ (hS b hb).2]
  · intro b hb h
    cases h
    exact Nat.lt_irrefl _ (hS _ hb).1
  · intro e he
    simp at he
    subst he
    exact ⟨hne, hT, by simpa using hD⟩
  · simp [cmax]
  · simp [Go.Proofs.Ytlchbhlmbphkpaa.csum]

theorem countAll_any (S : Nat → Prop) (B cb n : Nat) (v : Value) (ts : List Tr) (w : World) (hS : ∀ b, S b → b < w.heap.size ∧ b ≠ cb) (hne : ts ≠ []) (hT : Trees S w n v ts) (hC : Cst B cb w 0 0 (.slice none 0 0) []) (hBw : B ≤ w.heap.size) (hcnt : cnt n ts ≤ 1048576) :
    Calls Try.prog 70 #[.pointer (some ⟨cb, 0, none⟩), v] w fun e w' => e = .returned (.tuple #[]) ∧ ∃ wv, Cst B cb w' (dep n ts) (cnt n ts) wv [] ∧ Below B w w' := by
  obtain ⟨va, vc, rfl, _, hvm⟩ := Trees.shape n hT
  have hDC := dep_cnt n ts
  have hlt := hC.lt
  have c2 : w.cell? ⟨cb, 2, none⟩ = some (.slice none 0 0) := by rw [Lib.cell_of_heap hC.held]; rfl
  have f2 : w.frozen? ⟨cb, 2, none⟩ = false := Lib.frozen_of_heap hC.held 2
  have HC : Hid (Cst B cb w 0 0 (.slice none 0 0) []) := hC
  have HT : Hid (Trees S w n (.slice va ts.length vc) ts) := hT
  clear hC hT
  go_enter Try.func70, Try.ntmps70
  go_wp2_with fail
  go_loopg [] (cnt n ts) (fun g wr => ∃ P dd cc wv, csum P = g ∧ CntI S B cb w (dep n ts) (cnt n ts) wr P dd cc wv)
  case atStart => exact ⟨_, _, _, _, by simp [csum], cnt_start hS hne HT.out (by omega) HC.out hBw⟩
  case round =>
    obtain ⟨P, dd, cc, wv, hm, I⟩ := hrel
    subst hm
    obtain ⟨wa, wc, rfl⟩ := I.cst.shape
    rw [List.length_map] at I
    have d2 : wr.cell? ⟨cb, 2, none⟩ = some (.slice wa P.length wc) := by rw [Lib.cell_of_heap I.cst.held]; rfl
    have HI : Hid (CntI S B cb w (dep n ts) (cnt n ts) wr P dd cc (.slice wa P.length wc)) := I
    clear I
    rcases List.eq_nil_or_concat P with rfl | ⟨P0, e, hPe⟩
    · simp only [List.length_nil] at d2
      go_wp2_with fail
      go_returns
      have I := HI.out
      have h1 := I.dmax
      have h2 := I.csum
      have h3 : cmax [] = 0 := rfl
      have h4 : csum [] = 0 := rfl
      rw [h3] at h1
      rw [h4] at h2
      have e1 : dd = dep n ts := by omega
      have e2 : cc = cnt n ts := by omega
      have hc := I.cst
      rw [e1, e2] at hc
      exact ⟨rfl, _, hc, I.below⟩
    · rw [List.concat_eq_append] at hPe
      subst hPe
      have hl : (P0 ++ [e]).length = P0.length + 1 := by simp
      rw [hl] at d2
      have hcs : Cst B cb wr dd cc (.slice wa (P0 ++ [e]).length wc) (P0.map grp ++ [(e.v, e.o + 1)]) := by
        have := HI.out.cst
        rw [List.map_append, List.map_cons, List.map_nil] at this
        exact this
      have hszr : B ≤ wr.heap.size := Nat.le_trans hBw HI.out.below.size
      have HCS : Hid _ := hcs
      clear hcs
      go_wp2_with fail
      refine (takeG_any B cb wr dd cc _ (P0.map grp) e.v (e.o + 1) HCS.out hszr).mono ?_
      rintro e' w1 ⟨rfl, v1, hc1, hv1, hk1, hb1⟩
      have hB1 : Below B w w1 := HI.out.below.trans hb1
      obtain ⟨hp1, hp2, hp3⟩ := HI.out.pend e (by simp)
      have hwr := HI.out.below.size
      have hw1 := hb1.size
      have hkp : ∀ b, S b → w1.heap[b]? = w.heap[b]? := fun b hb => (hk1 b (by have := (hS b hb).1; omega) (hS b hb).2).trans (HI.out.keep b hb)
      have HKP : Hid (∀ b, S b → w1.heap[b]? = w.heap[b]?) := hkp
      have hfr : ∀ b, S b → b < w1.heap.size ∧ b ≠ cb ∧ v1.ownBlock ≠ some b := fun b hb => ⟨by have := (hS b hb).1; omega, (hS b hb).2, by rw [hv1]; exact HI.out.free b hb⟩
      have HFR : Hid (∀ b, S b → b < w1.heap.size ∧ b ≠ cb ∧ v1.ownBlock ≠ some b) := hfr
      have hTe : Trees S w1 e.n e.v e.ts := Trees.carry (fun b hb => ⟨hb, hkp b hb⟩) e.n hp2
      have h1 := HI.out.dmax
      have h2 := HI.out.csum
      have h3 : csum (P0 ++ [e]) = csum P0 + cnt e.n e.ts := by rw [csum_append]; simp [csum]
      have h4 : cmax (P0 ++ [e]) = max (cmax P0) (e.o + dep e.n e.ts) := by rw [cmax_append]; simp [cmax]
      have h5 := csum_len (P := P0) (fun x hx => HI.out.pend x (by simp [hx]))
      rw [h3] at h2
      rw [h4] at h1
      have hcall := add_any S B cb 1000 (Nat.le_refl _) e.n e.v e.ts e.o (e.o + 1) dd cc v1 (P0.map grp) w1 rfl hfr hTe hc1 (by have := hb1.size; omega) hp3 (by omega) (by omega) (by rw [List.length_map]; omega)
      have e1 : ((e.o + 1 : Nat) : Int) = (e.o : Int) + 1 := by omega
      rw [e1, show ((1000 : Nat) : Int) = 1000 from rfl] at hcall
      have HCALL : Hid _ := hcall
      clear hcall e1 hkp hfr hk1
      have H1 : Hid (max dd (max (cmax P0) (e.o + dep e.n e.ts)) = dep n ts) := h1
      have H2 : Hid (cc + (csum P0 + cnt e.n e.ts) = cnt n ts) := h2
      have H3 : Hid (csum (P0 ++ [e]) = csum P0 + cnt e.n e.ts) := h3
      clear d2 h1 h2 h3 h4 h5 hp3 hTe hc1 hv1 hl hszr
      go_wp2_with fail
      refine (Calls.mono HCALL.out ?_)
      rintro e' w2 ⟨rfl, P1, dd3, cc3, wv3, J⟩
      go_wp2_with fail
      go_roundg (csum (P0 ++ P1))
      case measure =>
        have h6 := J.csum
        have h7 := J.more.2 (by omega)
        have h8 := List.length_pos_iff.2 hp1
        rw [H3.out, csum_append]
        omega
      case rel =>
        refine ⟨P0 ++ P1, dd3, cc3, wv3, rfl, hB1.trans J.below, by rw [List.map_append]; exact J.cst, fun b hb => (J.frame b (HFR.out b hb).1 (HFR.out b hb).2.1 (HFR.out b hb).2.2).trans (HKP.out b hb), ?_, ?_, ?_, ?_⟩
        · intro b hb h
          rcases J.row with h' | ⟨b', h', h''⟩
          · exact (HFR.out b hb).2.2 (h'.symm.trans h)
          · rw [h'] at h; cases h; have := (HFR.out _ hb).1; omega
        · intro x hx
          rcases List.mem_append.1 hx with hx | hx
          · exact HI.out.pend x (by simp [hx])
          · obtain ⟨q1, q2, q3⟩ := J.pend x hx
            exact ⟨q1, Trees.carry (fun b hb => ⟨hb, (HKP.out b hb).symm⟩) x.n q2, q3⟩
        · have h6 := J.dmax
          rw [if_neg hp1] at h6
          have h1 := H1.out
          rw [cmax_append]; omega
        · have h6 := J.csum
          have h2 := H2.out
          rw [csum_append]; omega


theorem size_any (S : Nat → Prop) (n : Nat) (va vk : Value) (t : Tr) (w : World) (h : Attrs S w va t.attrs) (hk : Trees S w n vk t.kids) (hc : cnt (n + 1) [t] ≤ 1048576) :
    Calls Try.prog 52 #[.agg #[.bool t.text, .string t.s, va, vk]] w fun e w' => e = .returned (.tuple #[.int .i64 (dep (n + 1) [t] : Int), .int .i64 (cnt (n + 1) [t] : Int)]) ∧ Below w.heap.size w w' := by
  obtain ⟨aa, ac, rfl⟩ := h.shape
  obtain ⟨ka, kc, rfl, _, _⟩ := Trees.shape n hk
  have hb : ∀ X Y Z, Below w.heap.size w (((w.alloc X).alloc Y).alloc Z) := fun X Y Z => ((Below.alloc1 w X).alloc (by simp) Y).alloc (by simp; omega) Z
  have HB : Hid (∀ X Y Z, Below w.heap.size w (((w.alloc X).alloc Y).alloc Z)) := hb
  have HA : Hid (Attrs (fun b => S b ∧ b < w.heap.size) w (.slice aa t.attrs.length ac) t.attrs) := h.bounded
  have HK : Hid (Trees (fun b => S b ∧ b < w.heap.size) w n (.slice ka t.kids.length kc) t.kids) := Trees.bounded n hk
  clear h hk hb
  go_enter Try.func52, Try.ntmps52
  go_wp2_with fail
  have hT := Trees.of_block (S := fun b => S b ∧ b < w.heap.size) (n := n) (len := 1) (cap := 1) (ts := [t]) (e := 47) (fz := (0, 0)) (qs := [(t.text, t.s, .slice aa t.attrs.length ac, .slice ka t.kids.length kc)]) (heap_alloc_new ((w.alloc (.cells #[.bool t.text, .string t.s, .slice aa t.attrs.length ac, .slice ka t.kids.length kc] 47)).alloc (.cells #[.int .i64 0, .int .i64 0, .slice none 0 0] 113)) (.cells #[.bool t.text, .string t.s, .slice aa t.attrs.length ac, .slice ka t.kids.length kc] 47)) rfl rfl rfl (Nat.le_refl _) (by unfold maxLen; simp) (by
    intro i q t' hq ht'
    cases i with
    | zero =>
      simp at hq ht'
      subst hq ht'
      exact ⟨rfl, rfl, HA.out.later (HB.out _ _ _), Trees.later (HB.out _ _ _) n HK.out⟩
    | succ i => simp at ht')
  have hCst : Cst w.heap.size (w.heap.size + 1) (((w.alloc (.cells #[.bool t.text, .string t.s, .slice aa t.attrs.length ac, .slice ka t.kids.length kc] 47)).alloc (.cells #[.int .i64 0, .int .i64 0, .slice none 0 0] 113)).alloc (.cells #[.bool t.text, .string t.s, .slice aa t.attrs.length ac, .slice ka t.kids.length kc] 47)) 0 0 (.slice none 0 0) [] := by
    refine ⟨by omega, ?_, World.ownsRow_nil _ _ _ _, by simp⟩
    have e := heap_alloc_new (w.alloc (.cells #[.bool t.text, .string t.s, .slice aa t.attrs.length ac, .slice ka t.kids.length kc] 47)) (.cells #[.int .i64 0, .int .i64 0, .slice none 0 0] 113)
    rw [World.size_alloc] at e
    rw [Lib.alloc_old _ _ _ (by simp)]
    exact e
  have hB3 := HB.out (.cells #[.bool t.text, .string t.s, .slice aa t.attrs.length ac, .slice ka t.kids.length kc] 47) (.cells #[.int .i64 0, .int .i64 0, .slice none 0 0] 113) (.cells #[.bool t.text, .string t.s, .slice aa t.attrs.length ac, .slice ka t.kids.length kc] 47)
  have hs2 : ((w.alloc (.cells #[.bool t.text, .string t.s, .slice aa t.attrs.length ac, .slice ka t.kids.length kc] 47)).alloc (.cells #[.int .i64 0, .int .i64 0, .slice none 0 0] 113)).heap.size = w.heap.size + 1 + 1 := by simp
  rw [hs2] at hT
  refine (countAll_any _ w.heap.size (w.heap.size + 1) (n + 1) _ [t] _ ?_ (by simp) hT hCst hB3.size hc).mono ?_
  · intro b hb
    simp only [World.size_alloc]
    rcases hb with hb | hb
    · have := hb.2; omega
    · omega
  rintro e w2 ⟨rfl, wv, hC2, hb2⟩
  have k0 : w2.cell? ⟨w.heap.size + 1, 0, none⟩ = some (.int .i64 (dep (n + 1) [t] : Int)) := by rw [Lib.cell_of_heap hC2.held]; rfl
  have k1 : w2.cell? ⟨w.heap.size + 1, 1, none⟩ = some (.int .i64 (cnt (n + 1) [t] : Int)) := by rw [Lib.cell_of_heap hC2.held]; rfl
  have hB4 : Below w.heap.size w w2 := hB3.trans hb2
  obtain ⟨D, hD⟩ : ∃ D, dep (n + 1) [t] = D := ⟨_, rfl⟩
  obtain ⟨C, hC⟩ : ∃ C, cnt (n + 1) [t] = C := ⟨_, rfl⟩
  rw [hD] at k0
  rw [hC] at k1
  have HD : Hid (dep (n + 1) [t] = D) := hD
  have HC : Hid (cnt (n + 1) [t] = C) := hC
  clear hD hC hc
  clear hC2 hT hCst hB3 hb2 hs2
  go_wp2_with fail
  go_region
  all_goals
    go_wp2_with fail
    go_ret2
    exact ⟨by rw [HD.out, HC.out]; rfl, hB4.drew⟩
end Go.Proofs.Ytlchbhlmbphkpaa

/- doc.Make, for every tree. Condition: texts of at most 2^63 letters. -/
namespace Go.Proofs.Ytlchbhlmbphkpaa
open Go.ChangeShapes Go.WideShapes Go.ChangeAt Go.RowKit
set_option maxRecDepth 100000

attribute [local go_sem] cell_set

theorem nodes_of_row {S : Nat → Prop} {nb : Nat} {ms : List Rw} {w : World} {L : List Nd} (hR : Row nb ms w) (hl : L.length = ms.length) (hL : Laid S w ms 0 L) (hS : S nb) (h80 : ms.length ≤ 80) : Nodes S w (.slice (some ⟨nb, 0, none⟩) ms.length ms.length) L := by
  refine ⟨_, ms.length, by rw [hl], by omega, by unfold maxLen; omega, fun _ => ⟨nb, 0, rfl, hS, fun i x hx => ?_⟩⟩
  obtain ⟨r, hr, h1, h2, h3, h4, h5⟩ := hL i x hx
  rw [Nat.zero_add] at hr
  obtain ⟨g0, g1, g2, g3, g4⟩ := hR.cells hr
  rw [Nat.zero_add]
  exact ⟨r.va, r.vk, by rw [g0, h1], by rw [g1, h2], g2, by rw [g3, h3], g4, h4, h5⟩

theorem rgL_few {n : Nat} (hf : ∀ k, rgt n k = true → FewN n k) : ∀ (ts : List Tr) (p : Bool), rgL (rgt n) p ts = true → FewN (n + 1) ts := by
  intro ts
  induction ts with
  | nil => intro p _ t ht; simp at ht
  | cons x r ih =>
    intro p h t ht
    unfold rgL at h
    simp only [Bool.and_eq_true] at h
    rw [List.mem_cons] at ht
    rcases ht with rfl | ht
    · have h1 := h.1.1.1
      unfold rightB at h1
      cases htx : t.text with
      | true =>
        simp only [htx, if_true, Bool.and_eq_true, decide_eq_true_eq] at h1
        have hk : t.kids = [] := List.eq_nil_of_length_eq_zero h1.2
        refine ⟨by omega, ?_⟩
        rw [hk]
        cases n with
        | zero => trivial
        | succ n => intro u hu; simp at hu
      | false =>
        simp only [htx, Bool.false_eq_true, if_false, Bool.and_eq_true] at h1
        have h2 := h1.2
        simp only [attrsB, Bool.and_eq_true, decide_eq_true_eq] at h2
        refine ⟨by omega, hf _ ?_⟩
        have := h.1.2
        simpa [htx] using this
    · exact ih x.text h.2 t ht

theorem rgt_few : ∀ (n : Nat) (ts : List Tr), rgt n ts = true → FewN n ts := by
  intro n
  induction n with
  | zero => intro ts _; trivial
  | succ n ih => intro ts h; exact rgL_few ih ts false h

theorem nodeInfo : (Try.prog.info? 42).map (fun i => (i.zero, i.size, i.bytes)) = some (some (.agg #[.bool false, .string ⟨#[]⟩, .slice none 0 0, .int .i64 0, .slice none 0 0]), 5, 80) := by kernel_rfl

def zeroRw : Rw := ⟨false, ⟨#[]⟩, .slice none 0 0, 0, .slice none 0 0⟩

theorem madeRaw (N : Nat) : madeCells (Value.agg #[.bool false, .string ⟨#[]⟩, .slice none 0 0, .int .i64 0, .slice none 0 0]).cells (N * 5) = (rawCells (List.replicate N zeroRw)).toArray := by
  apply Array.ext
  · simp [madeCells, rawCells_length]
  · intro k h1 h2
    have hk : k < N * 5 := by simpa [madeCells] using h1
    have hr : (List.replicate N zeroRw)[k / 5]? = some zeroRw := by rw [List.getElem?_replicate]; simp; omega
    obtain ⟨g0, g1, g2, g3, g4⟩ := rawCells_get _ _ _ hr
    have key : (rawCells (List.replicate N zeroRw))[k]? = some ((#[Value.bool false, .string ⟨#[]⟩, .slice none 0 0, .int .i64 0, .slice none 0 0] : Array Value)[k % 5]!) := by
      rcases (by omega : k % 5 = 0 ∨ k % 5 = 1 ∨ k % 5 = 2 ∨ k % 5 = 3 ∨ k % 5 = 4) with h | h | h | h | h
      · rw [show k = k / 5 * 5 by omega, g0, show k / 5 * 5 % 5 = 0 by omega]; rfl
      · rw [show k = k / 5 * 5 + 1 by omega, g1, show (k / 5 * 5 + 1) % 5 = 1 by omega]; rfl
      · rw [show k = k / 5 * 5 + 2 by omega, g2, show (k / 5 * 5 + 2) % 5 = 2 by omega]; rfl
      · rw [show k = k / 5 * 5 + 3 by omega, g3, show (k / 5 * 5 + 3) % 5 = 3 by omega]; rfl
      · rw [show k = k / 5 * 5 + 4 by omega, g4, show (k / 5 * 5 + 4) % 5 = 4 by omega]; rfl
    have h3 : (rawCells (List.replicate N zeroRw)).toArray[k]? = some ((#[Value.bool false, .string ⟨#[]⟩, .slice none 0 0, .int .i64 0, .slice none 0 0] : Array Value)[k % 5]!) := by simpa using key
    rw [Array.getElem?_eq_getElem h2] at h3
    rw [Option.some.inj h3]
    simp [madeCells, Value.cells]

/-- What doc.Make makes. -/
def makeD (n : Nat) (t : Tr) : List Nd := if goodB t then layF n t (-1) 0 else []
def makeE (t : Tr) : Int := if goodB t then 0 else 1

set_option maxHeartbeats 2000000 in
theorem make_any (S : Nat → Prop) (n : Nat) (va vk : Value) (t : Tr) (w : World) (hA : Attrs S w va t.attrs) (hK : Trees S w n vk t.kids) (hx : TextsN (n + 1) [t]) (hS : ∀ b, S b → b < w.heap.size) :
    Calls Try.prog 20 #[.agg #[.bool t.text, .string t.s, va, vk]] w fun e w' => ∃ v, e = .returned (.tuple #[.agg #[v], .int .i64 (makeE t)]) ∧ Nodes (fun b => w.heap.size ≤ b) w' v (makeD n t) ∧ Below w.heap.size w w' := by
  obtain ⟨aa, ac, rfl⟩ := hA.shape
  obtain ⟨ka, kc, rfl, _, _⟩ := Trees.shape n hK
  have hb1 : Below w.heap.size w ((w.alloc (.cells #[.bool t.text, .string t.s, .slice aa t.attrs.length ac, .slice ka t.kids.length kc] 47)).alloc (.cells #[.slice none 0 0] 24)) := (Below.alloc1 w _).alloc (by simp) _
  have hx1 : ((w.alloc (.cells #[.bool t.text, .string t.s, .slice aa t.attrs.length ac, .slice ka t.kids.length kc] 47)).alloc (.cells #[.slice none 0 0] 24)).heap[w.heap.size]? = some (.cells #[.bool t.text, .string t.s, .slice aa t.attrs.length ac, .slice ka t.kids.length kc] 47 (0, 0)) := by
    rw [Lib.alloc_old _ _ _ (by simp)]; exact heap_alloc_new _ _
  have hy1 : ((w.alloc (.cells #[.bool t.text, .string t.s, .slice aa t.attrs.length ac, .slice ka t.kids.length kc] 47)).alloc (.cells #[.slice none 0 0] 24)).heap[w.heap.size + 1]? = some (.cells #[.slice none 0 0] 24 (0, 0)) := by
    have e := heap_alloc_new (w.alloc (.cells #[.bool t.text, .string t.s, .slice aa t.attrs.length ac, .slice ka t.kids.length kc] 47)) (.cells #[.slice none 0 0] 24)
    rw [World.size_alloc] at e
    exact e
  have HG : Hid _ := good_any S n _ _ t _ (hA.later hb1) (Trees.later hb1 n hK) hx
  have HA : Hid (Attrs S w (.slice aa t.attrs.length ac) t.attrs) := hA
  have HK : Hid (Trees S w n (.slice ka t.kids.length kc) t.kids) := hK
  have HS : Hid (∀ b, S b → b < w.heap.size) := hS
  have HD : Hid (makeD n t = if goodB t then layF n t (-1) 0 else []) := rfl
  have HE : Hid (makeE t = if goodB t then 0 else 1) := rfl
  clear hA hK hx hS
  go_enter Try.func20, Try.ntmps20
  go_wp2_with fail
  refine (Calls.mono HG.out ?_)
  rintro e w2 ⟨rfl, hb2⟩
  have hx2 := (hb2.block _ (blk_lt hx1)).trans hx1
  have hy2 := (hb2.block _ (blk_lt hy1)).trans hy1
  have hB2 : Below w.heap.size w w2 := hb1.trans (hb2.mono hb1.size)
  have d0 : w2.cell? ⟨w.heap.size, 0, none⟩ = some (.bool t.text) := by rw [Lib.cell_of_heap hx2]; rfl
  have d1 : w2.cell? ⟨w.heap.size, 1, none⟩ = some (.string t.s) := by rw [Lib.cell_of_heap hx2]; rfl
  have d2 : w2.cell? ⟨w.heap.size, 2, none⟩ = some (.slice aa t.attrs.length ac) := by rw [Lib.cell_of_heap hx2]; rfl
  have d3 : w2.cell? ⟨w.heap.size, 3, none⟩ = some (.slice ka t.kids.length kc) := by rw [Lib.cell_of_heap hx2]; rfl
  have p0 : w2.cell? ⟨w.heap.size + 1, 0, none⟩ = some (.slice none 0 0) := by rw [Lib.cell_of_heap hy2]; rfl
  have f0 : w2.frozen? ⟨w.heap.size + 1, 0, none⟩ = false := Lib.frozen_of_heap hy2 0
  clear HG hb1 hx1 hb2 hy1
  obtain ⟨q, hq⟩ : ∃ q, goodB t = q := ⟨_, rfl⟩
  rw [hq]
  cases q with
  | false =>
    have HD2 : Hid (makeD n t = []) := by show _ = _; rw [HD.out, hq]; rfl
    have HE2 : Hid (makeE t = 1) := by show _ = _; rw [HE.out, hq]; rfl
    clear HD HE hq
    go_wp2_with fail
    refine bodyPost_ret (v := .tuple #[.agg #[.slice none 0 0], .int .i64 1]) (by simp [results, Try.results20, go_sem, cell_set, p0]) rfl ⟨.slice none 0 0, by rw [HE2.out], by rw [HD2.out]; exact Nodes.nil, ?_⟩
    exact hB2.setCell (p := ⟨w.heap.size + 1, 0, none⟩) (Nat.le_succ _) _
  | true =>
    have HD2 : Hid (makeD n t = layF n t (-1) 0) := by show _ = _; rw [HD.out, hq]; rfl
    have HE2 : Hid (makeE t = 0) := by show _ = _; rw [HE.out, hq]; rfl
    have hdeep := Trees.deep n HK.out
    have hg := hq
    rw [goodB_eq hdeep] at hg
    simp only [Bool.and_eq_true, Bool.not_eq_true', decide_eq_true_eq] at hg
    obtain ⟨⟨⟨hg1, hg2⟩, hc81⟩, hrg⟩ := hg
    clear hg1 hg2
    have HFW : Hid (FewN (n + 1) [t]) := rgt_few (n + 1) [t] hrg
    have HSZ : Hid _ := size_any S n _ _ t w2 (HA.out.later hB2) (Trees.later hB2 n HK.out) (by omega)
    have hpos : 0 < cnt (n + 1) [t] := by rw [cnt_one]; omega
    have HLN : Hid ((layF n t (-1) 0).length = cnt (n + 1) [t]) := layF_length n t (-1) 0 hdeep
    obtain ⟨N, hN⟩ : ∃ N, cnt (n + 1) [t] = N := ⟨_, rfl⟩
    rw [hN] at hc81 HSZ hpos HLN
    have HN : Hid (cnt (n + 1) [t] = N) := hN
    clear HD HE hq hrg hN hdeep
    go_wp2_with fail
    refine (Calls.mono HSZ.out ?_)
    rintro e w3 ⟨rfl, hb3⟩
    have hx3 := (hb3.block _ (blk_lt hx2)).trans hx2
    have hy3 := (hb3.block _ (blk_lt hy2)).trans hy2
    have hB3 : Below w.heap.size w w3 := hB2.trans (hb3.mono hB2.size)
    have e0 : w3.cell? ⟨w.heap.size, 0, none⟩ = some (.bool t.text) := by rw [Lib.cell_of_heap hx3]; rfl
    have e1 : w3.cell? ⟨w.heap.size, 1, none⟩ = some (.string t.s) := by rw [Lib.cell_of_heap hx3]; rfl
    have e2 : w3.cell? ⟨w.heap.size, 2, none⟩ = some (.slice aa t.attrs.length ac) := by rw [Lib.cell_of_heap hx3]; rfl
    have e3 : w3.cell? ⟨w.heap.size, 3, none⟩ = some (.slice ka t.kids.length kc) := by rw [Lib.cell_of_heap hx3]; rfl
    clear HSZ hb3 d0 d1 d2 d3 p0 f0 hx2 hy2
    have hmk : (Instr.makeSlice 22 (.int .i64 (N : Int)) (.int .i64 (N : Int))).run Try.prog w3 = .ok (.slice (some ⟨w3.heap.size, 0, none⟩) N N) (w3.alloc (.cells (rawCells (List.replicate N zeroRw)).toArray 42)) := by
      obtain ⟨i0, hi, hz0, hz1, hz2⟩ := info_parts nodeInfo
      have := run_makeSlice (P := Try.prog) w3 22 42 i0 _ Try.underlying22 hi hz0 .i64 .i64 (N : Int) (N : Int) (by omega) (Int.le_refl _) (by rw [hz1]; simp; omega) (by rw [hz2]; omega) (by omega)
      rw [this, hz1, Int.toNat_natCast, madeRaw]
    have hb5 : Below w3.heap.size w3 ((w3.alloc (.cells (rawCells (List.replicate N zeroRw)).toArray 42)).alloc (.cells #[.int .i64 0] 3)) := (Below.alloc1 w3 _).alloc (by simp) _
    have hR5 : Row w3.heap.size (List.replicate N zeroRw) ((w3.alloc (.cells (rawCells (List.replicate N zeroRw)).toArray 42)).alloc (.cells #[.int .i64 0] 3)) := by
      unfold Row
      rw [Lib.alloc_old _ _ _ (by simp)]
      exact heap_alloc_new _ _
    have hC5 : Cnt (w3.heap.size + 1) 0 ((w3.alloc (.cells (rawCells (List.replicate N zeroRw)).toArray 42)).alloc (.cells #[.int .i64 0] 3)) := by
      have e := heap_alloc_new (w3.alloc (.cells (rawCells (List.replicate N zeroRw)).toArray 42)) (.cells #[.int .i64 0] 3)
      rw [World.size_alloc] at e
      exact e
    have hz5 : ((w3.alloc (.cells (rawCells (List.replicate N zeroRw)).toArray 42)).alloc (.cells #[.int .i64 0] 3)).heap.size = w3.heap.size + 2 := by simp
    have HMK : Hid _ := hmk
    have HRP : Hid ((List.replicate N zeroRw).length = N) := by show _ = _; simp
    obtain ⟨ms0, hms0⟩ : ∃ ms0, List.replicate N zeroRw = ms0 := ⟨_, rfl⟩
    rw [hms0] at hmk hb5 hR5 hC5 hz5 HRP
    clear hms0 HMK
    have e0a : (w3.alloc (.cells (rawCells ms0).toArray 42)).cell? ⟨w.heap.size, 0, none⟩ = some (.bool t.text) := Lib.cell?_alloc_some _ e0
    have e1a : (w3.alloc (.cells (rawCells ms0).toArray 42)).cell? ⟨w.heap.size, 1, none⟩ = some (.string t.s) := Lib.cell?_alloc_some _ e1
    have e2a : (w3.alloc (.cells (rawCells ms0).toArray 42)).cell? ⟨w.heap.size, 2, none⟩ = some (.slice aa t.attrs.length ac) := Lib.cell?_alloc_some _ e2
    have e3a : (w3.alloc (.cells (rawCells ms0).toArray 42)).cell? ⟨w.heap.size, 3, none⟩ = some (.slice ka t.kids.length kc) := Lib.cell?_alloc_some _ e3
    have e0b : ((w3.alloc (.cells (rawCells ms0).toArray 42)).alloc (.cells #[.int .i64 0] 3)).cell? ⟨w.heap.size, 0, none⟩ = some (.bool t.text) := Lib.cell?_alloc_some _ e0a
    have e1b : ((w3.alloc (.cells (rawCells ms0).toArray 42)).alloc (.cells #[.int .i64 0] 3)).cell? ⟨w.heap.size, 1, none⟩ = some (.string t.s) := Lib.cell?_alloc_some _ e1a
    have e2b : ((w3.alloc (.cells (rawCells ms0).toArray 42)).alloc (.cells #[.int .i64 0] 3)).cell? ⟨w.heap.size, 2, none⟩ = some (.slice aa t.attrs.length ac) := Lib.cell?_alloc_some _ e2a
    have e3b : ((w3.alloc (.cells (rawCells ms0).toArray 42)).alloc (.cells #[.int .i64 0] 3)).cell? ⟨w.heap.size, 3, none⟩ = some (.slice ka t.kids.length kc) := Lib.cell?_alloc_some _ e3a
    have hs3 := hB3.size
    have hB5 : Below w.heap.size w _ := hB3.trans (hb5.mono hs3)
    have hcall := lay_any n S _ _ t (-1) w3.heap.size (w3.heap.size + 1) 0 ms0 _ (HA.out.later hB5) (Trees.later hB5 n HK.out) (fun b hb => ⟨by have := HS.out b hb; rw [hz5]; omega, by have := HS.out b hb; omega, by have := HS.out b hb; omega⟩) (by omega) hR5 hC5 (by rw [HN.out, HRP.out]; omega) (by rw [HRP.out]; omega) HFW.out
    rw [HRP.out] at hcall
    have HCALL : Hid _ := hcall
    have HZ5 : Hid _ := hz5
    clear hcall hR5 hC5 hz5 e0 e1 e2 e3
    go_wp2_with fail
    refine (Calls.mono HCALL.out ?_)
    rintro e w6 ⟨rfl, ms', hR6, hl6, hC6, _, hL6, hF6⟩
    have hz := HZ5.out
    have hy5 : w6.heap[w.heap.size + 1]? = some (.cells #[.slice none 0 0] 24 (0, 0)) := by
      have h1 := blk_lt hy3
      rw [hF6.frame (w.heap.size + 1) (by rw [hz]; omega) (by omega) (by omega), hb5.block _ h1]
      exact hy3
    have p0 : w6.cell? ⟨w.heap.size + 1, 0, none⟩ = some (.slice none 0 0) := by rw [Lib.cell_of_heap hy5]; rfl
    have f0 : w6.frozen? ⟨w.heap.size + 1, 0, none⟩ = false := Lib.frozen_of_heap hy5 0
    have hB6 : Below w.heap.size w w6 := ⟨hF6.below.os.trans hB5.os, hF6.below.tape.trans hB5.tape, hF6.below.output.trans hB5.output, Nat.le_trans hB5.size hF6.below.size, fun k hk => by rw [hF6.frame k (by rw [hz]; omega) (by omega) (by omega)]; exact hB5.block k hk⟩
    have hnb := blk_lt hR6
    have hlen6 : ms'.length = N := hl6
    have hND : Nodes (fun b => w.heap.size + 2 ≤ b) w6 (.slice (some ⟨w3.heap.size, 0, none⟩) N N) (layF n t (-1) 0) := by
      have h1 := blk_lt hy3
      have := nodes_of_row (S := fun b => w.heap.size + 2 ≤ b) hR6 (by rw [HLN.out, hlen6]) (hL6.carry (fun b hb _ => ⟨by have h2 : ((w3.alloc (.cells (rawCells ms0).toArray 42)).alloc (.cells #[.int .i64 0] 3)).heap.size ≤ b := hb; rw [hz] at h2; omega, rfl⟩) (fun _ _ _ => rfl)) (by show w.heap.size + 2 ≤ w3.heap.size; omega) (by omega)
      rw [hlen6] at this
      exact this
    clear HCALL hR6 hL6 hC6 hF6 hb5 e0a e1a e2a e3a e0b e1b e2b e3b hmk hB5
    go_wp2_with fail
    refine bodyPost_ret (v := .tuple #[.agg #[.slice (some ⟨w3.heap.size, 0, none⟩) N N], .int .i64 0]) (by simp [results, Try.results20, go_sem, cell_set, p0]) rfl ⟨.slice (some ⟨w3.heap.size, 0, none⟩) N N, by rw [HE2.out], ?_, ?_⟩
    · rw [HD2.out]
      exact hND.carry fun b hb => ⟨by omega, blk_set_ne (by omega)⟩
    · exact hB6.setCell (p := ⟨w.heap.size + 1, 0, none⟩) (Nat.le_succ _) _
end Go.Proofs.Ytlchbhlmbphkpaa

/- What doc answers of a document that is made of a good tree: on plain data. No condition. -/
namespace Go.Proofs.Ytlchbhlmbphkpaa
open Go.RowKit
set_option maxRecDepth 100000

theorem flat_lay : ∀ (d : Nat) (t : Tr) (par : Int) (at' : Nat), Deep d t.kids → (layF d t par at').flatMap txt = (if t.text then t.s.data.toList else []) ++ tell d t.kids := by
  intro d
  induction d with
  | zero => intro t par at' _; simp [layF, txt, tell]
  | succ d ih =>
    intro t par at' hd
    rw [layF, List.flatMap_cons]
    have key : ∀ (ks : List Tr) (a : Nat), Deep (d + 1) ks → (laysOf d (layF d) at' a ks).flatMap txt = tell (d + 1) ks := by
      intro ks
      induction ks with
      | nil => intro a _; rfl
      | cons k ks ihk =>
        intro a hdk
        rw [laysOf, List.flatMap_append, ih k _ _ (hdk k List.mem_cons_self), ihk _ (fun u hu => hdk u (List.mem_cons_of_mem _ hu))]
        simp [tell]
    rw [key t.kids (at' + 1) hd]
    rfl

theorem made_good {n : Nat} {t : Tr} (hd : Deep n t.kids) (hg : goodB t = true) : goodD (layF n t (-1) 0) = true ∧ growF (layF n t (-1) 0).length (layF n t (-1) 0) 0 = t ∧ endD (layF n t (-1) 0) 0 = ((cnt (n + 1) [t] : Nat) : Int) ∧ (layF n t (-1) 0).length = cnt (n + 1) [t] := by
  have hlen := layF_length n t (-1) 0 hd
  have hseg := seg_self (layF n t (-1) 0)
  have hg2 := hg
  rw [goodB_eq hd] at hg2
  simp only [Bool.and_eq_true, Bool.not_eq_true', decide_eq_true_eq] at hg2
  obtain ⟨⟨_, hc⟩, _⟩ := hg2
  have hgr := grow_lay n t (layF n t (-1) 0).length (layF n t (-1) 0) (-1) 0 hd hseg (by omega)
  have hor := ord_lay n t ((layF n t (-1) 0).length + 1) (layF n t (-1) 0) (-1) 0 hd hseg (by omega)
  have hla := last_lay n t (layF n t (-1) 0).length (layF n t (-1) 0) (-1) 0 hd hseg (by omega)
  have hgd : goodD (layF n t (-1) 0) = true := by
    unfold goodD orderly
    rw [hor, hgr, hg, hlen]
    simp
    omega
  refine ⟨hgd, hgr, ?_, hlen⟩
  unfold endD
  have hpos : 0 < cnt (n + 1) [t] := by rw [cnt_one]; omega
  have ham : amongB (layF n t (-1) 0) 0 = true := by unfold amongB; rw [hlen]; simp; omega
  rw [hgd, ham]
  simp only [Bool.and_self, if_true, Int.toNat_zero]
  omega

theorem made_str {n : Nat} {t : Tr} (hd : Deep n t.kids) (hg : goodB t = true) : strD (layF n t (-1) 0) 0 = tell (n + 1) [t] := by
  obtain ⟨_, _, he, hl⟩ := made_good hd hg
  unfold strD
  rw [he]
  have hpos : 0 < cnt (n + 1) [t] := by rw [cnt_one]; omega
  rw [if_neg (by omega), Int.toNat_natCast, ← hl, List.take_length]
  simp only [Int.toNat_zero, List.drop_zero]
  rw [flat_lay n t _ _ hd]
  simp [tell]

/-- What holds of each tree, however deep. -/
def AllN (Q : Tr → Prop) : Nat → List Tr → Prop
  | 0, _ => True
  | n + 1, ts => ∀ t ∈ ts, Q t ∧ AllN Q n t.kids

theorem lay_all {P : Nd → Prop} (Q : Tr → Prop) (hP : ∀ t p ks, Q t → P ⟨t.text, t.s, t.attrs, p, ks⟩) : ∀ (d : Nat) (t : Tr) (par : Int) (at' : Nat), (∀ e, d + 1 = e → AllN Q e [t]) → ∀ x ∈ layF d t par at', P x := by
  intro d
  induction d with
  | zero =>
    intro t par at' h x hx
    simp only [layF, List.mem_singleton] at hx
    subst hx
    exact hP t _ _ ((h 1 rfl) t List.mem_cons_self).1
  | succ d ih =>
    intro t par at' h x hx
    rw [layF, List.mem_cons] at hx
    have ht := (h (d + 1 + 1) rfl) t List.mem_cons_self
    rcases hx with rfl | hx
    · exact hP t _ _ ht.1
    · have key : ∀ (ks : List Tr) (a : Nat), AllN Q (d + 1) ks → x ∈ laysOf d (layF d) at' a ks → P x := by
        intro ks
        induction ks with
        | nil => intro a _ hx; simp [laysOf] at hx
        | cons k ks ihk =>
          intro a hq hx
          rw [laysOf, List.mem_append] at hx
          rcases hx with hx | hx
          · refine ih k _ _ (fun e he => ?_) x hx
            subst he
            intro u hu
            simp only [List.mem_singleton] at hu
            subst hu
            exact hq _ List.mem_cons_self
          · exact ihk _ (fun u hu => hq u (List.mem_cons_of_mem _ hu)) hx
      exact key t.kids _ ht.2 hx
end Go.Proofs.Ytlchbhlmbphkpaa

/- A document under way while it is made: on plain data. No condition. -/
namespace Go.Proofs.Ytlchbhlmbphkpaa
open Go.RowKit
set_option maxRecDepth 100000

/-- A node whose kids from a number on are not told yet. -/
def cutK (n : Nat) (x : Nd) : Nd := { x with kids := x.kids.filter fun u => decide (u < (n : Int)) }
def partF (L : List Nd) (n : Nat) : List Nd := (L.take n).map (cutK n)

/-- What waits to be laid, from a number on. -/
def WL (L : List Nd) : Nat → List (Tr × Int) → Prop
  | n, [] => n = L.length
  | n, i :: r => ∃ d, Deep d i.1.kids ∧ Seg L n (layF d i.1 i.2 n) ∧ WL L (n + cnt (d + 1) [i.1]) r

theorem WL.kids {L : List Nd} {d n : Nat} : ∀ (ks : List Tr) (b : Nat) (r : List (Tr × Int)), (∀ k ∈ ks, Deep d k.kids) → Seg L b (laysOf d (layF d) n b ks) → WL L (b + cnt (d + 1) ks) r → WL L b (ks.map (fun k => (k, (n : Int))) ++ r) := by
  intro ks
  induction ks with
  | nil => intro b r _ _ h; rw [cnt_nil] at h; exact h
  | cons k ks ih =>
    intro b r hd hs h
    rw [laysOf] at hs
    have hl := hs.left
    have hr := hs.right
    have hdk := hd k List.mem_cons_self
    rw [layF_length d k n b hdk] at hr
    rw [cnt_more] at h
    refine ⟨d, hdk, hl, ih _ r (fun u hu => hd u (List.mem_cons_of_mem _ hu)) hr ?_⟩
    rw [Nat.add_assoc]
    exact h

theorem WL.step {L : List Nd} {n : Nat} {t : Tr} {p : Int} {r : List (Tr × Int)} (h : WL L n ((t, p) :: r)) : ∃ x, L[n]? = some x ∧ x.text = t.text ∧ x.s = t.s ∧ x.attrs = t.attrs ∧ x.parent = p ∧ WL L (n + 1) (t.kids.map (fun k => (k, (n : Int))) ++ r) := by
  obtain ⟨d, hd, hs, hr⟩ := h
  have h0 := hs 0 _ (by rw [layF_head hd p n]; rfl)
  refine ⟨_, h0, rfl, rfl, rfl, rfl, ?_⟩
  simp only at hd hs hr
  rw [cnt_one] at hr
  cases d with
  | zero =>
    have e : t.kids = [] := hd
    rw [e] at hr ⊢
    rw [cnt_nil] at hr
    exact hr
  | succ d => exact WL.kids t.kids (n + 1) r hd (Seg.tail hs) (by rw [Nat.add_assoc]; exact hr)

theorem WL.start {n : Nat} {t : Tr} (hd : Deep n t.kids) : WL (layF n t (-1) 0) 0 [(t, -1)] :=
  ⟨n, hd, seg_self _, by show 0 + cnt (n + 1) [t] = _; rw [layF_length n t _ _ hd, Nat.zero_add]⟩

theorem partF_len {L : List Nd} {n : Nat} (h : n ≤ L.length) : (partF L n).length = n := by
  unfold partF; rw [List.length_map, List.length_take]; omega

theorem partF_get {L : List Nd} {n i : Nat} (h : i < n) : (partF L n)[i]? = (L[i]?).map (cutK n) := by
  unfold partF; rw [List.getElem?_map, List.getElem?_take, if_pos h]

theorem filter_none {n : Nat} {l : List Int} (h : ∀ u ∈ l, (n : Int) ≤ u) : (l.filter fun u => decide (u < (n : Int))) = [] := by
  rw [List.filter_eq_nil_iff]
  intro u hu
  have := h u hu
  simp; omega

/-- The node that is laid next has no kids yet. -/
theorem part_new {L : List Nd} (hg : goodD L = true) {n : Nat} {x : Nd} (hx : L[n]? = some x) : (partF L (n + 1))[n]? = some { x with kids := [] } := by
  rw [partF_get (Nat.lt_succ_self n), hx]
  show some (cutK (n + 1) x) = _
  unfold cutK
  rw [filter_none (fun u hu => by obtain ⟨k, _, rfl, h, _⟩ := (good_fam hg hx).kids u hu; omega)]

theorem filter_succ {n : Nat} : ∀ {l : List Int}, l.Pairwise (fun a b => a < b) → (l.filter fun u => decide (u < ((n + 1 : Nat) : Int))) = (l.filter fun u => decide (u < (n : Int))) ++ (if (n : Int) ∈ l then [(n : Int)] else []) := by
  intro l
  induction l with
  | nil => intro _; simp
  | cons x l ih =>
    intro h
    rw [List.pairwise_cons] at h
    by_cases h1 : x < (n : Int)
    · rw [List.filter_cons_of_pos (by simp; omega), List.filter_cons_of_pos (by simpa using h1), ih h.2, List.cons_append]
      have : ((n : Int) ∈ x :: l) ↔ (n : Int) ∈ l := by
        rw [List.mem_cons]
        exact ⟨fun h => h.resolve_left (by omega), Or.inr⟩
      simp only [this]
    · by_cases h2 : x = (n : Int)
      · subst h2
        rw [List.filter_cons_of_pos (by simp; omega), List.filter_cons_of_neg (by simp), if_pos List.mem_cons_self]
        rw [filter_none (n := n + 1) (fun u hu => by have := h.1 u hu; omega), filter_none (fun u hu => by have := h.1 u hu; omega)]
        rfl
      · rw [List.filter_cons_of_neg (by simp; omega), List.filter_cons_of_neg (by simp; omega), ih h.2]
        have : ((n : Int) ∈ x :: l) ↔ (n : Int) ∈ l := by
          rw [List.mem_cons]
          exact ⟨fun h => h.resolve_left (fun e => h2 e.symm), Or.inr⟩
        simp only [this]

theorem rise_kids {ns : List Nd} (hg : goodD ns = true) {q : Nat} {y : Nd} (hy : ns[q]? = some y) : y.kids.Pairwise (fun u v => u < v) := by
  refine List.Pairwise.imp_of_mem ?_ (good_fam hg hy).row
  intro a b ha _ hab
  obtain ⟨k, z, rfl, _, _, _, hz, _⟩ := (good_fam hg hy).kids a ha
  have := (good_fam hg hz).gt
  omega

theorem kid_iff {ns : List Nd} (hg : goodD ns = true) {q n : Nat} {y x : Nd} (hy : ns[q]? = some y) (hx : ns[n]? = some x) : (n : Int) ∈ y.kids ↔ x.parent = (q : Int) := by
  constructor
  · intro h
    obtain ⟨k, z, e, _, _, _, hz, hp⟩ := (good_fam hg hy).kids _ h
    have : k = n := by omega
    subst this
    rw [hx] at hz
    obtain rfl := Option.some.inj hz
    exact hp
  · intro h
    rcases (good_fam hg hx).par with ⟨_, hp⟩ | ⟨q', y', hy', hp, _, hm⟩
    · omega
    · have : q' = q := by omega
      subst this
      rw [hy] at hy'
      obtain rfl := Option.some.inj hy'
      exact hm

theorem part_old {L : List Nd} (hg : goodD L = true) {n i : Nat} {x y : Nd} (hx : L[n]? = some x) (hi : i < n) (hy : L[i]? = some y) :
    (partF L n)[i]? = some (cutK n y) ∧ (partF L (n + 1))[i]? = some { cutK n y with kids := (cutK n y).kids ++ (if x.parent = (i : Int) then [(n : Int)] else []) } := by
  rw [partF_get hi, partF_get (by omega), hy]
  refine ⟨rfl, ?_⟩
  show some (cutK (n + 1) y) = _
  unfold cutK
  simp only
  rw [filter_succ (rise_kids hg hy)]
  simp only [kid_iff hg hy hx]

theorem part_end {L : List Nd} (hg : goodD L = true) : partF L L.length = L := by
  unfold partF
  rw [List.take_length]
  conv => rhs; rw [← List.map_id L]
  apply List.map_congr_left
  intro y hy
  obtain ⟨i, hi⟩ := List.mem_iff_getElem?.1 hy
  unfold cutK
  have : (y.kids.filter fun u => decide (u < (L.length : Int))) = y.kids := by
    rw [List.filter_eq_self]
    intro u hu
    obtain ⟨k, _, rfl, _, h, _⟩ := (good_fam hg hi).kids u hu
    simp; omega
  rw [this]
  rfl
end Go.Proofs.Ytlchbhlmbphkpaa

/- A bench of nodes, as plain data: what is put in and taken out, and the tree that grows of it. No condition. -/
namespace Go.Proofs.Ytlchbhlmbphkpaa
open Go.RowKit
set_option maxRecDepth 100000

theorem mod_ne {l : List Nd} {n k : Nat} (f : Nd → Nd) (h : n ≠ k) : (l.modify n f)[k]? = l[k]? := by simp [h]
theorem mod_eq {l : List Nd} {n : Nat} (f : Nd → Nd) : (l.modify n f)[n]? = (l[n]?).map f := by simp

/-- A change. -/
structure Opn where
  kind : Int
  target : Int
  content : List Tr
  name : ByteArray
  s : ByteArray

/-- What is said of a node: its name, its attributes; what is put in as its first and last kids, ahead of it, behind it; whether it is gone; its value. -/
structure Sg where
  nm : Option ByteArray
  attrs : List (ByteArray × ByteArray)
  first : List Tr
  last : List Tr
  bef : List Tr
  aft : List Tr
  gone : Bool
  val : Option ByteArray

def newK (l : List Tr) : List (Nat ⊕ Tr) := l.map Sum.inr
def midK (g : Sg) (k : Nat) : List (Nat ⊕ Tr) := if g.gone then [] else [Sum.inl k]
/-- What stands in the place of a node. -/
def placeK (g : Sg) (k : Nat) : List (Nat ⊕ Tr) := newK g.bef ++ (midK g k ++ newK g.aft)
def kidsK (σ : Nat → Sg) (n : Nat) (kids : List Int) : List (Nat ⊕ Tr) := newK (σ n).first ++ (kids.flatMap (fun u => placeK (σ u.toNat) u.toNat) ++ newK (σ n).last)
def valT (s : ByteArray) : Tr := ⟨true, s, [], []⟩
/-- A node's kids. -/
def allK (σ : Nat → Sg) (n : Nat) (x : Nd) : List (Nat ⊕ Tr) := if x.text then kidsK σ n x.kids else match (σ n).val with
  | some s => [Sum.inr (valT s)]
  | none => kidsK σ n x.kids
def sK (σ : Nat → Sg) (n : Nat) (x : Nd) : ByteArray := if x.text then (σ n).val.getD x.s else (σ n).nm.getD x.s

/-- Whom a number among the kids means: a node of the document, or a tree that was put in. -/
def KidIs (N : Nat) (ns : List Nd) (u : Int) : Nat ⊕ Tr → Prop
  | .inl k => u = (k : Int) ∧ k < N
  | .inr t => ∃ (m d : Nat) (par : Int), u = (m : Int) ∧ N ≤ m ∧ Deep d t.kids ∧ Seg ns m (layF d t par m)

def KidsR (N : Nat) (ns : List Nd) : List Int → List (Nat ⊕ Tr) → Prop
  | [], [] => True
  | u :: l, e :: m => KidIs N ns u e ∧ KidsR N ns l m
  | _, _ => False

theorem KidsR.len {N : Nat} {ns : List Nd} : ∀ {l : List Int} {m : List (Nat ⊕ Tr)}, KidsR N ns l m → l.length = m.length := by
  intro l
  induction l with
  | nil => intro m h; cases m with | nil => rfl | cons e m => exact h.elim
  | cons u l ih => intro m h; cases m with | nil => exact h.elim | cons e m => rw [List.length_cons, List.length_cons, ih h.2]

theorem KidsR.append {N : Nat} {ns : List Nd} : ∀ {l l' : List Int} {m m' : List (Nat ⊕ Tr)}, KidsR N ns l m → KidsR N ns l' m' → KidsR N ns (l ++ l') (m ++ m') := by
  intro l
  induction l with
  | nil => intro l' m m' h h'; cases m with | nil => exact h' | cons e m => exact h.elim
  | cons u l ih => intro l' m m' h h'; cases m with | nil => exact h.elim | cons e m => exact ⟨h.1, ih h.2 h'⟩

theorem KidsR.split {N : Nat} {ns : List Nd} : ∀ {m m' : List (Nat ⊕ Tr)} {l : List Int}, KidsR N ns l (m ++ m') → KidsR N ns (l.take m.length) m ∧ KidsR N ns (l.drop m.length) m' := by
  intro m
  induction m with
  | nil => intro m' l h; exact ⟨by simp [KidsR], by simpa using h⟩
  | cons e m ih =>
    intro m' l h
    cases l with
    | nil => exact h.elim
    | cons u l =>
      obtain ⟨h1, h2⟩ := ih h.2
      exact ⟨⟨h.1, h1⟩, h2⟩

theorem Seg.grow {ns L : List Nd} {a : Nat} (h : Seg ns a L) (X : List Nd) : Seg (ns ++ X) a L := by
  intro i x hx
  have h1 := h i x hx
  rw [List.getElem?_append_left (lt_of_some h1)]
  exact h1

theorem Seg.mod {ns L : List Nd} {a n : Nat} (h : Seg ns a L) (hn : n < a) (f : Nd → Nd) : Seg (ns.modify n f) a L := by
  intro i x hx
  rw [mod_ne f (by omega)]
  exact h i x hx

theorem KidIs.keep {N : Nat} {ns ns' : List Nd} (hk : ∀ a L, N ≤ a → Seg ns a L → Seg ns' a L) {u : Int} {e : Nat ⊕ Tr} (h : KidIs N ns u e) : KidIs N ns' u e := by
  cases e with
  | inl k => exact h
  | inr t => obtain ⟨m, d, par, h1, h2, h3, h4⟩ := h; exact ⟨m, d, par, h1, h2, h3, hk m _ h2 h4⟩

theorem KidsR.keep {N : Nat} {ns ns' : List Nd} (hk : ∀ a L, N ≤ a → Seg ns a L → Seg ns' a L) : ∀ {l : List Int} {m : List (Nat ⊕ Tr)}, KidsR N ns l m → KidsR N ns' l m := by
  intro l
  induction l with
  | nil => intro m h; cases m with | nil => trivial | cons e m => exact h.elim
  | cons u l ih => intro m h; cases m with | nil => exact h.elim | cons e m => exact ⟨h.1.keep hk, ih h.2⟩

/-- The numbers of trees that were laid. -/
theorem KidsR.laid {N : Nat} {ns : List Nd} {d p : Nat} : ∀ (l : List Tr) (a : Nat), N ≤ a → (∀ k ∈ l, Deep d k.kids) → Seg ns a (laysOf d (layF d) p a l) → KidsR N ns (startsOf d a l) (newK l) := by
  intro l
  induction l with
  | nil => intro a _ _ _; trivial
  | cons k l ih =>
    intro a ha hd hs
    rw [laysOf] at hs
    have hk := hd k List.mem_cons_self
    have hr := hs.right
    rw [layF_length d k p a hk] at hr
    exact ⟨⟨a, d, p, rfl, ha, hk, hs.left⟩, ih _ (by omega) (fun u hu => hd u (List.mem_cons_of_mem _ hu)) hr⟩

/-- The bench: the document's nodes as they are said to be, and behind them what was put in. -/
structure Bch (ns0 : List Nd) (σ : Nat → Sg) (ns : List Nd) : Prop where
  len : ns0.length ≤ ns.length
  each : ∀ (n : Nat) (x : Nd), ns0[n]? = some x → ∃ y, ns[n]? = some y ∧ y.text = x.text ∧ y.s = sK σ n x ∧ y.attrs = (σ n).attrs ∧ y.parent = x.parent ∧ KidsR ns0.length ns y.kids (allK σ n x)

def sg0 (x : Nd) : Sg := ⟨none, x.attrs, [], [], [], [], false, none⟩
def sig0 (ns : List Nd) (n : Nat) : Sg := match ns[n]? with
  | some x => sg0 x
  | none => ⟨none, [], [], [], [], [], false, none⟩

theorem Bch.start {ns : List Nd} (hg : goodD ns = true) : Bch ns (sig0 ns) ns := by
  refine ⟨Nat.le_refl _, fun n x hx => ⟨x, hx, rfl, ?_, ?_, rfl, ?_⟩⟩
  · unfold sK sig0; rw [hx]; cases x.text <;> rfl
  · unfold sig0; rw [hx]; rfl
  · have hf := good_fam hg hx
    have hs : sig0 ns n = sg0 x := by unfold sig0; rw [hx]
    have hall : allK (sig0 ns) n x = kidsK (sig0 ns) n x.kids := by
      unfold allK
      rw [hs]
      cases x.text <;> rfl
    rw [hall]
    unfold kidsK
    rw [hs]
    show KidsR _ _ _ ([] ++ (_ ++ []))
    rw [List.nil_append, List.append_nil]
    have : ∀ l : List Int, (∀ u ∈ l, ∃ k : Nat, u = (k : Int) ∧ k < ns.length) → KidsR ns.length ns l (l.flatMap fun u => placeK (sig0 ns u.toNat) u.toNat) := by
      intro l
      induction l with
      | nil => intro _; trivial
      | cons u l ih =>
        intro h
        obtain ⟨k, rfl, hk⟩ := h u List.mem_cons_self
        have hk2 : sig0 ns (k : Int).toNat = sg0 (ns[k]) := by unfold sig0; simp [hk]
        rw [List.flatMap_cons, hk2]
        exact ⟨⟨rfl, hk⟩, ih (fun v hv => h v (List.mem_cons_of_mem _ hv))⟩
    exact this x.kids (fun u hu => by obtain ⟨k, _, h1, _, h3, _⟩ := hf.kids u hu; exact ⟨k, h1, h3⟩)

/-- One node of the document is changed, in its name and attributes alone. -/
theorem Bch.mod {ns0 ns : List Nd} {σ σ' : Nat → Sg} (h : Bch ns0 σ ns) {n : Nat} {x : Nd} (hx : ns0[n]? = some x) (f : Nd → Nd) (hσ : ∀ k y, ns0[k]? = some y → k ≠ n → sK σ' k y = sK σ k y ∧ (σ' k).attrs = (σ k).attrs) (hall : ∀ k y, ns0[k]? = some y → allK σ' k y = allK σ k y)
    (hf : ∀ y : Nd, y.text = x.text → y.s = sK σ n x → y.attrs = (σ n).attrs → (f y).text = y.text ∧ (f y).s = sK σ' n x ∧ (f y).attrs = (σ' n).attrs ∧ (f y).parent = y.parent ∧ (f y).kids = y.kids) : Bch ns0 σ' (ns.modify n f) := by
  have hn := lt_of_some hx
  have hk : ∀ a L, ns0.length ≤ a → Seg ns a L → Seg (ns.modify n f) a L := fun a L ha hs => hs.mod (by omega) f
  refine ⟨by rw [List.length_modify]; exact h.len, fun k z hz => ?_⟩
  obtain ⟨y, h1, h2, h3, h4, h5, h6⟩ := h.each k z hz
  by_cases hkn : k = n
  · subst hkn
    rw [hx] at hz
    obtain rfl := Option.some.inj hz
    obtain ⟨g1, g2, g3, g4, g5⟩ := hf y h2 h3 h4
    refine ⟨f y, by rw [mod_eq, h1]; rfl, by rw [g1, h2], g2, g3, by rw [g4, h5], ?_⟩
    rw [g5, hall k x hx]
    exact h6.keep hk
  · obtain ⟨e1, e2⟩ := hσ k z hz hkn
    refine ⟨y, by rw [mod_ne _ (fun e => hkn e.symm)]; exact h1, h2, by rw [e1]; exact h3, by rw [e2]; exact h4, h5, ?_⟩
    rw [hall k z hz]
    exact h6.keep hk

/-- Trees are put into the kids of a node. -/
def putF (d : Nat) (ns : List Nd) (p at' : Nat) (l : List Tr) : List Nd :=
  (ns ++ laysOf d (layF d) p ns.length l).modify p (fun y => { y with kids := y.kids.take at' ++ (startsOf d ns.length l ++ y.kids.drop at') })

theorem Bch.put {ns0 ns : List Nd} {σ σ' : Nat → Sg} (h : Bch ns0 σ ns) {p : Nat} {x : Nd} (hx : ns0[p]? = some x) {d : Nat} {l : List Tr} (hd : ∀ k ∈ l, Deep d k.kids) {at' : Nat} {E F : List (Nat ⊕ Tr)}
    (h0 : allK σ p x = E ++ F) (h1 : allK σ' p x = E ++ (newK l ++ F)) (hE : at' = E.length) (hall : ∀ k y, ns0[k]? = some y → k ≠ p → allK σ' k y = allK σ k y) (hσ : ∀ k y, ns0[k]? = some y → sK σ' k y = sK σ k y ∧ (σ' k).attrs = (σ k).attrs) : Bch ns0 σ' (putF d ns p at' l) := by
  have hn := lt_of_some hx
  have hl := h.len
  have hk : ∀ a L, ns0.length ≤ a → Seg ns a L → Seg (putF d ns p at' l) a L := fun a L ha hs => (hs.grow _).mod (by omega) _
  refine ⟨by unfold putF; rw [List.length_modify, List.length_append]; omega, fun k z hz => ?_⟩
  obtain ⟨y, g1, g2, g3, g4, g5, g6⟩ := h.each k z hz
  obtain ⟨e1, e2⟩ := hσ k z hz
  have hkl : k < ns.length := lt_of_some g1
  by_cases hkp : k = p
  · subst hkp
    rw [hx] at hz
    obtain rfl := Option.some.inj hz
    refine ⟨{ y with kids := y.kids.take at' ++ (startsOf d ns.length l ++ y.kids.drop at') }, ?_, g2, by rw [e1]; exact g3, by rw [e2]; exact g4, g5, ?_⟩
    · unfold putF; rw [mod_eq, List.getElem?_append_left hkl, g1]; rfl
    · rw [h1]
      rw [h0] at g6
      obtain ⟨s1, s2⟩ := g6.split
      rw [← hE] at s1 s2
      refine (s1.keep hk).append (KidsR.append ?_ (s2.keep hk))
      refine KidsR.laid (p := k) l ns.length hl hd ?_
      refine Seg.mod ?_ (by omega) _
      intro i z hz
      rw [List.getElem?_append_right (by omega), show ns.length + i - ns.length = i by omega]
      exact hz
  · refine ⟨y, ?_, g2, by rw [e1]; exact g3, by rw [e2]; exact g4, g5, ?_⟩
    · unfold putF; rw [mod_ne _ (fun e => hkp e.symm), List.getElem?_append_left hkl]; exact g1
    · rw [hall k z hz hkp]; exact g6.keep hk

/-- A node is taken out of the kids of another. -/
def outF (ns : List Nd) (p at' : Nat) : List Nd := ns.modify p (fun y => { y with kids := y.kids.take at' ++ y.kids.drop (at' + 1) })

theorem Bch.out {ns0 ns : List Nd} {σ σ' : Nat → Sg} (h : Bch ns0 σ ns) {p : Nat} {x : Nd} (hx : ns0[p]? = some x) {at' : Nat} {e : Nat ⊕ Tr} {E F : List (Nat ⊕ Tr)}
    (h0 : allK σ p x = E ++ (e :: F)) (h1 : allK σ' p x = E ++ F) (hE : at' = E.length) (hall : ∀ k y, ns0[k]? = some y → k ≠ p → allK σ' k y = allK σ k y) (hσ : ∀ k y, ns0[k]? = some y → sK σ' k y = sK σ k y ∧ (σ' k).attrs = (σ k).attrs) : Bch ns0 σ' (outF ns p at') := by
  have hn := lt_of_some hx
  have hk : ∀ a L, ns0.length ≤ a → Seg ns a L → Seg (outF ns p at') a L := fun a L ha hs => hs.mod (by omega) _
  refine ⟨by unfold outF; rw [List.length_modify]; exact h.len, fun k z hz => ?_⟩
  obtain ⟨y, g1, g2, g3, g4, g5, g6⟩ := h.each k z hz
  obtain ⟨e1, e2⟩ := hσ k z hz
  by_cases hkp : k = p
  · subst hkp
    rw [hx] at hz
    obtain rfl := Option.some.inj hz
    refine ⟨{ y with kids := y.kids.take at' ++ y.kids.drop (at' + 1) }, ?_, g2, by rw [e1]; exact g3, by rw [e2]; exact g4, g5, ?_⟩
    · unfold outF; rw [mod_eq, g1]; rfl
    · rw [h1]
      rw [h0] at g6
      obtain ⟨s1, s2⟩ := g6.split
      rw [← hE] at s1 s2
      refine (s1.keep hk).append ?_
      cases hq : y.kids.drop at' with
      | nil => rw [hq] at s2; exact s2.elim
      | cons u r =>
        rw [hq] at s2
        rw [← List.drop_drop, hq, List.drop_succ_cons, List.drop_zero]
        exact s2.2.keep hk
  · refine ⟨y, ?_, g2, by rw [e1]; exact g3, by rw [e2]; exact g4, g5, ?_⟩
    · unfold outF; rw [mod_ne _ (fun e => hkp e.symm)]; exact g1
    · rw [hall k z hz hkp]; exact g6.keep hk

/-- An element is given a value: its kids are one text. -/
def valF (ns : List Nd) (n : Nat) (s : ByteArray) : List Nd := (ns ++ [(⟨true, s, [], (n : Int), []⟩ : Nd)]).modify n (fun y => { y with kids := [(ns.length : Int)] })

theorem Bch.val {ns0 ns : List Nd} {σ σ' : Nat → Sg} (h : Bch ns0 σ ns) {n : Nat} {x : Nd} (hx : ns0[n]? = some x) {s : ByteArray} (h1 : allK σ' n x = [Sum.inr (valT s)]) (hall : ∀ k y, ns0[k]? = some y → k ≠ n → allK σ' k y = allK σ k y) (hσ : ∀ k y, ns0[k]? = some y → sK σ' k y = sK σ k y ∧ (σ' k).attrs = (σ k).attrs) : Bch ns0 σ' (valF ns n s) := by
  have hn := lt_of_some hx
  have hl := h.len
  have hk : ∀ a L, ns0.length ≤ a → Seg ns a L → Seg (valF ns n s) a L := fun a L ha hs => (hs.grow _).mod (by omega) _
  refine ⟨by unfold valF; rw [List.length_modify, List.length_append]; omega, fun k z hz => ?_⟩
  obtain ⟨y, g1, g2, g3, g4, g5, g6⟩ := h.each k z hz
  obtain ⟨e1, e2⟩ := hσ k z hz
  have hkl : k < ns.length := lt_of_some g1
  by_cases hkp : k = n
  · subst hkp
    rw [hx] at hz
    obtain rfl := Option.some.inj hz
    refine ⟨{ y with kids := [(ns.length : Int)] }, ?_, g2, by rw [e1]; exact g3, by rw [e2]; exact g4, g5, ?_⟩
    · unfold valF; rw [mod_eq, List.getElem?_append_left hkl, g1]; rfl
    · rw [h1]
      refine ⟨⟨ns.length, 0, (k : Int), rfl, hl, rfl, ?_⟩, trivial⟩
      refine Seg.mod ?_ (by omega) _
      intro i z hz
      rw [List.getElem?_append_right (by omega), show ns.length + i - ns.length = i by omega]
      exact hz
  · refine ⟨y, ?_, g2, by rw [e1]; exact g3, by rw [e2]; exact g4, g5, ?_⟩
    · unfold valF; rw [mod_ne _ (fun e => hkp e.symm), List.getElem?_append_left hkl]; exact g1
    · rw [hall k z hz hkp]; exact g6.keep hk

/-- The tree at a node, as it is said. -/
def bodyF : Nat → List Nd → (Nat → Sg) → Nat → Tr
  | 0, _, _, _ => ⟨false, ⟨#[]⟩, [], []⟩
  | f + 1, ns0, σ, n => match ns0[n]? with
    | none => ⟨false, ⟨#[]⟩, [], []⟩
    | some x => ⟨x.text, sK σ n x, (σ n).attrs, (allK σ n x).map (Sum.elim (fun k => bodyF f ns0 σ k) id)⟩

theorem allK_old {ns0 : List Nd} (hg : goodD ns0 = true) {σ : Nat → Sg} {n k : Nat} {x : Nd} (hx : ns0[n]? = some x) (hk : Sum.inl k ∈ allK σ n x) : n < k ∧ k < ns0.length := by
  have hin : Sum.inl k ∈ kidsK σ n x.kids := by
    unfold allK at hk
    split at hk
    · exact hk
    · split at hk
      · simp at hk
      · exact hk
  unfold kidsK newK at hin
  simp only [List.mem_append, List.mem_map, List.mem_flatMap] at hin
  rcases hin with ⟨_, _, h⟩ | ⟨u, hu, h⟩ | ⟨_, _, h⟩
  · cases h
  · obtain ⟨j, y, rfl, h1, h2, _⟩ := (good_fam hg hx).kids u hu
    unfold placeK newK midK at h
    simp only [List.mem_append, List.mem_map] at h
    rcases h with ⟨_, _, h⟩ | h | ⟨_, _, h⟩
    · cases h
    · split at h
      · simp at h
      · simp at h
        subst h
        exact ⟨h1, h2⟩
    · cases h
  · cases h

/-- What grows on the bench is what is said. -/
theorem grow_bench {ns0 ns : List Nd} {σ : Nat → Sg} (hg : goodD ns0 = true) (h : Bch ns0 σ ns) : ∀ (f F n : Nat), n < ns0.length → ns0.length ≤ n + f → ns.length ≤ n + F → growF F ns n = bodyF f ns0 σ n := by
  intro f
  induction f with
  | zero => intro F n h1 h2; omega
  | succ f ih =>
    intro F n hn hf hF
    have hl := h.len
    obtain ⟨F, rfl⟩ : ∃ F', F = F' + 1 := ⟨F - 1, by omega⟩
    obtain ⟨x, hx⟩ : ∃ x, ns0[n]? = some x := ⟨ns0[n], by simp [hn]⟩
    obtain ⟨y, g1, g2, g3, g4, g5, g6⟩ := h.each n x hx
    rw [growF, g1, bodyF, hx]
    simp only
    rw [g2, g3, g4]
    congr 1
    have hall := fun k => allK_old (k := k) hg (σ := σ) hx
    have key : ∀ (l : List Int) (m : List (Nat ⊕ Tr)), KidsR ns0.length ns l m → (∀ k, Sum.inl k ∈ m → n < k ∧ k < ns0.length) → (l.map fun k => growF F ns k.toNat) = m.map (Sum.elim (fun k => bodyF f ns0 σ k) id) := by
      intro l
      induction l with
      | nil => intro m hr _; cases m with | nil => rfl | cons e m => exact hr.elim
      | cons u l ihl =>
        intro m hr hm
        cases m with
        | nil => exact hr.elim
        | cons e m =>
          rw [List.map_cons, List.map_cons, ihl m hr.2 (fun k hk => hm k (List.mem_cons_of_mem _ hk))]
          congr 1
          cases e with
          | inl k =>
            obtain ⟨rfl, hk⟩ := hr.1
            have h1 := hm k List.mem_cons_self
            exact ih F k hk (by omega) (by omega)
          | inr t =>
            obtain ⟨m', d, par, rfl, h1, h2, h3⟩ := hr.1
            refine grow_lay d t F ns par m' h2 h3 ?_
            have h4 := layF_length d t par m' h2
            have h5 : 0 < cnt (d + 1) [t] := by rw [cnt_one]; omega
            obtain ⟨z, hz⟩ : ∃ z, (layF d t par m')[cnt (d + 1) [t] - 1]? = some z := ⟨(layF d t par m')[cnt (d + 1) [t] - 1]'(by omega), by simp⟩
            have h6 := lt_of_some (h3 _ z hz)
            omega
    exact key y.kids _ g6 hall
end Go.Proofs.Ytlchbhlmbphkpaa

/- Each kind of change on the bench, as plain data. No condition. -/
namespace Go.Proofs.Ytlchbhlmbphkpaa
open Go.RowKit
set_option maxRecDepth 100000

def upd (σ : Nat → Sg) (n : Nat) (g : Sg → Sg) : Nat → Sg := fun k => if k = n then g (σ k) else σ k

theorem upd_at (σ : Nat → Sg) (n : Nat) (g : Sg → Sg) : upd σ n g n = g (σ n) := by simp [upd]
theorem upd_ne {σ : Nat → Sg} {n k : Nat} (g : Sg → Sg) (h : k ≠ n) : upd σ n g k = σ k := by simp [upd, h]

def putA (l : List (ByteArray × ByteArray)) (name v : ByteArray) : List (ByteArray × ByteArray) :=
  l.filter (fun a => Op.bytesLess a.1.toList name.toList) ++ (name, v) :: l.filter (fun a => Op.bytesLess name.toList a.1.toList)
def cutA (l : List (ByteArray × ByteArray)) (name : ByteArray) : List (ByteArray × ByteArray) :=
  l.filter (fun a => Op.bytesLess a.1.toList name.toList) ++ l.filter (fun a => Op.bytesLess name.toList a.1.toList)

def gRen (o : Opn) (g : Sg) : Sg := { g with nm := some o.name }
def gSet (o : Opn) (g : Sg) : Sg := { g with attrs := putA g.attrs o.name o.s }
def gDrop (o : Opn) (g : Sg) : Sg := { g with attrs := cutA g.attrs o.name }
def gBef (o : Opn) (g : Sg) : Sg := { g with bef := g.bef ++ o.content }
def gLast (o : Opn) (g : Sg) : Sg := { g with last := g.last ++ o.content }
def gFirst (o : Opn) (g : Sg) : Sg := { g with first := o.content ++ g.first }
def gAft (o : Opn) (g : Sg) : Sg := { g with aft := o.content ++ g.aft }
def gGone (g : Sg) : Sg := { g with gone := true }
def gRep (o : Opn) (g : Sg) : Sg := gGone (gBef o g)
def gVal (o : Opn) (g : Sg) : Sg := { g with val := some o.s }

/-- What the kids of a node are depends on what is said of it, and of them. -/
theorem kidsK_eq {σ τ : Nat → Sg} {n : Nat} {l : List Int} (h1 : (τ n).first = (σ n).first) (h2 : (τ n).last = (σ n).last) (h3 : ∀ u ∈ l, placeK (τ u.toNat) u.toNat = placeK (σ u.toNat) u.toNat) : kidsK τ n l = kidsK σ n l := by
  unfold kidsK
  rw [h1, h2]
  congr 2
  induction l with
  | nil => rfl
  | cons u l ih =>
    rw [List.flatMap_cons, List.flatMap_cons, h3 u List.mem_cons_self, ih (fun v hv => h3 v (List.mem_cons_of_mem _ hv))]

theorem allK_eq {σ τ : Nat → Sg} {n : Nat} {x : Nd} (h1 : (τ n).first = (σ n).first) (h2 : (τ n).last = (σ n).last) (h3 : ∀ u ∈ x.kids, placeK (τ u.toNat) u.toNat = placeK (σ u.toNat) u.toNat) (h4 : (τ n).val = (σ n).val) : allK τ n x = allK σ n x := by
  unfold allK
  rw [kidsK_eq h1 h2 h3, h4]

theorem sK_eq {σ τ : Nat → Sg} {n : Nat} {x : Nd} (h1 : (τ n).nm = (σ n).nm) (h2 : (τ n).val = (σ n).val) : sK τ n x = sK σ n x := by unfold sK; rw [h1, h2]

theorem Bch.ren {ns0 ns : List Nd} {σ : Nat → Sg} (h : Bch ns0 σ ns) {n : Nat} {x : Nd} (hx : ns0[n]? = some x) (ht : x.text = false) (o : Opn) : Bch ns0 (upd σ n (gRen o)) (ns.modify n fun y => { y with s := o.name }) := by
  refine h.mod hx _ (fun k y _ hk => ⟨by unfold sK; rw [upd_ne _ hk], by rw [upd_ne _ hk]⟩) (fun k y _ => ?_) (fun y _ _ h4 => ⟨rfl, ?_, by rw [upd_at]; exact h4, rfl, rfl⟩)
  · refine allK_eq ?_ ?_ (fun u _ => ?_) ?_
    · unfold upd; split <;> rfl
    · unfold upd; split <;> rfl
    · unfold upd; split <;> rfl
    · unfold upd; split <;> rfl
  · unfold sK; rw [ht, upd_at]; rfl

theorem Bch.attr {ns0 ns : List Nd} {σ : Nat → Sg} (h : Bch ns0 σ ns) {n : Nat} {x : Nd} (hx : ns0[n]? = some x) (f : List (ByteArray × ByteArray) → List (ByteArray × ByteArray)) : Bch ns0 (upd σ n fun g => { g with attrs := f g.attrs }) (ns.modify n fun y => { y with attrs := f y.attrs }) := by
  refine h.mod hx _ (fun k y _ hk => ⟨by unfold sK; rw [upd_ne _ hk], by rw [upd_ne _ hk]⟩) (fun k y _ => ?_) (fun y _ h3 h4 => ⟨rfl, ?_, by rw [upd_at, ← h4], rfl, rfl⟩)
  · refine allK_eq ?_ ?_ (fun u _ => ?_) ?_
    · unfold upd; split <;> rfl
    · unfold upd; split <;> rfl
    · unfold upd; split <;> rfl
    · unfold upd; split <;> rfl
  · rw [h3]; unfold sK; rw [upd_at]

theorem Bch.first {ns0 ns : List Nd} {σ : Nat → Sg} (h : Bch ns0 σ ns) {n : Nat} {x : Nd} (hx : ns0[n]? = some x) (hv : (σ n).val = none) (o : Opn) {d : Nat} (hd : ∀ k ∈ o.content, Deep d k.kids) : Bch ns0 (upd σ n (gFirst o)) (putF d ns n 0 o.content) := by
  have hp : ∀ k, placeK (upd σ n (gFirst o) k) k = placeK (σ k) k := fun k => by unfold upd; split <;> rfl
  have hall : allK σ n x = [] ++ kidsK σ n x.kids := by unfold allK; rw [hv]; cases x.text <;> rfl
  have hall2 : allK (upd σ n (gFirst o)) n x = [] ++ (newK o.content ++ kidsK σ n x.kids) := by
    have e : allK (upd σ n (gFirst o)) n x = kidsK (upd σ n (gFirst o)) n x.kids := by
      unfold allK
      rw [upd_at]
      show (if x.text = true then _ else match (σ n).val with | some s => _ | none => _) = _
      rw [hv]
      cases x.text <;> rfl
    rw [e]
    unfold kidsK
    rw [upd_at]
    show newK (o.content ++ (σ n).first) ++ (x.kids.flatMap (fun u => placeK (upd σ n (gFirst o) u.toNat) u.toNat) ++ newK (σ n).last) = _
    simp only [hp]
    unfold newK
    rw [List.map_append, List.append_assoc, List.nil_append]
  refine h.put hx hd hall hall2 rfl (fun k y _ hk => allK_eq (by rw [upd_ne _ hk]) (by rw [upd_ne _ hk]) (fun u _ => hp _) (by rw [upd_ne _ hk])) (fun k y _ => ⟨sK_eq ?_ ?_, ?_⟩)
  · unfold upd; split <;> rfl
  · unfold upd; split <;> rfl
  · unfold upd; split <;> rfl

theorem Bch.last {ns0 ns : List Nd} {σ : Nat → Sg} (h : Bch ns0 σ ns) {n : Nat} {x y : Nd} (hx : ns0[n]? = some x) (hy : ns[n]? = some y) (hv : (σ n).val = none) (o : Opn) {d : Nat} (hd : ∀ k ∈ o.content, Deep d k.kids) : Bch ns0 (upd σ n (gLast o)) (putF d ns n y.kids.length o.content) := by
  have hp : ∀ k, placeK (upd σ n (gLast o) k) k = placeK (σ k) k := fun k => by unfold upd; split <;> rfl
  have hall : allK σ n x = kidsK σ n x.kids ++ [] := by unfold allK; rw [hv, List.append_nil]; cases x.text <;> rfl
  have hall2 : allK (upd σ n (gLast o)) n x = kidsK σ n x.kids ++ (newK o.content ++ []) := by
    have e : allK (upd σ n (gLast o)) n x = kidsK (upd σ n (gLast o)) n x.kids := by
      unfold allK
      rw [upd_at]
      show (if x.text = true then _ else match (σ n).val with | some s => _ | none => _) = _
      rw [hv]
      cases x.text <;> rfl
    rw [e]
    unfold kidsK
    rw [upd_at]
    show newK (σ n).first ++ (x.kids.flatMap (fun u => placeK (upd σ n (gLast o) u.toNat) u.toNat) ++ newK ((σ n).last ++ o.content)) = _
    simp only [hp]
    unfold newK
    rw [List.map_append, List.append_nil, List.append_assoc, List.append_assoc]
  refine h.put hx hd hall hall2 ?_ (fun k y _ hk => allK_eq (by rw [upd_ne _ hk]) (by rw [upd_ne _ hk]) (fun u _ => hp _) (by rw [upd_ne _ hk])) (fun k y _ => ⟨sK_eq ?_ ?_, ?_⟩)
  · obtain ⟨y', g1, _, _, _, _, g6⟩ := h.each n x hx
    rw [hy] at g1
    obtain rfl := Option.some.inj g1
    rw [g6.len, hall, List.append_nil]
  · unfold upd; split <;> rfl
  · unfold upd; split <;> rfl
  · unfold upd; split <;> rfl

/-- Where a node stands among the kids of its parent, on the bench. -/
structure Stands (ns0 : List Nd) (σ : Nat → Sg) (n p : Nat) (x : Nd) (A C : List Int) : Prop where
  par : ns0[p]? = some x
  kids : x.kids = A ++ (n : Int) :: C
  ahead : ∀ u ∈ A, u.toNat ≠ n
  behind : ∀ u ∈ C, u.toNat ≠ n
  none : (σ p).val = none
  other : ∀ k y, ns0[k]? = some y → k ≠ p → ∀ u ∈ y.kids, u.toNat ≠ n
  ne : p ≠ n

def fmK (σ : Nat → Sg) (l : List Int) : List (Nat ⊕ Tr) := l.flatMap fun u => placeK (σ u.toNat) u.toNat

theorem fmK_eq {σ : Nat → Sg} {n : Nat} (g : Sg → Sg) {l : List Int} (h : ∀ u ∈ l, u.toNat ≠ n) : fmK (upd σ n g) l = fmK σ l := by
  unfold fmK
  induction l with
  | nil => rfl
  | cons u l ih => rw [List.flatMap_cons, List.flatMap_cons, upd_ne g (h u List.mem_cons_self), ih (fun v hv => h v (List.mem_cons_of_mem _ hv))]

theorem Stands.all {ns0 : List Nd} {σ : Nat → Sg} {n p : Nat} {x : Nd} {A C : List Int} (h : Stands ns0 σ n p x A C) (g : Sg → Sg) : allK (upd σ n g) p x = newK (σ p).first ++ (fmK σ A ++ (placeK (g (σ n)) n ++ (fmK σ C ++ newK (σ p).last))) := by
  have hpn := h.ne
  have e : allK (upd σ n g) p x = kidsK (upd σ n g) p x.kids := by
    unfold allK
    rw [upd_ne g hpn, h.none]
    cases x.text <;> rfl
  rw [e]
  unfold kidsK
  rw [upd_ne g hpn, h.kids]
  have e2 : (A ++ (n : Int) :: C).flatMap (fun u => placeK (upd σ n g u.toNat) u.toNat) = fmK σ A ++ (placeK (g (σ n)) n ++ fmK σ C) := by
    rw [List.flatMap_append, List.flatMap_cons]
    show fmK (upd σ n g) A ++ (placeK (upd σ n g (n : Int).toNat) (n : Int).toNat ++ fmK (upd σ n g) C) = _
    rw [fmK_eq g h.ahead, fmK_eq g h.behind, Int.toNat_natCast, upd_at]
  rw [e2]
  simp only [List.append_assoc]

theorem Stands.self {ns0 : List Nd} {σ : Nat → Sg} {n p : Nat} {x : Nd} {A C : List Int} (h : Stands ns0 σ n p x A C) : allK σ p x = newK (σ p).first ++ (fmK σ A ++ (placeK (σ n) n ++ (fmK σ C ++ newK (σ p).last))) := by
  have := h.all id
  have e : upd σ n id = σ := by funext k; unfold upd; split <;> rfl
  rw [e] at this
  exact this

/-- A change of what stands in the place of a node alone leaves all else. -/
theorem Stands.rest {ns0 : List Nd} {σ : Nat → Sg} {n p : Nat} {x : Nd} {A C : List Int} (h : Stands ns0 σ n p x A C) {g : Sg → Sg} (g1 : ∀ s, (g s).first = s.first) (g2 : ∀ s, (g s).last = s.last) (g3 : ∀ s, (g s).val = s.val) (g4 : ∀ s, (g s).nm = s.nm) (g5 : ∀ s, (g s).attrs = s.attrs) :
    (∀ k y, ns0[k]? = some y → k ≠ p → allK (upd σ n g) k y = allK σ k y) ∧ (∀ k y, ns0[k]? = some y → sK (upd σ n g) k y = sK σ k y ∧ (upd σ n g k).attrs = (σ k).attrs) := by
  refine ⟨fun k y hy hk => allK_eq ?_ ?_ (fun u hu => by rw [upd_ne g (h.other k y hy hk u hu)]) ?_, fun k y _ => ⟨sK_eq ?_ ?_, ?_⟩⟩
  · unfold upd; split
    · exact g1 _
    · rfl
  · unfold upd; split
    · exact g2 _
    · rfl
  · unfold upd; split
    · exact g3 _
    · rfl
  · unfold upd; split
    · exact g4 _
    · rfl
  · unfold upd; split
    · exact g3 _
    · rfl
  · unfold upd; split
    · exact g5 _
    · rfl

/-- The kids of the parent ahead of a node. -/
def aheadK (σ : Nat → Sg) (n p : Nat) (A : List Int) : List (Nat ⊕ Tr) := newK (σ p).first ++ (fmK σ A ++ newK (σ n).bef)

theorem Bch.bef {ns0 ns : List Nd} {σ : Nat → Sg} (h : Bch ns0 σ ns) {n p : Nat} {x : Nd} {A C : List Int} (hs : Stands ns0 σ n p x A C) (o : Opn) {d : Nat} (hd : ∀ k ∈ o.content, Deep d k.kids) : Bch ns0 (upd σ n (gBef o)) (putF d ns p (aheadK σ n p A).length o.content) := by
  obtain ⟨r1, r2⟩ := hs.rest (g := gBef o) (fun _ => rfl) (fun _ => rfl) (fun _ => rfl) (fun _ => rfl) (fun _ => rfl)
  refine h.put hs.par hd (E := aheadK σ n p A) (F := midK (σ n) n ++ (newK (σ n).aft ++ (fmK σ C ++ newK (σ p).last))) ?_ ?_ rfl r1 r2
  · rw [hs.self]; unfold aheadK placeK; simp only [List.append_assoc]
  · rw [hs.all]
    show newK (σ p).first ++ (fmK σ A ++ ((newK ((σ n).bef ++ o.content) ++ (midK (σ n) n ++ newK (σ n).aft)) ++ _)) = _
    unfold aheadK newK
    simp only [List.map_append, List.append_assoc]

theorem Bch.aft {ns0 ns : List Nd} {σ : Nat → Sg} (h : Bch ns0 σ ns) {n p : Nat} {x : Nd} {A C : List Int} (hs : Stands ns0 σ n p x A C) (hgo : (σ n).gone = false) (o : Opn) {d : Nat} (hd : ∀ k ∈ o.content, Deep d k.kids) : Bch ns0 (upd σ n (gAft o)) (putF d ns p ((aheadK σ n p A).length + 1) o.content) := by
  obtain ⟨r1, r2⟩ := hs.rest (g := gAft o) (fun _ => rfl) (fun _ => rfl) (fun _ => rfl) (fun _ => rfl) (fun _ => rfl)
  refine h.put hs.par hd (E := aheadK σ n p A ++ [Sum.inl n]) (F := newK (σ n).aft ++ (fmK σ C ++ newK (σ p).last)) ?_ ?_ (by rw [List.length_append]; rfl) r1 r2
  · rw [hs.self]; unfold aheadK placeK midK; rw [hgo]; simp [List.append_assoc]
  · rw [hs.all]
    show newK (σ p).first ++ (fmK σ A ++ ((newK (σ n).bef ++ (midK (σ n) n ++ newK (o.content ++ (σ n).aft))) ++ _)) = _
    unfold aheadK newK midK
    rw [hgo]
    simp [List.append_assoc]

theorem Bch.gone {ns0 ns : List Nd} {σ : Nat → Sg} (h : Bch ns0 σ ns) {n p : Nat} {x : Nd} {A C : List Int} (hs : Stands ns0 σ n p x A C) (hgo : (σ n).gone = false) : Bch ns0 (upd σ n gGone) (outF ns p (aheadK σ n p A).length) := by
  obtain ⟨r1, r2⟩ := hs.rest (g := gGone) (fun _ => rfl) (fun _ => rfl) (fun _ => rfl) (fun _ => rfl) (fun _ => rfl)
  refine h.out hs.par (E := aheadK σ n p A) (e := Sum.inl n) (F := newK (σ n).aft ++ (fmK σ C ++ newK (σ p).last)) ?_ ?_ rfl r1 r2
  · rw [hs.self]; unfold aheadK placeK midK; rw [hgo]; simp [List.append_assoc]
  · rw [hs.all]
    show newK (σ p).first ++ (fmK σ A ++ ((newK (σ n).bef ++ ([] ++ newK (σ n).aft)) ++ _)) = _
    unfold aheadK
    simp [List.append_assoc]

/-- An element is given a value. -/
theorem Bch.valE {ns0 ns : List Nd} {σ : Nat → Sg} (h : Bch ns0 σ ns) {n : Nat} {x : Nd} (hx : ns0[n]? = some x) (ht : x.text = false) (o : Opn) : Bch ns0 (upd σ n (gVal o)) (valF ns n o.s) := by
  have hp : ∀ k, placeK (upd σ n (gVal o) k) k = placeK (σ k) k := fun k => by unfold upd; split <;> rfl
  refine h.val hx (s := o.s) ?_ (fun k y _ hk => allK_eq (by rw [upd_ne _ hk]) (by rw [upd_ne _ hk]) (fun u _ => hp _) (by rw [upd_ne _ hk])) (fun k y hy => ⟨?_, ?_⟩)
  · unfold allK; rw [ht, upd_at]; rfl
  · by_cases hk : k = n
    · subst hk
      rw [hx] at hy
      obtain rfl := Option.some.inj hy
      unfold sK
      rw [ht, upd_at]
      rfl
    · unfold sK; rw [upd_ne _ hk]
  · unfold upd; split <;> rfl

/-- A text is given a value. -/
theorem Bch.valT {ns0 ns : List Nd} {σ : Nat → Sg} (h : Bch ns0 σ ns) {n : Nat} {x : Nd} (hx : ns0[n]? = some x) (ht : x.text = true) (o : Opn) : Bch ns0 (upd σ n (gVal o)) (ns.modify n fun y => { y with s := o.s }) := by
  have hp : ∀ k, placeK (upd σ n (gVal o) k) k = placeK (σ k) k := fun k => by unfold upd; split <;> rfl
  refine h.mod hx _ (fun k y _ hk => ⟨by unfold sK; rw [upd_ne _ hk], by rw [upd_ne _ hk]⟩) (fun k y hy => ?_) (fun y _ _ h4 => ⟨rfl, ?_, by rw [upd_at]; exact h4, rfl, rfl⟩)
  · by_cases hk : k = n
    · subst hk
      rw [hx] at hy
      obtain rfl := Option.some.inj hy
      unfold allK
      rw [ht]
      exact kidsK_eq (by rw [upd_at]; rfl) (by rw [upd_at]; rfl) (fun u _ => hp _)
    · exact allK_eq (by rw [upd_ne _ hk]) (by rw [upd_ne _ hk]) (fun u _ => hp _) (by rw [upd_ne _ hk])
  · unfold sK; rw [ht, upd_at]; rfl
end Go.Proofs.Ytlchbhlmbphkpaa

