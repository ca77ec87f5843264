/- Bundled: OneV Same PutsK. What each says stands ahead of it. -/
import Derived.Test.YtlchbhlmbphkpaaBundle28
import Derived.Test.YtlchbhlmbphkpaaBundle01
import Derived.Deep.RegionWith
import Derived.Deep.LoopGhost
import Derived.Deep.QuietTactic
import Derived.BigQuiet
import Derived.WalkSmall
/- change.Apply with one change that a law builds, and what comes of it as a document. No condition but what every argument has. -/
namespace Go.Proofs.Ytlchbhlmbphkpaa
open Go.ChangeShapes Go.WideShapes Go.ChangeAt Go.RowKit
set_option maxRecDepth 100000

theorem applyV_any {S : Nat → Prop} {vn : Value} {ns : List Nd} (o : Opn) (hc : o.content = []) {w : World} (hD : DocV S w vn ns) (ht : o.name.size ≤ maxLen ∧ o.s.size ≤ maxLen) {A : Nat} (hA : A = w.heap.size) :
    Calls Try.prog 10 #[.agg #[vn], .slice (some ⟨A, 0, none⟩) 1 1] (w.alloc (.cells #[.int .i64 o.kind, .int .i64 o.target, .slice none 0 0, .string o.name, .string o.s] 30)) fun e w' => ∃ a c, e = .returned (.tuple #[.agg #[.slice a (applyD ns [o]).length c], .int .i64 (applyE ns [o])]) ∧ DocV (fun b => b < w'.heap.size) w' (.slice a (applyD ns [o]).length c) (applyD ns [o]) ∧ c ≤ maxLen ∧ Below w.heap.size w w' := by
  subst hA
  refine (applyOne_any S vn ns o hc w hD.nodes hD.few hD.short ht).mono ?_
  rintro e w' ⟨v', rfl, h1, h2, h3, h4⟩
  obtain ⟨a, c, rfl, _, hc'⟩ := h1.shape
  exact ⟨a, c, rfl, ⟨h1, fun b hb => hb, h3, h2⟩, hc', h4⟩

theorem applyRen_any {S : Nat → Prop} {vn : Value} {ns : List Nd} (n : Int) (name : ByteArray) {w : World} (hD : DocV S w vn ns) (ht : name.size ≤ maxLen) {A : Nat} (hA : A = w.heap.size) :
    Calls Try.prog 10 #[.agg #[vn], .slice (some ⟨A, 0, none⟩) 1 1] (w.alloc (.cells #[.int .i64 8, .int .i64 n, .slice none 0 0, .string name, .string ⟨#[]⟩] 30)) fun e w' => ∃ a c, e = .returned (.tuple #[.agg #[.slice a (applyD ns [opRen n name]).length c], .int .i64 (applyE ns [opRen n name])]) ∧ DocV (fun b => b < w'.heap.size) w' (.slice a (applyD ns [opRen n name]).length c) (applyD ns [opRen n name]) ∧ c ≤ maxLen ∧ Below w.heap.size w w' :=
  applyV_any (opRen n name) rfl hD ⟨ht, Nat.zero_le _⟩ hA
theorem applySet_any {S : Nat → Prop} {vn : Value} {ns : List Nd} (n : Int) (name s : ByteArray) {w : World} (hD : DocV S w vn ns) (ht : name.size ≤ maxLen ∧ s.size ≤ maxLen) {A : Nat} (hA : A = w.heap.size) :
    Calls Try.prog 10 #[.agg #[vn], .slice (some ⟨A, 0, none⟩) 1 1] (w.alloc (.cells #[.int .i64 9, .int .i64 n, .slice none 0 0, .string name, .string s] 30)) fun e w' => ∃ a c, e = .returned (.tuple #[.agg #[.slice a (applyD ns [opSet n name s]).length c], .int .i64 (applyE ns [opSet n name s])]) ∧ DocV (fun b => b < w'.heap.size) w' (.slice a (applyD ns [opSet n name s]).length c) (applyD ns [opSet n name s]) ∧ c ≤ maxLen ∧ Below w.heap.size w w' :=
  applyV_any (opSet n name s) rfl hD ht hA
theorem applyDrop_any {S : Nat → Prop} {vn : Value} {ns : List Nd} (n : Int) (name : ByteArray) {w : World} (hD : DocV S w vn ns) (ht : name.size ≤ maxLen) {A : Nat} (hA : A = w.heap.size) :
    Calls Try.prog 10 #[.agg #[vn], .slice (some ⟨A, 0, none⟩) 1 1] (w.alloc (.cells #[.int .i64 10, .int .i64 n, .slice none 0 0, .string name, .string ⟨#[]⟩] 30)) fun e w' => ∃ a c, e = .returned (.tuple #[.agg #[.slice a (applyD ns [opDrop n name]).length c], .int .i64 (applyE ns [opDrop n name])]) ∧ DocV (fun b => b < w'.heap.size) w' (.slice a (applyD ns [opDrop n name]).length c) (applyD ns [opDrop n name]) ∧ c ≤ maxLen ∧ Below w.heap.size w w' :=
  applyV_any (opDrop n name) rfl hD ⟨ht, Nat.zero_le _⟩ hA
theorem applyDel_any {S : Nat → Prop} {vn : Value} {ns : List Nd} (n : Int) {w : World} (hD : DocV S w vn ns) {A : Nat} (hA : A = w.heap.size) :
    Calls Try.prog 10 #[.agg #[vn], .slice (some ⟨A, 0, none⟩) 1 1] (w.alloc (.cells #[.int .i64 5, .int .i64 n, .slice none 0 0, .string ⟨#[]⟩, .string ⟨#[]⟩] 30)) fun e w' => ∃ a c, e = .returned (.tuple #[.agg #[.slice a (applyD ns [opDel n]).length c], .int .i64 (applyE ns [opDel n])]) ∧ DocV (fun b => b < w'.heap.size) w' (.slice a (applyD ns [opDel n]).length c) (applyD ns [opDel n]) ∧ c ≤ maxLen ∧ Below w.heap.size w w' :=
  applyV_any (opDel n) rfl hD ⟨Nat.zero_le _, Nat.zero_le _⟩ hA

/-- change.Apply with one change without content that lies at a block. -/
theorem applyAt_any {T : Nat → Prop} {vn : Value} {ns : List Nd} (o : Opn) (hc : o.content = []) {W : World} {A : Nat} (hh : W.heap[A]? = some (.cells #[.int .i64 o.kind, .int .i64 o.target, .slice none 0 0, .string o.name, .string o.s] 30 (0, 0))) (hN : Nodes T W vn ns) (hT : ∀ b, T b → b < W.heap.size) (hf : ∀ x ∈ ns, x.attrs.length ≤ 4398046511104) (hx : TextsD ns) (ht : o.name.size ≤ maxLen ∧ o.s.size ≤ maxLen) :
    Calls Try.prog 10 #[.agg #[vn], .slice (some ⟨A, 0, none⟩) 1 1] W fun e w' => ∃ a c, e = .returned (.tuple #[.agg #[.slice a (applyD ns [o]).length c], .int .i64 (applyE ns [o])]) ∧ Nodes (fun b => T b ∨ b = A ∨ W.heap.size ≤ b) w' (.slice a (applyD ns [o]).length c) (applyD ns [o]) ∧ c ≤ maxLen ∧ TextsD (applyD ns [o]) ∧ (∀ x ∈ applyD ns [o], x.attrs.length ≤ 4398046511104) ∧ Below W.heap.size W w' := by
  have hto : TextsO 0 [o] := by
    intro x hm
    rw [List.mem_singleton.1 hm]
    exact ⟨trivial, ht⟩
  have hdo : ∀ x ∈ [o], Deep 0 x.content := by
    intro x hm
    rw [List.mem_singleton.1 hm, hc]
    rfl
  have hO : Ops (fun b => T b ∨ b = A) W 0 (.slice (some ⟨A, 0, none⟩) 1 1) [o] := by
    refine ⟨_, 1, rfl, Nat.le_refl _, by unfold maxLen; omega, fun _ => ⟨A, 0, rfl, Or.inr rfl, fun i x hx => ?_⟩⟩
    have hi : i = 0 := by have := lt_of_some hx; simp at this; exact this
    subst hi
    simp at hx
    subst hx
    refine ⟨none, 0, by rw [Lib.cell_of_heap hh]; rfl, by rw [Lib.cell_of_heap hh]; rfl, ?_, by rw [Lib.cell_of_heap hh]; rfl, by rw [Lib.cell_of_heap hh]; rfl, ?_⟩
    · rw [hc, Lib.cell_of_heap hh]; rfl
    · rw [hc]; exact ⟨rfl, none, 0, rfl, Nat.zero_le _⟩
  refine (applyAll_any (fun b => T b ∨ b = A) 0 _ _ ns [o] W (hN.carry fun b hb => ⟨Or.inl hb, rfl⟩) (fun b hb => by
    rcases hb with hb | rfl
    · exact hT b hb
    · exact blk_lt hh) hf hx hO hto).mono ?_
  rintro e w' ⟨v', rfl, h1, h2⟩
  obtain ⟨a, c, rfl, _, hc'⟩ := h1.shape
  exact ⟨a, c, rfl, h1.carry fun b hb => ⟨by rcases hb with (hb | hb) | hb; exact Or.inl hb; exact Or.inr (Or.inl hb); exact Or.inr (Or.inr hb), rfl⟩, hc', applyD_texts hx (fun hc' => fine_all hc' hx hto hdo), applyD_few hf, h2⟩
end Go.Proofs.Ytlchbhlmbphkpaa

/- topiarykeep.sames and same: lists of trees that are the same are told to be the same. Condition: at most 2^20 trees and attributes in each list. -/
namespace Go.Proofs.Ytlchbhlmbphkpaa
open Go.ChangeShapes Go.WideShapes Go.ChangeAt Go.RowKit
set_option maxRecDepth 100000

def SamesOk (n : Nat) : Prop := ∀ (S S' : Nat → Prop) (v v' : Value) (ts : List Tr) (w : World), Trees S w n v ts → Trees S' w n v' ts →
  Calls Try.prog 32 #[v, v'] w fun e w' => e = .returned (.bool true) ∧ Below w.heap.size w w'

def SameOk (n : Nat) : Prop := ∀ (S S' : Nat → Prop) (tx : Bool) (s : ByteArray) (va va' vk vk' : Value) (l : List (ByteArray × ByteArray)) (ts : List Tr) (w : World), Attrs S w va l → Attrs S' w va' l → Trees S w n vk ts → Trees S' w n vk' ts →
  Calls Try.prog 15 #[.agg #[.bool tx, .string s, va, vk], .agg #[.bool tx, .string s, va', vk']] w fun e w' => e = .returned (.bool true) ∧ Below w.heap.size w w'

theorem sames_of (n : Nat) (h : SameOk n) : SamesOk (n + 1) := by
  intro S S' v v' ts w h1 h2
  obtain ⟨a, cap, rfl, _, hm, h4⟩ := h1
  obtain ⟨a', cap', rfl, _, _, h4'⟩ := h2
  unfold maxLen at hm
  have hne : ((ts.length : Int) != ts.length) = false := by simp
  have H : Hid (SameOk n) := h
  clear h
  go_enter Try.func32, Try.ntmps32
  go_wp2_with fail
  go_loopg [13] ts.length (fun g i wr => ∃ k : Nat, k + g = ts.length ∧ i = .int .i64 k ∧ Below w.heap.size w wr)
  case atStart => exact ⟨0, by omega, rfl, Below.refl _ _⟩
  case round =>
    obtain ⟨k, hk, rfl, hB⟩ := hrel
    by_cases hlt : k < ts.length
    · have hne : ts ≠ [] := by intro e; subst e; simp at hlt
      obtain ⟨b, o, rfl, hs, hcc⟩ := h4 hne
      obtain ⟨b', o', rfl, hs', hcc'⟩ := h4' hne
      obtain ⟨t, ht⟩ : ∃ t, ts[k]? = some t := ⟨ts[k], by simp [hlt]⟩
      obtain ⟨va, vk, c0, c1, c2, c3, hat, hkt⟩ := hcc k t ht
      obtain ⟨va', vk', c0', c1', c2', c3', hat', hkt'⟩ := hcc' k t ht
      have hbl : b < w.heap.size := World.block_lt_of_cell? w _ c0
      have hbl' : b' < w.heap.size := World.block_lt_of_cell? w _ c0'
      rw [← hB.cell (p := ⟨b, o + k * 4, none⟩) hbl] at c0
      rw [← hB.cell (p := ⟨b, o + k * 4 + 1, none⟩) hbl] at c1
      rw [← hB.cell (p := ⟨b, o + k * 4 + 2, none⟩) hbl] at c2
      rw [← hB.cell (p := ⟨b, o + k * 4 + 3, none⟩) hbl] at c3
      rw [← hB.cell (p := ⟨b', o' + k * 4, none⟩) hbl'] at c0'
      rw [← hB.cell (p := ⟨b', o' + k * 4 + 1, none⟩) hbl'] at c1'
      rw [← hB.cell (p := ⟨b', o' + k * 4 + 2, none⟩) hbl'] at c2'
      rw [← hB.cell (p := ⟨b', o' + k * 4 + 3, none⟩) hbl'] at c3'
      have hlti : (k : Int) < (ts.length : Int) := by omega
      clear hcc hcc' h4 h4' ht
      go_wp2_with fail
      go_region_with (go_at_call 15; refine (H.out S S' t.text t.s va va' vk vk' t.attrs t.kids wr.drew (hat.later hB.drew) (hat'.later hB.drew) (Trees.later hB.drew n hkt) (Trees.later hB.drew n hkt')).mono ?_; rintro e w1 ⟨rfl, hb1⟩)
      all_goals
        go_wp2_with fail
        go_roundg (ts.length - (k + 1))
        case measure => omega
        case rel => exact ⟨k + 1, by omega, by go_num, hB.drew.trans (hb1.mono hB.size)⟩
    · go_wp2_with fail
      go_ret
      exact ⟨rfl, hB⟩
theorem same_of (n : Nat) (h : SamesOk n) : SameOk n := by
  intro S S' tx s va va' vk vk' l ts w h1 h2 h3 h4
  have H : Hid (SamesOk n) := h
  clear h
  obtain ⟨ka, kc, rfl, _, _⟩ := Trees.shape n h3
  obtain ⟨ka', kc', rfl, _, _⟩ := Trees.shape n h4
  have h1' := h1
  have h2' := h2
  obtain ⟨a, cap, rfl, _, hm, h5⟩ := h1
  obtain ⟨a', cap', rfl, _, _, h5'⟩ := h2
  unfold maxLen at hm
  go_enter Try.func15, Try.ntmps15
  go_wp2_with fail
  go_loopg [30] l.length (fun g i wr => ∃ k : Nat, k + g = l.length ∧ i = .int .i64 k ∧ Below w.heap.size w wr ∧ wr.cell? ⟨w.heap.size, 2, none⟩ = some (.slice a l.length cap) ∧ wr.cell? ⟨w.heap.size, 3, none⟩ = some (.slice ka ts.length kc) ∧
    wr.cell? ⟨w.heap.size + 1, 2, none⟩ = some (.slice a' l.length cap') ∧ wr.cell? ⟨w.heap.size + 1, 3, none⟩ = some (.slice ka' ts.length kc'))
  case atStart => exact ⟨0, by omega, rfl, (Below.alloc1 w _).alloc (by simp) _, by simp [go_sem], by simp [go_sem], by simp [go_sem], by simp [go_sem]⟩
  case round =>
    obtain ⟨k, hk, rfl, hB, d2, d3, d2', d3'⟩ := hrel
    by_cases hlt : k < l.length
    · have hne : l ≠ [] := by intro e; subst e; simp at hlt
      obtain ⟨b, o, rfl, hs, hcc⟩ := h5 hne
      obtain ⟨b', o', rfl, hs', hcc'⟩ := h5' hne
      obtain ⟨x, hx⟩ : ∃ x, l[k]? = some x := ⟨l[k], by simp [hlt]⟩
      obtain ⟨c0, c1⟩ := hcc k x hx
      obtain ⟨c0', c1'⟩ := hcc' k x hx
      have hbl : b < w.heap.size := World.block_lt_of_cell? w _ c0
      have hbl' : b' < w.heap.size := World.block_lt_of_cell? w _ c0'
      rw [← hB.cell (p := ⟨b, o + k * 2, none⟩) hbl] at c0
      rw [← hB.cell (p := ⟨b, o + k * 2 + 1, none⟩) hbl] at c1
      rw [← hB.cell (p := ⟨b', o' + k * 2, none⟩) hbl'] at c0'
      rw [← hB.cell (p := ⟨b', o' + k * 2 + 1, none⟩) hbl'] at c1'
      have hlti : (k : Int) < (l.length : Int) := by omega
      clear hcc hcc' h5 h5' hx h1' h2'
      go_wp2_with fail
      go_quiet (fail)
      go_wp2_with fail
      go_roundg (l.length - (k + 1))
      case measure => omega
      case rel => exact ⟨k + 1, by omega, by go_num, below_drewN hB nq, by simpa using d2, by simpa using d3, by simpa using d2', by simpa using d3'⟩
    · go_wp2_with fail
      refine (H.out S S' _ _ ts _ (Trees.later hB n h3) (Trees.later hB n h4)).mono ?_
      rintro e w1 ⟨rfl, hb1⟩
      go_wp2_with fail
      go_ret
      exact ⟨rfl, hB.trans (hb1.mono hB.size)⟩
theorem sames_zero : SamesOk 0 := by
  intro S S' v v' ts w h1 h2
  obtain ⟨rfl, a, cap, rfl, _⟩ := h1
  obtain ⟨_, a', cap', rfl, _⟩ := h2
  go_enter Try.func32, Try.ntmps32
  go_wp2_with fail
  go_rounds 1
  go_ret
  exact ⟨rfl, Below.refl _ _⟩

theorem sames_any (n : Nat) : SamesOk n := by
  induction n with
  | zero => exact sames_zero
  | succ n ih => exact sames_of n (same_of n ih)
end Go.Proofs.Ytlchbhlmbphkpaa

/- topiarykeep.ChangePuts says true. No condition but what every argument has. -/
namespace Go.Proofs.Ytlchbhlmbphkpaa
open Go.ChangeShapes Go.WideShapes Go.ChangeAt Go.RowKit
set_option maxRecDepth 100000

attribute [local go_sem] cell_set

theorem Trees.at' {S : Nat → Prop} {w : World} {k i : Nat} {v : Value} {ts : List Tr} {t : Tr} (h : Trees S w k v ts) (ht : ts[i]? = some t) :
    ∃ (k' b o cap : Nat) (va vk : Value), k = k' + 1 ∧ v = .slice (some ⟨b, o, none⟩) ts.length cap ∧ w.cell? ⟨b, o + i * 4, none⟩ = some (.bool t.text) ∧ w.cell? ⟨b, o + i * 4 + 1, none⟩ = some (.string t.s) ∧ w.cell? ⟨b, o + i * 4 + 2, none⟩ = some va ∧ w.cell? ⟨b, o + i * 4 + 3, none⟩ = some vk ∧ Attrs S w va t.attrs ∧ Trees S w k' vk t.kids := by
  cases k with
  | zero =>
    obtain ⟨rfl, _⟩ := h
    simp at ht
  | succ k =>
    obtain ⟨a, cap, rfl, _, _, h4⟩ := h
    obtain ⟨b, o, rfl, _, hc⟩ := h4 (by intro e; subst e; simp at ht)
    obtain ⟨va, vk, c0, c1, c2, c3, hA, hK⟩ := hc i t ht
    exact ⟨k, b, o, cap, va, vk, rfl, rfl, c0, c1, c2, c3, hA, hK⟩

theorem store_box' {W : World} {b : Nat} {u : Value} {T : TypeId} (v : Value) (h : W.heap[b]? = some (.cells #[u] T (0, 0))) : (W.setCell ⟨b, 0, none⟩ v).heap[b]? = some (.cells #[v] T (0, 0)) := by
  simp [World.setCell, Array.getElem?_modify, h]

theorem Trees.wide {S : Nat → Prop} {w : World} {n : Nat} {v : Value} {ts : List Tr} (h : Trees S w n v ts) : ∀ (k : Nat), Trees S w (n + k) v ts := by
  intro k
  induction k with
  | zero => exact h
  | succ k ih => exact Trees.deeper _ ih

/-- What holds behind each round of taking out again. -/
structure PutsI (w : World) (pb xb : Nat) (vd : Value) (ns : List Nd) (l : List Tr) (m : Nat) (u : Tr) (fs : List Fr) (j : Nat) (wr : World) : Prop where
  below : Below w.heap.size w wr
  box : wr.heap[pb]? = some (.cells #[vd] 24 (0, 0))
  rest : ∃ (ms : List Nd) (a : Option Addr) (c : Nat), wr.heap[xb]? = some (.cells #[.slice a ms.length c] 24 (0, 0)) ∧ DocV (fun b => b < wr.heap.size ∧ b ≠ xb) wr (.slice a ms.length c) ms ∧ c ≤ maxLen ∧ ∃ e T v tl, l.drop j ++ [u] = v :: tl ∧ Zip ms m e T v tl fs

theorem one_opC {S : Nat → Prop} {w : World} {k : Nat} {ca : Option Addr} {cc : Nat} (o : Opn) (hS : ∀ b, S b → b < w.heap.size) (hT : Trees S w k (.slice ca o.content.length cc) o.content) : Ops (fun b => b < w.heap.size + 1) (w.alloc (.cells #[.int .i64 o.kind, .int .i64 o.target, .slice ca o.content.length cc, .string o.name, .string o.s] 30)) k (.slice (some ⟨w.heap.size, 0, none⟩) 1 1) [o] := by
  have hb := Below.alloc1 w (.cells #[.int .i64 o.kind, .int .i64 o.target, .slice ca o.content.length cc, .string o.name, .string o.s] 30)
  have hh := heap_alloc_new w (.cells #[.int .i64 o.kind, .int .i64 o.target, .slice ca o.content.length cc, .string o.name, .string o.s] 30)
  refine ⟨_, 1, rfl, Nat.le_refl _, by unfold maxLen; omega, fun _ => ⟨w.heap.size, 0, rfl, Nat.lt_succ_self _, fun i x hx => ?_⟩⟩
  have hi : i = 0 := by have := lt_of_some hx; simp at this; exact this
  subst hi
  simp at hx
  subst hx
  exact ⟨ca, cc, by rw [Lib.cell_of_heap hh]; rfl, by rw [Lib.cell_of_heap hh]; rfl, by rw [Lib.cell_of_heap hh]; rfl, by rw [Lib.cell_of_heap hh]; rfl, by rw [Lib.cell_of_heap hh]; rfl, Trees.carry (fun b hb' => ⟨Nat.lt_succ_of_lt (hS b hb'), hb.block b (hS b hb')⟩) k hT⟩

/-- change.Apply with one change that the caller has just built. -/
theorem applyPut_any (S : Nat → Prop) (vn : Value) (ns : List Nd) (o : Opn) (k : Nat) (ca : Option Addr) (cc : Nat) (w : World) (hD : DocV S w vn ns) (hT : Trees S w k (.slice ca o.content.length cc) o.content) (ht : TextsN k o.content ∧ o.name.size ≤ maxLen ∧ o.s.size ≤ maxLen) :
    Calls Try.prog 10 #[.agg #[vn], .slice (some ⟨w.heap.size, 0, none⟩) 1 1] (w.alloc (.cells #[.int .i64 o.kind, .int .i64 o.target, .slice ca o.content.length cc, .string o.name, .string o.s] 30)) fun e w' => ∃ v', e = .returned (.tuple #[.agg #[v'], .int .i64 (applyE ns [o])]) ∧ DocV (fun b => b < w'.heap.size) w' v' (applyD ns [o]) ∧ Below w.heap.size w w' := by
  have hb := Below.alloc1 w (.cells #[.int .i64 o.kind, .int .i64 o.target, .slice ca o.content.length cc, .string o.name, .string o.s] 30)
  have hO := one_opC o hD.here hT
  have hto : TextsO k [o] := by
    intro x hm
    rw [List.mem_singleton.1 hm]
    exact ht
  have hN1 : Nodes (fun b => b < w.heap.size + 1) (w.alloc (.cells #[.int .i64 o.kind, .int .i64 o.target, .slice ca o.content.length cc, .string o.name, .string o.s] 30)) vn ns := hD.nodes.carry fun b hb' => ⟨Nat.lt_succ_of_lt (hD.here b hb'), hb.block b (hD.here b hb')⟩
  refine (applyAll_any _ k _ _ ns [o] _ hN1 (fun b hb' => by simpa using hb') hD.few hD.short hO hto).mono ?_
  rintro e w' ⟨v', rfl, h1, h2⟩
  exact ⟨v', rfl, ⟨h1.bounded.carry fun b hb' => ⟨hb'.2, rfl⟩, fun b hb' => hb', applyD_few hD.few, applyD_texts hD.short (fun hc' => fine_all hc' hD.short hto hO.deep)⟩, hb.trans (h2.mono hb.size)⟩

set_option maxHeartbeats 2000000 in
theorem changePuts_any (S : Nat → Prop) (k : Nat) (vn vl : Value) (ns : List Nd) (n : Int) (l : List Tr) (w : World) (hD : DocV S w vn ns) (hT : Trees S w k vl l) (ht : TextsN k l) :
    Calls Try.prog 6 #[.agg #[vn], .int .i64 n, vl] w fun e w' => e = .returned (.bool true) ∧ Below w.heap.size w w' := by
  obtain ⟨na, nc, rfl, hnl, hnc⟩ := hD.nodes.shape
  obtain ⟨la, lc, rfl, hll, hlc⟩ := Trees.shape k hT
  have HA : Hid (∀ (W : World) (A : Nat), A = W.heap.size → Below w.heap.size w W → Calls Try.prog 10 #[.agg #[.slice na ns.length nc], .slice (some ⟨A, 0, none⟩) 1 1] (W.alloc (.cells #[.int .i64 3, .int .i64 n, .slice la l.length lc, .string ⟨#[]⟩, .string ⟨#[]⟩] 30)) fun e w' => ∃ v', e = .returned (.tuple #[.agg #[v'], .int .i64 (applyE ns [opBef n l])]) ∧ DocV (fun b => b < w'.heap.size) w' v' (applyD ns [opBef n l]) ∧ Below W.heap.size W w') :=
    fun W A hA hW => by subst hA; exact applyPut_any S _ ns (opBef n l) k la lc W (hD.later hW) (Trees.later hW k hT) ⟨ht, Nat.zero_le _, Nat.zero_le _⟩
  have HD : Hid (DocV S w (.slice na ns.length nc) ns) := hD
  have HT : Hid (Trees S w k (.slice la l.length lc) l) := hT
  have HP0 : Hid _ := heap_alloc_new w (.cells #[.slice na ns.length nc] 24)
  have hb0 := Below.alloc1 w (.cells #[.slice na ns.length nc] 24)
  unfold maxLen at hnc hlc
  clear hD hT ht
  go_enter Try.func6, Try.ntmps6
  go_wp2_with fail
  generalize w.alloc (.cells #[.slice na ns.length nc] 24) = W0 at *
  go_loopg [17] l.length (fun g i wr => ∃ j : Nat, j + g = l.length ∧ i = .int .i64 j ∧ (∀ t ∈ l.take j, t.text = false) ∧ Below W0.heap.size W0 wr)
  case atStart => exact ⟨0, by omega, rfl, by simp, Below.refl _ _⟩
  case round =>
    obtain ⟨j, hj, rfl, hno, hB⟩ := hrel
    have hBw : Below w.heap.size w wr := hb0.trans (hB.mono hb0.size)
    have HNO : Hid _ := hno
    clear hno
    by_cases hjl : j < l.length
    · have hjli : (j : Int) < (l.length : Int) := by omega
      obtain ⟨t, htj⟩ : ∃ t, l[j]? = some t := ⟨l[j], by simp [hjl]⟩
      obtain ⟨k', b, o, cap, va, vk, hk', hv, c0, c1, c2, c3, hAt, hKt⟩ := (Trees.later hBw k HT.out).at' htj
      injection hv with hv _ hvc
      subst hv hvc
      obtain ⟨aa, ac, rfl⟩ := hAt.shape
      obtain ⟨ka, kc, rfl, _, _⟩ := Trees.shape k' hKt
      have HTJ : Hid (l.take (j + 1) = l.take j ++ [t]) := by
        show _ = _
        rw [List.take_succ_eq_append_getElem hjl]; congr 2; simpa [hjl] using htj
      clear hAt hKt htj hk'
      have hB1 := hB.alloc hB.size (.cells #[.bool t.text, .string t.s, .slice aa t.attrs.length ac, .slice ka t.kids.length kc] 47)
      cases htx : t.text with
      | true =>
        rw [htx] at c0 hB1
        go_wp2_with fail
        refine (chgsK_any _).mono ?_
        rintro e w2 ⟨rfl, hb2⟩
        go_wp2_with fail
        go_ret
        exact ⟨rfl, (hb0.trans (hB1.mono hb0.size)).trans (hb2.mono (hb0.trans (hB1.mono hb0.size)).size)⟩
      | false =>
        rw [htx] at c0 hB1
        go_wp2_with fail
        go_roundg (l.length - (j + 1))
        case measure => omega
        case rel =>
          refine ⟨j + 1, by omega, by go_num, ?_, hB1⟩
          rw [HTJ.out]
          intro u hu
          rcases List.mem_append.1 hu with hu | hu
          · exact HNO.out u hu
          · rw [List.mem_singleton.1 hu]; exact htx
    · have hjli : ¬ ((j : Int) < (l.length : Int)) := by omega
      have hall : ∀ t ∈ l, t.text = false := by
        have := HNO.out
        rwa [List.take_of_length_le (by omega)] at this
      clear HNO
      have HP1 : Hid _ := (hB.block _ (blk_lt HP0.out)).trans HP0.out
      have x1 : wr.cell? ⟨w.heap.size, 0, none⟩ = some (.slice na ns.length nc) := by rw [Lib.cell_of_heap HP1.out]; rfl
      by_cases hE : applyE ns [opBef n l] = 0
      · obtain ⟨m, d, T, u, fs, rfl, hm0, hz, hgl, e0, T0, v0, tl0, hv0, hz0⟩ := puts_in hall hE
        have HZ : Hid _ := hz
        have HGL : Hid _ := hgl
        have HZ0 : Hid (∃ e T' v tl, l ++ [u] = v :: tl ∧ Zip (applyD ns [opBef m l]) m e T' v tl fs) := ⟨e0, T0, v0, tl0, hv0, hz0⟩
        rw [hE] at HA
        clear hz hgl hv0 hz0 hE hall
        go_wp2_with fail
        refine (HA.out wr _ rfl hBw).mono ?_
        rintro e w2 ⟨v2, rfl, hD2, hb2⟩
        obtain ⟨a2, c2, rfl, _, hc2⟩ := hD2.nodes.shape
        have hB2 : Below w.heap.size w w2 := hBw.trans (hb2.mono hBw.size)
        have HP2 : Hid _ := (hb2.block _ (blk_lt HP1.out)).trans HP1.out
        have hPw : w.heap.size < w2.heap.size := blk_lt HP2.out
        obtain ⟨D, hDD⟩ : ∃ D, applyD ns [opBef m l] = D := ⟨_, rfl⟩
        rw [hDD] at HZ0 hD2 ⊢
        have hb3 := Below.alloc1 w2 (.cells #[.slice a2 D.length c2] 24)
        have hB3 := hB2.trans (hb3.mono hB2.size)
        have HY3 : Hid _ := heap_alloc_new w2 (.cells #[.slice a2 D.length c2] 24)
        have HP3 : Hid _ := (hb3.block _ (blk_lt HP2.out)).trans HP2.out
        have HD3 : Hid _ := hD2.later hb3
        clear hDD hD2 hb2 HA HP1 HP2 x1 hB hb0 HP0
        go_wp2_with fail
        generalize w2.alloc (.cells #[.slice a2 D.length c2] 24) = W3 at *
        refine (chgsK_any W3).mono ?_
        rintro e w4 ⟨rfl, hb4⟩
        have HI0 : Hid (PutsI w w.heap.size w2.heap.size (.slice na ns.length nc) ns l m u fs 0 w4) := by
          refine ⟨hB3.trans (hb4.mono hB3.size), (hb4.block _ (blk_lt HP3.out)).trans HP3.out, D, a2, c2, (hb4.block _ (blk_lt HY3.out)).trans HY3.out, ?_, hc2, ?_⟩
          · have h := DocV.later HD3.out hb4
            exact ⟨h.nodes.carry fun b hb => ⟨⟨Nat.lt_of_lt_of_le hb (Nat.le_trans hb3.size hb4.size), by omega⟩, rfl⟩, fun b hb => hb.1, h.few, h.short⟩
          · rw [List.drop_zero]; exact HZ0.out
        clear hb4 hb3 HY3 HP3 HD3 HZ0 hB3 hc2
        go_wp2_with fail
        go_loopg [43] l.length (fun g i wr => ∃ j : Nat, j + g = l.length ∧ i = .int .i64 j ∧ PutsI w w.heap.size w2.heap.size (.slice na ns.length nc) ns l m u fs j wr)
        case atStart => exact ⟨0, by omega, rfl, HI0.out⟩
        case round =>
          clear HI0
          obtain ⟨j, hj, rfl, hI⟩ := hrel
          obtain ⟨ms, a5, c5, hx5, hD5, hc5, hzz⟩ := hI.rest
          have hx5c : wr.cell? ⟨w2.heap.size, 0, none⟩ = some (.slice a5 ms.length c5) := by rw [Lib.cell_of_heap hx5]; rfl
          have HX5 : Hid _ := hx5
          have HD5 : Hid _ := hD5
          have HIB : Hid _ := hI.below
          have HIP : Hid _ := hI.box
          clear hx5 hD5 hI
          by_cases hjl : j < l.length
          · have hjli : (j : Int) < (l.length : Int) := by omega
            obtain ⟨t, htj⟩ : ∃ t, l[j]? = some t := ⟨l[j], by simp [hjl]⟩
            have hdr : l.drop j = t :: l.drop (j + 1) := by
              rw [List.drop_eq_getElem_cons hjl]; congr 1; simpa [hjl] using htj
            obtain ⟨e6, T6, v6, tl6, hv6, hz6⟩ := hzz
            obtain ⟨_, hpo⟩ := puts_out hm0 HZ.out (l.drop j) ms e6 T6 v6 tl6 (fun q hq => HGL.out q (List.mem_of_mem_drop hq)) hv6 hz6
            obtain ⟨hgr, hmlt, hEd, hnext⟩ := hpo t (l.drop (j + 1)) hdr
            have hgd : goodD ms = true := ((check_ok _ _).1 (apply_ok hEd).1).1
            have hTD : treeD ms (m : Int) = (t, 0) := by
              have hq : amongB ms (m : Int) = true := by unfold amongB; simp; omega
              unfold treeD
              rw [hgd, hq, if_pos rfl, if_pos rfl, Int.toNat_natCast, hgr]
            have HNX : Hid _ := hnext
            obtain ⟨DN, hDN⟩ : ∃ D, applyD ms [opDel m] = D := ⟨_, rfl⟩
            rw [hDN] at HNX
            have HTR : Hid (∀ (S : Nat → Prop) (v : Value) (W : World), DocV S W v ms → Calls Try.prog 14 #[.agg #[v], .int .i64 (m : Int)] W fun e w' => ∃ va vk, e = .returned (.tuple #[.agg #[.bool t.text, .string t.s, va, vk], .int .i64 0]) ∧ Attrs (fun b => W.heap.size ≤ b) w' va t.attrs ∧ Trees (fun b => W.heap.size ≤ b) w' ms.length vk t.kids ∧ Below W.heap.size W w') := by
              intro S v W h
              have := treeD_any S v ms m W h
              rw [hTD] at this
              exact this
            have HDL : Hid (∀ (T : Nat → Prop) (v : Value) (W : World) (A : Nat), W.heap[A]? = some (.cells #[.int .i64 5, .int .i64 (m : Int), .slice none 0 0, .string ⟨#[]⟩, .string ⟨#[]⟩] 30 (0, 0)) → Nodes T W v ms → (∀ b, T b → b < W.heap.size) → TextsD ms → (∀ x ∈ ms, x.attrs.length ≤ 4398046511104) → Calls Try.prog 10 #[.agg #[v], .slice (some ⟨A, 0, none⟩) 1 1] W fun e w' => ∃ a c, e = .returned (.tuple #[.agg #[.slice a DN.length c], .int .i64 0]) ∧ Nodes (fun b => T b ∨ b = A ∨ W.heap.size ≤ b) w' (.slice a DN.length c) DN ∧ c ≤ maxLen ∧ TextsD DN ∧ (∀ x ∈ DN, x.attrs.length ≤ 4398046511104) ∧ Below W.heap.size W w') := by
              intro T v W A hA hN hT hx hf
              have := applyAt_any (opDel m) rfl hA hN hT hf hx ⟨Nat.zero_le _, Nat.zero_le _⟩
              rw [hDN, hEd] at this
              exact this
            obtain ⟨k', b, o, cap, va, vk, hk', hv, t0, t1, t2, t3, hAt, hKt⟩ := (Trees.later HIB.out k HT.out).at' htj
            injection hv with hv hvl hvc
            subst hv hvc
            clear hvl hnext hDN hTD hgd hgr hpo hv6 hz6 hdr htj hEd hk'
            obtain ⟨aa, ac, rfl⟩ := hAt.shape
            obtain ⟨ka, kc, rfl, _, _⟩ := Trees.shape k' hKt
            have hb6 := Below.alloc1 wr (.cells #[.bool t.text, .string t.s, .slice aa t.attrs.length ac, .slice ka t.kids.length kc] 47)
            have HZ6 : Hid _ := heap_alloc_new wr (.cells #[.bool t.text, .string t.s, .slice aa t.attrs.length ac, .slice ka t.kids.length kc] 47)
            have HX6 : Hid _ := (hb6.block _ (blk_lt HX5.out)).trans HX5.out
            have HD6 : Hid _ := DocV.later HD5.out hb6
            have x6 : (wr.alloc (.cells #[.bool t.text, .string t.s, .slice aa t.attrs.length ac, .slice ka t.kids.length kc] 47)).cell? ⟨w2.heap.size, 0, none⟩ = some (.slice a5 ms.length c5) := by rw [Lib.cell_of_heap HX6.out]; rfl
            have HA6 : Hid _ := Attrs.later hAt hb6
            have HK6 : Hid _ := Trees.later hb6 k' hKt
            have HIB6 : Hid _ := HIB.out.trans (hb6.mono HIB.out.size)
            have HIP6 : Hid _ := (hb6.block _ (blk_lt HIP.out)).trans HIP.out
            have hs6 : wr.heap.size < (wr.alloc (.cells #[.bool t.text, .string t.s, .slice aa t.attrs.length ac, .slice ka t.kids.length kc] 47)).heap.size := by simp
            clear hAt hKt hb6 HX5 HD5 hx5c HIB HIP
            go_wp2_with fail
            generalize wr.alloc (.cells #[.bool t.text, .string t.s, .slice aa t.attrs.length ac, .slice ka t.kids.length kc] 47) = W6 at *
            refine (HTR.out _ _ W6 HD6.out).mono ?_
            rintro e w7 ⟨va7, vk7, rfl, hA7, hK7, hb7⟩
            obtain ⟨aa7, ac7, rfl⟩ := hA7.shape
            obtain ⟨ka7, kc7, rfl, _, _⟩ := Trees.shape ms.length hK7
            have hb8 := Below.alloc1 w7 (.cells #[.bool t.text, .string t.s, .slice aa7 t.attrs.length ac7, .slice ka7 t.kids.length kc7] 47)
            have hb78 : Below W6.heap.size W6 (w7.alloc (.cells #[.bool t.text, .string t.s, .slice aa7 t.attrs.length ac7, .slice ka7 t.kids.length kc7] 47)) := hb7.trans (hb8.mono hb7.size)
            have HW8 : Hid _ := heap_alloc_new w7 (.cells #[.bool t.text, .string t.s, .slice aa7 t.attrs.length ac7, .slice ka7 t.kids.length kc7] 47)
            have HZ8 : Hid _ := (hb78.block _ (blk_lt HZ6.out)).trans HZ6.out
            have HX8 : Hid _ := (hb78.block _ (blk_lt HX6.out)).trans HX6.out
            have HD8 : Hid _ := DocV.later HD6.out hb78
            have HIB8 : Hid _ := HIB6.out.trans (hb78.mono HIB6.out.size)
            have HIP8 : Hid _ := (hb78.block _ (blk_lt HIP6.out)).trans HIP6.out
            have HSM : Hid _ := same_of (k' + ms.length) (sames_any _) _ _ t.text t.s _ _ _ _ t.attrs t.kids _ (Attrs.later HA6.out hb78) (Attrs.later hA7 hb8) (Trees.wide (Trees.later hb78 k' HK6.out) ms.length) (by rw [Nat.add_comm]; exact Trees.wide (Trees.later hb8 ms.length hK7) k')
            have z0 : (w7.alloc (.cells #[.bool t.text, .string t.s, .slice aa7 t.attrs.length ac7, .slice ka7 t.kids.length kc7] 47)).cell? ⟨wr.heap.size, 0, none⟩ = some (.bool t.text) := by rw [Lib.cell_of_heap HZ8.out]; rfl
            have z1 : (w7.alloc (.cells #[.bool t.text, .string t.s, .slice aa7 t.attrs.length ac7, .slice ka7 t.kids.length kc7] 47)).cell? ⟨wr.heap.size, 1, none⟩ = some (.string t.s) := by rw [Lib.cell_of_heap HZ8.out]; rfl
            have z2 : (w7.alloc (.cells #[.bool t.text, .string t.s, .slice aa7 t.attrs.length ac7, .slice ka7 t.kids.length kc7] 47)).cell? ⟨wr.heap.size, 2, none⟩ = some (.slice aa t.attrs.length ac) := by rw [Lib.cell_of_heap HZ8.out]; rfl
            have z3 : (w7.alloc (.cells #[.bool t.text, .string t.s, .slice aa7 t.attrs.length ac7, .slice ka7 t.kids.length kc7] 47)).cell? ⟨wr.heap.size, 3, none⟩ = some (.slice ka t.kids.length kc) := by rw [Lib.cell_of_heap HZ8.out]; rfl
            clear hA7 hK7 hb7 HX6 HD6 HA6 HK6 HIB6 HIP6 HZ6 x6 HTR
            go_wp2_with fail
            generalize w7.alloc (.cells #[.bool t.text, .string t.s, .slice aa7 t.attrs.length ac7, .slice ka7 t.kids.length kc7] 47) = W8 at *
            refine (Calls.mono HSM.out ?_)
            rintro e w9 ⟨rfl, hb9⟩
            have HX9 : Hid _ := (hb9.block _ (blk_lt HX8.out)).trans HX8.out
            have HD9 : Hid _ := DocV.later HD8.out hb9
            have HIB9 : Hid _ := HIB8.out.trans (hb9.mono HIB8.out.size)
            have HIP9 : Hid _ := (hb9.block _ (blk_lt HIP8.out)).trans HIP8.out
            have x9 : w9.cell? ⟨w2.heap.size, 0, none⟩ = some (.slice a5 ms.length c5) := by rw [Lib.cell_of_heap HX9.out]; rfl
            have hs9 : wr.heap.size < w9.heap.size := by have := hb9.size; have := hb78.size; omega
            have hx9 : w2.heap.size < w9.heap.size := blk_lt HX9.out
            clear z0 z1 z2 z3 HSM HX8 HD8 HIB8 HIP8 hb9 hb78 hb8 HW8 HZ8
            have hb10 := Below.alloc1 w9 (.cells #[.int .i64 5, .int .i64 (m : Int), .slice none 0 0, .string ⟨#[]⟩, .string ⟨#[]⟩] 30)
            go_wp2_with fail
            refine (HDL.out _ _ _ _ (heap_alloc_new w9 (.cells #[.int .i64 5, .int .i64 (m : Int), .slice none 0 0, .string ⟨#[]⟩, .string ⟨#[]⟩] 30)) (DocV.later HD9.out hb10).nodes (DocV.later HD9.out hb10).here (DocV.short HD9.out) (DocV.few HD9.out)).mono ?_
            rintro e w11 ⟨a11, c11, rfl, hN11, hc11, ht11, hf11, hb11⟩
            have hb11' : Below w9.heap.size w9 w11 := hb10.trans (hb11.mono hb10.size)
            have HX11 : Hid _ := (hb11'.block _ (blk_lt HX9.out)).trans HX9.out
            have x11 : w11.cell? ⟨w2.heap.size, 0, none⟩ = some (.slice a5 ms.length c5) := by rw [Lib.cell_of_heap HX11.out]; rfl
            have f11 : w11.frozen? ⟨w2.heap.size, 0, none⟩ = false := Lib.frozen_of_heap HX11.out _
            have HI : Hid (PutsI w w.heap.size w2.heap.size (.slice na ns.length nc) ns l m u fs (j + 1) (w11.setCell ⟨w2.heap.size, 0, none⟩ (.slice a11 DN.length c11))) := by
              refine ⟨(HIB9.out.trans (hb11'.mono HIB9.out.size)).setCell (p := ⟨w2.heap.size, 0, none⟩) (by show _ ≤ w2.heap.size; omega) _, ?_, DN, a11, c11, store_box' _ HX11.out, ?_, hc11, HNX.out⟩
              · rw [blk_set_ne (by omega)]; exact (hb11'.block _ (blk_lt HIP9.out)).trans HIP9.out
              · refine ⟨hN11.bounded.carry fun bb hb => ?_, fun bb hb => hb.1, hf11, ht11⟩
                have hne : bb ≠ w2.heap.size := by
                  rcases hb.1 with h | h | h
                  · exact h.2
                  · omega
                  · simp only [World.size_alloc] at h; omega
                exact ⟨⟨by simpa using hb.2, hne⟩, blk_set_ne hne⟩
            clear hN11 hb11 hb11' HX11 HX9 HD9 HIB9 HIP9 HDL HNX x9 ht11 hf11 hb10
            go_wp2_with fail
            go_roundg (l.length - (j + 1))
            case measure => omega
            case rel => exact ⟨j + 1, by omega, by go_num, HI.out⟩
          · have hjli : ¬ ((j : Int) < (l.length : Int)) := by omega
            obtain ⟨e6, T6, v6, tl6, hv6, hz6⟩ := hzz
            have hnil : l.drop j = [] := List.drop_eq_nil_of_le (by omega)
            obtain ⟨hpo, _⟩ := puts_out hm0 HZ.out (l.drop j) ms e6 T6 v6 tl6 (fun q hq => HGL.out q (List.mem_of_mem_drop hq)) hv6 hz6
            have hms := (hpo hnil).symm
            subst hms
            have p5 : wr.cell? ⟨w.heap.size, 0, none⟩ = some (.slice na ns.length nc) := by rw [Lib.cell_of_heap HIP.out]; rfl
            clear hv6 hz6 hpo hnil
            go_wp2_with fail
            refine (sameDoc_any _ S _ _ ns _ (DocV.nodes HD5.out) (Nodes.later HD.out.nodes HIB.out)).mono ?_
            rintro e w12 ⟨rfl, hb12⟩
            go_wp2_with fail
            go_ret
            exact ⟨rfl, HIB.out.trans (hb12.mono HIB.out.size)⟩
      · generalize applyE ns [opBef n l] = E at HA hE
        go_wp2_with fail
        refine (HA.out wr _ rfl hBw).mono ?_
        rintro e w2 ⟨v2, rfl, hD2, hb2⟩
        obtain ⟨a2, c2, rfl, _, _⟩ := hD2.nodes.shape
        have hB2 : Below w.heap.size w w2 := hBw.trans (hb2.mono hBw.size)
        have hB3 := hB2.alloc hB2.size (.cells #[.slice a2 (applyD ns [opBef n l]).length c2] 24)
        clear hD2
        go_wp2_with fail
        refine (chgsK_any _).mono ?_
        rintro e w4 ⟨rfl, hb4⟩
        go_wp2_with fail
        go_ret
        exact ⟨rfl, hB3.trans (hb4.mono hB3.size)⟩
end Go.Proofs.Ytlchbhlmbphkpaa

