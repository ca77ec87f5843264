/- (*counter).add: all within reach is counted, the rest waits. Condition: at most 2^20 trees. -/
import Derived.Test.YtifbdfcbliafjaaDoorCountT
import Derived.Test.YtifbdfcbliafjaaDoorKidsW
import Derived.Deep.RegionLaw
import Derived.BigRegion
namespace Go.Proofs.YtifbdfcbliafjaaDoor
open Go.ChangeShapes Go.WideShapes Go.ChangeAt Go.RowKit
set_option maxRecDepth 100000

theorem groupInfo : (Tryd.prog.info? 69).map (fun i => (i.zero, i.size, i.bytes)) = some (some (.agg #[.slice none 0 0, .int .i64 0]), 2, 32) := by kernel_rfl

/-- A group appended onto the waiting ones, as a step of a region that draws. -/
theorem step_group {ops : Array Oper} {o : Oper} {a : Act} {w : World} {K : Act → World → Prop} {Q : Exit → Act → World → Prop} {E : Prop}
    (hg : o.guard = none) (s x : Operand) (hop : o.op = Op.call { callee := Callee.builtin Builtin.append, args := #[s, x], argTypes := #[45, 45] })
    (B : Nat) (v : Value) (n : Nat) (xs : List Value) (hs : a.eval s = v) (hown : w.ownsRow B 69 2 v n xs) (ad : Addr) (sa : Option Addr) (sl sc : Nat) (d : Int) (hx : a.eval x = .slice (some ad) 1 1)
    (hnews : ∀ j u, [Value.slice sa sl sc, Value.int .i64 d][j]? = some u → w.cell? (ad.add j) = some u) (hn : n ≤ 1048576) (hB : B ≤ w.heap.size)
    (hK : ∀ v' w', w'.ownsRow B 69 2 v' (n + 1) (xs ++ [.slice sa sl sc, .int .i64 d]) → w.grownBy w' v.ownBlock → (v'.ownBlock = v.ownBlock ∨ v'.ownBlock = some w.heap.size) → K (a.put o.dst v') w') :
    if Region.wanted o (yielded ops a.tmps) = true then Oper.wp Tryd.prog o a w K Q else E := by
  have hw : Region.wanted o (yielded ops a.tmps) = true := by simp [Region.wanted, hg]
  rw [if_pos hw]
  obtain ⟨i0, hi, hz0, hz1, hz2⟩ := info_parts groupInfo
  obtain ⟨v', w', hr, h2, h3, _, h5⟩ := run_append_own_at (P := Tryd.prog) w B 45 o.type 69 i0 _ 2 32 Tryd.underlying45 hi hz0 hz1 hz2 rfl (by decide) v n xs hown ad 1 1 [.slice sa sl sc, .int .i64 d] rfl hnews (by intro u hu; simp at hu; rcases hu with rfl | rfl <;> rfl) (by unfold maxLen; omega) (by omega) hB
  unfold Oper.wp
  simp [execOp, hop, resolve, invoke, builtin, hs, hx, hr, Result.andThen]
  exact hK v' w' h2 h3 h5

structure CE where
  v : Value
  n : Nat
  ts : List Tr
  o : Nat

def csum (P : List CE) : Nat := (P.map fun e => cnt e.n e.ts).sum
def cmax (P : List CE) : Nat := (P.map fun e => e.o + dep e.n e.ts).foldr max 0
def grp (e : CE) : Value × Nat := (e.v, e.o + 1)

theorem csum_append (P Q : List CE) : csum (P ++ Q) = csum P + csum Q := by simp [csum]
theorem cmax_append (P Q : List CE) : cmax (P ++ Q) = max (cmax P) (cmax Q) := by
  induction P with
  | nil => simp [cmax]
  | cons e r ih =>
    have h1 : cmax (e :: r ++ Q) = max (e.o + dep e.n e.ts) (cmax (r ++ Q)) := rfl
    have h2 : cmax (e :: r) = max (e.o + dep e.n e.ts) (cmax r) := rfl
    rw [h1, h2, ih]; omega

def PendC (S : Nat → Prop) (w : World) (e : CE) : Prop := e.ts ≠ [] ∧ Trees S w e.n e.v e.ts ∧ e.o + dep e.n e.ts ≤ 1048577

structure AddP (S : Nat → Prop) (B cb : Nat) (w : World) (ds cs L : Nat) (o : Nat) (ts : List Tr) (dd cc : Nat) (wv : Value) (G : List (Value × Nat)) (w' : World) (P : List CE) (dd' cc' : Nat) (wv' : Value) : Prop where
  below : Below B w w'
  cst : Cst B cb w' dd' cc' wv' (G ++ P.map grp)
  row : wv'.ownBlock = wv.ownBlock ∨ ∃ b, wv'.ownBlock = some b ∧ w.heap.size ≤ b
  frame : ∀ b, b < w.heap.size → b ≠ cb → wv.ownBlock ≠ some b → w'.heap[b]? = w.heap[b]?
  pend : ∀ e ∈ P, PendC S w e
  dmax : max dd' (cmax P) = max dd ds
  csum : cc' + csum P = cc + cs
  more : cc ≤ cc' ∧ (0 < L → cc + ts.length ≤ cc')

def AddOk (S : Nat → Prop) (B cb L : Nat) : Prop := ∀ (n : Nat) (v : Value) (ts : List Tr) (o d dd cc : Nat) (wv : Value) (G : List (Value × Nat)) (w : World),
  d = o + 1 → (∀ b, S b → b < w.heap.size ∧ b ≠ cb ∧ wv.ownBlock ≠ some b) → Trees S w n v ts → Cst B cb w dd cc wv G → B ≤ w.heap.size → o + dep n ts ≤ 1048577 → dd ≤ 1048577 → cc + cnt n ts ≤ 1048576 → G.length + cnt n ts ≤ 1048576 →
  Calls Tryd.prog 44 #[.pointer (some ⟨cb, 0, none⟩), .agg #[v, .int .i64 (d : Int)], .int .i64 (L : Int)] w fun e w' => e = .returned (.tuple #[]) ∧
    ∃ P dd' cc' wv', AddP S B cb w (if ts = [] then 0 else o + dep n ts) (cnt n ts) L o ts dd cc wv G w' P dd' cc' wv'

theorem Cst.later {B cb : Nat} {w w' : World} {dd cc : Nat} {v : Value} {G : List (Value × Nat)} (h : Cst B cb w dd cc v G) (hb : Below w.heap.size w w') : Cst B cb w' dd cc v G :=
  ⟨h.base, by rw [hb.block cb h.lt]; exact h.held, ownsRow_later h.own hb, h.slices⟩

theorem add_nil (S : Nat → Prop) (B cb L n : Nat) (v : Value) (o d dd cc : Nat) (wv : Value) (G : List (Value × Nat)) (w : World) (h : Trees S w n v []) (hc : Cst B cb w dd cc wv G) (hB : B ≤ w.heap.size) :
    Calls Tryd.prog 44 #[.pointer (some ⟨cb, 0, none⟩), .agg #[v, .int .i64 (d : Int)], .int .i64 (L : Int)] w fun e w' => e = .returned (.tuple #[]) ∧
      ∃ P dd' cc' wv', AddP S B cb w 0 (cnt n []) L o [] dd cc wv G w' P dd' cc' wv' := by
  obtain ⟨a, c, rfl, _, _⟩ := Trees.shape n h
  simp only [List.length_nil]
  go_enter Tryd.func44, Tryd.ntmps44
  go_wp2_with fail
  go_returns
  refine ⟨rfl, [], dd, cc, wv, ?_⟩
  refine ⟨(Below.refl B w).alloc hB _, by simpa using hc.later (Below.alloc1 w _), Or.inl rfl, fun b hb _ _ => Below.heap_alloc _ _ _ hb, by simp, by simp [cmax], by simp [Go.Proofs.YtifbdfcbliafjaaDoor.csum, cnt_nil], Nat.le_refl _, fun _ => by simp⟩

theorem group_cells {W : World} {ad : Nat} {x y : Value} (h0 : W.cell? ⟨ad, 0, none⟩ = some x) (h1 : W.cell? ⟨ad, 1, none⟩ = some y) : ∀ j u, [x, y][j]? = some u → W.cell? ((⟨ad, 0, none⟩ : Addr).add j) = some u := by
  intro j u hj
  match j, hj with
  | 0, hj => simp at hj; subst hj; exact h0
  | 1, hj => simp at hj; subst hj; exact h1

theorem row_slice {w : World} {B n : Nat} {e : TypeId} {size : Nat} {v : Value} {xs : List Value} (h : w.ownsRow B e size v n xs) : ∃ a l c, v = .slice a l c := by
  rcases h.2 with ⟨hv, _⟩ | ⟨g, cap, cur, hv, _⟩
  · exact ⟨_, _, _, hv⟩
  · exact ⟨_, _, _, hv⟩

theorem grown_held {B cb : Nat} {W X w1 : World} {dd cc : Nat} {wv : Value} {G : List (Value × Nat)} (h : Cst B cb W dd cc wv G) (hX : Below W.heap.size W X) (hg : X.grownBy w1 wv.ownBlock) :
    w1.heap[cb]? = some (.cells #[.int .i64 (dd : Int), .int .i64 (cc : Int), wv] 47 (0, 0)) := by
  rw [hg.block cb (Nat.lt_of_lt_of_le h.lt hX.size) (fun e => h.apart e.symm), hX.block cb h.lt]
  exact h.held

theorem add_one {S : Nat → Prop} {B cb : Nat} {w W0 w1 : World} {n o d dd cc : Nat} {ts : List Tr} {va wa a1 : Option Addr} {vc wc l1 c1 : Nat} {G : List (Value × Nat)} {c : Obj} (hd : d = o + 1) (hne : ts ≠ [])
    (hT : Trees S w n (.slice va ts.length vc) ts) (hod : o + dep n ts ≤ 1048577) (hBw : B ≤ w.heap.size) (hbx : Below w.heap.size w W0) (hX : Cst B cb W0 dd cc (.slice wa G.length wc) G)
    (hown1 : w1.ownsRow B 69 2 (.slice a1 l1 c1) (G.length + 1) (groupCells G ++ [.slice va ts.length vc, .int .i64 (d : Int)]))
    (hgr1 : (W0.alloc c).drew.grownBy w1 (Value.slice wa G.length wc).ownBlock)
    (hat1 : (Value.slice a1 l1 c1).ownBlock = (Value.slice wa G.length wc).ownBlock ∨ (Value.slice a1 l1 c1).ownBlock = some (W0.alloc c).drew.heap.size) :
    AddP S B cb w (o + dep n ts) (cnt n ts) 0 o ts dd cc (.slice wa G.length wc) G (w1.setCell ⟨cb, 2, none⟩ (.slice a1 l1 c1)) [⟨.slice va ts.length vc, n, ts, o⟩] dd cc (.slice a1 l1 c1) := by
  have hH := grown_held hX (Below.alloc1 W0 c).drew hgr1
  have hsz := hbx.size
  have hsX : (W0.alloc c).drew.heap.size = W0.heap.size + 1 := by simp [World.drew]
  have hap : (Value.slice a1 l1 c1).ownBlock ≠ some cb := by
    intro e
    obtain ⟨_, cs, fz, hc⟩ := ownsRow_type hown1 e
    rw [hH] at hc
    simp at hc
  subst hd
  refine ⟨?_, ⟨hX.base, ?_, ?_, ?_⟩, ?_, ?_, ?_, ?_, ?_, Nat.le_refl _, fun h => by omega⟩
  · exact (((((hbx.mono hBw).alloc (by omega) c).drew).grown hgr1 (by omega) (fun k hk => (hX.own.lt k hk).1))).setCell hX.base _
  · simp [World.setCell, Array.getElem?_modify, hH]
  · have e1 : (G ++ List.map grp [(⟨.slice va ts.length vc, n, ts, o⟩ : CE)]).length = G.length + 1 := by simp
    rw [e1, groupCells_append]
    exact ownsRow_heap hown1 fun b hb => Below.heap_setCell _ _ _ _ (fun e => hap (by rw [hb, e]))
  · intro x hx
    rcases List.mem_append.1 hx with hx | hx
    · exact hX.slices x hx
    · simp [grp] at hx; subst hx; exact ⟨_, _, _, rfl⟩
  · rcases hat1 with h | h
    · exact Or.inl h
    · exact Or.inr ⟨_, h, by omega⟩
  · intro b hb h1 h2
    rw [Below.heap_setCell _ _ _ _ h1, hgr1.block b (by omega) (fun e => h2 e.symm)]
    show (W0.alloc c).heap[b]? = _
    rw [Lib.alloc_old _ _ _ (by omega), hbx.block b hb]
  · intro e he
    simp at he
    subst he
    exact ⟨hne, hT, hod⟩
  · simp [cmax]
  · simp [Go.Proofs.YtifbdfcbliafjaaDoor.csum]

theorem add_zero (S : Nat → Prop) (B cb : Nat) : AddOk S B cb 0 := by
  intro n v ts o d dd cc wv G w hd _ hT hC hBw hod hdd hcc hG
  have HD : Hid (d = o + 1) := hd
  by_cases hne : ts = []
  · subst hne
    simpa using add_nil S B cb 0 n v o d dd cc wv G w hT hC hBw
  · have hTo : Hid (Trees S w n v ts) := hT
    obtain ⟨va, vc, rfl, _, hvm⟩ := Trees.shape n hT
    have hl0 : 0 < ts.length := List.length_pos_iff.2 hne
    have hcn : 1 ≤ cnt n ts := by
      have := (Trees.deep n hT).len
      omega
    have hlt := hC.lt
    have hap := hC.apart
    have hne1 : ((ts.length : Int) == 0) = false := by
      have : (ts.length : Int) ≠ 0 := by omega
      simpa using this
    have hbx := Below.alloc1 w (.cells #[.slice va ts.length vc, .int .i64 (d : Int)] 69)
    have hX := hC.later hbx
    have b0 : (w.alloc (.cells #[.slice va ts.length vc, .int .i64 (d : Int)] 69)).cell? ⟨w.heap.size, 0, none⟩ = some (.slice va ts.length vc) := by simp
    have b1 : (w.alloc (.cells #[.slice va ts.length vc, .int .i64 (d : Int)] 69)).cell? ⟨w.heap.size, 1, none⟩ = some (.int .i64 (d : Int)) := by simp
    have hsz : (w.alloc (.cells #[.slice va ts.length vc, .int .i64 (d : Int)] 69)).heap.size = w.heap.size + 1 := by simp
    have HO : Hid (o + dep n ts ≤ 1048577) := hod
    clear hT hd hod hcc hdd
    unfold maxLen at hvm
    go_enter Tryd.func44, Tryd.ntmps44
    go_wp2_with fail
    generalize w.alloc (.cells #[.slice va ts.length vc, .int .i64 (d : Int)] 69) = W0 at hbx hX b0 b1 hsz ⊢
    obtain ⟨wa, wc, rfl⟩ := hC.shape
    have HS : Hid (W0.heap.size = w.heap.size + 1) := hsz
    have hB0 : B ≤ W0.heap.size := by omega
    have hszl : w.heap.size < W0.heap.size := by omega
    clear hsz
    have k2 : W0.cell? ⟨cb, 2, none⟩ = some (.slice wa G.length wc) := by rw [Lib.cell_of_heap hX.held]; rfl
    have kf : W0.frozen? ⟨cb, 2, none⟩ = false := Lib.frozen_of_heap hX.held 2
    have hcb0 : cb < W0.heap.size := hX.lt
    have HX : Hid (Cst B cb W0 dd cc (.slice wa G.length wc) G) := hX
    clear hX hC
    have hrow : (W0.alloc (.cells #[.slice va ts.length vc, .int .i64 (d : Int)] 69)).drew.ownsRow B 69 2 (.slice wa G.length wc) G.length (groupCells G) := HX.out.own.alloc _
    have hgc : ∀ j u, [Value.slice va ts.length vc, Value.int .i64 (d : Int)][j]? = some u → (W0.alloc (.cells #[.slice va ts.length vc, .int .i64 (d : Int)] 69)).drew.cell? ((⟨W0.heap.size, 0, none⟩ : Addr).add j) = some u := group_cells (W := (W0.alloc (.cells #[.slice va ts.length vc, .int .i64 (d : Int)] 69)).drew) (by simp) (by simp)
    have HR : Hid _ := hrow
    have HGC : Hid _ := hgc
    clear hrow hgc
    have hGl : G.length ≤ 1048576 := by omega
    have HH : Hid (∀ w1, (W0.alloc (.cells #[.slice va ts.length vc, .int .i64 (d : Int)] 69)).drew.grownBy w1 (Value.slice wa G.length wc).ownBlock → w1.heap[cb]? = some (.cells #[.int .i64 (dd : Int), .int .i64 (cc : Int), .slice wa G.length wc] 47 (0, 0))) := fun w1 hg => grown_held HX.out (Below.alloc1 W0 _).drew hg
    go_region_law (first
      | (refine step_group (by rfl) (.tmp 17) (.tmp 19) (by rfl) B (.slice wa G.length wc) G.length (groupCells G) (by simp [Act.eval]) HR.out ⟨W0.heap.size, 0, none⟩ va ts.length vc (d : Int) (by simp [Act.eval]) HGC.out hGl (by simp; omega) ?_; intro v1 w1 hown1 hgr1 hat1; obtain ⟨a1, l1, c1, rfl⟩ := row_slice hown1; have hj1 := Lib.cell_of_heap (HH.out w1 hgr1) 2; have hf1 := Lib.frozen_of_heap (HH.out w1 hgr1) 2; simp at hj1))
    all_goals
      go_wp2_with fail
      go_returns
      exact ⟨rfl, _, _, _, _, add_one HD.out hne hTo.out HO.out hBw hbx HX.out hown1 hgr1 hat1⟩
end Go.Proofs.YtifbdfcbliafjaaDoor
