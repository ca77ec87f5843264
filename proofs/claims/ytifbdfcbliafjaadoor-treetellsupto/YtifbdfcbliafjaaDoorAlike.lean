/- (*comparer).alike at no level: what is to be compared waits. Condition: at most 2^20 pairs wait. -/
import Derived.Test.YtifbdfcbliafjaaDoorPairT
import Derived.Test.YtifbdfcbliafjaaDoorEqualA
import Derived.Test.YtifbdfcbliafjaaDoorCount
import Derived.Test.YtifbdfcbliafjaaDoorKidsW
import Derived.Deep.RegionLaw
import Derived.BigRegion
namespace Go.Proofs.YtifbdfcbliafjaaDoor
open Go.ChangeShapes Go.WideShapes Go.ChangeAt Go.RowKit
set_option maxRecDepth 100000

theorem pairInfo : (Tryd.prog.info? 82).map (fun i => (i.zero, i.size, i.bytes)) = some (some (.agg #[.slice none 0 0, .slice none 0 0]), 2, 48) := by kernel_rfl

/-- A pair appended onto the waiting ones, as a step of a region that draws. -/
theorem step_pair {ops : Array Oper} {o : Oper} {a : Act} {w : World} {K : Act → World → Prop} {Q : Exit → Act → World → Prop} {E : Prop}
    (hg : o.guard = none) (s x : Operand) (hop : o.op = Op.call { callee := Callee.builtin Builtin.append, args := #[s, x], argTypes := #[55, 55] })
    (B : Nat) (v : Value) (n : Nat) (xs : List Value) (hs : a.eval s = v) (hown : w.ownsRow B 82 2 v n xs) (ad : Addr) (sa : Option Addr) (sl sc : Nat) (ua : Option Addr) (ul uc : Nat) (hx : a.eval x = .slice (some ad) 1 1)
    (hnews : ∀ j u, [Value.slice sa sl sc, Value.slice ua ul uc][j]? = some u → w.cell? (ad.add j) = some u) (hn : n ≤ 1048576) (hB : B ≤ w.heap.size)
    (hK : ∀ v' w', w'.ownsRow B 82 2 v' (n + 1) (xs ++ [.slice sa sl sc, .slice ua ul uc]) → w.grownBy w' v.ownBlock → (v'.ownBlock = v.ownBlock ∨ v'.ownBlock = some w.heap.size) → K (a.put o.dst v') w') :
    if Region.wanted o (yielded ops a.tmps) = true then Oper.wp Tryd.prog o a w K Q else E := by
  have hw : Region.wanted o (yielded ops a.tmps) = true := by simp [Region.wanted, hg]
  rw [if_pos hw]
  obtain ⟨i0, hi, hz0, hz1, hz2⟩ := info_parts pairInfo
  obtain ⟨v', w', hr, h2, h3, _, h5⟩ := run_append_own_at (P := Tryd.prog) w B 55 o.type 82 i0 _ 2 48 Tryd.underlying55 hi hz0 hz1 hz2 rfl (by decide) v n xs hown ad 1 1 [.slice sa sl sc, .slice ua ul uc] rfl hnews (by intro u hu; simp at hu; rcases hu with rfl | rfl <;> rfl) (by unfold maxLen; omega) (by omega) hB
  unfold Oper.wp
  simp [execOp, hop, resolve, invoke, builtin, hs, hx, hr, Result.andThen]
  exact hK v' w' h2 h3 h5

structure PE where
  v : Value
  v' : Value
  n : Nat
  ts : List Tr
  us : List Tr

def psum (P : List PE) : Nat := (P.map fun e => cnt e.n e.ts).sum
def plike (P : List PE) : Bool := P.all fun e => likeB e.n e.ts e.us
def prs (e : PE) : Value × Value := (e.v, e.v')

theorem psum_append (P Q : List PE) : psum (P ++ Q) = psum P + psum Q := by simp [psum]
theorem plike_append (P Q : List PE) : plike (P ++ Q) = (plike P && plike Q) := by simp [plike]

def PendL (S : Nat → Prop) (w : World) (e : PE) : Prop := e.ts ≠ [] ∧ Trees S w e.n e.v e.ts ∧ Trees S w e.n e.v' e.us

theorem psum_len {S : Nat → Prop} {w : World} {P : List PE} (h : ∀ e ∈ P, PendL S w e) : P.length ≤ psum P := by
  induction P with
  | nil => simp
  | cons e r ih =>
    have h1 := ih (fun x hx => h x (List.mem_cons_of_mem _ hx))
    obtain ⟨h2, h3, _⟩ := h e List.mem_cons_self
    have h4 := (Trees.deep e.n h3).len
    have h5 := List.length_pos_iff.2 h2
    have h6 : psum (e :: r) = cnt e.n e.ts + psum r := by simp [psum]
    simp only [List.length_cons]; omega

structure AlkP (S : Nat → Prop) (B cb : Nat) (w : World) (lk : Bool) (cs L : Nat) (ts : List Tr) (wv : Value) (G : List (Value × Value)) (w' : World) (P : List PE) (wv' : Value) : Prop where
  below : Below B w w'
  cst : Pst B cb w' wv' (G ++ P.map prs)
  row : wv'.ownBlock = wv.ownBlock ∨ ∃ b, wv'.ownBlock = some b ∧ w.heap.size ≤ b
  frame : ∀ b, b < w.heap.size → b ≠ cb → wv.ownBlock ≠ some b → w'.heap[b]? = w.heap[b]?
  pend : ∀ e ∈ P, PendL S w e
  like : lk = plike P
  less : psum P ≤ cs ∧ (0 < L → psum P + ts.length ≤ cs)

/-- What the call answers: no, and they are not alike; or yes, and they are if what waits is. -/
def AlkR (S : Nat → Prop) (B cb : Nat) (w : World) (lk : Bool) (cs L : Nat) (ts : List Tr) (wv : Value) (G : List (Value × Value)) (r : Bool) (w' : World) : Prop :=
  match r with
  | false => lk = false ∧ Below B w w' ∧ ∀ b, b < w.heap.size → b ≠ cb → wv.ownBlock ≠ some b → w'.heap[b]? = w.heap[b]?
  | true => ∃ P wv', AlkP S B cb w lk cs L ts wv G w' P wv'

theorem AlkR.frame {S : Nat → Prop} {B cb : Nat} {w : World} {lk : Bool} {cs L : Nat} {ts : List Tr} {wv : Value} {G : List (Value × Value)} {r : Bool} {w' : World} (h : AlkR S B cb w lk cs L ts wv G r w') :
    ∀ b, b < w.heap.size → b ≠ cb → wv.ownBlock ≠ some b → w'.heap[b]? = w.heap[b]? := by
  cases r with
  | false => exact h.2.2
  | true => obtain ⟨P, wv', J⟩ := h; exact J.frame

def AlkOk (S : Nat → Prop) (B cb L : Nat) : Prop := ∀ (n : Nat) (v v' : Value) (ts us : List Tr) (wv : Value) (G : List (Value × Value)) (w : World),
  (∀ b, S b → b < w.heap.size ∧ b ≠ cb ∧ wv.ownBlock ≠ some b) → Trees S w n v ts → Trees S w n v' us → Pst B cb w wv G → B ≤ w.heap.size → G.length + cnt n ts ≤ 1048576 →
  Calls Tryd.prog 54 #[.pointer (some ⟨cb, 0, none⟩), .agg #[v, v'], .int .i64 (L : Int)] w fun e w' => ∃ r, e = .returned (.bool r) ∧ AlkR S B cb w (likeB n ts us) (cnt n ts) L ts wv G r w'

theorem alk_len (S : Nat → Prop) (B cb L n : Nat) (v v' : Value) (ts us : List Tr) (wv : Value) (G : List (Value × Value)) (w : World) (h : Trees S w n v ts) (h' : Trees S w n v' us) (hB : B ≤ w.heap.size) (hne : ts.length ≠ us.length) :
    Calls Tryd.prog 54 #[.pointer (some ⟨cb, 0, none⟩), .agg #[v, v'], .int .i64 (L : Int)] w fun e w' => ∃ r, e = .returned (.bool r) ∧ AlkR S B cb w (likeB n ts us) (cnt n ts) L ts wv G r w' := by
  obtain ⟨a, c, rfl, _, _⟩ := Trees.shape n h
  obtain ⟨a', c', rfl, _, _⟩ := Trees.shape n h'
  have hq : ((ts.length : Int) != us.length) = true := by
    have : (ts.length : Int) ≠ us.length := by omega
    simpa using this
  have HQ : Hid (likeB n ts us = false) := likeB_len hne
  clear h h' hne
  go_enter Tryd.func54, Tryd.ntmps54
  go_wp2_with fail
  go_ret
  exact ⟨false, rfl, HQ.out, (Below.refl B w).alloc hB _, fun b hb _ _ => Below.heap_alloc _ _ _ hb⟩

theorem alk_nil (S : Nat → Prop) (B cb L n : Nat) (v v' : Value) (wv : Value) (G : List (Value × Value)) (w : World) (h : Trees S w n v []) (h' : Trees S w n v' []) (hc : Pst B cb w wv G) (hB : B ≤ w.heap.size) :
    Calls Tryd.prog 54 #[.pointer (some ⟨cb, 0, none⟩), .agg #[v, v'], .int .i64 (L : Int)] w fun e w' => ∃ r, e = .returned (.bool r) ∧ AlkR S B cb w (likeB n [] []) (cnt n []) L [] wv G r w' := by
  obtain ⟨a, c, rfl, _, _⟩ := Trees.shape n h
  obtain ⟨a', c', rfl, _, _⟩ := Trees.shape n h'
  simp only [List.length_nil]
  go_enter Tryd.func54, Tryd.ntmps54
  go_wp2_with fail
  go_ret
  refine ⟨true, rfl, [], wv, ?_⟩
  exact ⟨(Below.refl B w).alloc hB _, by simpa using hc.later (Below.alloc1 w _), Or.inl rfl, fun b hb _ _ => Below.heap_alloc _ _ _ hb, by simp, by rw [likeB_nil]; rfl, Nat.zero_le _, fun _ => Nat.zero_le _⟩

theorem pair_grown {B cb : Nat} {W X w1 : World} {wv : Value} {G : List (Value × Value)} (h : Pst B cb W wv G) (hX : Below W.heap.size W X) (hg : X.grownBy w1 wv.ownBlock) :
    w1.heap[cb]? = some (.cells #[wv] 57 (0, 0)) := by
  rw [hg.block cb (Nat.lt_of_lt_of_le h.lt hX.size) (fun e => h.apart e.symm), hX.block cb h.lt]
  exact h.held

theorem alk_one {S : Nat → Prop} {B cb : Nat} {w W0 w1 : World} {n : Nat} {ts us : List Tr} {va ua wa a1 : Option Addr} {vc uc wc l1 c1 : Nat} {G : List (Value × Value)} {c : Obj} (hne : ts ≠ [])
    (hT : Trees S w n (.slice va ts.length vc) ts) (hU : Trees S w n (.slice ua us.length uc) us) (hBw : B ≤ w.heap.size) (hbx : Below w.heap.size w W0) (hX : Pst B cb W0 (.slice wa G.length wc) G)
    (hown1 : w1.ownsRow B 82 2 (.slice a1 l1 c1) (G.length + 1) (pairCells G ++ [.slice va ts.length vc, .slice ua us.length uc]))
    (hgr1 : (W0.alloc c).drew.grownBy w1 (Value.slice wa G.length wc).ownBlock)
    (hat1 : (Value.slice a1 l1 c1).ownBlock = (Value.slice wa G.length wc).ownBlock ∨ (Value.slice a1 l1 c1).ownBlock = some (W0.alloc c).drew.heap.size) :
    AlkP S B cb w (likeB n ts us) (cnt n ts) 0 ts (.slice wa G.length wc) G (w1.setCell ⟨cb, 0, none⟩ (.slice a1 l1 c1)) [⟨.slice va ts.length vc, .slice ua us.length uc, n, ts, us⟩] (.slice a1 l1 c1) := by
  have hH := pair_grown hX (Below.alloc1 W0 c).drew hgr1
  have hsz := hbx.size
  have hsX : (W0.alloc c).drew.heap.size = W0.heap.size + 1 := by simp [World.drew]
  have hap : (Value.slice a1 l1 c1).ownBlock ≠ some cb := by
    intro e
    obtain ⟨_, cs, fz, hc⟩ := ownsRow_type hown1 e
    rw [hH] at hc
    simp at hc
  refine ⟨?_, ⟨hX.base, ?_, ?_, ?_⟩, ?_, ?_, ?_, ?_, ?_, fun h => by omega⟩
  · exact (((((hbx.mono hBw).alloc (by omega) c).drew).grown hgr1 (by omega) (fun k hk => (hX.own.lt k hk).1))).setCell hX.base _
  · simp [World.setCell, Array.getElem?_modify, hH]
  · have e1 : (G ++ List.map prs [(⟨.slice va ts.length vc, .slice ua us.length uc, n, ts, us⟩ : PE)]).length = G.length + 1 := by simp
    rw [e1, pairCells_append]
    exact ownsRow_heap hown1 fun b hb => Below.heap_setCell _ _ _ _ (fun e => hap (by rw [hb, e]))
  · intro x hx
    rcases List.mem_append.1 hx with hx | hx
    · exact hX.slices x hx
    · simp [prs] at hx; subst hx; exact ⟨⟨_, _, _, rfl⟩, _, _, _, rfl⟩
  · rcases hat1 with h | h
    · exact Or.inl h
    · exact Or.inr ⟨_, h, by omega⟩
  · intro b hb h1 h2
    rw [Below.heap_setCell _ _ _ _ h1, hgr1.block b (by omega) (fun e => h2 e.symm)]
    show (W0.alloc c).heap[b]? = _
    rw [Lib.alloc_old _ _ _ (by omega), hbx.block b hb]
  · intro e he
    simp at he
    subst he
    exact ⟨hne, hT, hU⟩
  · simp [plike]
  · simp [psum]

theorem alk_zero (S : Nat → Prop) (B cb : Nat) : AlkOk S B cb 0 := by
  intro n v v' ts us wv G w _ hT hU hC hBw hG
  by_cases hlen : ts.length = us.length
  · by_cases hne : ts = []
    · subst hne
      obtain rfl : us = [] := List.eq_nil_of_length_eq_zero hlen.symm
      exact alk_nil S B cb 0 n v v' wv G w hT hU hC hBw
    · have hTo : Hid (Trees S w n v ts) := hT
      have hUo : Hid (Trees S w n v' us) := hU
      obtain ⟨va, vc, rfl, _, hvm⟩ := Trees.shape n hT
      obtain ⟨ua, uc, rfl, _, hum⟩ := Trees.shape n hU
      have hl0 : 0 < ts.length := List.length_pos_iff.2 hne
      have hcn : 1 ≤ cnt n ts := by
        have := (Trees.deep n hT).len
        omega
      have hlt := hC.lt
      have hap := hC.apart
      have hne1 : ((ts.length : Int) == 0) = false := by
        have : (ts.length : Int) ≠ 0 := by omega
        simpa using this
      have hne2 : ((ts.length : Int) != us.length) = false := by simp [hlen]
      have hbx := Below.alloc1 w (.cells #[.slice va ts.length vc, .slice ua us.length uc] 82)
      have hX := hC.later hbx
      have b0 : (w.alloc (.cells #[.slice va ts.length vc, .slice ua us.length uc] 82)).cell? ⟨w.heap.size, 0, none⟩ = some (.slice va ts.length vc) := by simp
      have b1 : (w.alloc (.cells #[.slice va ts.length vc, .slice ua us.length uc] 82)).cell? ⟨w.heap.size, 1, none⟩ = some (.slice ua us.length uc) := by simp
      have hsz : (w.alloc (.cells #[.slice va ts.length vc, .slice ua us.length uc] 82)).heap.size = w.heap.size + 1 := by simp
      clear hT hU hlen
      unfold maxLen at hvm
      go_enter Tryd.func54, Tryd.ntmps54
      go_wp2_with fail
      generalize w.alloc (.cells #[.slice va ts.length vc, .slice ua us.length uc] 82) = W0 at hbx hX b0 b1 hsz ⊢
      obtain ⟨wa, wc, rfl⟩ := hC.shape
      have HS : Hid (W0.heap.size = w.heap.size + 1) := hsz
      have hB0 : B ≤ W0.heap.size := by omega
      have hszl : w.heap.size < W0.heap.size := by omega
      clear hsz
      have k2 : W0.cell? ⟨cb, 0, none⟩ = some (.slice wa G.length wc) := by rw [Lib.cell_of_heap hX.held]; rfl
      have kf : W0.frozen? ⟨cb, 0, none⟩ = false := Lib.frozen_of_heap hX.held 0
      have hcb0 : cb < W0.heap.size := hX.lt
      have HX : Hid (Pst B cb W0 (.slice wa G.length wc) G) := hX
      clear hX hC
      have hrow : (W0.alloc (.cells #[.slice va ts.length vc, .slice ua us.length uc] 82)).drew.ownsRow B 82 2 (.slice wa G.length wc) G.length (pairCells G) := HX.out.own.alloc _
      have hgc : ∀ j u, [Value.slice va ts.length vc, Value.slice ua us.length uc][j]? = some u → (W0.alloc (.cells #[.slice va ts.length vc, .slice ua us.length uc] 82)).drew.cell? ((⟨W0.heap.size, 0, none⟩ : Addr).add j) = some u := group_cells (W := (W0.alloc (.cells #[.slice va ts.length vc, .slice ua us.length uc] 82)).drew) (by simp) (by simp)
      have HR : Hid _ := hrow
      have HGC : Hid _ := hgc
      clear hrow hgc
      have hGl : G.length ≤ 1048576 := by omega
      have HH : Hid (∀ w1, (W0.alloc (.cells #[.slice va ts.length vc, .slice ua us.length uc] 82)).drew.grownBy w1 (Value.slice wa G.length wc).ownBlock → w1.heap[cb]? = some (.cells #[.slice wa G.length wc] 57 (0, 0))) := fun w1 hg => pair_grown HX.out (Below.alloc1 W0 _).drew hg
      go_region_law (first
        | (refine step_pair (by rfl) (.tmp 25) (.tmp 27) (by rfl) B (.slice wa G.length wc) G.length (pairCells G) (by simp [Act.eval]) HR.out ⟨W0.heap.size, 0, none⟩ va ts.length vc ua us.length uc (by simp [Act.eval]) HGC.out hGl (by simp; omega) ?_; intro v1 w1 hown1 hgr1 hat1; obtain ⟨a1, l1, c1, rfl⟩ := row_slice hown1; have hj1 := Lib.cell_of_heap (HH.out w1 hgr1) 0; have hf1 := Lib.frozen_of_heap (HH.out w1 hgr1) 0; simp at hj1))
      all_goals
        go_wp2_with fail
        go_ret
        exact ⟨true, rfl, _, _, alk_one hne hTo.out hUo.out hBw hbx HX.out hown1 hgr1 hat1⟩
  · exact alk_len S B cb 0 n v v' ts us wv G w hT hU hBw hlen
end Go.Proofs.YtifbdfcbliafjaaDoor
