/- (*counter).add at some levels. Condition: at most 2^20 trees. -/
import Derived.Test.YtifbdfcbliafjaaDoorCount
import Derived.Deep.RegionWith
import Derived.Deep.QuietTactic
import Derived.BigQuiet
namespace Go.Proofs.YtifbdfcbliafjaaDoor
open Go.ChangeShapes Go.WideShapes Go.ChangeAt Go.RowKit
set_option maxRecDepth 100000

attribute [local go_sem] cell_set

/-- The loop's state ahead of round k. -/
structure LoopC (S : Nat → Prop) (B cb : Nat) (w : World) (m o k : Nat) (ts : List Tr) (bx by_ : Value) (dd cc : Nat) (wv : Value) (G : List (Value × Nat)) (w' : World) (P : List CE) (dd' cc' : Nat) (wv' : Value) : Prop where
  below : Below B w w'
  cst : Cst B cb w' dd' cc' wv' (G ++ P.map grp)
  row : wv'.ownBlock = wv.ownBlock ∨ ∃ b, wv'.ownBlock = some b ∧ w.heap.size + 1 ≤ b
  frame : ∀ b, b < w.heap.size → b ≠ cb → wv.ownBlock ≠ some b → w'.heap[b]? = w.heap[b]?
  box0 : w'.cell? ⟨w.heap.size, 0, none⟩ = some bx
  box1 : w'.cell? ⟨w.heap.size, 1, none⟩ = some by_
  size : w.heap.size + 1 ≤ w'.heap.size
  pend : ∀ e ∈ P, PendC S w e
  dmax : max dd' (cmax P) = max dd (max (o + 1) (o + dep (m + 1) (ts.take k)))
  csum : cc' + csum P = cc + ts.length + cnt m (nx (ts.take k))
  more : cc + ts.length ≤ cc'

theorem csum_len {S : Nat → Prop} {w : World} {P : List CE} (h : ∀ e ∈ P, PendC S w e) : P.length ≤ csum P := by
  induction P with
  | nil => simp
  | cons e r ih =>
    have h1 := ih (fun x hx => h x (List.mem_cons_of_mem _ hx))
    obtain ⟨h2, h3, _⟩ := h e List.mem_cons_self
    have h4 := (Trees.deep e.n h3).len
    have h5 := List.length_pos_iff.2 h2
    have h6 : csum (e :: r) = cnt e.n e.ts + csum r := by simp [csum]
    simp only [List.length_cons]; omega

theorem loopC_step {S : Nat → Prop} {B cb : Nat} {w : World} {m o k L : Nat} {ts : List Tr} {bx by_ : Value} {dd cc : Nat} {wv : Value} {G : List (Value × Nat)} {wr w3 : World} {P P1 : List CE} {dd' cc' dd3 cc3 : Nat} {wv' wv3 : Value} {t : Tr}
    (hS : ∀ b, S b → wr.heap[b]? = w.heap[b]?) (I : LoopC S B cb w m o k ts bx by_ dd cc wv G wr P dd' cc' wv') (hwv : ∀ b, wv.ownBlock = some b → b < w.heap.size) (hcb : cb < w.heap.size) (hsn : ts.take (k + 1) = ts.take k ++ [t])
    (J : AddP S B cb wr (if t.kids = [] then 0 else o + 1 + dep m t.kids) (cnt m t.kids) L (o + 1) t.kids dd' cc' wv' (G ++ P.map grp) w3 P1 dd3 cc3 wv3) :
    LoopC S B cb w m o (k + 1) ts bx by_ dd cc wv G w3 (P ++ P1) dd3 cc3 wv3 := by
  have hsz3 := J.below.size
  have hszr := I.size
  have hrow : ∀ b, b < w.heap.size + 1 → wv.ownBlock ≠ some b → wv'.ownBlock ≠ some b := by
    intro b hb h1 h2
    rcases I.row with h | ⟨b', h, h3⟩
    · exact h1 (h.symm.trans h2)
    · rw [h] at h2; cases h2; omega
  have hbox : w3.heap[w.heap.size]? = wr.heap[w.heap.size]? := J.frame _ (by omega) (by omega) (hrow _ (by omega) (fun e => by have := hwv _ e; omega))
  refine ⟨I.below.trans J.below, ?_, ?_, ?_, ?_, ?_, by omega, ?_, ?_, ?_, ?_⟩
  · have := J.cst; simpa using this
  · rcases J.row with h | ⟨b, h, h1⟩
    · rw [h]; exact I.row
    · exact Or.inr ⟨b, h, by omega⟩
  · intro b hb h1 h2
    rw [J.frame b (by omega) h1 (hrow b (by omega) h2), I.frame b hb h1 h2]
  · rw [World.cell?_of_block (a := ⟨w.heap.size, 0, none⟩) hbox]; exact I.box0
  · rw [World.cell?_of_block (a := ⟨w.heap.size, 1, none⟩) hbox]; exact I.box1
  · intro e he
    rcases List.mem_append.1 he with he | he
    · exact I.pend e he
    · obtain ⟨h1, h2, h3⟩ := J.pend e he
      exact ⟨h1, Trees.carry (fun b hb => ⟨hb, (hS b hb).symm⟩) e.n h2, h3⟩
  · rw [cmax_append, hsn, dep_append, dep_cons, dep_nil]
    have h1 := J.dmax
    have h2 := I.dmax
    by_cases hk : t.kids = []
    · rw [if_pos hk] at h1
      rw [hk, dep_nil]
      omega
    · rw [if_neg hk] at h1
      omega
  · rw [csum_append, hsn, nx_append, nx_cons, nx_nil, List.append_nil, cnt_append]
    have h1 := J.csum
    have h2 := I.csum
    omega
  · have := J.more.1; have := I.more; omega

theorem loopC_start {S : Nat → Prop} {B cb : Nat} {w W0 : World} {m o d : Nat} {ts : List Tr} {bx by_ : Value} {dd cc : Nat} {wv : Value} {G : List (Value × Nat)} (hd : d = o + 1) (hBw : B ≤ w.heap.size) (hcb : cb < w.heap.size) (hsz : W0.heap.size = w.heap.size + 1) (hbx : Below w.heap.size w W0) (hX : Cst B cb W0 dd cc wv G)
    (b0 : W0.cell? ⟨w.heap.size, 0, none⟩ = some bx) (b1 : W0.cell? ⟨w.heap.size, 1, none⟩ = some by_) :
    LoopC S B cb w m o 0 ts bx by_ dd cc wv G ((W0.setCell ⟨cb, 0, none⟩ (.int .i64 (max (dd : Int) (d : Int)))).setCell ⟨cb, 1, none⟩ (.int .i64 ((cc : Int) + (ts.length : Int)))).drew.drew [] (max dd d) (cc + ts.length) wv := by
  have hk : ∀ b, b ≠ cb → ((W0.setCell ⟨cb, 0, none⟩ (.int .i64 (max (dd : Int) (d : Int)))).setCell ⟨cb, 1, none⟩ (.int .i64 ((cc : Int) + (ts.length : Int)))).drew.drew.heap[b]? = W0.heap[b]? := by
    intro b hb
    show ((W0.setCell ⟨cb, 0, none⟩ (.int .i64 (max (dd : Int) (d : Int)))).setCell ⟨cb, 1, none⟩ (.int .i64 ((cc : Int) + (ts.length : Int)))).heap[b]? = _
    rw [Below.heap_setCell _ _ _ _ hb, Below.heap_setCell _ _ _ _ hb]
  subst hd
  refine ⟨((((hbx.mono hBw).setCell hX.base _).setCell hX.base _).drew).drew, ⟨hX.base, ?_, ?_, ?_⟩, Or.inl rfl, ?_, ?_, ?_, ?_, by simp, ?_, ?_, Nat.le_refl _⟩
  · show ((W0.setCell ⟨cb, 0, none⟩ _).setCell ⟨cb, 1, none⟩ _).heap[cb]? = _
    have e1 : (((max dd (o + 1) : Nat)) : Int) = max (dd : Int) ((o + 1 : Nat) : Int) := by omega
    have e2 : (((cc + ts.length : Nat)) : Int) = (cc : Int) + (ts.length : Int) := by omega
    rw [e1, e2]
    simp [World.setCell, Array.getElem?_modify, hX.held]
  · simp only [List.map_nil, List.append_nil]
    exact ownsRow_heap hX.own fun b hb => hk b (fun e => hX.apart (by rw [hb, e]))
  · simp only [List.map_nil, List.append_nil]
    exact hX.slices
  · intro b hb h1 _
    rw [hk b h1, hbx.block b hb]
  · rw [World.cell?_of_block (a := ⟨w.heap.size, 0, none⟩) (hk w.heap.size (by omega))]; exact b0
  · rw [World.cell?_of_block (a := ⟨w.heap.size, 1, none⟩) (hk w.heap.size (by omega))]; exact b1
  · show w.heap.size + 1 ≤ ((W0.setCell ⟨cb, 0, none⟩ _).setCell ⟨cb, 1, none⟩ _).heap.size
    simp; omega
  · simp [cmax, dep_nil]
  · simp [Go.Proofs.YtifbdfcbliafjaaDoor.csum, nx_nil, cnt_nil]

theorem loopC_stop {S : Nat → Prop} {B cb : Nat} {w : World} {m o L : Nat} {ts : List Tr} {bx by_ : Value} {dd cc : Nat} {wv : Value} {G : List (Value × Nat)} {wr : World} {P : List CE} {dd' cc' : Nat} {wv' : Value}
    (hne : ts ≠ []) (I : LoopC S B cb w m o ts.length ts bx by_ dd cc wv G wr P dd' cc' wv') : AddP S B cb w (o + dep (m + 1) ts) (cnt (m + 1) ts) L o ts dd cc wv G wr P dd' cc' wv' := by
  refine ⟨I.below, I.cst, ?_, I.frame, I.pend, ?_, ?_, ?_, fun _ => I.more⟩
  · rcases I.row with h | ⟨b, h, h1⟩
    · exact Or.inl h
    · exact Or.inr ⟨b, h, by omega⟩
  · have h := I.dmax
    rw [List.take_length] at h
    rw [h, dep_nx m ts hne]; omega
  · have h := I.csum
    rw [List.take_length] at h
    rw [h, cnt_nx m ts]; omega
  · have := I.more; omega

theorem AddP.undrew {S : Nat → Prop} {B cb : Nat} {w : World} {ds cs L o : Nat} {ts : List Tr} {dd cc : Nat} {wv : Value} {G : List (Value × Nat)} {w' : World} {P : List CE} {dd' cc' : Nat} {wv' : Value}
    (h : AddP S B cb w.drew ds cs L o ts dd cc wv G w' P dd' cc' wv') : AddP S B cb w ds cs L o ts dd cc wv G w' P dd' cc' wv' :=
  ⟨(Below.refl B w).drew.trans h.below, h.cst, h.row, h.frame, fun e he => by
    obtain ⟨h1, h2, h3⟩ := h.pend e he
    exact ⟨h1, Trees.carry (w := w.drew) (w' := w) (fun b hb => ⟨hb, rfl⟩) e.n h2, h3⟩, h.dmax, h.csum, h.more⟩

theorem add_succ (S : Nat → Prop) (B cb : Nat) (L : Nat) (hL : L < 1000) (ih : AddOk S B cb L) : AddOk S B cb (L + 1) := by
  intro n v ts o d dd cc wv G w hd hS0 hT hC hBw hod hdd hcc hG
  have HS0 : Hid (∀ b, S b → b < w.heap.size ∧ b ≠ cb ∧ wv.ownBlock ≠ some b) := hS0
  clear hS0
  have HD : Hid (d = o + 1) := hd
  by_cases hne : ts = []
  · subst hne
    simpa using add_nil S B cb (L + 1) n v o d dd cc wv G w hT hC hBw
  · have hTo : Hid (Trees S w n v ts) := hT
    obtain ⟨va, vc, rfl, _, hvm⟩ := Trees.shape n hT
    have hl0 : 0 < ts.length := List.length_pos_iff.2 hne
    have hcn := (Trees.deep n hT).len
    have hlt := hC.lt
    have hap := hC.apart
    have hne1 : ((ts.length : Int) == 0) = false := by
      have : (ts.length : Int) ≠ 0 := by omega
      simpa using this
    have hne2 : ((((L + 1 : Nat) : Int)) == 0) = false := by
      have : (((L + 1 : Nat) : Int)) ≠ 0 := by omega
      simpa using this
    obtain ⟨M, hM⟩ : ∃ M, L + 1 = M := ⟨_, rfl⟩
    rw [hM] at hne2 ⊢
    have hbx := Below.alloc1 w (.cells #[.slice va ts.length vc, .int .i64 (d : Int)] 69)
    have hX := hC.later hbx
    have b0 : (w.alloc (.cells #[.slice va ts.length vc, .int .i64 (d : Int)] 69)).cell? ⟨w.heap.size, 0, none⟩ = some (.slice va ts.length vc) := by simp
    have b1 : (w.alloc (.cells #[.slice va ts.length vc, .int .i64 (d : Int)] 69)).cell? ⟨w.heap.size, 1, none⟩ = some (.int .i64 (d : Int)) := by simp
    have hsz : (w.alloc (.cells #[.slice va ts.length vc, .int .i64 (d : Int)] 69)).heap.size = w.heap.size + 1 := by simp
    have HO : Hid (o + dep n ts ≤ 1048577) := hod
    have HIH : Hid (AddOk S B cb L) := ih
    have HM : Hid (L + 1 = M) := hM
    clear hT hd ih hM
    unfold maxLen at hvm
    go_enter Tryd.func44, Tryd.ntmps44
    go_wp2_with fail
    generalize w.alloc (.cells #[.slice va ts.length vc, .int .i64 (d : Int)] 69) = W0 at hbx hX b0 b1 hsz ⊢
    have HS : Hid (W0.heap.size = w.heap.size + 1) := hsz
    have hB0 : B ≤ W0.heap.size := by omega
    have hszl : w.heap.size < W0.heap.size := by omega
    have hcw : cb ≠ w.heap.size := by omega
    clear hsz
    have k0 : W0.cell? ⟨cb, 0, none⟩ = some (.int .i64 (dd : Int)) := by rw [Lib.cell_of_heap hX.held]; rfl
    have k1 : W0.cell? ⟨cb, 1, none⟩ = some (.int .i64 (cc : Int)) := by rw [Lib.cell_of_heap hX.held]; rfl
    have kf0 : W0.frozen? ⟨cb, 0, none⟩ = false := Lib.frozen_of_heap hX.held 0
    have kf1 : W0.frozen? ⟨cb, 1, none⟩ = false := Lib.frozen_of_heap hX.held 1
    have HX : Hid (Cst B cb W0 dd cc wv G) := hX
    have HWV : Hid (∀ b, wv.ownBlock = some b → b < w.heap.size) := fun b hb => (hC.own.lt b hb).2
    clear hX hC
    go_region
    go_wp2_with fail
    go_region
    go_wp2_with fail
    cases n with
    | zero => exact absurd hTo.out.1 hne
    | succ m =>
    have hwv : ∀ b, wv.ownBlock = some b → b < w.heap.size := fun b hb => HWV.out b hb
    have HW : Hid (∀ b, wv.ownBlock = some b → b < w.heap.size) := hwv
    clear hwv
    go_loopg [46] ts.length (fun g i wr => ∃ (k : Nat) (P : List CE) (dd' cc' : Nat) (wv' : Value), k + g = ts.length ∧ i = .int .i64 k ∧ LoopC S B cb w m o k ts (.slice va ts.length vc) (.int .i64 (d : Int)) dd cc wv G wr P dd' cc' wv')
    case atStart => exact ⟨0, [], _, _, _, by omega, rfl, loopC_start HD.out hBw hlt HS.out hbx HX.out b0 b1⟩
    case round =>
      obtain ⟨k, P, dd', cc', wv', hk, rfl, I⟩ := hrel
      have HI : Hid (LoopC S B cb w m o k ts (.slice va ts.length vc) (.int .i64 (d : Int)) dd cc wv G wr P dd' cc' wv') := I
      have x0 := I.box0
      have x1 := I.box1
      have hBr := I.below
      have hsr := I.size
      clear I b0 b1 k0 k1 kf0 kf1 HX hbx hcw hB0 hszl HS
      by_cases hlt' : k < ts.length
      · obtain ⟨_, _, hve, _, _, h4⟩ := hTo.out
        obtain ⟨b, o', hao, hs, hcc'⟩ := h4 hne
        injection hve with e1 e2 e3
        subst e1
        subst hao
        obtain ⟨t, ht⟩ : ∃ t, ts[k]? = some t := ⟨ts[k], by simp [hlt']⟩
        obtain ⟨xa, xk, c0, c1, c2, c3, hat, hkt⟩ := hcc' k t ht
        obtain ⟨ka, kc, rfl, _, hkm⟩ := Trees.shape m hkt
        have hkeep : ∀ b, S b → wr.heap[b]? = w.heap[b]? := fun b hb => HI.out.frame b (HS0.out b hb).1 (HS0.out b hb).2.1 (HS0.out b hb).2.2
        have HKEEP : Hid (∀ b, S b → wr.heap[b]? = w.heap[b]?) := hkeep
        rw [← World.cell?_of_block (a := ⟨b, o' + k * 4 + 3, none⟩) (hkeep b hs)] at c3
        have hsn : ts.take (k + 1) = ts.take k ++ [t] := by
          rw [List.take_succ_eq_append_getElem hlt']; congr 2; simpa [hlt'] using ht
        have HSN : Hid (ts.take (k + 1) = ts.take k ++ [t]) := hsn
        have hkT : Trees S wr m (.slice ka t.kids.length kc) t.kids := Trees.carry (fun b hb => ⟨hb, hkeep b hb⟩) m hkt
        have HKT : Hid (Trees S wr m (.slice ka t.kids.length kc) t.kids) := hkT
        have hkids : dep m t.kids + 1 ≤ dep (m + 1) ts ∧ cnt m (nx (ts.take (k + 1))) ≤ cnt m (nx ts) ∧ dep (m + 1) (ts.take k) ≤ dep (m + 1) ts := by
          refine ⟨?_, ?_, ?_⟩
          · obtain ⟨a, b, e⟩ := List.append_of_mem (List.mem_of_getElem? ht)
            rw [e, dep_append, dep_cons]; omega
          · have e : nx ts = nx (ts.take (k + 1)) ++ nx (ts.drop (k + 1)) := by rw [← nx_append, List.take_append_drop]
            rw [e, cnt_append]; omega
          · have e : dep (m + 1) ts = max (dep (m + 1) (ts.take k)) (dep (m + 1) (ts.drop k)) := by rw [← dep_append, List.take_append_drop]
            omega
        have HCALL : Hid (Calls Tryd.prog 44 #[.pointer (some ⟨cb, 0, none⟩), .agg #[.slice ka t.kids.length kc, .int .i64 ((d : Int) + 1)], .int .i64 ((M : Int) - 1)] wr.drew fun e w' => ∃ r, e = .returned r ∧ (r = .tuple #[] ∧ ∃ P1 dd3 cc3 wv3, AddP S B cb wr (if t.kids = [] then 0 else o + 1 + dep m t.kids) (cnt m t.kids) L (o + 1) t.kids dd' cc' wv' (G ++ P.map grp) w' P1 dd3 cc3 wv3)) := by
          have I := HI.out
          have h1 := I.dmax
          have h2 := I.csum
          have h3 := csum_len I.pend
          have h4 := I.more
          have h5 := cnt_nx m ts
          obtain ⟨h6, h7, h8⟩ := hkids
          rw [hsn, nx_append, nx_cons, nx_nil, List.append_nil, cnt_append] at h7
          have hd := HD.out
          have hfree : ∀ b, S b → b < wr.drew.heap.size ∧ b ≠ cb ∧ wv'.ownBlock ≠ some b := by
            intro b hb
            obtain ⟨q1, q2, q3⟩ := HS0.out b hb
            refine ⟨Nat.lt_of_lt_of_le q1 (Nat.le_trans (Nat.le_succ _) I.size), q2, fun h => ?_⟩
            rcases I.row with h' | ⟨b', h', h''⟩
            · exact q3 (h'.symm.trans h)
            · rw [h'] at h; cases h; omega
          have hcst : Cst B cb wr.drew dd' cc' wv' (G ++ P.map grp) := ⟨I.cst.base, I.cst.held, I.cst.own, I.cst.slices⟩
          have hTd : Trees S wr.drew m (.slice ka t.kids.length kc) t.kids := Trees.carry (w := wr) (w' := wr.drew) (fun b hb => ⟨hb, rfl⟩) m HKT.out
          have := HIH.out m (.slice ka t.kids.length kc) t.kids (o + 1) (d + 1) dd' cc' wv' (G ++ P.map grp) wr.drew (by omega) hfree hTd hcst (by show B ≤ wr.heap.size; omega) (by omega) (by omega) (by omega) (by rw [List.length_append, List.length_map]; omega)
          have e1 : ((d + 1 : Nat) : Int) = (d : Int) + 1 := by omega
          have e2 : (L : Int) = (M : Int) - 1 := by have := HM.out; omega
          rw [e1, e2] at this
          refine this.mono ?_
          rintro e w' ⟨rfl, P1, dd3, cc3, wv3, J⟩
          exact ⟨_, rfl, rfl, P1, dd3, cc3, wv3, J.undrew⟩
        have hkb : (k : Int) < (ts.length : Int) := by omega
        have hdb : d ≤ 1048578 := by have := HD.out; omega
        have hMb : 1 ≤ M ∧ M ≤ 1000 := by have := HM.out; omega
        clear c0 c1 c2 hat hkt hkT hcc' h4 e2 e3 ht hsn hs hkids hkeep
        go_wp2_with fail
        go_region_law (first
          | (refine step_enter (by rfl) 44 #[.pointer (some ⟨cb, 0, none⟩), .agg #[.slice ka t.kids.length kc, .int .i64 ((d : Int) + 1)], .int .i64 ((M : Int) - 1)] (by go_simp; exact ⟨IntWalk.i64_in _ (by omega), IntWalk.i64_in _ (by omega)⟩) _ HCALL.out ?_; intro r w3 hR; obtain ⟨hr, P1, dd3, cc3, wv3, J⟩ := hR))
        all_goals
          go_wp2_with fail
          go_roundg (ts.length - (k + 1))
          case measure => omega
          case rel => exact ⟨k + 1, _, _, _, _, by omega, by go_num, loopC_step HKEEP.out HI.out HW.out hlt HSN.out J⟩
      · have hkk : k = ts.length := by omega
        subst hkk
        go_wp2_with fail
        go_returns
        exact ⟨rfl, _, _, _, _, loopC_stop hne HI.out⟩
end Go.Proofs.YtifbdfcbliafjaaDoor
