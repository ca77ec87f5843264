/- Bundled: CountS SizeT ContM. What each says stands ahead of it. -/
import Derived.Test.YtmbmfomeiioijabBundle11
import Derived.Deep.RegionWith
import Derived.Deep.QuietTactic
import Derived.BigQuiet
import Derived.Test.YtmbmfomeiioijabBundle10
/- (*counter).add at some levels. Condition: at most 2^20 trees. -/
namespace Go.Proofs.Ytmbmfomeiioijab
open Go.ChangeShapes Go.WideShapes Go.ChangeAt Go.RowKit
set_option maxRecDepth 100000

attribute [local go_sem] cell_set

/-- The loop's state ahead of round k. -/
structure LoopC (S : Nat → Prop) (B cb : Nat) (w : World) (m o k : Nat) (ts : List Tr) (bx by_ : Value) (dd cc : Nat) (wv : Value) (G : List (Value × Nat)) (w' : World) (P : List CE) (dd' cc' : Nat) (wv' : Value) : Prop where
  below : Below B w w'
  cst : Cst B cb w' dd' cc' wv' (G ++ P.map grp)
  row : wv'.ownBlock = wv.ownBlock ∨ ∃ b, wv'.ownBlock = some b ∧ w.heap.size + 1 ≤ b
  frame : ∀ b, b < w.heap.size → b ≠ cb → wv.ownBlock ≠ some b → w'.heap[b]? = w.heap[b]?
  box0 : w'.cell? ⟨w.heap.size, 0, none⟩ = some bx
  box1 : w'.cell? ⟨w.heap.size, 1, none⟩ = some by_
  size : w.heap.size + 1 ≤ w'.heap.size
  pend : ∀ e ∈ P, PendC S w e
  dmax : max dd' (cmax P) = max dd (max (o + 1) (o + dep (m + 1) (ts.take k)))
  csum : cc' + csum P = cc + ts.length + cnt m (nx (ts.take k))
  more : cc + ts.length ≤ cc'

theorem csum_len {S : Nat → Prop} {w : World} {P : List CE} (h : ∀ e ∈ P, PendC S w e) : P.length ≤ csum P := by
  induction P with
  | nil => simp
  | cons e r ih =>
    have h1 := ih (fun x hx => h x (List.mem_cons_of_mem _ hx))
    obtain ⟨h2, h3, _⟩ := h e List.mem_cons_self
    have h4 := (Trees.deep e.n h3).len
    have h5 := List.length_pos_iff.2 h2
    have h6 : csum (e :: r) = cnt e.n e.ts + csum r := by simp [csum]
    simp only [List.length_cons]; omega

theorem loopC_step {S : Nat → Prop} {B cb : Nat} {w : World} {m o k L : Nat} {ts : List Tr} {bx by_ : Value} {dd cc : Nat} {wv : Value} {G : List (Value × Nat)} {wr w3 : World} {P P1 : List CE} {dd' cc' dd3 cc3 : Nat} {wv' wv3 : Value} {t : Tr}
    (hS : ∀ b, S b → wr.heap[b]? = w.heap[b]?) (I : LoopC S B cb w m o k ts bx by_ dd cc wv G wr P dd' cc' wv') (hwv : ∀ b, wv.ownBlock = some b → b < w.heap.size) (hcb : cb < w.heap.size) (hsn : ts.take (k + 1) = ts.take k ++ [t])
    (J : AddP S B cb wr (if t.kids = [] then 0 else o + 1 + dep m t.kids) (cnt m t.kids) L (o + 1) t.kids dd' cc' wv' (G ++ P.map grp) w3 P1 dd3 cc3 wv3) :
    LoopC S B cb w m o (k + 1) ts bx by_ dd cc wv G w3 (P ++ P1) dd3 cc3 wv3 := by
  have hsz3 := J.below.size
  have hszr := I.size
  have hrow : ∀ b, b < w.heap.size + 1 → wv.ownBlock ≠ some b → wv'.ownBlock ≠ some b := by
    intro b hb h1 h2
    rcases I.row with h | ⟨b', h, h3⟩
    · exact h1 (h.symm.trans h2)
    · rw [h] at h2; cases h2; omega
  have hbox : w3.heap[w.heap.size]? = wr.heap[w.heap.size]? := J.frame _ (by omega) (by omega) (hrow _ (by omega) (fun e => by have := hwv _ e; omega))
  refine ⟨I.below.trans J.below, ?_, ?_, ?_, ?_, ?_, by omega, ?_, ?_, ?_, ?_⟩
  · have := J.cst; simpa using this
  · rcases J.row with h | ⟨b, h, h1⟩
    · rw [h]; exact I.row
    · exact Or.inr ⟨b, h, by omega⟩
  · intro b hb h1 h2
    rw [J.frame b (by omega) h1 (hrow b (by omega) h2), I.frame b hb h1 h2]
  · rw [World.cell?_of_block (a := ⟨w.heap.size, 0, none⟩) hbox]; exact I.box0
  · rw [World.cell?_of_block (a := ⟨w.heap.size, 1, none⟩) hbox]; exact I.box1
  · intro e he
    rcases List.mem_append.1 he with he | he
    · exact I.pend e he
    · obtain ⟨h1, h2, h3⟩ := J.pend e he
      exact ⟨h1, Trees.carry (fun b hb => ⟨hb, (hS b hb).symm⟩) e.n h2, h3⟩
  · rw [cmax_append, hsn, dep_append, dep_cons, dep_nil]
    have h1 := J.dmax
    have h2 := I.dmax
    by_cases hk : t.kids = []
    · rw [if_pos hk] at h1
      rw [hk, dep_nil]
      omega
    · rw [if_neg hk] at h1
      omega
  · rw [csum_append, hsn, nx_append, nx_cons, nx_nil, List.append_nil, cnt_append]
    have h1 := J.csum
    have h2 := I.csum
    omega
  · have := J.more.1; have := I.more; omega

theorem loopC_start {S : Nat → Prop} {B cb : Nat} {w W0 : World} {m o d : Nat} {ts : List Tr} {bx by_ : Value} {dd cc : Nat} {wv : Value} {G : List (Value × Nat)} (hd : d = o + 1) (hBw : B ≤ w.heap.size) (hcb : cb < w.heap.size) (hsz : W0.heap.size = w.heap.size + 1) (hbx : Below w.heap.size w W0) (hX : Cst B cb W0 dd cc wv G)
    (b0 : W0.cell? ⟨w.heap.size, 0, none⟩ = some bx) (b1 : W0.cell? ⟨w.heap.size, 1, none⟩ = some by_) :
    LoopC S B cb w m o 0 ts bx by_ dd cc wv G ((W0.setCell ⟨cb, 0, none⟩ (.int .i64 (max (dd : Int) (d : Int)))).setCell ⟨cb, 1, none⟩ (.int .i64 ((cc : Int) + (ts.length : Int)))).drew.drew [] (max dd d) (cc + ts.length) wv := by
  have hk : ∀ b, b ≠ cb → ((W0.setCell ⟨cb, 0, none⟩ (.int .i64 (max (dd : Int) (d : Int)))).setCell ⟨cb, 1, none⟩ (.int .i64 ((cc : Int) + (ts.length : Int)))).drew.drew.heap[b]? = W0.heap[b]? := by
    intro b hb
    show ((W0.setCell ⟨cb, 0, none⟩ (.int .i64 (max (dd : Int) (d : Int)))).setCell ⟨cb, 1, none⟩ (.int .i64 ((cc : Int) + (ts.length : Int)))).heap[b]? = _
    rw [Below.heap_setCell _ _ _ _ hb, Below.heap_setCell _ _ _ _ hb]
  subst hd
  refine ⟨((((hbx.mono hBw).setCell hX.base _).setCell hX.base _).drew).drew, ⟨hX.base, ?_, ?_, ?_⟩, Or.inl rfl, ?_, ?_, ?_, ?_, by simp, ?_, ?_, Nat.le_refl _⟩
  · show ((W0.setCell ⟨cb, 0, none⟩ _).setCell ⟨cb, 1, none⟩ _).heap[cb]? = _
    have e1 : (((max dd (o + 1) : Nat)) : Int) = max (dd : Int) ((o + 1 : Nat) : Int) := by omega
    have e2 : (((cc + ts.length : Nat)) : Int) = (cc : Int) + (ts.length : Int) := by omega
    rw [e1, e2]
    simp [World.setCell, Array.getElem?_modify, hX.held]
  · simp only [List.map_nil, List.append_nil]
    exact ownsRow_heap hX.own fun b hb => hk b (fun e => hX.apart (by rw [hb, e]))
  · simp only [List.map_nil, List.append_nil]
    exact hX.slices
  · intro b hb h1 _
    rw [hk b h1, hbx.block b hb]
  · rw [World.cell?_of_block (a := ⟨w.heap.size, 0, none⟩) (hk w.heap.size (by omega))]; exact b0
  · rw [World.cell?_of_block (a := ⟨w.heap.size, 1, none⟩) (hk w.heap.size (by omega))]; exact b1
  · show w.heap.size + 1 ≤ ((W0.setCell ⟨cb, 0, none⟩ _).setCell ⟨cb, 1, none⟩ _).heap.size
    simp; omega
  · simp [cmax, dep_nil]
  · simp [Go.Proofs.Ytmbmfomeiioijab.csum, nx_nil, cnt_nil]

theorem loopC_stop {S : Nat → Prop} {B cb : Nat} {w : World} {m o L : Nat} {ts : List Tr} {bx by_ : Value} {dd cc : Nat} {wv : Value} {G : List (Value × Nat)} {wr : World} {P : List CE} {dd' cc' : Nat} {wv' : Value}
    (hne : ts ≠ []) (I : LoopC S B cb w m o ts.length ts bx by_ dd cc wv G wr P dd' cc' wv') : AddP S B cb w (o + dep (m + 1) ts) (cnt (m + 1) ts) L o ts dd cc wv G wr P dd' cc' wv' := by
  refine ⟨I.below, I.cst, ?_, I.frame, I.pend, ?_, ?_, ?_, fun _ => I.more⟩
  · rcases I.row with h | ⟨b, h, h1⟩
    · exact Or.inl h
    · exact Or.inr ⟨b, h, by omega⟩
  · have h := I.dmax
    rw [List.take_length] at h
    rw [h, dep_nx m ts hne]; omega
  · have h := I.csum
    rw [List.take_length] at h
    rw [h, cnt_nx m ts]; omega
  · have := I.more; omega

theorem AddP.undrew {S : Nat → Prop} {B cb : Nat} {w : World} {ds cs L o : Nat} {ts : List Tr} {dd cc : Nat} {wv : Value} {G : List (Value × Nat)} {w' : World} {P : List CE} {dd' cc' : Nat} {wv' : Value}
    (h : AddP S B cb w.drew ds cs L o ts dd cc wv G w' P dd' cc' wv') : AddP S B cb w ds cs L o ts dd cc wv G w' P dd' cc' wv' :=
  ⟨(Below.refl B w).drew.trans h.below, h.cst, h.row, h.frame, fun e he => by
    obtain ⟨h1, h2, h3⟩ := h.pend e he
    exact ⟨h1, Trees.carry (w := w.drew) (w' := w) (fun b hb => ⟨hb, rfl⟩) e.n h2, h3⟩, h.dmax, h.csum, h.more⟩

theorem add_succ (S : Nat → Prop) (B cb : Nat) (L : Nat) (hL : L < 1000) (ih : AddOk S B cb L) : AddOk S B cb (L + 1) := by
  intro n v ts o d dd cc wv G w hd hS0 hT hC hBw hod hdd hcc hG
  have HS0 : Hid (∀ b, S b → b < w.heap.size ∧ b ≠ cb ∧ wv.ownBlock ≠ some b) := hS0
  clear hS0
  have HD : Hid (d = o + 1) := hd
  by_cases hne : ts = []
  · subst hne
    simpa using add_nil S B cb (L + 1) n v o d dd cc wv G w hT hC hBw
  · have hTo : Hid (Trees S w n v ts) := hT
    obtain ⟨va, vc, rfl, _, hvm⟩ := Trees.shape n hT
    have hl0 : 0 < ts.length := List.length_pos_iff.2 hne
    have hcn := (Trees.deep n hT).len
    have hlt := hC.lt
    have hap := hC.apart
    have hne1 : ((ts.length : Int) == 0) = false := by
      have : (ts.length : Int) ≠ 0 := by omega
      simpa using this
    have hne2 : ((((L + 1 : Nat) : Int)) == 0) = false := by
      have : (((L + 1 : Nat) : Int)) ≠ 0 := by omega
      simpa using this
    obtain ⟨M, hM⟩ : ∃ M, L + 1 = M := ⟨_, rfl⟩
    rw [hM] at hne2 ⊢
    have hbx := Below.alloc1 w (.cells #[.slice va ts.length vc, .int .i64 (d : Int)] 70)
    have hX := hC.later hbx
    have b0 : (w.alloc (.cells #[.slice va ts.length vc, .int .i64 (d : Int)] 70)).cell? ⟨w.heap.size, 0, none⟩ = some (.slice va ts.length vc) := by simp
    have b1 : (w.alloc (.cells #[.slice va ts.length vc, .int .i64 (d : Int)] 70)).cell? ⟨w.heap.size, 1, none⟩ = some (.int .i64 (d : Int)) := by simp
    have hsz : (w.alloc (.cells #[.slice va ts.length vc, .int .i64 (d : Int)] 70)).heap.size = w.heap.size + 1 := by simp
    have HO : Hid (o + dep n ts ≤ 1048577) := hod
    have HIH : Hid (AddOk S B cb L) := ih
    have HM : Hid (L + 1 = M) := hM
    clear hT hd ih hM
    unfold maxLen at hvm
    go_enter Try.func23, Try.ntmps23
    go_wp2_with fail
    generalize w.alloc (.cells #[.slice va ts.length vc, .int .i64 (d : Int)] 70) = W0 at hbx hX b0 b1 hsz ⊢
    have HS : Hid (W0.heap.size = w.heap.size + 1) := hsz
    have hB0 : B ≤ W0.heap.size := by omega
    have hszl : w.heap.size < W0.heap.size := by omega
    have hcw : cb ≠ w.heap.size := by omega
    clear hsz
    have k0 : W0.cell? ⟨cb, 0, none⟩ = some (.int .i64 (dd : Int)) := by rw [Lib.cell_of_heap hX.held]; rfl
    have k1 : W0.cell? ⟨cb, 1, none⟩ = some (.int .i64 (cc : Int)) := by rw [Lib.cell_of_heap hX.held]; rfl
    have kf0 : W0.frozen? ⟨cb, 0, none⟩ = false := Lib.frozen_of_heap hX.held 0
    have kf1 : W0.frozen? ⟨cb, 1, none⟩ = false := Lib.frozen_of_heap hX.held 1
    have HX : Hid (Cst B cb W0 dd cc wv G) := hX
    have HWV : Hid (∀ b, wv.ownBlock = some b → b < w.heap.size) := fun b hb => (hC.own.lt b hb).2
    clear hX hC
    go_region
    go_wp2_with fail
    go_region
    go_wp2_with fail
    cases n with
    | zero => exact absurd hTo.out.1 hne
    | succ m =>
    have hwv : ∀ b, wv.ownBlock = some b → b < w.heap.size := fun b hb => HWV.out b hb
    have HW : Hid (∀ b, wv.ownBlock = some b → b < w.heap.size) := hwv
    clear hwv
    go_loopg [46] ts.length (fun g i wr => ∃ (k : Nat) (P : List CE) (dd' cc' : Nat) (wv' : Value), k + g = ts.length ∧ i = .int .i64 k ∧ LoopC S B cb w m o k ts (.slice va ts.length vc) (.int .i64 (d : Int)) dd cc wv G wr P dd' cc' wv')
    case atStart => exact ⟨0, [], _, _, _, by omega, rfl, loopC_start HD.out hBw hlt HS.out hbx HX.out b0 b1⟩
    case round =>
      obtain ⟨k, P, dd', cc', wv', hk, rfl, I⟩ := hrel
      have HI : Hid (LoopC S B cb w m o k ts (.slice va ts.length vc) (.int .i64 (d : Int)) dd cc wv G wr P dd' cc' wv') := I
      have x0 := I.box0
      have x1 := I.box1
      have hBr := I.below
      have hsr := I.size
      clear I b0 b1 k0 k1 kf0 kf1 HX hbx hcw hB0 hszl HS
      by_cases hlt' : k < ts.length
      · obtain ⟨_, _, hve, _, _, h4⟩ := hTo.out
        obtain ⟨b, o', hao, hs, hcc'⟩ := h4 hne
        injection hve with e1 e2 e3
        subst e1
        subst hao
        obtain ⟨t, ht⟩ : ∃ t, ts[k]? = some t := ⟨ts[k], by simp [hlt']⟩
        obtain ⟨xa, xk, c0, c1, c2, c3, hat, hkt⟩ := hcc' k t ht
        obtain ⟨ka, kc, rfl, _, hkm⟩ := Trees.shape m hkt
        have hkeep : ∀ b, S b → wr.heap[b]? = w.heap[b]? := fun b hb => HI.out.frame b (HS0.out b hb).1 (HS0.out b hb).2.1 (HS0.out b hb).2.2
        have HKEEP : Hid (∀ b, S b → wr.heap[b]? = w.heap[b]?) := hkeep
        rw [← World.cell?_of_block (a := ⟨b, o' + k * 4 + 3, none⟩) (hkeep b hs)] at c3
        have hsn : ts.take (k + 1) = ts.take k ++ [t] := by
          rw [List.take_succ_eq_append_getElem hlt']; congr 2; simpa [hlt'] using ht
        have HSN : Hid (ts.take (k + 1) = ts.take k ++ [t]) := hsn
        have hkT : Trees S wr m (.slice ka t.kids.length kc) t.kids := Trees.carry (fun b hb => ⟨hb, hkeep b hb⟩) m hkt
        have HKT : Hid (Trees S wr m (.slice ka t.kids.length kc) t.kids) := hkT
        have hkids : dep m t.kids + 1 ≤ dep (m + 1) ts ∧ cnt m (nx (ts.take (k + 1))) ≤ cnt m (nx ts) ∧ dep (m + 1) (ts.take k) ≤ dep (m + 1) ts := by
          refine ⟨?_, ?_, ?_⟩
          · obtain ⟨a, b, e⟩ := List.append_of_mem (List.mem_of_getElem? ht)
            rw [e, dep_append, dep_cons]; omega
          · have e : nx ts = nx (ts.take (k + 1)) ++ nx (ts.drop (k + 1)) := by rw [← nx_append, List.take_append_drop]
            rw [e, cnt_append]; omega
          · have e : dep (m + 1) ts = max (dep (m + 1) (ts.take k)) (dep (m + 1) (ts.drop k)) := by rw [← dep_append, List.take_append_drop]
            omega
        have HCALL : Hid (Calls Try.prog 23 #[.pointer (some ⟨cb, 0, none⟩), .agg #[.slice ka t.kids.length kc, .int .i64 ((d : Int) + 1)], .int .i64 ((M : Int) - 1)] wr.drew fun e w' => ∃ r, e = .returned r ∧ (r = .tuple #[] ∧ ∃ P1 dd3 cc3 wv3, AddP S B cb wr (if t.kids = [] then 0 else o + 1 + dep m t.kids) (cnt m t.kids) L (o + 1) t.kids dd' cc' wv' (G ++ P.map grp) w' P1 dd3 cc3 wv3)) := by
          have I := HI.out
          have h1 := I.dmax
          have h2 := I.csum
          have h3 := csum_len I.pend
          have h4 := I.more
          have h5 := cnt_nx m ts
          obtain ⟨h6, h7, h8⟩ := hkids
          rw [hsn, nx_append, nx_cons, nx_nil, List.append_nil, cnt_append] at h7
          have hd := HD.out
          have hfree : ∀ b, S b → b < wr.drew.heap.size ∧ b ≠ cb ∧ wv'.ownBlock ≠ some b := by
            intro b hb
            obtain ⟨q1, q2, q3⟩ := HS0.out b hb
            refine ⟨Nat.lt_of_lt_of_le q1 (Nat.le_trans (Nat.le_succ _) I.size), q2, fun h => ?_⟩
            rcases I.row with h' | ⟨b', h', h''⟩
            · exact q3 (h'.symm.trans h)
            · rw [h'] at h; cases h; omega
          have hcst : Cst B cb wr.drew dd' cc' wv' (G ++ P.map grp) := ⟨I.cst.base, I.cst.held, I.cst.own, I.cst.slices⟩
          have hTd : Trees S wr.drew m (.slice ka t.kids.length kc) t.kids := Trees.carry (w := wr) (w' := wr.drew) (fun b hb => ⟨hb, rfl⟩) m HKT.out
          have := HIH.out m (.slice ka t.kids.length kc) t.kids (o + 1) (d + 1) dd' cc' wv' (G ++ P.map grp) wr.drew (by omega) hfree hTd hcst (by show B ≤ wr.heap.size; omega) (by omega) (by omega) (by omega) (by rw [List.length_append, List.length_map]; omega)
          have e1 : ((d + 1 : Nat) : Int) = (d : Int) + 1 := by omega
          have e2 : (L : Int) = (M : Int) - 1 := by have := HM.out; omega
          rw [e1, e2] at this
          refine this.mono ?_
          rintro e w' ⟨rfl, P1, dd3, cc3, wv3, J⟩
          exact ⟨_, rfl, rfl, P1, dd3, cc3, wv3, J.undrew⟩
        have hkb : (k : Int) < (ts.length : Int) := by omega
        have hdb : d ≤ 1048578 := by have := HD.out; omega
        have hMb : 1 ≤ M ∧ M ≤ 1000 := by have := HM.out; omega
        clear c0 c1 c2 hat hkt hkT hcc' h4 e2 e3 ht hsn hs hkids hkeep
        go_wp2_with fail
        go_region_law (first
          | (refine step_enter (by rfl) 23 #[.pointer (some ⟨cb, 0, none⟩), .agg #[.slice ka t.kids.length kc, .int .i64 ((d : Int) + 1)], .int .i64 ((M : Int) - 1)] (by go_simp; exact ⟨IntWalk.i64_in _ (by omega), IntWalk.i64_in _ (by omega)⟩) _ HCALL.out ?_; intro r w3 hR; obtain ⟨hr, P1, dd3, cc3, wv3, J⟩ := hR))
        all_goals
          go_wp2_with fail
          go_roundg (ts.length - (k + 1))
          case measure => omega
          case rel => exact ⟨k + 1, _, _, _, _, by omega, by go_num, loopC_step HKEEP.out HI.out HW.out hlt HSN.out J⟩
      · have hkk : k = ts.length := by omega
        subst hkk
        go_wp2_with fail
        go_returns
        exact ⟨rfl, _, _, _, _, loopC_stop hne HI.out⟩
end Go.Proofs.Ytmbmfomeiioijab

/- tree.Size, for every tree: as deep and as many as the document's. Condition: at most 2^20 trees. -/
namespace Go.Proofs.Ytmbmfomeiioijab
open Go.ChangeShapes Go.WideShapes Go.ChangeAt Go.RowKit
set_option maxRecDepth 100000

attribute [local go_sem] cell_set

theorem add_any (S : Nat → Prop) (B cb : Nat) : ∀ L, L ≤ 1000 → AddOk S B cb L := by
  intro L
  induction L with
  | zero => intro _; exact add_zero S B cb
  | succ L ih => intro h; exact add_succ S B cb L (by omega) (ih (by omega))

structure CntI (S : Nat → Prop) (B cb : Nat) (w : World) (D C : Nat) (w' : World) (P : List CE) (dd cc : Nat) (wv : Value) : Prop where
  below : Below B w w'
  cst : Cst B cb w' dd cc wv (P.map grp)
  keep : ∀ b, S b → w'.heap[b]? = w.heap[b]?
  free : ∀ b, S b → wv.ownBlock ≠ some b
  pend : ∀ e ∈ P, PendC S w e
  dmax : max dd (cmax P) = D
  csum : cc + csum P = C

theorem cnt_start {S : Nat → Prop} {B cb n : Nat} {va : Option Addr} {vc : Nat} {ts : List Tr} {w : World} (hS : ∀ b, S b → b < w.heap.size ∧ b ≠ cb) (hne : ts ≠ []) (hT : Trees S w n (.slice va ts.length vc) ts) (hD : dep n ts ≤ 1048577) (hC : Cst B cb w 0 0 (.slice none 0 0) []) (hBw : B ≤ w.heap.size) :
    CntI S B cb w (dep n ts) (cnt n ts) ((w.setCell ⟨cb, 2, none⟩ (.slice (some ⟨w.heap.size, 0, none⟩) 1 1)).alloc (.cells #[.slice va ts.length vc, .int .i64 1] 70)) [⟨.slice va ts.length vc, n, ts, 0⟩] 0 0 (.slice (some ⟨w.heap.size, 0, none⟩) 1 1) := by
  have hlt := hC.lt
  refine ⟨((Below.refl B w).setCell hC.base _).alloc (by simp; omega) _, ⟨hC.base, ?_, ?_, ?_⟩, ?_, ?_, ?_, ?_, ?_⟩
  · rw [Lib.alloc_old _ _ _ (by simp; omega)]
    simp [World.setCell, Array.getElem?_modify, hC.held]
  · have := World.ownsRow_lit (base := B) (e := 70) (size := 2) (w.setCell ⟨cb, 2, none⟩ (.slice (some ⟨w.heap.size, 0, none⟩) 1 1)) #[.slice va ts.length vc, .int .i64 1] 1 (by simp; omega) (by unfold maxLen; omega) rfl
    simpa [grp, groupCells] using this
  · intro x hx
    simp [grp] at hx
    subst hx
    exact ⟨_, _, _, rfl⟩
  · intro b hb
    rw [Lib.alloc_old _ _ _ (by simp; exact (hS b hb).1), Below.heap_setCell _ _ _ _ (hS b hb).2]
  · intro b hb h
    cases h
    exact Nat.lt_irrefl _ (hS _ hb).1
  · intro e he
    simp at he
    subst he
    exact ⟨hne, hT, by simpa using hD⟩
  · simp [cmax]
  · simp [Go.Proofs.Ytmbmfomeiioijab.csum]

theorem countAll_any (S : Nat → Prop) (B cb n : Nat) (v : Value) (ts : List Tr) (w : World) (hS : ∀ b, S b → b < w.heap.size ∧ b ≠ cb) (hne : ts ≠ []) (hT : Trees S w n v ts) (hC : Cst B cb w 0 0 (.slice none 0 0) []) (hBw : B ≤ w.heap.size) (hcnt : cnt n ts ≤ 1048576) :
    Calls Try.prog 17 #[.pointer (some ⟨cb, 0, none⟩), v] w fun e w' => e = .returned (.tuple #[]) ∧ ∃ wv, Cst B cb w' (dep n ts) (cnt n ts) wv [] ∧ Below B w w' := by
  obtain ⟨va, vc, rfl, _, hvm⟩ := Trees.shape n hT
  have hDC := dep_cnt n ts
  have hlt := hC.lt
  have c2 : w.cell? ⟨cb, 2, none⟩ = some (.slice none 0 0) := by rw [Lib.cell_of_heap hC.held]; rfl
  have f2 : w.frozen? ⟨cb, 2, none⟩ = false := Lib.frozen_of_heap hC.held 2
  have HC : Hid (Cst B cb w 0 0 (.slice none 0 0) []) := hC
  have HT : Hid (Trees S w n (.slice va ts.length vc) ts) := hT
  clear hC hT
  go_enter Try.func17, Try.ntmps17
  go_wp2_with fail
  go_loopg [] (cnt n ts) (fun g wr => ∃ P dd cc wv, csum P = g ∧ CntI S B cb w (dep n ts) (cnt n ts) wr P dd cc wv)
  case atStart => exact ⟨_, _, _, _, by simp [csum], cnt_start hS hne HT.out (by omega) HC.out hBw⟩
  case round =>
    obtain ⟨P, dd, cc, wv, hm, I⟩ := hrel
    subst hm
    obtain ⟨wa, wc, rfl⟩ := I.cst.shape
    rw [List.length_map] at I
    have d2 : wr.cell? ⟨cb, 2, none⟩ = some (.slice wa P.length wc) := by rw [Lib.cell_of_heap I.cst.held]; rfl
    have HI : Hid (CntI S B cb w (dep n ts) (cnt n ts) wr P dd cc (.slice wa P.length wc)) := I
    clear I
    rcases List.eq_nil_or_concat P with rfl | ⟨P0, e, hPe⟩
    · simp only [List.length_nil] at d2
      go_wp2_with fail
      go_returns
      have I := HI.out
      have h1 := I.dmax
      have h2 := I.csum
      have h3 : cmax [] = 0 := rfl
      have h4 : csum [] = 0 := rfl
      rw [h3] at h1
      rw [h4] at h2
      have e1 : dd = dep n ts := by omega
      have e2 : cc = cnt n ts := by omega
      have hc := I.cst
      rw [e1, e2] at hc
      exact ⟨rfl, _, hc, I.below⟩
    · rw [List.concat_eq_append] at hPe
      subst hPe
      have hl : (P0 ++ [e]).length = P0.length + 1 := by simp
      rw [hl] at d2
      have hcs : Cst B cb wr dd cc (.slice wa (P0 ++ [e]).length wc) (P0.map grp ++ [(e.v, e.o + 1)]) := by
        have := HI.out.cst
        rw [List.map_append, List.map_cons, List.map_nil] at this
        exact this
      have hszr : B ≤ wr.heap.size := Nat.le_trans hBw HI.out.below.size
      have HCS : Hid _ := hcs
      clear hcs
      go_wp2_with fail
      refine (takeG_any B cb wr dd cc _ (P0.map grp) e.v (e.o + 1) HCS.out hszr).mono ?_
      rintro e' w1 ⟨rfl, v1, hc1, hv1, hk1, hb1⟩
      have hB1 : Below B w w1 := HI.out.below.trans hb1
      obtain ⟨hp1, hp2, hp3⟩ := HI.out.pend e (by simp)
      have hwr := HI.out.below.size
      have hw1 := hb1.size
      have hkp : ∀ b, S b → w1.heap[b]? = w.heap[b]? := fun b hb => (hk1 b (by have := (hS b hb).1; omega) (hS b hb).2).trans (HI.out.keep b hb)
      have HKP : Hid (∀ b, S b → w1.heap[b]? = w.heap[b]?) := hkp
      have hfr : ∀ b, S b → b < w1.heap.size ∧ b ≠ cb ∧ v1.ownBlock ≠ some b := fun b hb => ⟨by have := (hS b hb).1; omega, (hS b hb).2, by rw [hv1]; exact HI.out.free b hb⟩
      have HFR : Hid (∀ b, S b → b < w1.heap.size ∧ b ≠ cb ∧ v1.ownBlock ≠ some b) := hfr
      have hTe : Trees S w1 e.n e.v e.ts := Trees.carry (fun b hb => ⟨hb, hkp b hb⟩) e.n hp2
      have h1 := HI.out.dmax
      have h2 := HI.out.csum
      have h3 : csum (P0 ++ [e]) = csum P0 + cnt e.n e.ts := by rw [csum_append]; simp [csum]
      have h4 : cmax (P0 ++ [e]) = max (cmax P0) (e.o + dep e.n e.ts) := by rw [cmax_append]; simp [cmax]
      have h5 := csum_len (P := P0) (fun x hx => HI.out.pend x (by simp [hx]))
      rw [h3] at h2
      rw [h4] at h1
      have hcall := add_any S B cb 1000 (Nat.le_refl _) e.n e.v e.ts e.o (e.o + 1) dd cc v1 (P0.map grp) w1 rfl hfr hTe hc1 (by have := hb1.size; omega) hp3 (by omega) (by omega) (by rw [List.length_map]; omega)
      have e1 : ((e.o + 1 : Nat) : Int) = (e.o : Int) + 1 := by omega
      rw [e1, show ((1000 : Nat) : Int) = 1000 from rfl] at hcall
      have HCALL : Hid _ := hcall
      clear hcall e1 hkp hfr hk1
      have H1 : Hid (max dd (max (cmax P0) (e.o + dep e.n e.ts)) = dep n ts) := h1
      have H2 : Hid (cc + (csum P0 + cnt e.n e.ts) = cnt n ts) := h2
      have H3 : Hid (csum (P0 ++ [e]) = csum P0 + cnt e.n e.ts) := h3
      clear d2 h1 h2 h3 h4 h5 hp3 hTe hc1 hv1 hl hszr
      go_wp2_with fail
      refine (Calls.mono HCALL.out ?_)
      rintro e' w2 ⟨rfl, P1, dd3, cc3, wv3, J⟩
      go_wp2_with fail
      go_roundg (csum (P0 ++ P1))
      case measure =>
        have h6 := J.csum
        have h7 := J.more.2 (by omega)
        have h8 := List.length_pos_iff.2 hp1
        rw [H3.out, csum_append]
        omega
      case rel =>
        refine ⟨P0 ++ P1, dd3, cc3, wv3, rfl, hB1.trans J.below, by rw [List.map_append]; exact J.cst, fun b hb => (J.frame b (HFR.out b hb).1 (HFR.out b hb).2.1 (HFR.out b hb).2.2).trans (HKP.out b hb), ?_, ?_, ?_, ?_⟩
        · intro b hb h
          rcases J.row with h' | ⟨b', h', h''⟩
          · exact (HFR.out b hb).2.2 (h'.symm.trans h)
          · rw [h'] at h; cases h; have := (HFR.out _ hb).1; omega
        · intro x hx
          rcases List.mem_append.1 hx with hx | hx
          · exact HI.out.pend x (by simp [hx])
          · obtain ⟨q1, q2, q3⟩ := J.pend x hx
            exact ⟨q1, Trees.carry (fun b hb => ⟨hb, (HKP.out b hb).symm⟩) x.n q2, q3⟩
        · have h6 := J.dmax
          rw [if_neg hp1] at h6
          have h1 := H1.out
          rw [cmax_append]; omega
        · have h6 := J.csum
          have h2 := H2.out
          rw [csum_append]; omega


theorem size_any (S : Nat → Prop) (n : Nat) (va vk : Value) (t : Tr) (w : World) (h : Attrs S w va t.attrs) (hk : Trees S w n vk t.kids) (hc : cnt (n + 1) [t] ≤ 1048576) :
    Calls Try.prog 9 #[.agg #[.bool t.text, .string t.s, va, vk]] w fun e w' => e = .returned (.tuple #[.int .i64 (dep (n + 1) [t] : Int), .int .i64 (cnt (n + 1) [t] : Int)]) ∧ Below w.heap.size w w' := by
  obtain ⟨aa, ac, rfl⟩ := h.shape
  obtain ⟨ka, kc, rfl, _, _⟩ := Trees.shape n hk
  have hb : ∀ X Y Z, Below w.heap.size w (((w.alloc X).alloc Y).alloc Z) := fun X Y Z => ((Below.alloc1 w X).alloc (by simp) Y).alloc (by simp; omega) Z
  have HB : Hid (∀ X Y Z, Below w.heap.size w (((w.alloc X).alloc Y).alloc Z)) := hb
  have HA : Hid (Attrs (fun b => S b ∧ b < w.heap.size) w (.slice aa t.attrs.length ac) t.attrs) := h.bounded
  have HK : Hid (Trees (fun b => S b ∧ b < w.heap.size) w n (.slice ka t.kids.length kc) t.kids) := Trees.bounded n hk
  clear h hk hb
  go_enter Try.func9, Try.ntmps9
  go_wp2_with fail
  have hT := Trees.of_block (S := fun b => S b ∧ b < w.heap.size) (n := n) (len := 1) (cap := 1) (ts := [t]) (e := 32) (fz := (0, 0)) (qs := [(t.text, t.s, .slice aa t.attrs.length ac, .slice ka t.kids.length kc)]) (heap_alloc_new ((w.alloc (.cells #[.bool t.text, .string t.s, .slice aa t.attrs.length ac, .slice ka t.kids.length kc] 32)).alloc (.cells #[.int .i64 0, .int .i64 0, .slice none 0 0] 52)) (.cells #[.bool t.text, .string t.s, .slice aa t.attrs.length ac, .slice ka t.kids.length kc] 32)) rfl rfl rfl (Nat.le_refl _) (by unfold maxLen; simp) (by
    intro i q t' hq ht'
    cases i with
    | zero =>
      simp at hq ht'
      subst hq ht'
      exact ⟨rfl, rfl, HA.out.later (HB.out _ _ _), Trees.later (HB.out _ _ _) n HK.out⟩
    | succ i => simp at ht')
  have hCst : Cst w.heap.size (w.heap.size + 1) (((w.alloc (.cells #[.bool t.text, .string t.s, .slice aa t.attrs.length ac, .slice ka t.kids.length kc] 32)).alloc (.cells #[.int .i64 0, .int .i64 0, .slice none 0 0] 52)).alloc (.cells #[.bool t.text, .string t.s, .slice aa t.attrs.length ac, .slice ka t.kids.length kc] 32)) 0 0 (.slice none 0 0) [] := by
    refine ⟨by omega, ?_, World.ownsRow_nil _ _ _ _, by simp⟩
    have e := heap_alloc_new (w.alloc (.cells #[.bool t.text, .string t.s, .slice aa t.attrs.length ac, .slice ka t.kids.length kc] 32)) (.cells #[.int .i64 0, .int .i64 0, .slice none 0 0] 52)
    rw [World.size_alloc] at e
    rw [Lib.alloc_old _ _ _ (by simp)]
    exact e
  have hB3 := HB.out (.cells #[.bool t.text, .string t.s, .slice aa t.attrs.length ac, .slice ka t.kids.length kc] 32) (.cells #[.int .i64 0, .int .i64 0, .slice none 0 0] 52) (.cells #[.bool t.text, .string t.s, .slice aa t.attrs.length ac, .slice ka t.kids.length kc] 32)
  have hs2 : ((w.alloc (.cells #[.bool t.text, .string t.s, .slice aa t.attrs.length ac, .slice ka t.kids.length kc] 32)).alloc (.cells #[.int .i64 0, .int .i64 0, .slice none 0 0] 52)).heap.size = w.heap.size + 1 + 1 := by simp
  rw [hs2] at hT
  refine (countAll_any _ w.heap.size (w.heap.size + 1) (n + 1) _ [t] _ ?_ (by simp) hT hCst hB3.size hc).mono ?_
  · intro b hb
    simp only [World.size_alloc]
    rcases hb with hb | hb
    · have := hb.2; omega
    · omega
  rintro e w2 ⟨rfl, wv, hC2, hb2⟩
  have k0 : w2.cell? ⟨w.heap.size + 1, 0, none⟩ = some (.int .i64 (dep (n + 1) [t] : Int)) := by rw [Lib.cell_of_heap hC2.held]; rfl
  have k1 : w2.cell? ⟨w.heap.size + 1, 1, none⟩ = some (.int .i64 (cnt (n + 1) [t] : Int)) := by rw [Lib.cell_of_heap hC2.held]; rfl
  have hB4 : Below w.heap.size w w2 := hB3.trans hb2
  obtain ⟨D, hD⟩ : ∃ D, dep (n + 1) [t] = D := ⟨_, rfl⟩
  obtain ⟨C, hC⟩ : ∃ C, cnt (n + 1) [t] = C := ⟨_, rfl⟩
  rw [hD] at k0
  rw [hC] at k1
  have HD : Hid (dep (n + 1) [t] = D) := hD
  have HC : Hid (cnt (n + 1) [t] = C) := hC
  clear hD hC hc
  clear hC2 hT hCst hB3 hb2 hs2
  go_wp2_with fail
  go_region
  all_goals
    go_wp2_with fail
    go_ret2
    exact ⟨by rw [HD.out, HC.out]; rfl, hB4.drew⟩
end Go.Proofs.Ytmbmfomeiioijab

/- What tree.roomBehind leaves, in terms of depth, count and what is right. No condition. -/
namespace Go.Proofs.Ytmbmfomeiioijab
open Go.ChangeShapes Go.WideShapes Go.ChangeAt Go.RowKit
set_option maxRecDepth 100000

theorem rgt_nil (n : Nat) : rgt n [] = true := by cases n <;> rfl

theorem right_kids {n : Nat} {t : Tr} (h : rightB t = true) : (t.text || rgt n t.kids) = rgt n t.kids := by
  cases htt : t.text with
  | false => rfl
  | true =>
    have : t.kids = [] := by
      simp [rightB, htt] at h
      exact h.2
    rw [this, rgt_nil]; rfl

theorem rl_eq (d n : Nat) (f : Int → List Tr → Int)
    (hf : ∀ room k, 0 ≤ room → Deep n k → f room k = if dep n k ≤ d ∧ (cnt n k : Int) ≤ room ∧ rgt n k = true then room - cnt n k else -1) :
    ∀ (l : List Tr) (p : Bool) (room : Int), 0 ≤ room → Deep (n + 1) l →
      rl f p room l = if dep n (nx l) ≤ d ∧ (cnt n (nx l) : Int) ≤ room ∧ rgL (rgt n) p l = true then room - cnt n (nx l) else -1 := by
  intro l
  induction l with
  | nil =>
    intro p room h0 _
    rw [nx_nil, dep_nil, cnt_nil, if_pos ⟨Nat.zero_le _, by simpa using h0, rfl⟩]
    simp [rl]
  | cons t r ih =>
    intro p room h0 hd
    have hk : Deep n t.kids := hd t (List.mem_cons_self ..)
    have hr : Deep (n + 1) r := fun x hx => hd x (List.mem_cons_of_mem _ hx)
    rw [nx_cons, dep_append, cnt_append]
    unfold rl
    have hfk := hf room t.kids h0 hk
    by_cases hA : (!rightB t || (p && t.text)) = true
    · rw [if_pos hA, if_neg]
      rintro ⟨_, _, h3⟩
      unfold rgL at h3
      cases h1 : rightB t <;> cases h2 : (p && t.text) <;> simp [h1, h2] at hA h3
    · rw [if_neg hA]
      have h1 : rightB t = true := by cases h : rightB t <;> simp [h] at hA ⊢
      have h2 : (p && t.text) = false := by cases h : (p && t.text) <;> simp [h] at hA ⊢
      have hg : rgL (rgt n) p (t :: r) = (rgt n t.kids && rgL (rgt n) t.text r) := by
        show (rightB t && !(p && t.text) && (t.text || rgt n t.kids) && rgL (rgt n) t.text r) = _
        rw [h1, h2, right_kids h1]; rfl
      rw [hg]
      by_cases hK : dep n t.kids ≤ d ∧ (cnt n t.kids : Int) ≤ room ∧ rgt n t.kids = true
      · rw [if_pos hK] at hfk
        rw [hfk, if_neg (by omega), ih t.text (room - cnt n t.kids) (by omega) hr]
        by_cases hR : dep n (nx r) ≤ d ∧ (cnt n (nx r) : Int) ≤ room - cnt n t.kids ∧ rgL (rgt n) t.text r = true
        · rw [if_pos hR, if_pos ⟨by omega, by push_cast; omega, by rw [hK.2.2, hR.2.2]; rfl⟩]
          push_cast; omega
        · rw [if_neg hR, if_neg]
          rintro ⟨a, b, c⟩
          rw [hK.2.2] at c
          exact hR ⟨by omega, by push_cast at b; omega, by simpa using c⟩
      · rw [if_neg hK] at hfk
        rw [hfk, if_pos (by decide), if_neg]
        rintro ⟨a, b, c⟩
        simp only [Bool.and_eq_true] at c
        exact hK ⟨by omega, by push_cast at b; omega, c.1⟩

theorem rb_eq : ∀ (d n : Nat) (l : List Tr) (room : Int), 0 ≤ room → Deep n l →
    rb d room l = if dep n l ≤ d ∧ (cnt n l : Int) ≤ room ∧ rgt n l = true then room - cnt n l else -1 := by
  intro d
  induction d with
  | zero =>
    intro n l room h0 hd
    unfold rb
    cases l with
    | nil => simp [dep_nil, cnt_nil, rgt_nil]; omega
    | cons t r =>
      cases n with
      | zero => cases (show t :: r = [] from hd)
      | succ n =>
        rw [if_neg (by simp), if_neg]
        rintro ⟨a, _⟩
        rw [dep_cons] at a; omega
  | succ d ih =>
    intro n l room h0 hd
    unfold rb
    cases l with
    | nil => simp [dep_nil, cnt_nil, rgt_nil]; omega
    | cons t r =>
      cases n with
      | zero => cases (show t :: r = [] from hd)
      | succ n =>
        rw [if_neg (by simp)]
        generalize hl : t :: r = l at *
        have hne : l ≠ [] := by rw [← hl]; simp
        rw [dep_nx n l hne, cnt_nx n l]
        by_cases hrm : room < (l.length : Int)
        · rw [if_pos hrm, if_neg]
          rintro ⟨_, b, _⟩
          push_cast at b; omega
        · rw [if_neg hrm, rl_eq d n (rb d) (fun room k h hk => ih n k room h hk) l false (room - l.length) (by omega) hd]
          by_cases hR : dep n (nx l) ≤ d ∧ (cnt n (nx l) : Int) ≤ room - l.length ∧ rgL (rgt n) false l = true
          · rw [if_pos hR, if_pos ⟨by omega, by push_cast; omega, hR.2.2⟩]; push_cast; omega
          · rw [if_neg hR, if_neg]
            rintro ⟨a, b, c⟩
            exact hR ⟨by omega, by push_cast at b; omega, c⟩

theorem contentB_eq {n : Nat} {l : List Tr} (hd : Deep n l) : contentB l = (decide (dep n l ≤ 8) && decide (cnt n l ≤ 80) && rgt n l) := by
  unfold contentB
  rw [rb_eq 8 n l 80 (by decide) hd]
  by_cases h : dep n l ≤ 8 ∧ (cnt n l : Int) ≤ 80 ∧ rgt n l = true
  · rw [if_pos h]
    have h2 : cnt n l ≤ 80 := by omega
    simp [h.1, h2, h.2.2]
    omega
  · rw [if_neg h]
    cases hr : rgt n l with
    | false => simp
    | true =>
      have : ¬ (dep n l ≤ 8 ∧ cnt n l ≤ 80) := fun ⟨a, b⟩ => h ⟨a, by omega, hr⟩
      by_cases h1 : dep n l ≤ 8
      · have h2 : ¬ cnt n l ≤ 80 := fun b => this ⟨h1, b⟩
        simp [h2]
      · simp [h1]

theorem goodB_eq {n : Nat} {t : Tr} (hd : Deep n t.kids) : goodB t = (!t.text && decide (dep (n + 1) [t] < 9) && decide (cnt (n + 1) [t] < 81) && rgt (n + 1) [t]) := by
  have h : Deep (n + 1) [t] := by intro x hx; simp at hx; subst hx; exact hd
  unfold goodB
  rw [contentB_eq h]
  have e1 : decide (dep (n + 1) [t] ≤ 8) = decide (dep (n + 1) [t] < 9) := by congr 1; apply propext; omega
  have e2 : decide (cnt (n + 1) [t] ≤ 80) = decide (cnt (n + 1) [t] < 81) := by congr 1; apply propext; omega
  rw [e1, e2, Bool.and_assoc, Bool.and_assoc, Bool.and_assoc]
end Go.Proofs.Ytmbmfomeiioijab

