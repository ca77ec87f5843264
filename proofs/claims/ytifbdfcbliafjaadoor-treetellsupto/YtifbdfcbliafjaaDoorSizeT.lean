/- tree.Size, for every tree: as deep and as many as the document's. Condition: at most 2^20 trees. -/
import Derived.Test.YtifbdfcbliafjaaDoorCountS
import Derived.Test.YtifbdfcbliafjaaDoorRefSize
namespace Go.Proofs.YtifbdfcbliafjaaDoor
open Go.ChangeShapes Go.WideShapes Go.ChangeAt Go.RowKit
set_option maxRecDepth 100000

attribute [local go_sem] cell_set

theorem add_any (S : Nat → Prop) (B cb : Nat) : ∀ L, L ≤ 1000 → AddOk S B cb L := by
  intro L
  induction L with
  | zero => intro _; exact add_zero S B cb
  | succ L ih => intro h; exact add_succ S B cb L (by omega) (ih (by omega))

structure CntI (S : Nat → Prop) (B cb : Nat) (w : World) (D C : Nat) (w' : World) (P : List CE) (dd cc : Nat) (wv : Value) : Prop where
  below : Below B w w'
  cst : Cst B cb w' dd cc wv (P.map grp)
  keep : ∀ b, S b → w'.heap[b]? = w.heap[b]?
  free : ∀ b, S b → wv.ownBlock ≠ some b
  pend : ∀ e ∈ P, PendC S w e
  dmax : max dd (cmax P) = D
  csum : cc + csum P = C

theorem cnt_start {S : Nat → Prop} {B cb n : Nat} {va : Option Addr} {vc : Nat} {ts : List Tr} {w : World} (hS : ∀ b, S b → b < w.heap.size ∧ b ≠ cb) (hne : ts ≠ []) (hT : Trees S w n (.slice va ts.length vc) ts) (hD : dep n ts ≤ 1048577) (hC : Cst B cb w 0 0 (.slice none 0 0) []) (hBw : B ≤ w.heap.size) :
    CntI S B cb w (dep n ts) (cnt n ts) ((w.setCell ⟨cb, 2, none⟩ (.slice (some ⟨w.heap.size, 0, none⟩) 1 1)).alloc (.cells #[.slice va ts.length vc, .int .i64 1] 69)) [⟨.slice va ts.length vc, n, ts, 0⟩] 0 0 (.slice (some ⟨w.heap.size, 0, none⟩) 1 1) := by
  have hlt := hC.lt
  refine ⟨((Below.refl B w).setCell hC.base _).alloc (by simp; omega) _, ⟨hC.base, ?_, ?_, ?_⟩, ?_, ?_, ?_, ?_, ?_⟩
  · rw [Lib.alloc_old _ _ _ (by simp; omega)]
    simp [World.setCell, Array.getElem?_modify, hC.held]
  · have := World.ownsRow_lit (base := B) (e := 69) (size := 2) (w.setCell ⟨cb, 2, none⟩ (.slice (some ⟨w.heap.size, 0, none⟩) 1 1)) #[.slice va ts.length vc, .int .i64 1] 1 (by simp; omega) (by unfold maxLen; omega) rfl
    simpa [grp, groupCells] using this
  · intro x hx
    simp [grp] at hx
    subst hx
    exact ⟨_, _, _, rfl⟩
  · intro b hb
    rw [Lib.alloc_old _ _ _ (by simp; exact (hS b hb).1), Below.heap_setCell _ _ _ _ (hS b hb).2]
  · intro b hb h
    cases h
    exact Nat.lt_irrefl _ (hS _ hb).1
  · intro e he
    simp at he
    subst he
    exact ⟨hne, hT, by simpa using hD⟩
  · simp [cmax]
  · simp [Go.Proofs.YtifbdfcbliafjaaDoor.csum]

theorem countAll_any (S : Nat → Prop) (B cb n : Nat) (v : Value) (ts : List Tr) (w : World) (hS : ∀ b, S b → b < w.heap.size ∧ b ≠ cb) (hne : ts ≠ []) (hT : Trees S w n v ts) (hC : Cst B cb w 0 0 (.slice none 0 0) []) (hBw : B ≤ w.heap.size) (hcnt : cnt n ts ≤ 1048576) :
    Calls Tryd.prog 30 #[.pointer (some ⟨cb, 0, none⟩), v] w fun e w' => e = .returned (.tuple #[]) ∧ ∃ wv, Cst B cb w' (dep n ts) (cnt n ts) wv [] ∧ Below B w w' := by
  obtain ⟨va, vc, rfl, _, hvm⟩ := Trees.shape n hT
  have hDC := dep_cnt n ts
  have hlt := hC.lt
  have c2 : w.cell? ⟨cb, 2, none⟩ = some (.slice none 0 0) := by rw [Lib.cell_of_heap hC.held]; rfl
  have f2 : w.frozen? ⟨cb, 2, none⟩ = false := Lib.frozen_of_heap hC.held 2
  have HC : Hid (Cst B cb w 0 0 (.slice none 0 0) []) := hC
  have HT : Hid (Trees S w n (.slice va ts.length vc) ts) := hT
  clear hC hT
  go_enter Tryd.func30, Tryd.ntmps30
  go_wp2_with fail
  go_loopg [] (cnt n ts) (fun g wr => ∃ P dd cc wv, csum P = g ∧ CntI S B cb w (dep n ts) (cnt n ts) wr P dd cc wv)
  case atStart => exact ⟨_, _, _, _, by simp [csum], cnt_start hS hne HT.out (by omega) HC.out hBw⟩
  case round =>
    obtain ⟨P, dd, cc, wv, hm, I⟩ := hrel
    subst hm
    obtain ⟨wa, wc, rfl⟩ := I.cst.shape
    rw [List.length_map] at I
    have d2 : wr.cell? ⟨cb, 2, none⟩ = some (.slice wa P.length wc) := by rw [Lib.cell_of_heap I.cst.held]; rfl
    have HI : Hid (CntI S B cb w (dep n ts) (cnt n ts) wr P dd cc (.slice wa P.length wc)) := I
    clear I
    rcases List.eq_nil_or_concat P with rfl | ⟨P0, e, hPe⟩
    · simp only [List.length_nil] at d2
      go_wp2_with fail
      go_returns
      have I := HI.out
      have h1 := I.dmax
      have h2 := I.csum
      have h3 : cmax [] = 0 := rfl
      have h4 : csum [] = 0 := rfl
      rw [h3] at h1
      rw [h4] at h2
      have e1 : dd = dep n ts := by omega
      have e2 : cc = cnt n ts := by omega
      have hc := I.cst
      rw [e1, e2] at hc
      exact ⟨rfl, _, hc, I.below⟩
    · rw [List.concat_eq_append] at hPe
      subst hPe
      have hl : (P0 ++ [e]).length = P0.length + 1 := by simp
      rw [hl] at d2
      have hcs : Cst B cb wr dd cc (.slice wa (P0 ++ [e]).length wc) (P0.map grp ++ [(e.v, e.o + 1)]) := by
        have := HI.out.cst
        rw [List.map_append, List.map_cons, List.map_nil] at this
        exact this
      have hszr : B ≤ wr.heap.size := Nat.le_trans hBw HI.out.below.size
      have HCS : Hid _ := hcs
      clear hcs
      go_wp2_with fail
      refine (takeG_any B cb wr dd cc _ (P0.map grp) e.v (e.o + 1) HCS.out hszr).mono ?_
      rintro e' w1 ⟨rfl, v1, hc1, hv1, hk1, hb1⟩
      have hB1 : Below B w w1 := HI.out.below.trans hb1
      obtain ⟨hp1, hp2, hp3⟩ := HI.out.pend e (by simp)
      have hwr := HI.out.below.size
      have hw1 := hb1.size
      have hkp : ∀ b, S b → w1.heap[b]? = w.heap[b]? := fun b hb => (hk1 b (by have := (hS b hb).1; omega) (hS b hb).2).trans (HI.out.keep b hb)
      have HKP : Hid (∀ b, S b → w1.heap[b]? = w.heap[b]?) := hkp
      have hfr : ∀ b, S b → b < w1.heap.size ∧ b ≠ cb ∧ v1.ownBlock ≠ some b := fun b hb => ⟨by have := (hS b hb).1; omega, (hS b hb).2, by rw [hv1]; exact HI.out.free b hb⟩
      have HFR : Hid (∀ b, S b → b < w1.heap.size ∧ b ≠ cb ∧ v1.ownBlock ≠ some b) := hfr
      have hTe : Trees S w1 e.n e.v e.ts := Trees.carry (fun b hb => ⟨hb, hkp b hb⟩) e.n hp2
      have h1 := HI.out.dmax
      have h2 := HI.out.csum
      have h3 : csum (P0 ++ [e]) = csum P0 + cnt e.n e.ts := by rw [csum_append]; simp [csum]
      have h4 : cmax (P0 ++ [e]) = max (cmax P0) (e.o + dep e.n e.ts) := by rw [cmax_append]; simp [cmax]
      have h5 := csum_len (P := P0) (fun x hx => HI.out.pend x (by simp [hx]))
      rw [h3] at h2
      rw [h4] at h1
      have hcall := add_any S B cb 1000 (Nat.le_refl _) e.n e.v e.ts e.o (e.o + 1) dd cc v1 (P0.map grp) w1 rfl hfr hTe hc1 (by have := hb1.size; omega) hp3 (by omega) (by omega) (by rw [List.length_map]; omega)
      have e1 : ((e.o + 1 : Nat) : Int) = (e.o : Int) + 1 := by omega
      rw [e1, show ((1000 : Nat) : Int) = 1000 from rfl] at hcall
      have HCALL : Hid _ := hcall
      clear hcall e1 hkp hfr hk1
      have H1 : Hid (max dd (max (cmax P0) (e.o + dep e.n e.ts)) = dep n ts) := h1
      have H2 : Hid (cc + (csum P0 + cnt e.n e.ts) = cnt n ts) := h2
      have H3 : Hid (csum (P0 ++ [e]) = csum P0 + cnt e.n e.ts) := h3
      clear d2 h1 h2 h3 h4 h5 hp3 hTe hc1 hv1 hl hszr
      go_wp2_with fail
      refine (Calls.mono HCALL.out ?_)
      rintro e' w2 ⟨rfl, P1, dd3, cc3, wv3, J⟩
      go_wp2_with fail
      go_roundg (csum (P0 ++ P1))
      case measure =>
        have h6 := J.csum
        have h7 := J.more.2 (by omega)
        have h8 := List.length_pos_iff.2 hp1
        rw [H3.out, csum_append]
        omega
      case rel =>
        refine ⟨P0 ++ P1, dd3, cc3, wv3, rfl, hB1.trans J.below, by rw [List.map_append]; exact J.cst, fun b hb => (J.frame b (HFR.out b hb).1 (HFR.out b hb).2.1 (HFR.out b hb).2.2).trans (HKP.out b hb), ?_, ?_, ?_, ?_⟩
        · intro b hb h
          rcases J.row with h' | ⟨b', h', h''⟩
          · exact (HFR.out b hb).2.2 (h'.symm.trans h)
          · rw [h'] at h; cases h; have := (HFR.out _ hb).1; omega
        · intro x hx
          rcases List.mem_append.1 hx with hx | hx
          · exact HI.out.pend x (by simp [hx])
          · obtain ⟨q1, q2, q3⟩ := J.pend x hx
            exact ⟨q1, Trees.carry (fun b hb => ⟨hb, (HKP.out b hb).symm⟩) x.n q2, q3⟩
        · have h6 := J.dmax
          rw [if_neg hp1] at h6
          have h1 := H1.out
          rw [cmax_append]; omega
        · have h6 := J.csum
          have h2 := H2.out
          rw [csum_append]; omega


theorem size_any (S : Nat → Prop) (n : Nat) (va vk : Value) (t : Tr) (w : World) (h : Attrs S w va t.attrs) (hk : Trees S w n vk t.kids) (hc : cnt (n + 1) [t] ≤ 1048576) :
    Calls Tryd.prog 8 #[.agg #[.bool t.text, .string t.s, va, vk]] w fun e w' => e = .returned (.tuple #[.int .i64 (dep (n + 1) [t] : Int), .int .i64 (cnt (n + 1) [t] : Int)]) ∧ Below w.heap.size w w' := by
  obtain ⟨aa, ac, rfl⟩ := h.shape
  obtain ⟨ka, kc, rfl, _, _⟩ := Trees.shape n hk
  have hb : ∀ X Y Z, Below w.heap.size w (((w.alloc X).alloc Y).alloc Z) := fun X Y Z => ((Below.alloc1 w X).alloc (by simp) Y).alloc (by simp; omega) Z
  have HB : Hid (∀ X Y Z, Below w.heap.size w (((w.alloc X).alloc Y).alloc Z)) := hb
  have HA : Hid (Attrs (fun b => S b ∧ b < w.heap.size) w (.slice aa t.attrs.length ac) t.attrs) := h.bounded
  have HK : Hid (Trees (fun b => S b ∧ b < w.heap.size) w n (.slice ka t.kids.length kc) t.kids) := Trees.bounded n hk
  clear h hk hb
  go_enter Tryd.func8, Tryd.ntmps8
  go_wp2_with fail
  have hT := Trees.of_block (S := fun b => S b ∧ b < w.heap.size) (n := n) (len := 1) (cap := 1) (ts := [t]) (e := 25) (fz := (0, 0)) (qs := [(t.text, t.s, .slice aa t.attrs.length ac, .slice ka t.kids.length kc)]) (heap_alloc_new ((w.alloc (.cells #[.bool t.text, .string t.s, .slice aa t.attrs.length ac, .slice ka t.kids.length kc] 25)).alloc (.cells #[.int .i64 0, .int .i64 0, .slice none 0 0] 47)) (.cells #[.bool t.text, .string t.s, .slice aa t.attrs.length ac, .slice ka t.kids.length kc] 25)) rfl rfl rfl (Nat.le_refl _) (by unfold maxLen; simp) (by
    intro i q t' hq ht'
    cases i with
    | zero =>
      simp at hq ht'
      subst hq ht'
      exact ⟨rfl, rfl, HA.out.later (HB.out _ _ _), Trees.later (HB.out _ _ _) n HK.out⟩
    | succ i => simp at ht')
  have hCst : Cst w.heap.size (w.heap.size + 1) (((w.alloc (.cells #[.bool t.text, .string t.s, .slice aa t.attrs.length ac, .slice ka t.kids.length kc] 25)).alloc (.cells #[.int .i64 0, .int .i64 0, .slice none 0 0] 47)).alloc (.cells #[.bool t.text, .string t.s, .slice aa t.attrs.length ac, .slice ka t.kids.length kc] 25)) 0 0 (.slice none 0 0) [] := by
    refine ⟨by omega, ?_, World.ownsRow_nil _ _ _ _, by simp⟩
    have e := heap_alloc_new (w.alloc (.cells #[.bool t.text, .string t.s, .slice aa t.attrs.length ac, .slice ka t.kids.length kc] 25)) (.cells #[.int .i64 0, .int .i64 0, .slice none 0 0] 47)
    rw [World.size_alloc] at e
    rw [Lib.alloc_old _ _ _ (by simp)]
    exact e
  have hB3 := HB.out (.cells #[.bool t.text, .string t.s, .slice aa t.attrs.length ac, .slice ka t.kids.length kc] 25) (.cells #[.int .i64 0, .int .i64 0, .slice none 0 0] 47) (.cells #[.bool t.text, .string t.s, .slice aa t.attrs.length ac, .slice ka t.kids.length kc] 25)
  have hs2 : ((w.alloc (.cells #[.bool t.text, .string t.s, .slice aa t.attrs.length ac, .slice ka t.kids.length kc] 25)).alloc (.cells #[.int .i64 0, .int .i64 0, .slice none 0 0] 47)).heap.size = w.heap.size + 1 + 1 := by simp
  rw [hs2] at hT
  refine (countAll_any _ w.heap.size (w.heap.size + 1) (n + 1) _ [t] _ ?_ (by simp) hT hCst hB3.size hc).mono ?_
  · intro b hb
    simp only [World.size_alloc]
    rcases hb with hb | hb
    · have := hb.2; omega
    · omega
  rintro e w2 ⟨rfl, wv, hC2, hb2⟩
  have k0 : w2.cell? ⟨w.heap.size + 1, 0, none⟩ = some (.int .i64 (dep (n + 1) [t] : Int)) := by rw [Lib.cell_of_heap hC2.held]; rfl
  have k1 : w2.cell? ⟨w.heap.size + 1, 1, none⟩ = some (.int .i64 (cnt (n + 1) [t] : Int)) := by rw [Lib.cell_of_heap hC2.held]; rfl
  have hB4 : Below w.heap.size w w2 := hB3.trans hb2
  obtain ⟨D, hD⟩ : ∃ D, dep (n + 1) [t] = D := ⟨_, rfl⟩
  obtain ⟨C, hC⟩ : ∃ C, cnt (n + 1) [t] = C := ⟨_, rfl⟩
  rw [hD] at k0
  rw [hC] at k1
  have HD : Hid (dep (n + 1) [t] = D) := hD
  have HC : Hid (cnt (n + 1) [t] = C) := hC
  clear hD hC hc
  clear hC2 hT hCst hB3 hb2 hs2
  go_wp2_with fail
  go_region
  all_goals
    go_wp2_with fail
    go_ret2
    exact ⟨by rw [HD.out, HC.out]; rfl, hB4.drew⟩
end Go.Proofs.YtifbdfcbliafjaaDoor
