/- tree.Same, for every two trees: true where they are alike, else false. Condition: at most 2^20 trees in the first. -/
import Derived.Test.YtifbdfcbliafjaaDoorAlikeS
import Derived.Test.YtifbdfcbliafjaaDoorSizeT
import Derived.Test.YtifbdfcbliafjaaDoorLit
namespace Go.Proofs.YtifbdfcbliafjaaDoor
open Go.ChangeShapes Go.WideShapes Go.ChangeAt Go.RowKit
set_option maxRecDepth 100000

attribute [local go_sem] cell_set

theorem alk_any (S : Nat → Prop) (B cb : Nat) : ∀ L, L ≤ 1000 → AlkOk S B cb L := by
  intro L
  induction L with
  | zero => intro _; exact alk_zero S B cb
  | succ L ih => intro h; exact alk_succ S B cb L (by omega) (ih (by omega))

structure CmpI (S : Nat → Prop) (B cb : Nat) (w : World) (lk : Bool) (w' : World) (P : List PE) (wv : Value) : Prop where
  below : Below B w w'
  cst : Pst B cb w' wv (P.map prs)
  keep : ∀ b, S b → w'.heap[b]? = w.heap[b]?
  free : ∀ b, S b → wv.ownBlock ≠ some b
  pend : ∀ e ∈ P, PendL S w e
  like : lk = plike P

theorem cmp_start {S : Nat → Prop} {B cb n : Nat} {va ua : Option Addr} {vc uc : Nat} {ts us : List Tr} {w : World} (hS : ∀ b, S b → b < w.heap.size ∧ b ≠ cb) (hne : ts ≠ []) (hT : Trees S w n (.slice va ts.length vc) ts) (hU : Trees S w n (.slice ua us.length uc) us) (hC : Pst B cb w (.slice none 0 0) []) (hBw : B ≤ w.heap.size) :
    CmpI S B cb w (likeB n ts us) ((w.setCell ⟨cb, 0, none⟩ (.slice (some ⟨w.heap.size, 0, none⟩) 1 1)).alloc (.cells #[.slice va ts.length vc, .slice ua us.length uc] 82)) [⟨.slice va ts.length vc, .slice ua us.length uc, n, ts, us⟩] (.slice (some ⟨w.heap.size, 0, none⟩) 1 1) := by
  have hlt := hC.lt
  refine ⟨((Below.refl B w).setCell hC.base _).alloc (by simp; omega) _, ⟨hC.base, ?_, ?_, ?_⟩, ?_, ?_, ?_, ?_⟩
  · rw [Lib.alloc_old _ _ _ (by simp; omega)]
    simp [World.setCell, Array.getElem?_modify, hC.held]
  · have := World.ownsRow_lit (base := B) (e := 82) (size := 2) (w.setCell ⟨cb, 0, none⟩ (.slice (some ⟨w.heap.size, 0, none⟩) 1 1)) #[.slice va ts.length vc, .slice ua us.length uc] 1 (by simp; omega) (by unfold maxLen; omega) rfl
    simpa [prs, pairCells] using this
  · intro x hx
    simp [prs] at hx
    subst hx
    exact ⟨⟨_, _, _, rfl⟩, _, _, _, rfl⟩
  · intro b hb
    rw [Lib.alloc_old _ _ _ (by simp; exact (hS b hb).1), Below.heap_setCell _ _ _ _ (hS b hb).2]
  · intro b hb h
    cases h
    exact Nat.lt_irrefl _ (hS _ hb).1
  · intro e he
    simp at he
    subst he
    exact ⟨hne, hT, hU⟩
  · simp [plike]

theorem alikeAll_any (S : Nat → Prop) (B cb n : Nat) (v v' : Value) (ts us : List Tr) (w : World) (hS : ∀ b, S b → b < w.heap.size ∧ b ≠ cb) (hne : ts ≠ []) (hT : Trees S w n v ts) (hU : Trees S w n v' us) (hC : Pst B cb w (.slice none 0 0) []) (hBw : B ≤ w.heap.size) (hcnt : cnt n ts ≤ 1048576) :
    Calls Tryd.prog 35 #[.pointer (some ⟨cb, 0, none⟩), v, v'] w fun e w' => e = .returned (.bool (likeB n ts us)) ∧ Below B w w' := by
  obtain ⟨va, vc, rfl, _, hvm⟩ := Trees.shape n hT
  obtain ⟨ua, uc, rfl, _, hum⟩ := Trees.shape n hU
  have hlt := hC.lt
  have c2 : w.cell? ⟨cb, 0, none⟩ = some (.slice none 0 0) := by rw [Lib.cell_of_heap hC.held]; rfl
  have f2 : w.frozen? ⟨cb, 0, none⟩ = false := Lib.frozen_of_heap hC.held 0
  have HC : Hid (Pst B cb w (.slice none 0 0) []) := hC
  have HT : Hid (Trees S w n (.slice va ts.length vc) ts) := hT
  have HU : Hid (Trees S w n (.slice ua us.length uc) us) := hU
  clear hC hT hU
  go_enter Tryd.func35, Tryd.ntmps35
  go_wp2_with fail
  go_loopg [] (cnt n ts) (fun g wr => ∃ P wv, psum P = g ∧ psum P ≤ cnt n ts ∧ CmpI S B cb w (likeB n ts us) wr P wv)
  case atStart => exact ⟨_, _, by simp [psum], by simp [psum], cmp_start hS hne HT.out HU.out HC.out hBw⟩
  case round =>
    obtain ⟨P, wv, hm, hpc, I⟩ := hrel
    subst hm
    obtain ⟨wa, wc, rfl⟩ := I.cst.shape
    rw [List.length_map] at I
    have d2 : wr.cell? ⟨cb, 0, none⟩ = some (.slice wa P.length wc) := by rw [Lib.cell_of_heap I.cst.held]; rfl
    have HI : Hid (CmpI S B cb w (likeB n ts us) wr P (.slice wa P.length wc)) := I
    clear I
    rcases List.eq_nil_or_concat P with rfl | ⟨P0, e, hPe⟩
    · simp only [List.length_nil] at d2
      go_wp2_with fail
      go_ret
      exact ⟨by rw [HI.out.like]; rfl, HI.out.below⟩
    · rw [List.concat_eq_append] at hPe
      subst hPe
      have hl : (P0 ++ [e]).length = P0.length + 1 := by simp
      rw [hl] at d2
      have hcs : Pst B cb wr (.slice wa (P0 ++ [e]).length wc) (P0.map prs ++ [(e.v, e.v')]) := by
        have := HI.out.cst
        rw [List.map_append, List.map_cons, List.map_nil] at this
        exact this
      have hszr : B ≤ wr.heap.size := Nat.le_trans hBw HI.out.below.size
      have HCS : Hid _ := hcs
      clear hcs
      go_wp2_with fail
      refine (takeP_any B cb wr _ (P0.map prs) e.v e.v' HCS.out hszr).mono ?_
      rintro e' w1 ⟨rfl, v1, hc1, hv1, hk1, hb1⟩
      have hB1 : Below B w w1 := HI.out.below.trans hb1
      obtain ⟨hp1, hp2, hp3⟩ := HI.out.pend e (by simp)
      have hwr := HI.out.below.size
      have hw1 := hb1.size
      have hkp : ∀ b, S b → w1.heap[b]? = w.heap[b]? := fun b hb => (hk1 b (by have := (hS b hb).1; omega) (hS b hb).2).trans (HI.out.keep b hb)
      have HKP : Hid (∀ b, S b → w1.heap[b]? = w.heap[b]?) := hkp
      have hfr : ∀ b, S b → b < w1.heap.size ∧ b ≠ cb ∧ v1.ownBlock ≠ some b := fun b hb => ⟨by have := (hS b hb).1; omega, (hS b hb).2, by rw [hv1]; exact HI.out.free b hb⟩
      have HFR : Hid (∀ b, S b → b < w1.heap.size ∧ b ≠ cb ∧ v1.ownBlock ≠ some b) := hfr
      have hTe : Trees S w1 e.n e.v e.ts := Trees.carry (fun b hb => ⟨hb, hkp b hb⟩) e.n hp2
      have hUe : Trees S w1 e.n e.v' e.us := Trees.carry (fun b hb => ⟨hb, hkp b hb⟩) e.n hp3
      have h3 : psum (P0 ++ [e]) = psum P0 + cnt e.n e.ts := by rw [psum_append]; simp [psum]
      have h5 := psum_len (P := P0) (fun x hx => HI.out.pend x (by simp [hx]))
      rw [h3] at hpc
      have hcall := alk_any S B cb 1000 (Nat.le_refl _) e.n e.v e.v' e.ts e.us v1 (P0.map prs) w1 hfr hTe hUe hc1 (by have := hb1.size; omega) (by rw [List.length_map]; omega)
      rw [show ((1000 : Nat) : Int) = 1000 from rfl] at hcall
      have HCALL : Hid _ := hcall
      have H3 : Hid (psum (P0 ++ [e]) = psum P0 + cnt e.n e.ts) := h3
      have HPC : Hid (psum P0 + cnt e.n e.ts ≤ cnt n ts) := hpc
      have HLK : Hid (likeB n ts us = (plike P0 && likeB e.n e.ts e.us)) := by
        show _ = _; rw [HI.out.like, plike_append]; simp [plike]
      clear hcall hkp hfr hk1 d2 h3 h5 hp3 hTe hUe hc1 hv1 hl hszr hpc
      go_wp2_with fail
      refine (Calls.mono HCALL.out ?_)
      rintro e' w2 ⟨r, rfl, J⟩
      cases r with
      | false =>
        have HF : Hid (likeB n ts us = false) := by show _ = _; rw [HLK.out, J.1, Bool.and_false]
        go_wp2_with fail
        go_ret
        exact ⟨by rw [HF.out]; rfl, hB1.trans J.2.1⟩
      | true =>
      obtain ⟨P1, wv3, J⟩ := J
      go_wp2_with fail
      go_roundg (psum (P0 ++ P1))
      case measure =>
        have h7 := J.less.2 (by omega)
        have h8 := List.length_pos_iff.2 hp1
        rw [H3.out, psum_append]
        omega
      case rel =>
        refine ⟨P0 ++ P1, wv3, rfl, ?_, hB1.trans J.below, by rw [List.map_append]; exact J.cst, fun b hb => (J.frame b (HFR.out b hb).1 (HFR.out b hb).2.1 (HFR.out b hb).2.2).trans (HKP.out b hb), ?_, ?_, ?_⟩
        · have h7 := J.less.1
          have := HPC.out
          rw [psum_append]
          omega
        · intro b hb h
          rcases J.row with h' | ⟨b', h', h''⟩
          · exact (HFR.out b hb).2.2 (h'.symm.trans h)
          · rw [h'] at h; cases h; have := (HFR.out _ hb).1; omega
        · intro x hx
          rcases List.mem_append.1 hx with hx | hx
          · exact HI.out.pend x (by simp [hx])
          · obtain ⟨q1, q2, q3⟩ := J.pend x hx
            exact ⟨q1, Trees.carry (fun b hb => ⟨hb, (HKP.out b hb).symm⟩) x.n q2, Trees.carry (fun b hb => ⟨hb, (HKP.out b hb).symm⟩) x.n q3⟩
        · rw [HLK.out, plike_append, J.like]

/-- The four boxes of a tree at a new block, as a list of one tree. -/
theorem one_block {S : Nat → Prop} {w W : World} {n g : Nat} {aa ka : Option Addr} {ac kc : Nat} {t : Tr} (hg : W.heap[g]? = some (.cells #[.bool t.text, .string t.s, .slice aa t.attrs.length ac, .slice ka t.kids.length kc] 25 (0, 0)))
    (hb : Below w.heap.size w W) (hA : Attrs (fun b => S b ∧ b < w.heap.size) w (.slice aa t.attrs.length ac) t.attrs) (hK : Trees (fun b => S b ∧ b < w.heap.size) w n (.slice ka t.kids.length kc) t.kids) :
    Trees (fun b => (S b ∧ b < w.heap.size) ∨ b = g) W (n + 1) (.slice (some ⟨g, 0, none⟩) 1 1) [t] :=
  Trees.of_block (S := fun b => S b ∧ b < w.heap.size) (n := n) (len := 1) (cap := 1) (ts := [t]) (e := 25) (fz := (0, 0)) (qs := [(t.text, t.s, .slice aa t.attrs.length ac, .slice ka t.kids.length kc)]) hg rfl rfl rfl (Nat.le_refl _) (by unfold maxLen; simp) (by
    intro i q t' hq ht'
    cases i with
    | zero =>
      simp at hq ht'
      subst hq ht'
      exact ⟨rfl, rfl, hA.later hb, Trees.later hb n hK⟩
    | succ i => simp at ht')

theorem same_any (S S' : Nat → Prop) (n : Nat) (va vk va' vk' : Value) (t u : Tr) (w : World) (h : Attrs S w va t.attrs) (hk : Trees S w n vk t.kids) (h' : Attrs S' w va' u.attrs) (hk' : Trees S' w n vk' u.kids) (hc : cnt (n + 1) [t] ≤ 1048576) :
    Calls Tryd.prog 21 #[.agg #[.bool t.text, .string t.s, va, vk], .agg #[.bool u.text, .string u.s, va', vk']] w fun e w' => e = .returned (.bool (likeB (n + 1) [t] [u])) ∧ Below w.heap.size w w' := by
  obtain ⟨aa, ac, rfl⟩ := h.shape
  obtain ⟨ka, kc, rfl, _, _⟩ := Trees.shape n hk
  obtain ⟨aa', ac', rfl⟩ := h'.shape
  obtain ⟨ka', kc', rfl, _, _⟩ := Trees.shape n hk'
  have HA : Hid (Attrs (fun b => S b ∧ b < w.heap.size) w (.slice aa t.attrs.length ac) t.attrs) := h.bounded
  have HK : Hid (Trees (fun b => S b ∧ b < w.heap.size) w n (.slice ka t.kids.length kc) t.kids) := Trees.bounded n hk
  have HA' : Hid (Attrs (fun b => S' b ∧ b < w.heap.size) w (.slice aa' u.attrs.length ac') u.attrs) := h'.bounded
  have HK' : Hid (Trees (fun b => S' b ∧ b < w.heap.size) w n (.slice ka' u.kids.length kc') u.kids) := Trees.bounded n hk'
  clear h hk h' hk'
  have hmain : ∀ X Y, X = Obj.cells #[.bool t.text, .string t.s, .slice aa t.attrs.length ac, .slice ka t.kids.length kc] 25 → Y = Obj.cells #[.bool u.text, .string u.s, .slice aa' u.attrs.length ac', .slice ka' u.kids.length kc'] 25 →
      Calls Tryd.prog 35 #[.pointer (some ⟨w.heap.size + 1 + 1, 0, none⟩), .slice (some ⟨w.heap.size + 1 + 1 + 1, 0, none⟩) 1 1, .slice (some ⟨w.heap.size + 1 + 1 + 1 + 1, 0, none⟩) 1 1] (((((w.alloc X).alloc Y).alloc (.cells #[.slice none 0 0] 57)).alloc X).alloc Y) fun e w' => e = .returned (.bool (likeB (n + 1) [t] [u])) ∧ Below w.heap.size w w' := by
    intro X Y hX hY
    have s1 : (w.alloc X).heap.size = w.heap.size + 1 := by simp
    have s2 : ((w.alloc X).alloc Y).heap.size = w.heap.size + 1 + 1 := by simp
    have s3 : (((w.alloc X).alloc Y).alloc (.cells #[.slice none 0 0] 57)).heap.size = w.heap.size + 1 + 1 + 1 := by simp
    have s4 : ((((w.alloc X).alloc Y).alloc (.cells #[.slice none 0 0] 57)).alloc X).heap.size = w.heap.size + 1 + 1 + 1 + 1 := by simp
    have hB5 : Below w.heap.size w (((((w.alloc X).alloc Y).alloc (.cells #[.slice none 0 0] 57)).alloc X).alloc Y) := ((((Below.alloc1 w X).alloc (by omega) Y).alloc (by omega) _).alloc (by omega) X).alloc (by omega) Y
    have g3 : (((((w.alloc X).alloc Y).alloc (.cells #[.slice none 0 0] 57)).alloc X).alloc Y).heap[w.heap.size + 1 + 1]? = some (.cells #[.slice none 0 0] 57 (0, 0)) := by
      rw [Lib.alloc_old _ _ _ (by omega), Lib.alloc_old _ _ _ (by omega)]
      have e := heap_alloc_new ((w.alloc X).alloc Y) (.cells #[.slice none 0 0] 57)
      rw [s2] at e
      exact e
    have g4 : (((((w.alloc X).alloc Y).alloc (.cells #[.slice none 0 0] 57)).alloc X).alloc Y).heap[w.heap.size + 1 + 1 + 1]? = some X := by
      rw [Lib.alloc_old _ _ _ (by omega)]
      have e := heap_alloc_new (((w.alloc X).alloc Y).alloc (.cells #[.slice none 0 0] 57)) X
      rw [s3] at e
      exact e
    have g5 : (((((w.alloc X).alloc Y).alloc (.cells #[.slice none 0 0] 57)).alloc X).alloc Y).heap[w.heap.size + 1 + 1 + 1 + 1]? = some Y := by
      have e := heap_alloc_new ((((w.alloc X).alloc Y).alloc (.cells #[.slice none 0 0] 57)).alloc X) Y
      rw [s4] at e
      exact e
    generalize (((((w.alloc X).alloc Y).alloc (.cells #[.slice none 0 0] 57)).alloc X).alloc Y) = W at hB5 g3 g4 g5 ⊢
    rw [hX] at g4
    rw [hY] at g5
    have hT := one_block g4 hB5 HA.out HK.out
    have hU := one_block g5 hB5 HA'.out HK'.out
    have hCst : Pst w.heap.size (w.heap.size + 1 + 1) W (.slice none 0 0) [] := ⟨by omega, g3, World.ownsRow_nil _ _ _ _, by simp⟩
    have hl5 : w.heap.size + 1 + 1 + 1 + 1 < W.heap.size := by
      rcases Nat.lt_or_ge (w.heap.size + 1 + 1 + 1 + 1) W.heap.size with h' | h'
      · exact h'
      · simp [Array.getElem?_eq_none h'] at g5
    have hcall := alikeAll_any (fun b => (b < w.heap.size) ∨ b = w.heap.size + 1 + 1 + 1 ∨ b = w.heap.size + 1 + 1 + 1 + 1) w.heap.size (w.heap.size + 1 + 1) (n + 1) _ _ [t] [u] W (by intro b hb; rcases hb with hb | rfl | rfl <;> omega) (by simp)
      (Trees.carry (fun b hb => ⟨by rcases hb with hb | hb; exact Or.inl hb.2; exact Or.inr (Or.inl hb), rfl⟩) _ hT) (Trees.carry (fun b hb => ⟨by rcases hb with hb | hb; exact Or.inl hb.2; exact Or.inr (Or.inr hb), rfl⟩) _ hU) hCst hB5.size hc
    refine hcall.mono ?_
    rintro e w2 ⟨rfl, hb2⟩
    exact ⟨rfl, hB5.trans hb2⟩
  have HM : Hid _ := hmain _ _ rfl rfl
  clear hmain HA HK HA' HK'
  obtain ⟨q, hq⟩ : ∃ q, likeB (n + 1) [t] [u] = q := ⟨_, rfl⟩
  rw [hq] at HM ⊢
  clear hq hc
  go_enter Tryd.func21, Tryd.ntmps21
  go_wp2_with fail
  refine (Calls.mono HM.out ?_)
  rintro e w2 ⟨rfl, hb2⟩
  go_wp2_with fail
  go_ret
  exact ⟨rfl, hb2⟩
end Go.Proofs.YtifbdfcbliafjaaDoor
