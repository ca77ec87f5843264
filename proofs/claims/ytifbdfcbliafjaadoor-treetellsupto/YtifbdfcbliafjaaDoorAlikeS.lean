/- (*comparer).alike at some levels. Condition: at most 2^20 trees. -/
import Derived.Test.YtifbdfcbliafjaaDoorAlike
import Derived.Test.YtifbdfcbliafjaaDoorCountS
import Derived.Test.YtifbdfcbliafjaaDoorCopy
import Derived.Deep.RegionWith
import Derived.Deep.RegionHeld3
import Derived.Deep.QuietTactic
import Derived.BigQuiet
namespace Go.Proofs.YtifbdfcbliafjaaDoor
open Go.ChangeShapes Go.WideShapes Go.ChangeAt Go.RowKit
set_option maxRecDepth 100000

/-- The loop's state ahead of round k. -/
structure LoopL (S : Nat → Prop) (B cb : Nat) (w : World) (m k : Nat) (ts us : List Tr) (bx by_ : Value) (wv : Value) (G : List (Value × Value)) (w' : World) (P : List PE) (wv' : Value) : Prop where
  below : Below B w w'
  cst : Pst B cb w' wv' (G ++ P.map prs)
  row : wv'.ownBlock = wv.ownBlock ∨ ∃ b, wv'.ownBlock = some b ∧ w.heap.size + 1 ≤ b
  frame : ∀ b, b < w.heap.size → b ≠ cb → wv.ownBlock ≠ some b → w'.heap[b]? = w.heap[b]?
  box0 : w'.cell? ⟨w.heap.size, 0, none⟩ = some bx
  box1 : w'.cell? ⟨w.heap.size, 1, none⟩ = some by_
  size : w.heap.size + 1 ≤ w'.heap.size
  pend : ∀ e ∈ P, PendL S w e
  like : preB m ts us k = plike P
  less : psum P ≤ cnt m (nx (ts.take k))

theorem loopL_step {S : Nat → Prop} {B cb : Nat} {w : World} {m k L : Nat} {ts us : List Tr} {bx by_ : Value} {wv : Value} {G : List (Value × Value)} {wr w3 : World} {P P1 : List PE} {wv' wv3 : Value} {t u : Tr}
    (hS : ∀ b, S b → wr.heap[b]? = w.heap[b]?) (I : LoopL S B cb w m k ts us bx by_ wv G wr P wv') (hwv : ∀ b, wv.ownBlock = some b → b < w.heap.size) (hcb : cb < w.heap.size) (hsn : ts.take (k + 1) = ts.take k ++ [t])
    (hpre : preB m ts us (k + 1) = (preB m ts us k && (true && likeB m t.kids u.kids)))
    (J : AlkP S B cb wr (likeB m t.kids u.kids) (cnt m t.kids) L t.kids wv' (G ++ P.map prs) w3 P1 wv3) :
    LoopL S B cb w m (k + 1) ts us bx by_ wv G w3 (P ++ P1) wv3 := by
  have hsz3 := J.below.size
  have hszr := I.size
  have hrow : ∀ b, b < w.heap.size + 1 → wv.ownBlock ≠ some b → wv'.ownBlock ≠ some b := by
    intro b hb h1 h2
    rcases I.row with h | ⟨b', h, h3⟩
    · exact h1 (h.symm.trans h2)
    · rw [h] at h2; cases h2; omega
  have hbox : w3.heap[w.heap.size]? = wr.heap[w.heap.size]? := J.frame _ (by omega) (by omega) (hrow _ (by omega) (fun e => by have := hwv _ e; omega))
  refine ⟨I.below.trans J.below, ?_, ?_, ?_, ?_, ?_, by omega, ?_, ?_, ?_⟩
  · have := J.cst; simpa using this
  · rcases J.row with h | ⟨b, h, h1⟩
    · rw [h]; exact I.row
    · exact Or.inr ⟨b, h, by omega⟩
  · intro b hb h1 h2
    rw [J.frame b (by omega) h1 (hrow b (by omega) h2), I.frame b hb h1 h2]
  · rw [World.cell?_of_block (a := ⟨w.heap.size, 0, none⟩) hbox]; exact I.box0
  · rw [World.cell?_of_block (a := ⟨w.heap.size, 1, none⟩) hbox]; exact I.box1
  · intro e he
    rcases List.mem_append.1 he with he | he
    · exact I.pend e he
    · obtain ⟨h1, h2, h3⟩ := J.pend e he
      exact ⟨h1, Trees.carry (fun b hb => ⟨hb, (hS b hb).symm⟩) e.n h2, Trees.carry (fun b hb => ⟨hb, (hS b hb).symm⟩) e.n h3⟩
  · rw [hpre, I.like, J.like, plike_append, Bool.true_and]
  · rw [psum_append, hsn, nx_append, nx_cons, nx_nil, List.append_nil, cnt_append]
    have h1 := J.less.1
    have h2 := I.less
    omega

theorem loopL_frame {S : Nat → Prop} {B cb : Nat} {w : World} {m k : Nat} {ts us : List Tr} {bx by_ : Value} {wv : Value} {G : List (Value × Value)} {wr w3 : World} {P : List PE} {wv' : Value} (I : LoopL S B cb w m k ts us bx by_ wv G wr P wv')
    (hf : ∀ b, b < wr.heap.size → b ≠ cb → wv'.ownBlock ≠ some b → w3.heap[b]? = wr.heap[b]?) : ∀ b, b < w.heap.size → b ≠ cb → wv.ownBlock ≠ some b → w3.heap[b]? = w.heap[b]? := by
  intro b hb h1 h2
  have hszr := I.size
  rw [hf b (by omega) h1 ?_, I.frame b hb h1 h2]
  intro h3
  rcases I.row with h | ⟨b', h, h4⟩
  · exact h2 (h.symm.trans h3)
  · rw [h] at h3; cases h3; omega

theorem loopL_box {S : Nat → Prop} {B cb : Nat} {w : World} {m k : Nat} {ts us : List Tr} {bx by_ : Value} {wv : Value} {G : List (Value × Value)} {wr w3 : World} {P : List PE} {wv' : Value} (I : LoopL S B cb w m k ts us bx by_ wv G wr P wv') (hwv : ∀ b, wv.ownBlock = some b → b < w.heap.size) (hcb : cb < w.heap.size)
    (hf : ∀ b, b < wr.heap.size → b ≠ cb → wv'.ownBlock ≠ some b → w3.heap[b]? = wr.heap[b]?) : w3.heap[w.heap.size]? = wr.heap[w.heap.size]? := by
  have hszr := I.size
  refine hf _ (by omega) (by omega) fun h3 => ?_
  rcases I.row with h | ⟨b', h, h4⟩
  · have := hwv _ (h.symm.trans h3); omega
  · rw [h] at h3; cases h3; omega

theorem loopL_start {S : Nat → Prop} {B cb : Nat} {w W0 : World} {m : Nat} {ts us : List Tr} {bx by_ : Value} {wv : Value} {G : List (Value × Value)} (hBw : B ≤ w.heap.size) (hsz : W0.heap.size = w.heap.size + 1) (hbx : Below w.heap.size w W0) (hX : Pst B cb W0 wv G)
    (b0 : W0.cell? ⟨w.heap.size, 0, none⟩ = some bx) (b1 : W0.cell? ⟨w.heap.size, 1, none⟩ = some by_) :
    LoopL S B cb w m 0 ts us bx by_ wv G W0 [] wv :=
  ⟨hbx.mono hBw, by simpa using hX, Or.inl rfl, fun b hb _ _ => hbx.block b hb, b0, b1, by omega, by simp, by rw [preB_zero]; rfl, by simp [psum]⟩

theorem loopL_stop {S : Nat → Prop} {B cb : Nat} {w : World} {m L : Nat} {ts us : List Tr} {bx by_ : Value} {wv : Value} {G : List (Value × Value)} {wr : World} {P : List PE} {wv' : Value}
    (hlen : ts.length = us.length) (I : LoopL S B cb w m ts.length ts us bx by_ wv G wr P wv') : AlkP S B cb w (likeB (m + 1) ts us) (cnt (m + 1) ts) L ts wv G wr P wv' := by
  have h := I.less
  rw [List.take_length] at h
  have h2 := cnt_nx m ts
  refine ⟨I.below, I.cst, ?_, I.frame, I.pend, by rw [likeB_pre hlen]; exact I.like, by omega, fun _ => by omega⟩
  rcases I.row with h | ⟨b, h, h1⟩
  · exact Or.inl h
  · exact Or.inr ⟨b, h, by omega⟩

theorem AlkR.back {S : Nat → Prop} {B cb : Nat} {w w1 : World} {lk : Bool} {cs L : Nat} {ts : List Tr} {wv : Value} {G : List (Value × Value)} {r : Bool} {w' : World} (hB : B ≤ w.heap.size) (hS : ∀ b, S b → b < w.heap.size) (hb : Below w.heap.size w w1)
    (h : AlkR S B cb w1 lk cs L ts wv G r w') : AlkR S B cb w lk cs L ts wv G r w' := by
  cases r with
  | false => exact ⟨h.1, (hb.mono hB).trans h.2.1, fun b h1 h2 h3 => by rw [h.2.2 b (Nat.lt_of_lt_of_le h1 hb.size) h2 h3, hb.block b h1]⟩
  | true =>
    obtain ⟨P, wv', J⟩ := h
    have hsz := hb.size
    refine ⟨P, wv', (hb.mono hB).trans J.below, J.cst, ?_, ?_, ?_, J.like, J.less⟩
    · rcases J.row with h | ⟨b, h, h1⟩
      · exact Or.inl h
      · exact Or.inr ⟨b, h, by omega⟩
    · intro b h1 h2 h3
      rw [J.frame b (by omega) h2 h3, hb.block b h1]
    · intro e he
      obtain ⟨h1, h2, h3⟩ := J.pend e he
      exact ⟨h1, Trees.carry (fun b hs => ⟨hs, (hb.block b (hS b hs)).symm⟩) e.n h2, Trees.carry (fun b hs => ⟨hs, (hb.block b (hS b hs)).symm⟩) e.n h3⟩

set_option maxHeartbeats 1000000 in
theorem alk_succ (S : Nat → Prop) (B cb : Nat) (L : Nat) (hL : L < 1000) (ih : AlkOk S B cb L) : AlkOk S B cb (L + 1) := by
  intro n v v' ts us wv G w hS0 hT hU hC hBw hG
  have HS0 : Hid (∀ b, S b → b < w.heap.size ∧ b ≠ cb ∧ wv.ownBlock ≠ some b) := hS0
  clear hS0
  by_cases hlen : ts.length = us.length
  · by_cases hne : ts = []
    · subst hne
      obtain rfl : us = [] := List.eq_nil_of_length_eq_zero hlen.symm
      exact alk_nil S B cb (L + 1) n v v' wv G w hT hU hC hBw
    · have hTo : Hid (Trees S w n v ts) := hT
      have hUo : Hid (Trees S w n v' us) := hU
      have HLEN : Hid (ts.length = us.length) := hlen
      obtain ⟨va, vc, rfl, _, hvm⟩ := Trees.shape n hT
      obtain ⟨ua, uc, rfl, _, hum⟩ := Trees.shape n hU
      have hl0 : 0 < ts.length := List.length_pos_iff.2 hne
      have hcn := (Trees.deep n hT).len
      have hlt := hC.lt
      have hap := hC.apart
      have hne1 : ((ts.length : Int) == 0) = false := by
        have : (ts.length : Int) ≠ 0 := by omega
        simpa using this
      have hne3 : ((ts.length : Int) != us.length) = false := by simp [hlen]
      have hne2 : ((((L + 1 : Nat) : Int)) == 0) = false := by
        have : (((L + 1 : Nat) : Int)) ≠ 0 := by omega
        simpa using this
      obtain ⟨M, hM⟩ : ∃ M, L + 1 = M := ⟨_, rfl⟩
      rw [hM] at hne2 ⊢
      have hbx := Below.alloc1 w (.cells #[.slice va ts.length vc, .slice ua us.length uc] 82)
      have hX := hC.later hbx
      have b0 : (w.alloc (.cells #[.slice va ts.length vc, .slice ua us.length uc] 82)).cell? ⟨w.heap.size, 0, none⟩ = some (.slice va ts.length vc) := by simp
      have b1 : (w.alloc (.cells #[.slice va ts.length vc, .slice ua us.length uc] 82)).cell? ⟨w.heap.size, 1, none⟩ = some (.slice ua us.length uc) := by simp
      have hsz : (w.alloc (.cells #[.slice va ts.length vc, .slice ua us.length uc] 82)).heap.size = w.heap.size + 1 := by simp
      have HIH : Hid (AlkOk S B cb L) := ih
      have HM : Hid (L + 1 = M) := hM
      have HGl : Hid (G.length + cnt n ts ≤ 1048576) := hG
      have hlb : ts.length ≤ 1048576 := by omega
      have HWV : Hid (∀ b, wv.ownBlock = some b → b < w.heap.size) := fun b hb => (hC.own.lt b hb).2
      clear hT hU ih hM hlen hC hG hcn
      unfold maxLen at hvm
      go_enter Tryd.func54, Tryd.ntmps54
      go_wp2_with fail
      generalize w.alloc (.cells #[.slice va ts.length vc, .slice ua us.length uc] 82) = W0 at hbx hX b0 b1 hsz ⊢
      have HS : Hid (W0.heap.size = w.heap.size + 1) := hsz
      have HX : Hid (Pst B cb W0 wv G) := hX
      clear hsz hX
      cases n with
      | zero => exact absurd hTo.out.1 hne
      | succ m =>
      go_loopg [34] ts.length (fun g i wr => ∃ (k : Nat) (P : List PE) (wv' : Value), k + g = ts.length ∧ i = .int .i64 k ∧ LoopL S B cb w m k ts us (.slice va ts.length vc) (.slice ua us.length uc) wv G wr P wv')
      case atStart => exact ⟨0, [], _, by omega, rfl, loopL_start hBw HS.out hbx HX.out b0 b1⟩
      case round =>
        obtain ⟨k, P, wv', hk, rfl, I⟩ := hrel
        have HI : Hid (LoopL S B cb w m k ts us (.slice va ts.length vc) (.slice ua us.length uc) wv G wr P wv') := I
        have x0 := I.box0
        have x1 := I.box1
        have hBr := I.below
        have hsr := I.size
        clear I b0 b1 HX hbx HS
        by_cases hlt' : k < ts.length
        · have hltu : k < us.length := by have := HLEN.out; omega
          have hneu : us ≠ [] := by intro e; subst e; simp at hltu
          obtain ⟨_, _, hve, _, _, h4⟩ := hTo.out
          obtain ⟨b, o, hao, hs, hcc⟩ := h4 hne
          injection hve with e1 e2 e3
          subst e1
          subst hao
          obtain ⟨_, _, hue, _, _, h4'⟩ := hUo.out
          obtain ⟨b', o', hao', hs', hcc'⟩ := h4' hneu
          injection hue with e1' e2' e3'
          subst e1'
          subst hao'
          obtain ⟨t, ht⟩ : ∃ t, ts[k]? = some t := ⟨ts[k], by simp [hlt']⟩
          obtain ⟨u, hu⟩ : ∃ u, us[k]? = some u := ⟨us[k], by simp [hltu]⟩
          obtain ⟨xa, xk, c0, c1, c2, c3, hat, hkt⟩ := hcc k t ht
          obtain ⟨ya, yk, c0', c1', c2', c3', hat', hkt'⟩ := hcc' k u hu
          obtain ⟨ka, kc, rfl, _, hkm⟩ := Trees.shape m hkt
          obtain ⟨ka', kc', rfl, _, hkm'⟩ := Trees.shape m hkt'
          have hkeep : ∀ b, S b → wr.heap[b]? = w.heap[b]? := fun b hb => HI.out.frame b (HS0.out b hb).1 (HS0.out b hb).2.1 (HS0.out b hb).2.2
          have HKEEP : Hid (∀ b, S b → wr.heap[b]? = w.heap[b]?) := hkeep
          rw [← World.cell?_of_block (a := ⟨b, o + k * 4, none⟩) (hkeep b hs)] at c0
          rw [← World.cell?_of_block (a := ⟨b, o + k * 4 + 1, none⟩) (hkeep b hs)] at c1
          rw [← World.cell?_of_block (a := ⟨b, o + k * 4 + 2, none⟩) (hkeep b hs)] at c2
          rw [← World.cell?_of_block (a := ⟨b, o + k * 4 + 3, none⟩) (hkeep b hs)] at c3
          rw [← World.cell?_of_block (a := ⟨b', o' + k * 4, none⟩) (hkeep b' hs')] at c0'
          rw [← World.cell?_of_block (a := ⟨b', o' + k * 4 + 1, none⟩) (hkeep b' hs')] at c1'
          rw [← World.cell?_of_block (a := ⟨b', o' + k * 4 + 2, none⟩) (hkeep b' hs')] at c2'
          rw [← World.cell?_of_block (a := ⟨b', o' + k * 4 + 3, none⟩) (hkeep b' hs')] at c3'
          have hbl : b < wr.drew.heap.size := World.block_lt_of_cell? wr _ c0
          have hbl' : b' < wr.drew.heap.size := World.block_lt_of_cell? wr _ c0'
          have hsn : ts.take (k + 1) = ts.take k ++ [t] := by
            rw [List.take_succ_eq_append_getElem hlt']; congr 2; simpa [hlt'] using ht
          have HSN : Hid (ts.take (k + 1) = ts.take k ++ [t]) := hsn
          have HKT : Hid (Trees S wr.drew m (.slice ka t.kids.length kc) t.kids) := Trees.carry (w := w) (w' := wr.drew) (fun b hb => ⟨hb, hkeep b hb⟩) m hkt
          have HKU : Hid (Trees S wr.drew m (.slice ka' u.kids.length kc') u.kids) := Trees.carry (w := w) (w' := wr.drew) (fun b hb => ⟨hb, hkeep b hb⟩) m hkt'
          have HPRE : Hid (preB m ts us (k + 1) = (preB m ts us k && (aloneB t u && likeB m t.kids u.kids))) := preB_succ ht hu
          have HNO : Hid ((aloneB t u && likeB m t.kids u.kids) = false → likeB (m + 1) ts us = false) := likeB_no ht hu
          have HAL : Hid _ := alone_any S S xa ya (.slice ka t.kids.length kc) (.slice ka' u.kids.length kc') t u wr.drew (Attrs.carry hat fun b hb => ⟨hb, hkeep b hb⟩) (Attrs.carry hat' fun b hb => ⟨hb, hkeep b hb⟩) ⟨_, _, _, rfl⟩ ⟨_, _, _, rfl⟩
          obtain ⟨aa, ac, rfl⟩ := hat.shape
          obtain ⟨aa', ac', rfl⟩ := hat'.shape
          have hcl : cnt m t.kids ≤ cnt m (nx ts) ∧ psum P + cnt m t.kids ≤ cnt m (nx ts) := by
            have e : nx ts = nx (ts.take (k + 1)) ++ nx (ts.drop (k + 1)) := by rw [← nx_append, List.take_append_drop]
            have h2 := HI.out.less
            rw [e, cnt_append, hsn, nx_append, nx_cons, nx_nil, List.append_nil, cnt_append]
            omega
          have HCALL : Hid (∀ w1, Below wr.drew.heap.size wr.drew w1 → Calls Tryd.prog 54 #[.pointer (some ⟨cb, 0, none⟩), .agg #[.slice ka t.kids.length kc, .slice ka' u.kids.length kc'], .int .i64 ((M : Int) - 1)] w1 fun e w' => ∃ r, e = .returned r ∧ ∃ q, r = .bool q ∧ AlkR S B cb wr (likeB m t.kids u.kids) (cnt m t.kids) L t.kids wv' (G ++ P.map prs) q w') := by
            intro w1 hb1
            have I := HI.out
            have h3 := psum_len I.pend
            have h5 := cnt_nx m ts
            have h6 := HGl.out
            have hs1 := hb1.size
            have hfree0 : ∀ b, S b → b < wr.drew.heap.size ∧ b ≠ cb ∧ wv'.ownBlock ≠ some b := by
              intro b hb
              obtain ⟨q1, q2, q3⟩ := HS0.out b hb
              refine ⟨Nat.lt_of_lt_of_le q1 (Nat.le_trans (Nat.le_succ _) I.size), q2, fun h => ?_⟩
              rcases I.row with h' | ⟨b', h', h''⟩
              · exact q3 (h'.symm.trans h)
              · rw [h'] at h; cases h; omega
            have hcst : Pst B cb wr.drew wv' (G ++ P.map prs) := ⟨I.cst.base, I.cst.held, I.cst.own, I.cst.slices⟩
            have hBr' : B ≤ wr.drew.heap.size := by show B ≤ wr.heap.size; omega
            have := HIH.out m (.slice ka t.kids.length kc) (.slice ka' u.kids.length kc') t.kids u.kids wv' (G ++ P.map prs) w1 (fun b hb => ⟨Nat.lt_of_lt_of_le (hfree0 b hb).1 hs1, (hfree0 b hb).2⟩) (Trees.later hb1 m HKT.out) (Trees.later hb1 m HKU.out) (hcst.later hb1) (by omega) (by rw [List.length_append, List.length_map]; omega)
            have e2 : (L : Int) = (M : Int) - 1 := by have := HM.out; omega
            rw [e2] at this
            refine this.mono ?_
            rintro e w' ⟨q, rfl, J⟩
            exact ⟨_, rfl, q, rfl, AlkR.back (w := wr) (w1 := w1) hBr' (fun b hb => (hfree0 b hb).1) ((Below.refl _ wr).drew.trans hb1) J⟩
          have hlti : (k : Int) < (ts.length : Int) := by omega
          have hlti' : (k : Int) < (us.length : Int) := by omega
          have hMb : 1 ≤ M ∧ M ≤ 1000 := by have := HM.out; omega
          have hbr1 : w.heap.size < wr.drew.heap.size := by show w.heap.size < wr.heap.size; omega
          obtain ⟨q, hq⟩ : ∃ q, aloneB t u = q := ⟨_, rfl⟩
          rw [hq] at HPRE HNO HAL
          have HAL2 : Hid (Calls Tryd.prog 69 #[.agg #[.bool t.text, .string t.s, .slice aa t.attrs.length ac, .slice ka t.kids.length kc], .agg #[.bool u.text, .string u.s, .slice aa' u.attrs.length ac', .slice ka' u.kids.length kc']] wr.drew fun e w' => e = .returned (.bool q) ∧ Below wr.drew.heap.size wr.drew w') := HAL.out
          have HY : Hid (∀ w1 : World, (w1.heap[w.heap.size]? = wr.heap[w.heap.size]? ∧ w1.heap[b]? = wr.heap[b]? ∧ w1.heap[b']? = wr.heap[b']?) →
              w1.cell? ⟨w.heap.size, 0, none⟩ = some (.slice (some ⟨b, o, none⟩) ts.length vc) ∧ w1.cell? ⟨w.heap.size, 1, none⟩ = some (.slice (some ⟨b', o', none⟩) us.length uc) ∧
              w1.cell? ⟨b, o + k * 4, none⟩ = some (.bool t.text) ∧ w1.cell? ⟨b, o + k * 4 + 1, none⟩ = some (.string t.s) ∧ w1.cell? ⟨b, o + k * 4 + 2, none⟩ = some (.slice aa t.attrs.length ac) ∧ w1.cell? ⟨b, o + k * 4 + 3, none⟩ = some (.slice ka t.kids.length kc) ∧
              w1.cell? ⟨b', o' + k * 4, none⟩ = some (.bool u.text) ∧ w1.cell? ⟨b', o' + k * 4 + 1, none⟩ = some (.string u.s) ∧ w1.cell? ⟨b', o' + k * 4 + 2, none⟩ = some (.slice aa' u.attrs.length ac') ∧ w1.cell? ⟨b', o' + k * 4 + 3, none⟩ = some (.slice ka' u.kids.length kc')) := by
            rintro w1 ⟨p0, p1, p2⟩
            refine ⟨?_, ?_, ?_, ?_, ?_, ?_, ?_, ?_, ?_, ?_⟩
            · rw [World.cell?_of_block (a := ⟨w.heap.size, 0, none⟩) p0]; exact x0
            · rw [World.cell?_of_block (a := ⟨w.heap.size, 1, none⟩) p0]; exact x1
            · rw [World.cell?_of_block (a := ⟨b, o + k * 4, none⟩) p1]; exact c0
            · rw [World.cell?_of_block (a := ⟨b, o + k * 4 + 1, none⟩) p1]; exact c1
            · rw [World.cell?_of_block (a := ⟨b, o + k * 4 + 2, none⟩) p1]; exact c2
            · rw [World.cell?_of_block (a := ⟨b, o + k * 4 + 3, none⟩) p1]; exact c3
            · rw [World.cell?_of_block (a := ⟨b', o' + k * 4, none⟩) p2]; exact c0'
            · rw [World.cell?_of_block (a := ⟨b', o' + k * 4 + 1, none⟩) p2]; exact c1'
            · rw [World.cell?_of_block (a := ⟨b', o' + k * 4 + 2, none⟩) p2]; exact c2'
            · rw [World.cell?_of_block (a := ⟨b', o' + k * 4 + 3, none⟩) p2]; exact c3'
          have HY1 : Hid (∀ w1, Below wr.drew.heap.size wr.drew w1 → w1.heap[w.heap.size]? = wr.heap[w.heap.size]? ∧ w1.heap[b]? = wr.heap[b]? ∧ w1.heap[b']? = wr.heap[b']?) := fun w1 hb1 => ⟨hb1.block _ hbr1, hb1.block _ hbl, hb1.block _ hbl'⟩
          have HY2 : Hid (∀ r w3, AlkR S B cb wr (likeB m t.kids u.kids) (cnt m t.kids) L t.kids wv' (G ++ P.map prs) r w3 → w3.heap[w.heap.size]? = wr.heap[w.heap.size]? ∧ w3.heap[b]? = wr.heap[b]? ∧ w3.heap[b']? = wr.heap[b']?) := by
            intro r w3 J
            refine ⟨loopL_box HI.out HWV.out hlt J.frame, ?_, ?_⟩
            · rw [loopL_frame HI.out J.frame b (HS0.out b hs).1 (HS0.out b hs).2.1 (HS0.out b hs).2.2, HKEEP.out b hs]
            · rw [loopL_frame HI.out J.frame b' (HS0.out b' hs').1 (HS0.out b' hs').2.1 (HS0.out b' hs').2.2, HKEEP.out b' hs']
          have hy0 := HY.out wr.drew ⟨rfl, rfl, rfl⟩
          have HCALL2 : Hid (∀ w1, Below wr.drew.heap.size wr.drew w1 → Calls Tryd.prog 54 #[.pointer (some ⟨cb, 0, none⟩), .agg #[.slice ka t.kids.length kc, .slice ka' u.kids.length kc'], .int .i64 (IntKind.i64.wrap ((M : Int) - 1))] w1 fun e w' => ∃ r, e = .returned r ∧ ∃ q, r = .bool q ∧ AlkR S B cb wr (likeB m t.kids u.kids) (cnt m t.kids) L t.kids wv' (G ++ P.map prs) q w') := by
            rw [IntWalk.i64_in _ (by omega)]; exact HCALL.out
          clear HAL hq hat hat' hkt hkt' hcc hcc' h4 h4' e2 e3 e2' e3' ht hu hsn hcl hkeep HIH c0 c1 c2 c3 c0' c1' c2' c3' x0 x1 hs hs'
          cases q with
          | false =>
            have HF : Hid (likeB (m + 1) ts us = false) := HNO.out rfl
            clear HNO HPRE HCALL HCALL2 HY2
            go_wp2_with fail
            refine wp_region_held_drew (S := (fun w1 : World => w1.cell? ⟨w.heap.size, 0, none⟩ = some (.slice (some ⟨b, o, none⟩) ts.length vc) ∧ w1.cell? ⟨w.heap.size, 1, none⟩ = some (.slice (some ⟨b', o', none⟩) us.length uc) ∧
              w1.cell? ⟨b, o + k * 4, none⟩ = some (.bool t.text) ∧ w1.cell? ⟨b, o + k * 4 + 1, none⟩ = some (.string t.s) ∧ w1.cell? ⟨b, o + k * 4 + 2, none⟩ = some (.slice aa t.attrs.length ac) ∧ w1.cell? ⟨b, o + k * 4 + 3, none⟩ = some (.slice ka t.kids.length kc) ∧
              w1.cell? ⟨b', o' + k * 4, none⟩ = some (.bool u.text) ∧ w1.cell? ⟨b', o' + k * 4 + 1, none⟩ = some (.string u.s) ∧ w1.cell? ⟨b', o' + k * 4 + 2, none⟩ = some (.slice aa' u.attrs.length ac') ∧ w1.cell? ⟨b', o' + k * 4 + 3, none⟩ = some (.slice ka' u.kids.length kc'))) (by kernel_rfl) hy0 (fun hHeld => ?_)
            refine wpAnyH_take (i := 0) (v := ?_) rfl (by kernel_rfl) (by kernel_rfl) (by kernel_rfl) (fun _ _ _ h => h) (Or.inl ⟨by rfl, ?_⟩) (by assumption) ?_
            rotate_left
            · (intro w hSw; (try dsimp only at hSw); go_simp; try with_reducible rfl)
            try simp only [Act.put, List.getElem_toArray, List.getElem_cons_zero, List.setIfInBounds_toArray, List.set_cons_zero, List.set_cons_succ]
            refine wpAnyH_take (i := 1) (v := ?_) rfl (by kernel_rfl) (by kernel_rfl) (by kernel_rfl) (fun _ _ _ h => h) (Or.inl ⟨by rfl, ?_⟩) (by assumption) ?_
            rotate_left
            · (intro w hSw; (try dsimp only at hSw); go_simp; try with_reducible rfl)
            try simp only [Act.put, List.getElem_toArray, List.getElem_cons_succ, List.getElem_cons_zero, List.setIfInBounds_toArray, List.set_cons_zero, List.set_cons_succ]
            refine wpAnyH_take (i := 2) (v := ?_) rfl (by kernel_rfl) (by kernel_rfl) (by kernel_rfl) (fun _ _ _ h => h) (Or.inl ⟨by rfl, ?_⟩) (by assumption) ?_
            rotate_left
            · (intro w hSw; (try dsimp only at hSw); go_simp; try with_reducible rfl)
            try simp only [Act.put, List.getElem_toArray, List.getElem_cons_succ, List.getElem_cons_zero, List.setIfInBounds_toArray, List.set_cons_zero, List.set_cons_succ]
            refine wpAnyH_take (i := 3) (v := ?_) rfl (by kernel_rfl) (by kernel_rfl) (by kernel_rfl) (fun _ _ _ h => h) (Or.inl ⟨by rfl, ?_⟩) (by assumption) ?_
            rotate_left
            · (intro w hSw; (try dsimp only at hSw); go_simp; try with_reducible rfl)
            try simp only [Act.put, List.getElem_toArray, List.getElem_cons_succ, List.getElem_cons_zero, List.setIfInBounds_toArray, List.set_cons_zero, List.set_cons_succ]
            refine wpAnyH_take (i := 4) (v := ?_) rfl (by kernel_rfl) (by kernel_rfl) (by kernel_rfl) (fun _ _ _ h => h) (Or.inl ⟨by rfl, ?_⟩) (by assumption) ?_
            rotate_left
            · (intro w hSw; (try dsimp only at hSw); go_simp; try with_reducible rfl)
            try simp only [Act.put, List.getElem_toArray, List.getElem_cons_succ, List.getElem_cons_zero, List.setIfInBounds_toArray, List.set_cons_zero, List.set_cons_succ]
            refine wpAnyH_take (i := 5) (v := ?_) rfl (by kernel_rfl) (by kernel_rfl) (by kernel_rfl) (fun _ _ _ h => h) (Or.inl ⟨by rfl, ?_⟩) (by assumption) ?_
            rotate_left
            · (intro w hSw; (try dsimp only at hSw); go_simp; try with_reducible rfl)
            try simp only [Act.put, List.getElem_toArray, List.getElem_cons_succ, List.getElem_cons_zero, List.setIfInBounds_toArray, List.set_cons_zero, List.set_cons_succ]
            refine wpAnyH_take (i := 6) (v := ?_) rfl (by kernel_rfl) (by kernel_rfl) (by kernel_rfl) (fun _ _ _ h => h) (Or.inl ⟨by rfl, ?_⟩) (by assumption) ?_
            rotate_left
            · (intro w hSw; (try dsimp only at hSw); go_simp; try with_reducible rfl)
            try simp only [Act.put, List.getElem_toArray, List.getElem_cons_succ, List.getElem_cons_zero, List.setIfInBounds_toArray, List.set_cons_zero, List.set_cons_succ]
            refine wpAnyH_take (i := 7) (v := ?_) rfl (by kernel_rfl) (by kernel_rfl) (by kernel_rfl) (fun _ _ _ h => h) (Or.inl ⟨by rfl, ?_⟩) (by assumption) ?_
            rotate_left
            · (intro w hSw; (try dsimp only at hSw); go_simp; try with_reducible rfl)
            try simp only [Act.put, List.getElem_toArray, List.getElem_cons_succ, List.getElem_cons_zero, List.setIfInBounds_toArray, List.set_cons_zero, List.set_cons_succ]
            refine wpAnyH_take (i := 8) (v := ?_) rfl (by kernel_rfl) (by kernel_rfl) (by kernel_rfl) (fun _ _ _ h => h) (Or.inl ⟨by rfl, ?_⟩) (by assumption) ?_
            rotate_left
            · (intro w hSw; (try dsimp only at hSw); go_simp; try with_reducible rfl)
            try simp only [Act.put, List.getElem_toArray, List.getElem_cons_succ, List.getElem_cons_zero, List.setIfInBounds_toArray, List.set_cons_zero, List.set_cons_succ]
            refine wpAnyH_take (i := 9) (v := ?_) rfl (by kernel_rfl) (by kernel_rfl) (by kernel_rfl) (fun _ _ _ h => h) (Or.inl ⟨by rfl, ?_⟩) (by assumption) ?_
            rotate_left
            · (intro w hSw; (try dsimp only at hSw); go_simp; try with_reducible rfl)
            try simp only [Act.put, List.getElem_toArray, List.getElem_cons_succ, List.getElem_cons_zero, List.setIfInBounds_toArray, List.set_cons_zero, List.set_cons_succ]
            refine wpAnyH_ready (rs := [10]) (by kernel_rfl) (by simp) ?_
            refine AllReadyH.cons rfl (fun K hK => ?_) AllReadyH.nil
            refine step_enter (by rfl) 69 #[.agg #[.bool t.text, .string t.s, .slice aa t.attrs.length ac, .slice ka t.kids.length kc], .agg #[.bool u.text, .string u.s, .slice aa' u.attrs.length ac', .slice ka' u.kids.length kc']] (by go_simp) (fun r w' => r = .bool false ∧ Below wr.drew.heap.size wr.drew w') (Calls.mono HAL2.out (by rintro e w' ⟨rfl, h⟩; exact ⟨_, rfl, rfl, h⟩)) ?_
            rintro r w1 ⟨rfl, hb1⟩
            refine hK.out _ _ (HY.out _ (HY1.out _ hb1)) (fun hHeld => ?_)
            clear hK K
            try simp only [Act.put, List.getElem_toArray, List.getElem_cons_succ, List.getElem_cons_zero, List.setIfInBounds_toArray, List.set_cons_zero, List.set_cons_succ]
            refine wpAnyH_take (i := 11) (v := ?_) rfl (by kernel_rfl) (by kernel_rfl) (by kernel_rfl) (fun _ _ _ h => h) (Or.inl ⟨by rfl, ?_⟩) (by assumption) ?_
            rotate_left
            · (intro w hSw; (try dsimp only at hSw); go_simp; try with_reducible rfl)
            try simp only [Act.put, List.getElem_toArray, List.getElem_cons_succ, List.getElem_cons_zero, List.setIfInBounds_toArray, List.set_cons_zero, List.set_cons_succ]
            refine wpAnyH_take (i := 12) (v := ?_) rfl (by kernel_rfl) (by kernel_rfl) (by kernel_rfl) (fun _ _ _ h => h) (Or.inl ⟨by rfl, ?_⟩) (by assumption) ?_
            rotate_left
            · (intro w hSw; (try dsimp only at hSw); go_simp; try with_reducible rfl)
            try simp only [Act.put, List.getElem_toArray, List.getElem_cons_succ, List.getElem_cons_zero, List.setIfInBounds_toArray, List.set_cons_zero, List.set_cons_succ]
            refine wpAnyH_take (i := 13) (v := undef) rfl (by kernel_rfl) (by kernel_rfl) (by kernel_rfl) (fun _ _ _ h => h) (Or.inr ⟨by rfl, rfl⟩) (by assumption) ?_
            try simp only [Act.put, List.getElem_toArray, List.getElem_cons_succ, List.getElem_cons_zero, List.setIfInBounds_toArray, List.set_cons_zero, List.set_cons_succ]
            refine wpAnyH_take (i := 14) (v := undef) rfl (by kernel_rfl) (by kernel_rfl) (by kernel_rfl) (fun _ _ _ h => h) (Or.inr ⟨by rfl, rfl⟩) (by assumption) ?_
            try simp only [Act.put, List.getElem_toArray, List.getElem_cons_succ, List.getElem_cons_zero, List.setIfInBounds_toArray, List.set_cons_zero, List.set_cons_succ]
            refine wpAnyH_take (i := 15) (v := undef) rfl (by kernel_rfl) (by kernel_rfl) (by kernel_rfl) (fun _ _ _ h => h) (Or.inr ⟨by rfl, rfl⟩) (by assumption) ?_
            try simp only [Act.put, List.getElem_toArray, List.getElem_cons_succ, List.getElem_cons_zero, List.setIfInBounds_toArray, List.set_cons_zero, List.set_cons_succ]
            refine wpAnyH_take (i := 16) (v := undef) rfl (by kernel_rfl) (by kernel_rfl) (by kernel_rfl) (fun _ _ _ h => h) (Or.inr ⟨by rfl, rfl⟩) (by assumption) ?_
            try simp only [Act.put, List.getElem_toArray, List.getElem_cons_succ, List.getElem_cons_zero, List.setIfInBounds_toArray, List.set_cons_zero, List.set_cons_succ]
            refine wpAnyH_take (i := 17) (v := undef) rfl (by kernel_rfl) (by kernel_rfl) (by kernel_rfl) (fun _ _ _ h => h) (Or.inr ⟨by rfl, rfl⟩) (by assumption) ?_
            try simp only [Act.put, List.getElem_toArray, List.getElem_cons_succ, List.getElem_cons_zero, List.setIfInBounds_toArray, List.set_cons_zero, List.set_cons_succ]
            refine wpAnyH_take (i := 18) (v := undef) rfl (by kernel_rfl) (by kernel_rfl) (by kernel_rfl) (fun _ _ _ h => h) (Or.inr ⟨by rfl, rfl⟩) (by assumption) ?_
            try simp only [Act.put, List.getElem_toArray, List.getElem_cons_succ, List.getElem_cons_zero, List.setIfInBounds_toArray, List.set_cons_zero, List.set_cons_succ]
            refine wpAnyH_take (i := 19) (v := undef) rfl (by kernel_rfl) (by kernel_rfl) (by kernel_rfl) (fun _ _ _ h => h) (Or.inr ⟨by rfl, rfl⟩) (by assumption) ?_
            try simp only [Act.put, List.getElem_toArray, List.getElem_cons_succ, List.getElem_cons_zero, List.setIfInBounds_toArray, List.set_cons_zero, List.set_cons_succ]
            refine wpAnyH_take (i := 20) (v := undef) rfl (by kernel_rfl) (by kernel_rfl) (by kernel_rfl) (fun _ _ _ h => h) (Or.inr ⟨by rfl, rfl⟩) (by assumption) ?_
            try simp only [Act.put, List.getElem_toArray, List.getElem_cons_succ, List.getElem_cons_zero, List.setIfInBounds_toArray, List.set_cons_zero, List.set_cons_succ]
            refine wpAnyH_take (i := 21) (v := undef) rfl (by kernel_rfl) (by kernel_rfl) (by kernel_rfl) (fun _ _ _ h => h) (Or.inr ⟨by rfl, rfl⟩) (by assumption) ?_
            try simp only [Act.put, List.getElem_toArray, List.getElem_cons_succ, List.getElem_cons_zero, List.setIfInBounds_toArray, List.set_cons_zero, List.set_cons_succ]
            refine wpAnyH_take (i := 22) (v := undef) rfl (by kernel_rfl) (by kernel_rfl) (by kernel_rfl) (fun _ _ _ h => h) (Or.inr ⟨by rfl, rfl⟩) (by assumption) ?_
            try simp only [Act.put, List.getElem_toArray, List.getElem_cons_succ, List.getElem_cons_zero, List.setIfInBounds_toArray, List.set_cons_zero, List.set_cons_succ]
            refine wpAnyH_take (i := 23) (v := undef) rfl (by kernel_rfl) (by kernel_rfl) (by kernel_rfl) (fun _ _ _ h => h) (Or.inr ⟨by rfl, rfl⟩) (by assumption) ?_
            try simp only [Act.put, List.getElem_toArray, List.getElem_cons_succ, List.getElem_cons_zero, List.setIfInBounds_toArray, List.set_cons_zero, List.set_cons_succ]
            refine wpAnyH_take (i := 24) (v := undef) rfl (by kernel_rfl) (by kernel_rfl) (by kernel_rfl) (fun _ _ _ h => h) (Or.inr ⟨by rfl, rfl⟩) (by assumption) ?_
            try simp only [Act.put, List.getElem_toArray, List.getElem_cons_succ, List.getElem_cons_zero, List.setIfInBounds_toArray, List.set_cons_zero, List.set_cons_succ]
            refine wpAnyH_take (i := 25) (v := undef) rfl (by kernel_rfl) (by kernel_rfl) (by kernel_rfl) (fun _ _ _ h => h) (Or.inr ⟨by rfl, rfl⟩) (by assumption) ?_
            try simp only [Act.put, List.getElem_toArray, List.getElem_cons_succ, List.getElem_cons_zero, List.setIfInBounds_toArray, List.set_cons_zero, List.set_cons_succ]
            refine wpAnyH_take (i := 26) (v := undef) rfl (by kernel_rfl) (by kernel_rfl) (by kernel_rfl) (fun _ _ _ h => h) (Or.inr ⟨by rfl, rfl⟩) (by assumption) ?_
            try simp only [Act.put, List.getElem_toArray, List.getElem_cons_succ, List.getElem_cons_zero, List.setIfInBounds_toArray, List.set_cons_zero, List.set_cons_succ]
            refine wpAnyH_take (i := 27) (v := undef) rfl (by kernel_rfl) (by kernel_rfl) (by kernel_rfl) (fun _ _ _ h => h) (Or.inr ⟨by rfl, rfl⟩) (by assumption) ?_
            try simp only [Act.put, List.getElem_toArray, List.getElem_cons_succ, List.getElem_cons_zero, List.setIfInBounds_toArray, List.set_cons_zero, List.set_cons_succ]
            refine wpAnyH_take (i := 28) (v := undef) rfl (by kernel_rfl) (by kernel_rfl) (by kernel_rfl) (fun _ _ _ h => h) (Or.inr ⟨by rfl, rfl⟩) (by assumption) ?_
            try simp only [Act.put, List.getElem_toArray, List.getElem_cons_succ, List.getElem_cons_zero, List.setIfInBounds_toArray, List.set_cons_zero, List.set_cons_succ]
            refine wpAnyH_take (i := 29) (v := undef) rfl (by kernel_rfl) (by kernel_rfl) (by kernel_rfl) (fun _ _ _ h => h) (Or.inr ⟨by rfl, rfl⟩) (by assumption) ?_
            try simp only [Act.put, List.getElem_toArray, List.getElem_cons_succ, List.getElem_cons_zero, List.setIfInBounds_toArray, List.set_cons_zero, List.set_cons_succ]
            refine wpAnyH_take (i := 30) (v := undef) rfl (by kernel_rfl) (by kernel_rfl) (by kernel_rfl) (fun _ _ _ h => h) (Or.inr ⟨by rfl, rfl⟩) (by assumption) ?_
            try simp only [Act.put, List.getElem_toArray, List.getElem_cons_succ, List.getElem_cons_zero, List.setIfInBounds_toArray, List.set_cons_zero, List.set_cons_succ]
            refine wpAnyH_take (i := 31) (v := ?_) rfl (by kernel_rfl) (by kernel_rfl) (by kernel_rfl) (fun _ _ _ h => h) (Or.inl ⟨by rfl, ?_⟩) (by assumption) ?_
            rotate_left
            · (intro w hSw; (try dsimp only at hSw); go_simp; try with_reducible rfl)
            try simp only [Act.put, List.getElem_toArray, List.getElem_cons_succ, List.getElem_cons_zero, List.setIfInBounds_toArray, List.set_cons_zero, List.set_cons_succ]
            refine wpAnyH_done (by kernel_rfl) ?_ _
            all_goals
              go_wp2_with fail
              go_ret
              exact ⟨false, rfl, HF.out, hBr.drew.trans (hb1.mono (by omega)), loopL_frame HI.out fun b hb _ _ => hb1.block b hb⟩
          | true =>
            go_wp2_with fail
            go_region_held3 (fun w1 : World => w1.cell? ⟨w.heap.size, 0, none⟩ = some (.slice (some ⟨b, o, none⟩) ts.length vc) ∧ w1.cell? ⟨w.heap.size, 1, none⟩ = some (.slice (some ⟨b', o', none⟩) us.length uc) ∧
              w1.cell? ⟨b, o + k * 4, none⟩ = some (.bool t.text) ∧ w1.cell? ⟨b, o + k * 4 + 1, none⟩ = some (.string t.s) ∧ w1.cell? ⟨b, o + k * 4 + 2, none⟩ = some (.slice aa t.attrs.length ac) ∧ w1.cell? ⟨b, o + k * 4 + 3, none⟩ = some (.slice ka t.kids.length kc) ∧
              w1.cell? ⟨b', o' + k * 4, none⟩ = some (.bool u.text) ∧ w1.cell? ⟨b', o' + k * 4 + 1, none⟩ = some (.string u.s) ∧ w1.cell? ⟨b', o' + k * 4 + 2, none⟩ = some (.slice aa' u.attrs.length ac') ∧ w1.cell? ⟨b', o' + k * 4 + 3, none⟩ = some (.slice ka' u.kids.length kc'))
              (first | exact hy0 | exact HY.out _ (HY2.out _ _ J) | exact HY.out _ (HY1.out _ hb1) | go_keep)
              (first
                | (go_at_call 69; refine (Calls.mono HAL2.out ?_); rintro e w1 ⟨rfl, hb1⟩)
                | (go_at_call 54; refine (Calls.mono (HCALL2.out _ hb1) ?_); rintro e w3 ⟨r, rfl, q, rfl, J⟩)
                | (go_at_call 54; refine (Calls.mono (HCALL.out _ hb1) ?_); rintro e w3 ⟨r, rfl, q, rfl, J⟩))
            all_goals
              cases q with
              | false =>
                have HF : Hid (likeB (m + 1) ts us = false) := HNO.out (by rw [J.1]; rfl)
                go_wp2_with fail
                go_ret
                exact ⟨false, rfl, HF.out, hBr.trans J.2.1, loopL_frame HI.out J.2.2⟩
              | true =>
                obtain ⟨P1, wv3, J⟩ := J
                go_wp2_with fail
                go_roundg (ts.length - (k + 1))
                case measure => omega
                case rel => exact ⟨k + 1, _, _, by omega, by go_num, loopL_step HKEEP.out HI.out HWV.out hlt HSN.out HPRE.out J⟩
        · have hkk : k = ts.length := by omega
          subst hkk
          go_wp2_with fail
          go_ret
          exact ⟨true, rfl, _, _, loopL_stop HLEN.out HI.out⟩
  · exact alk_len S B cb (L + 1) n v v' ts us wv G w hT hU hBw hlen
end Go.Proofs.YtifbdfcbliafjaaDoor
