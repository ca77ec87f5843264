/- topiaryref.SizeOf, for every tree. Condition: at most 2^20 trees. -/
import Derived.Test.YtifbdfcbliafjaaDoorSizeM
import Derived.Test.YtifbdfcbliafjaaDoorLit
namespace Go.Proofs.YtifbdfcbliafjaaDoor
open Go.ChangeShapes Go.WideShapes Go.ChangeAt Go.RowKit
set_option maxRecDepth 100000

theorem Trees.pred {S : Nat → Prop} {w : World} {m : Nat} {v : Value} {ts : List Tr} (h : Trees S w m v ts) : Trees S w (m.pred + 1) v ts := by
  cases m with
  | zero => exact Trees.deeper 0 h
  | succ m => exact h

theorem Trees.back {S : Nat → Prop} {w : World} {m : Nat} {v : Value} {ts : List Tr} (h : Trees S w (m.pred + 1) v ts) (hd : Deep m ts) : Trees S w m v ts := by
  cases m with
  | zero =>
    have : ts = [] := hd
    subst this
    obtain ⟨a, c, e, _, hc⟩ := Trees.shape 1 h
    exact ⟨rfl, a, c, e, hc⟩
  | succ m => exact h

theorem sizeOf_any (S : Nat → Prop) (n : Nat) (va vk : Value) (t : Tr) (w : World) (h : Attrs S w va t.attrs) (hk : Trees S w n vk t.kids) (hc : cnt (n + 1) [t] ≤ 1048576) :
    Calls Tryd.prog 9 #[.agg #[.bool t.text, .string t.s, va, vk]] w fun e w' => e = .returned (.tuple #[.int .i64 (dep (n + 1) [t] : Int), .int .i64 (cnt (n + 1) [t] : Int)]) ∧ Below w.heap.size w w' := by
  obtain ⟨aa, ac, rfl⟩ := h.shape
  obtain ⟨ka, kc, rfl, _, _⟩ := Trees.shape n hk
  have hb : ∀ X Y, Below w.heap.size w ((w.alloc X).alloc Y) := fun X Y => (Below.alloc1 w X).alloc (by simp) Y
  have hT : Trees (fun _ => True) ((w.alloc (.cells #[.bool t.text, .string t.s, .slice aa t.attrs.length ac, .slice ka t.kids.length kc] 25)).alloc (.cells #[.bool t.text, .string t.s, .slice aa t.attrs.length ac, .slice ka t.kids.length kc] 25)) (n + 1) (.slice (some ⟨w.heap.size + 1, 0, none⟩) 1 1) [t] := by
    refine Trees.carry (fun b _ => ⟨trivial, rfl⟩) (n + 1) (Trees.of_block (S := S) (e := 25) (fz := (0, 0)) (qs := [(t.text, t.s, .slice aa t.attrs.length ac, .slice ka t.kids.length kc)]) ?_ rfl rfl rfl (Nat.le_refl _) (by unfold maxLen; simp) ?_)
    · have := heap_alloc_new (w.alloc (.cells #[.bool t.text, .string t.s, .slice aa t.attrs.length ac, .slice ka t.kids.length kc] 25)) (.cells #[.bool t.text, .string t.s, .slice aa t.attrs.length ac, .slice ka t.kids.length kc] 25)
      rw [World.size_alloc] at this
      exact this
    · intro i q t' hq ht'
      cases i with
      | zero =>
        simp at hq ht'
        subst hq ht'
        exact ⟨rfl, rfl, h.later (hb _ _), Trees.later (hb _ _) n hk⟩
      | succ i => simp at ht'
  have HT : Hid _ := hT
  have HB : Hid (∀ X Y, Below w.heap.size w ((w.alloc X).alloc Y)) := hb
  clear hT hb h hk
  obtain ⟨D, hD⟩ : ∃ D, dep (n + 1) [t] = D := ⟨_, rfl⟩
  obtain ⟨C, hC⟩ : ∃ C, cnt (n + 1) [t] = C := ⟨_, rfl⟩
  rw [hD, hC]
  rw [hC] at hc
  have HD : Hid (dep (n + 1) [t] = D) := hD
  have HC : Hid (cnt (n + 1) [t] = C) := hC
  clear hD hC
  have hDC : D ≤ 1048576 := by have := dep_cnt (n + 1) [t]; rw [HD.out, HC.out] at this; omega
  go_enter Tryd.func9, Tryd.ntmps9
  go_wp2_with fail
  go_loopg [4, 5, 6] (n + 1) (fun g d c v wr => ∃ (dd cc : Nat) (lv : List Tr), d = .int .i64 (dd : Int) ∧ c = .int .i64 (cc : Int) ∧ Trees (fun _ => True) wr g v lv ∧ dd + dep g lv = D ∧ cc + cnt g lv = C ∧ Below w.heap.size w wr)
  case atStart => exact ⟨0, 0, [t], rfl, rfl, HT, by rw [HD.out]; omega, by rw [HC.out]; omega, HB _ _⟩
  case round =>
    obtain ⟨dd, cc, lv, rfl, rfl, hlv, hd, hcn, hB⟩ := hrel
    have hsz := hB.size
    by_cases hne : lv = []
    · subst hne
      rw [dep_nil] at hd
      rw [cnt_nil] at hcn
      obtain ⟨la, lc, rfl, _, _⟩ := Trees.shape _ hlv
      have hd' : dd = D := by omega
      have hc' : cc = C := by omega
      subst hd' hc'
      clear hlv HT HD HC
      simp only [List.length_nil]
      go_wp2_with fail
      go_ret2
      exact ⟨rfl, hB⟩
    · cases gk with
      | zero => exact absurd hlv.1 hne
      | succ m =>
        obtain ⟨wo, hwo⟩ : ∃ x, x = wr := ⟨_, rfl⟩
        subst hwo
        rw [dep_nx m lv hne] at hd
        rw [cnt_nx m lv] at hcn
        have hdeep : Deep m (nx lv) := (Trees.deep (m + 1) hlv).nx
        have hlen := hdeep.len
        have HDp : Hid (Deep m (nx lv)) := hdeep
        have hlv' := Trees.bounded (m + 1) hlv
        obtain ⟨la, lc, rfl, hlc, hlm⟩ := Trees.shape _ hlv
        obtain ⟨_, _, hve, _, _, h4⟩ := hlv'
        have hl0 : 0 < lv.length := List.length_pos_iff.2 hne
        obtain ⟨b, o, hao, hs, hcc⟩ := h4 hne
        injection hve with e1 e2 e3
        subst e1
        subst hao
        have Hd : Hid (dd + (1 + dep m (nx lv)) = D) := hd
        have Hc : Hid (cc + (lv.length + cnt m (nx lv)) = C) := hcn
        have HCC : Hid _ := hcc
        have hcb : cc + lv.length ≤ 1048576 := by omega
        have hdb : dd ≤ 1048576 := by omega
        have hnb : (nx lv).length ≤ 1048576 := by omega
        clear hdeep h4 e2 hd hcn hcc hlen hs e3 HT HD HC hlv
        unfold maxLen at hlm
        go_wp2_with fail
        go_loopg [7, 23] lv.length (fun g v i wr => ∃ (k : Nat) (qs : List (Bool × ByteArray × Value × Value)), k + g = lv.length ∧ i = .int .i64 k ∧ Grow (fun b => b < wo.heap.size) m.pred wo.heap.size wr v (nx (lv.take k)) qs ∧ Below wo.heap.size wo wr)
        case atStart => exact ⟨0, [], by omega, rfl, Grow.nil _ _ _ _, Below.refl _ _⟩
        case round =>
          obtain ⟨k, qs, hk, rfl, hG, hBq⟩ := hrel
          have hszq := hBq.size
          by_cases hlt : k < lv.length
          · obtain ⟨x, hx⟩ : ∃ x, lv[k]? = some x := ⟨lv[k], by simp [hlt]⟩
            obtain ⟨va, vk, c0, c1, c2, c3, hat, hkt⟩ := HCC.out k x hx
            obtain ⟨xa, xc, rfl⟩ := hat.shape
            obtain ⟨ya, yc, rfl, _, _⟩ := Trees.shape m hkt
            have hbl : b < wo.heap.size := World.block_lt_of_cell? wo _ c0
            rw [← hBq.cell (p := ⟨b, o + k * 4, none⟩) hbl] at c0
            rw [← hBq.cell (p := ⟨b, o + k * 4 + 1, none⟩) hbl] at c1
            rw [← hBq.cell (p := ⟨b, o + k * 4 + 2, none⟩) hbl] at c2
            rw [← hBq.cell (p := ⟨b, o + k * 4 + 3, none⟩) hbl] at c3
            have hsn : nx (lv.take (k + 1)) = nx (lv.take k) ++ x.kids := by
              have e : lv.take (k + 1) = lv.take k ++ [x] := by
                rw [List.take_succ_eq_append_getElem hlt]; congr 2; simpa [hlt] using hx
              rw [e, nx_append, nx_cons, nx_nil, List.append_nil]
            have HS : Hid (nx (lv.take (k + 1)) = nx (lv.take k) ++ x.kids) := hsn
            have hle : (nx (lv.take k) ++ x.kids).length ≤ 1048576 := by
              rw [← hsn]
              have e : nx lv = nx (lv.take (k + 1)) ++ nx (lv.drop (k + 1)) := by rw [← nx_append, List.take_append_drop]
              rw [e, List.length_append] at hnb
              omega
            rw [List.length_append] at hle
            have hblq : b < wr.heap.size := by omega
            have hG1 := hG.later (Below.alloc1 wr (.cells #[.bool x.text, .string x.s, .slice xa x.attrs.length xc, .slice ya x.kids.length yc] 25))
            have hB1 : Below wo.heap.size wo (wr.alloc (.cells #[.bool x.text, .string x.s, .slice xa x.attrs.length xc, .slice ya x.kids.length yc] 25)) := hBq.alloc hszq _
            have hK1 := (Trees.later hB1 m hkt).pred
            obtain ⟨us, hus⟩ : ∃ us, nx (lv.take k) = us := ⟨_, rfl⟩
            rw [hus] at hG1 hle HS hG
            obtain ⟨ja, jc, rfl⟩ := hG1.shape
            clear hx hsn hus hG hat hkt
            go_wp2_with (at_builtin; refine wpList_append_trees rfl _ _ rfl (fun b => b < wo.heap.size) _ m.pred wo.heap.size _ _ us x.kids qs rfl hG1 rfl hK1 ?qc1 hle ?qc2 ?_)
            case qc1 =>
              intro b hb
              refine ⟨Or.inl hb.2, Nat.lt_of_lt_of_le hb.2 (by simp; omega), fun e => ?_⟩
              have := (hG1.own.lt b e).1
              have := hb.2
              omega
            case qc2 => simp; omega
            intro v' w2 qs' hG2 hb2
            have hB2 : Below wo.heap.size wo w2 := hB1.trans hb2
            go_wp2_with fail
            go_roundg (lv.length - (k + 1))
            case measure => omega
            case rel => exact ⟨k + 1, qs', by omega, by go_num, by rw [HS.out]; exact hG2, hB2⟩
          · have hkk : k = lv.length := by omega
            subst hkk
            rw [List.take_length] at hG
            have hT2 : Trees (fun _ => True) wr m _ (nx lv) := Trees.carry (fun b _ => ⟨trivial, rfl⟩) m (hG.done.back HDp.out)
            have hBw : Below w.heap.size w wr := hB.trans (hBq.mono hsz)
            go_wp2_with fail
            go_roundg m
            case measure => omega
            case rel => exact ⟨dd + 1, cc + lv.length, nx lv, by go_num, by go_num, hT2, by have := Hd.out; omega, by have := Hc.out; omega, hBw⟩
end Go.Proofs.YtifbdfcbliafjaaDoor
