/- Bundled: MeantR NGrow Lay CountT Count CountS SizeT SameN. What each says stands ahead of it. -/
import Derived.Test.YtfghbfocjjmcmabGreatDoorBundle11
import Derived.Deep.QuietTactic
import Derived.Deep.RegionHeld3
import Derived.Deep.CutRange
import Derived.Test.YtfghbfocjjmcmabGreatDoorBundle07
import Derived.Test.YtfghbfocjjmcmabGreatDoorBundle08
import Derived.Deep.RegionLaw
import Derived.BigRegion
import Derived.Deep.RegionWith
import Derived.BigQuiet
import Derived.Test.YtfghbfocjjmcmabGreatDoorBundle10
/- The document's own isMeant: is a node meant by steps? Condition: a good document. -/
namespace Go.Proofs.YtfghbfocjjmcmabGreatDoor
open Go.ChangeShapes Go.WideShapes Go.ChangeAt Go.RowKit
set_option maxRecDepth 100000

attribute [local go_sem] cell_set

theorem Steps.init {S : Nat → Prop} {w : World} {b o n c : Nat} {l : List St} {s : St} (h : Steps S w (.slice (some ⟨b, o, none⟩) n c) (l ++ [s])) : Steps S w (.slice (some ⟨b, o, none⟩) l.length c) l := by
  obtain ⟨a, cap, h1, h2, h3, h4⟩ := h
  obtain ⟨b', o', ha, hs, hc⟩ := h4 (by simp)
  injection h1 with h1 _ h5
  subst h5
  rw [ha] at h1
  injection h1 with h1
  injection h1 with h6 h7 _
  subst h6 h7
  rw [List.length_append] at h2
  exact ⟨_, c, rfl, by omega, h3, fun _ => ⟨b, o, rfl, hs, fun i x hx => hc i x (by rw [List.getElem?_append_left (lt_of_some hx)]; exact hx)⟩⟩

theorem which_le (ns : List Nd) (par : Int) (name : ByteArray) : ∀ k, whichF ns par name k ≤ k := by
  intro k
  induction k with
  | zero => exact Nat.le_refl _
  | succ k ih => rw [whichF]; split <;> omega

def MeantOk (m : Nat) : Prop := ∀ (S T : Nat → Prop) (v vs : Value) (ns : List Nd) (l : List St) (n : Nat) (w : World), DocV S w v ns → goodD ns = true → Steps T w vs l → l.length = m → n < ns.length →
  Calls Tryz.prog 28 #[.agg #[v], .int .i64 (n : Int), vs] w fun e w' => e = .returned (.bool (isMR ns l.reverse n)) ∧ Below w.heap.size w w'

set_option maxHeartbeats 4000000 in
theorem meant_succ (m : Nat) (ih : 0 < m → MeantOk m) : MeantOk (m + 1) := by
  intro S T v vs ns l n w hD hg hT hm hn
  obtain ⟨l, s, rfl⟩ : ∃ l' s, l = l' ++ [s] := ⟨l.dropLast, l.getLast (by intro e; rw [e] at hm; simp at hm), (List.dropLast_concat_getLast _).symm⟩
  have hlm : l.length = m := by simpa using hm
  obtain ⟨x, hx⟩ : ∃ x, ns[n]? = some x := ⟨ns[n], by simp [hn]⟩
  obtain ⟨va, vc, hvs, hvl, hvm, hv4⟩ := id hT
  obtain ⟨sb, so, rfl, hSb, hsc⟩ := hv4 (by simp)
  rw [List.length_append, List.length_singleton, hlm] at hvs hvl
  subst hvs
  obtain ⟨s0, s1⟩ := hsc m s (by rw [List.getElem?_append_right (by omega), hlm]; simp)
  have HM : Hid (isMR ns (l ++ [s]).reverse n = (calledB x s.name && (decide (x.parent < 0) == l.reverse.isEmpty) && (decide (x.parent < 0) || isMR ns l.reverse x.parent.toNat) && (decide (s.n = 0) || decide (s.n = (whichF ns x.parent s.name (n + 1) : Int))))) := by
    show _ = _
    rw [List.reverse_append, List.reverse_singleton, List.singleton_append, isMR, hx]
  have hrev : l.reverse.isEmpty = decide (m = 0) := by
    cases l with
    | nil => simp at hlm; subst hlm; rfl
    | cons a l => simp at hlm; rw [← hlm]; simp
  rw [hrev] at HM
  have HTI : Hid (Steps T w (.slice (some ⟨sb, so, none⟩) l.length vc) l) := hT.init
  rw [hlm] at HTI
  have HD : Hid (DocV S w v ns) := hD
  obtain ⟨b, o, cap, xva, xvk, rfl, hlc, hcm, hSb2, hbw, c0, c1, c2, c3, c4, hAt, hKi⟩ := hD.nodes.at hx
  obtain ⟨xa, xac, rfl⟩ := hAt.shape
  obtain ⟨ka, kc, rfl, _, _⟩ := hKi.shape
  unfold maxLen at hcm hvm
  have hsw : sb < w.heap.size := World.block_lt_of_cell? w _ s0
  have HX : Hid (ns[n]? = some x) := hx
  have HG : Hid (goodD ns = true) := hg
  have HIH : Hid (0 < m → MeantOk m) := ih
  have hni : (n : Int) < (ns.length : Int) := by omega
  have h80 : ns.length ≤ 80 := by
    have := hg
    simp only [goodD, Bool.and_eq_true, decide_eq_true_eq] at this
    exact this.1.1
  have hb3 : Below w.heap.size w (((w.alloc (.cells #[.slice (some ⟨b, o, none⟩) ns.length cap] 24)).alloc (.cells #[.string s.name, .int .i64 s.n] 53)).alloc (.cells #[.bool x.text, .string x.s, .slice xa x.attrs.length xac, .int .i64 x.parent, .slice ka x.kids.length kc] 49)) := ((Below.alloc1 w _).alloc (by simp) _).alloc (by simp; omega) _
  have hd3 : (((w.alloc (.cells #[.slice (some ⟨b, o, none⟩) ns.length cap] 24)).alloc (.cells #[.string s.name, .int .i64 s.n] 53)).alloc (.cells #[.bool x.text, .string x.s, .slice xa x.attrs.length xac, .int .i64 x.parent, .slice ka x.kids.length kc] 49)).heap[w.heap.size]? = some (.cells #[.slice (some ⟨b, o, none⟩) ns.length cap] 24 (0, 0)) := by
    rw [Lib.alloc_old _ _ _ (by simp; omega), Lib.alloc_old _ _ _ (by simp)]; exact heap_alloc_new _ _
  have hs3 : (((w.alloc (.cells #[.slice (some ⟨b, o, none⟩) ns.length cap] 24)).alloc (.cells #[.string s.name, .int .i64 s.n] 53)).alloc (.cells #[.bool x.text, .string x.s, .slice xa x.attrs.length xac, .int .i64 x.parent, .slice ka x.kids.length kc] 49)).heap[w.heap.size + 1]? = some (.cells #[.string s.name, .int .i64 s.n] 53 (0, 0)) := by
    rw [Lib.alloc_old _ _ _ (by simp)]
    have e := heap_alloc_new (w.alloc (.cells #[.slice (some ⟨b, o, none⟩) ns.length cap] 24)) (.cells #[.string s.name, .int .i64 s.n] 53)
    rw [World.size_alloc] at e
    exact e
  have hx3 : (((w.alloc (.cells #[.slice (some ⟨b, o, none⟩) ns.length cap] 24)).alloc (.cells #[.string s.name, .int .i64 s.n] 53)).alloc (.cells #[.bool x.text, .string x.s, .slice xa x.attrs.length xac, .int .i64 x.parent, .slice ka x.kids.length kc] 49)).heap[w.heap.size + 2]? = some (.cells #[.bool x.text, .string x.s, .slice xa x.attrs.length xac, .int .i64 x.parent, .slice ka x.kids.length kc] 49 (0, 0)) := by
    have e := heap_alloc_new ((w.alloc (.cells #[.slice (some ⟨b, o, none⟩) ns.length cap] 24)).alloc (.cells #[.string s.name, .int .i64 s.n] 53)) (.cells #[.bool x.text, .string x.s, .slice xa x.attrs.length xac, .int .i64 x.parent, .slice ka x.kids.length kc] 49)
    rw [World.size_alloc, World.size_alloc] at e
    exact e
  have c0a : ∀ X, (w.alloc X).cell? ⟨sb, so + m * 2, none⟩ = some (.string s.name) := fun X => Lib.cell?_alloc_some _ s0
  have c1a : ∀ X, (w.alloc X).cell? ⟨sb, so + m * 2 + 1, none⟩ = some (.int .i64 s.n) := fun X => Lib.cell?_alloc_some _ s1
  have e0 : ∀ X Y, ((w.alloc X).alloc Y).cell? ⟨b, o + n * 5, none⟩ = some (.bool x.text) := fun X Y => Lib.cell?_alloc_some _ (Lib.cell?_alloc_some _ c0)
  have e1 : ∀ X Y, ((w.alloc X).alloc Y).cell? ⟨b, o + n * 5 + 1, none⟩ = some (.string x.s) := fun X Y => Lib.cell?_alloc_some _ (Lib.cell?_alloc_some _ c1)
  have e2 : ∀ X Y, ((w.alloc X).alloc Y).cell? ⟨b, o + n * 5 + 2, none⟩ = some (.slice xa x.attrs.length xac) := fun X Y => Lib.cell?_alloc_some _ (Lib.cell?_alloc_some _ c2)
  have e3 : ∀ X Y, ((w.alloc X).alloc Y).cell? ⟨b, o + n * 5 + 3, none⟩ = some (.int .i64 x.parent) := fun X Y => Lib.cell?_alloc_some _ (Lib.cell?_alloc_some _ c3)
  have e4 : ∀ X Y, ((w.alloc X).alloc Y).cell? ⟨b, o + n * 5 + 4, none⟩ = some (.slice ka x.kids.length kc) := fun X Y => Lib.cell?_alloc_some _ (Lib.cell?_alloc_some _ c4)
  have hmm : (m : Int) < (m : Int) + 1 := by omega
  have HLM : Hid (l.length = m) := hlm
  clear hT hm hlm hx hg ih hv4 hsc hrev hD hAt hKi
  go_enter Tryz.func28, Tryz.ntmps28
  go_wp2_with fail
  have hZ3 : (((w.alloc (.cells #[.slice (some ⟨b, o, none⟩) ns.length cap] 24)).alloc (.cells #[.string s.name, .int .i64 s.n] 53)).alloc (.cells #[.bool x.text, .string x.s, .slice xa x.attrs.length xac, .int .i64 x.parent, .slice ka x.kids.length kc] 49)).heap.size = w.heap.size + 3 := by simp
  generalize (((w.alloc (.cells #[.slice (some ⟨b, o, none⟩) ns.length cap] 24)).alloc (.cells #[.string s.name, .int .i64 s.n] 53)).alloc (.cells #[.bool x.text, .string x.s, .slice xa x.attrs.length xac, .int .i64 x.parent, .slice ka x.kids.length kc] 49)) = W3 at *
  have HW : Hid (∀ W, Below W3.heap.size W3 W → Below w.heap.size w W) := fun W h => hb3.trans (h.mono hb3.size)
  have HBX : Hid (∀ W, Below W3.heap.size W3 W → W.cell? ⟨w.heap.size, 0, none⟩ = some (.slice (some ⟨b, o, none⟩) ns.length cap) ∧ W.cell? ⟨w.heap.size + 1, 0, none⟩ = some (.string s.name) ∧ W.cell? ⟨w.heap.size + 1, 1, none⟩ = some (.int .i64 s.n) ∧ W.cell? ⟨w.heap.size + 2, 3, none⟩ = some (.int .i64 x.parent)) := by
    intro W h
    have h1 := (h.block _ (blk_lt hd3)).trans hd3
    have h2 := (h.block _ (blk_lt hs3)).trans hs3
    have h3 := (h.block _ (blk_lt hx3)).trans hx3
    exact ⟨by rw [Lib.cell_of_heap h1]; rfl, by rw [Lib.cell_of_heap h2]; rfl, by rw [Lib.cell_of_heap h2]; rfl, by rw [Lib.cell_of_heap h3]; rfl⟩
  have HCL : Hid _ := called_any x xa x.attrs.length xac ka x.kids.length kc s.name W3
  obtain ⟨q, hq⟩ : ∃ q, calledB x s.name = q := ⟨_, rfl⟩
  rw [hq] at HCL HM
  clear hq c0a c1a e0 e1 e2 e3 e4 c0 c1 c2 c3 c4 s0 s1 hd3 hs3 hx3 hb3 hZ3
  refine (Calls.mono HCL.out ?_)
  rintro e w4 ⟨rfl, hb4⟩
  clear HCL
  cases q with
  | false =>
    have HE : Hid (isMR ns (l ++ [s]).reverse n = false) := by show _ = _; rw [HM.out]; rfl
    clear HM
    go_wp2_with fail
    go_ret
    exact ⟨by rw [HE.out]; rfl, HW.out _ hb4⟩
  | true =>
    obtain ⟨d4, n4, k4, p4⟩ := HBX.out w4 hb4
    obtain ⟨R, hR⟩ : ∃ R, isMR ns l.reverse x.parent.toNat = R := ⟨_, rfl⟩
    rw [hR] at HM
    have HR : Hid (isMR ns l.reverse x.parent.toNat = R) := hR
    clear hR
    have hpar : ¬ x.parent < 0 → x.parent.toNat < ns.length := by
      intro hp
      rcases (good_fam HG.out HX.out).par with ⟨_, h1⟩ | ⟨pq, y, h1, h2, h3, _⟩
      · omega
      · have := lt_of_some h1; omega
    go_upto_region 5 with fail
    go_cut [50] from 27 to 49 (fun c wz => c = .bool (!((decide (x.parent < 0) == decide (m = 0)) && (decide (x.parent < 0) || R))) ∧ Below W3.heap.size W3 wz)
    case first =>
      by_cases hp : x.parent < 0
      · have hpd : decide (x.parent < 0) = true := by simpa using hp
        have hpg : decide (0 ≤ x.parent) = false := by simp; omega
        by_cases hm0 : m = 0
        · have hmq : ((m : Int) + 1 == 1) = true := by simp [hm0]
          have HC : Hid ((!((decide (x.parent < 0) == decide (m = 0)) && (decide (x.parent < 0) || R))) = false) := by show _ = _; rw [hpd]; simp [hm0]
          have HC2 : Hid _ := hm0
          clear HM hm0
          go_quiet (fail)
          go_wp2_with fail
          go_meet
          case rel => exact ⟨by rw [HC.out], below_drewN hb4 nq⟩
        · have hmq : ((m : Int) + 1 == 1) = false := by simp; omega
          have HC : Hid ((!((decide (x.parent < 0) == decide (m = 0)) && (decide (x.parent < 0) || R))) = true) := by show _ = _; rw [hpd]; simp [hm0]
          clear HM hm0
          go_quiet (fail)
          go_wp2_with fail
          go_meet
          case rel => exact ⟨by rw [HC.out], below_drewN hb4 nq⟩
      · have hpd : decide (x.parent < 0) = false := by simpa using hp
        have hpg : decide (0 ≤ x.parent) = true := by simp; omega
        by_cases hm0 : m = 0
        · have hmq : ((m : Int) + 1 == 1) = true := by simp [hm0]
          have HC : Hid ((!((decide (x.parent < 0) == decide (m = 0)) && (decide (x.parent < 0) || R))) = true) := by show _ = _; rw [hpd]; simp [hm0]
          clear HM hm0
          go_quiet (fail)
          go_wp2_with fail
          go_meet
          case rel => exact ⟨by rw [HC.out], below_drewN hb4 nq⟩
        · have hmq : ((m : Int) + 1 == 1) = false := by simp; omega
          have HC : Hid ((!((decide (x.parent < 0) == decide (m = 0)) && (decide (x.parent < 0) || R))) = !R) := by show _ = _; rw [hpd]; simp [hm0]
          have hpl := hpar (by omega)
          have HCALL : Hid (∀ W, Below W3.heap.size W3 W → Calls Tryz.prog 28 #[.agg #[.slice (some ⟨b, o, none⟩) ns.length cap], .int .i64 x.parent, .slice (some ⟨sb, so, none⟩) m vc] W fun e w' => e = .returned (.bool R) ∧ Below W.heap.size W w') := by
            intro W hW
            have h1 := HIH.out (by omega) S T _ _ ns l x.parent.toNat W (HD.out.later (HW.out W hW)) HG.out (HTI.out.later (HW.out W hW)) HLM.out hpl
            rw [HR.out, show ((x.parent.toNat : Nat) : Int) = x.parent by omega] at h1
            exact h1
          have hbn := hb4.drew
          have hms : (m : Int) ≤ (vc : Int) := by omega
          have hm00 : (0 : Int) ≤ (m : Int) := by omega
          have hwm : IntKind.i64.wrap (m : Int) = (m : Int) := IntWalk.i64_in _ (by omega)
          clear HM hm0 hpar
          go_region_held3 (fun W : World => W.cell? ⟨w.heap.size, 0, none⟩ = some (.slice (some ⟨b, o, none⟩) ns.length cap) ∧ W.cell? ⟨w.heap.size + 1, 0, none⟩ = some (.string s.name) ∧ W.cell? ⟨w.heap.size + 1, 1, none⟩ = some (.int .i64 s.n) ∧ W.cell? ⟨w.heap.size + 2, 3, none⟩ = some (.int .i64 x.parent))
            (first | with_reducible exact HBX.out _ hbn | exact HBX.out _ hbn)
            (first
              | (go_at_call 28; refine (Calls.mono (HCALL.out _ hbn) ?_); rintro e w5 ⟨rfl, hb5⟩; have hbn := hbn.trans (hb5.mono hbn.size)))
          all_goals
            go_wp2_with fail
            go_meet
            case rel => exact ⟨by rw [HC.out], hbn⟩
    case rest =>
      obtain ⟨rfl, hbc⟩ := hcut
      obtain ⟨Z, hZ⟩ : ∃ Z, ((decide (x.parent < 0) == decide (m = 0)) && (decide (x.parent < 0) || R)) = Z := ⟨_, rfl⟩
      have HMZ : Hid (isMR ns (l ++ [s]).reverse n = (Z && (decide (s.n = 0) || decide (s.n = (whichF ns x.parent s.name (n + 1) : Int))))) := by
        show _ = _; rw [HM.out, ← hZ]; simp
      rw [hZ]
      clear HM hZ
      cases Z with
      | false =>
        have HE : Hid (isMR ns (l ++ [s]).reverse n = false) := by show _ = _; rw [HMZ.out]; rfl
        clear HMZ
        go_wp2_with fail
        go_ret
        exact ⟨by rw [HE.out]; rfl, HW.out _ hbc⟩
      | true =>
        clear hb4 d4 n4 k4 p4
        go_wp2_with fail
        go_loopg [10, 9] (n + 1) (fun g j u wr => ∃ (k : Nat), k + g = n + 1 ∧ j = .int .i64 (k : Int) ∧ u = .int .i64 ((whichF ns x.parent s.name k : Nat) : Int) ∧ Below W3.heap.size W3 wr)
        case atStart => exact ⟨0, by omega, rfl, rfl, hbc⟩
        case round =>
          obtain ⟨k, hk, rfl, rfl, hB⟩ := hrel
          have hwl := which_le ns x.parent s.name k
          obtain ⟨d5, n5, k5, p5⟩ := HBX.out wr hB
          obtain ⟨K, hK⟩ : ∃ K, whichF ns x.parent s.name k = K := ⟨_, rfl⟩
          rw [hK] at hwl
          by_cases hkn : k ≤ n
          · have hkni : (k : Int) ≤ (n : Int) := by omega
            obtain ⟨y, hy⟩ : ∃ y, ns[k]? = some y := ⟨ns[k]'(by omega), by simp⟩
            have HWK : Hid (whichF ns x.parent s.name (k + 1) = K + (if decide (y.parent = x.parent) && calledB y s.name then 1 else 0)) := by
              show _ = _; rw [whichF, hK]; unfold mineB; rw [hy]
            rw [hK]
            obtain ⟨b', o', cap', yva, yvk, hv', _, _, _, _, c0, c1, c2, c3, c4, hya, hyk⟩ := (HD.out.later (HW.out wr hB)).nodes.at hy
            cases hv'
            obtain ⟨ya, yac, rfl⟩ := hya.shape
            obtain ⟨yk, ykc, rfl, _, _⟩ := hyk.shape
            have hkl : (k : Int) < (ns.length : Int) := by omega
            clear hK hya hyk hy
            by_cases hpe : y.parent = x.parent
            · have hpb : (y.parent == x.parent) = true := by simpa using hpe
              have HCK : Hid (∀ W, Calls Tryz.prog 55 #[.agg #[.bool y.text, .string y.s, .slice ya y.attrs.length yac, .int .i64 y.parent, .slice yk y.kids.length ykc], .string s.name] W fun e w' => e = .returned (.bool (calledB y s.name)) ∧ Below W.heap.size W w') := fun W => called_any y ya y.attrs.length yac yk y.kids.length ykc s.name W
              obtain ⟨Q, hQ⟩ : ∃ Q, calledB y s.name = Q := ⟨_, rfl⟩
              rw [hQ] at HWK HCK
              have HWK2 : Hid (whichF ns x.parent s.name (k + 1) = K + (if Q then 1 else 0)) := by show _ = _; rw [HWK.out]; simp [hpe]
              have hbn := hB.drew
              have HCE : Hid (∀ W, Below W3.heap.size W3 W → W.cell? ⟨w.heap.size, 0, none⟩ = some (.slice (some ⟨b, o, none⟩) ns.length cap) ∧ W.cell? ⟨w.heap.size + 1, 0, none⟩ = some (.string s.name) ∧ W.cell? ⟨w.heap.size + 2, 3, none⟩ = some (.int .i64 x.parent) ∧
                  W.cell? ⟨b, o + k * 5, none⟩ = some (.bool y.text) ∧ W.cell? ⟨b, o + k * 5 + 1, none⟩ = some (.string y.s) ∧ W.cell? ⟨b, o + k * 5 + 2, none⟩ = some (.slice ya y.attrs.length yac) ∧ W.cell? ⟨b, o + k * 5 + 3, none⟩ = some (.int .i64 y.parent) ∧ W.cell? ⟨b, o + k * 5 + 4, none⟩ = some (.slice yk y.kids.length ykc)) := by
                intro W h
                obtain ⟨h1, h2, _, h4⟩ := HBX.out W h
                have hcell : ∀ j, W.cell? ⟨b, j, none⟩ = wr.cell? ⟨b, j, none⟩ := fun j => by
                  rw [(HW.out W h).cell (p := ⟨b, j, none⟩) hbw, (HW.out wr hB).cell (p := ⟨b, j, none⟩) hbw]
                exact ⟨h1, h2, h4, by rw [hcell]; exact c0, by rw [hcell]; exact c1, by rw [hcell]; exact c2, by rw [hcell]; exact c3, by rw [hcell]; exact c4⟩
              clear hpe hQ HWK
              go_wp2_with fail
              go_region_held3 (fun W : World => W.cell? ⟨w.heap.size, 0, none⟩ = some (.slice (some ⟨b, o, none⟩) ns.length cap) ∧ W.cell? ⟨w.heap.size + 1, 0, none⟩ = some (.string s.name) ∧ W.cell? ⟨w.heap.size + 2, 3, none⟩ = some (.int .i64 x.parent) ∧
                  W.cell? ⟨b, o + k * 5, none⟩ = some (.bool y.text) ∧ W.cell? ⟨b, o + k * 5 + 1, none⟩ = some (.string y.s) ∧ W.cell? ⟨b, o + k * 5 + 2, none⟩ = some (.slice ya y.attrs.length yac) ∧ W.cell? ⟨b, o + k * 5 + 3, none⟩ = some (.int .i64 y.parent) ∧ W.cell? ⟨b, o + k * 5 + 4, none⟩ = some (.slice yk y.kids.length ykc))
                (first | with_reducible exact HCE.out _ hbn | exact HCE.out _ hbn)
                (first
                  | (go_at_call 55; refine (Calls.mono (HCK.out _) ?_); rintro e w5 ⟨rfl, hb5⟩; have hbn := hbn.trans (hb5.mono hbn.size)))
              all_goals
                cases Q with
                | true =>
                  go_wp2_with fail
                  go_roundg (n + 1 - (k + 1))
                  case measure => omega
                  case rel => exact ⟨k + 1, by omega, by go_num, by rw [HWK2.out]; go_num, hbn⟩
                | false =>
                  go_wp2_with fail
                  go_roundg (n + 1 - (k + 1))
                  case measure => omega
                  case rel => exact ⟨k + 1, by omega, by go_num, by rw [HWK2.out]; rfl, hbn⟩
            · have hpb : (y.parent == x.parent) = false := by simpa using hpe
              have HWK2 : Hid (whichF ns x.parent s.name (k + 1) = K) := by show _ = _; rw [HWK.out]; simp [hpe]
              clear hpe HWK
              go_wp2_with fail
              go_quiet (fail)
              go_wp2_with fail
              go_roundg (n + 1 - (k + 1))
              case measure => omega
              case rel => exact ⟨k + 1, by omega, by go_num, by rw [HWK2.out], below_drewN hB nq⟩
          · have hkni : ¬ ((k : Int) ≤ (n : Int)) := by omega
            have hkk : k = n + 1 := by omega
            have HE : Hid (isMR ns (l ++ [s]).reverse n = (decide (s.n = 0) || decide (s.n = (K : Int)))) := by show _ = _; rw [HMZ.out, ← hkk, hK]; rfl
            rw [hK]
            clear hK hkk HMZ
            by_cases hs0 : s.n = 0
            · have hsb : (s.n == 0) = true := by simpa using hs0
              have HE2 : Hid (isMR ns (l ++ [s]).reverse n = true) := by show _ = _; rw [HE.out]; simp [hs0]
              clear HE hs0
              go_wp2_with fail
              go_ret
              exact ⟨by first | (rw [HE2.out]; rfl) | (rw [show s :: l.reverse = (l ++ [s]).reverse by simp, HE2.out]; rfl), HW.out _ hB⟩
            · have hsb : (s.n == 0) = false := by simpa using hs0
              have HE2 : Hid (isMR ns (l ++ [s]).reverse n = (s.n == (K : Int))) := by show _ = _; rw [HE.out]; simp [hs0]; rfl
              clear HE hs0
              go_wp2_with fail
              go_ret
              exact ⟨by first | (rw [HE2.out]; rfl) | (rw [show s :: l.reverse = (l ++ [s]).reverse by simp, HE2.out]; rfl), HW.out _ hB⟩

theorem meant_any : ∀ m, 0 < m → MeantOk m := by
  intro m
  induction m with
  | zero => intro h; omega
  | succ m ih => intro _; exact meant_succ m ih
end Go.Proofs.YtfghbfocjjmcmabGreatDoor

/- A row of nodes of the call's own that grows; its nodes' attributes in blocks of attributes, their kids in rows of their own, apart from one another. No condition. -/
namespace Go.Proofs.YtfghbfocjjmcmabGreatDoor
open Go.ChangeShapes Go.WideShapes Go.ChangeAt Go.RowKit
set_option maxRecDepth 100000

theorem ownsRow_mono {w : World} {B B' : Nat} {e : TypeId} {size : Nat} {v : Value} {n : Nat} {xs : List Value} (h : w.ownsRow B e size v n xs) (hb : B' ≤ B) : w.ownsRow B' e size v n xs := by
  refine ⟨h.1, ?_⟩
  rcases h.2 with h2 | ⟨g, cap, cur, hv, hg, r⟩
  · exact Or.inl h2
  · exact Or.inr ⟨g, cap, cur, hv, Nat.le_trans hb hg, r⟩

/-- A node laid: its attributes in blocks of attributes, its kids a row of the call's own. -/
def RowIs (B : Nat) (w : World) (r : Rw) (x : Nd) : Prop := r.text = x.text ∧ r.s = x.s ∧ r.par = x.parent ∧ Attrs (OwnS B 84 w) w r.va x.attrs ∧ IRow B w r.vk x.kids

structure NGrow (B : Nat) (w : World) (v : Value) (ns : List Nd) (ms : List Rw) : Prop where
  len : ms.length = ns.length
  own : w.ownsRow B 49 5 v ns.length (rawCells ms)
  each : ∀ (i : Nat) (r : Rw) (x : Nd), ms[i]? = some r → ns[i]? = some x → RowIs B w r x
  apart : ∀ (i j : Nat) (r q : Rw) (b : Nat), i ≠ j → ms[i]? = some r → ms[j]? = some q → r.vk.ownBlock = some b → q.vk.ownBlock ≠ some b

theorem NGrow.nil (B : Nat) (w : World) : NGrow B w (.slice none 0 0) [] [] :=
  ⟨rfl, World.ownsRow_nil _ _ _ _, fun i r x h => by simp at h, fun i j r q b _ h => by simp at h⟩

theorem NGrow.shape {B : Nat} {w : World} {v : Value} {ns : List Nd} {ms : List Rw} (h : NGrow B w v ns ms) : ∃ a c, v = .slice a ns.length c ∧ ns.length ≤ c ∧ c ≤ maxLen := by
  rcases h.own.2 with ⟨hv, h0⟩ | ⟨g, cap, cur, hv, _, _, hc, hm, _⟩
  · exact ⟨none, 0, by rw [hv, h0], by omega, Nat.zero_le _⟩
  · exact ⟨_, _, hv, hc, hm⟩

theorem RowIs.keep {B : Nat} {w w' : World} {r : Rw} {x : Nd} (h : RowIs B w r x) (hA : ∀ b, OwnS B 84 w b → w'.heap[b]? = w.heap[b]?) (hI : ∀ b, r.vk.ownBlock = some b → w'.heap[b]? = w.heap[b]?) : RowIs B w' r x :=
  ⟨h.1, h.2.1, h.2.2.1, h.2.2.2.1.carry fun b hb => ⟨hb.to (Nat.le_refl _) (hA b hb), hA b hb⟩, ownsRow_heap h.2.2.2.2 hI⟩

/-- What stands in rows of nodes, of attributes and of numbers is as it was. -/
theorem NGrow.keep {B : Nat} {w w' : World} {v : Value} {ns : List Nd} {ms : List Rw} (h : NGrow B w v ns ms) (hA : ∀ b, OwnS B 84 w b → w'.heap[b]? = w.heap[b]?) (hI : ∀ b, OwnS B 3 w b → w'.heap[b]? = w.heap[b]?)
    (hN : ∀ b, v.ownBlock = some b → w'.heap[b]? = w.heap[b]?) : NGrow B w' v ns ms :=
  ⟨h.len, ownsRow_heap h.own hN, fun i r x hr hx => (h.each i r x hr hx).keep hA (fun b hb => hI b (ownsRow_type (h.each i r x hr hx).2.2.2.2 hb)), h.apart⟩

theorem NGrow.later {B : Nat} {w w' : World} {v : Value} {ns : List Nd} {ms : List Rw} (h : NGrow B w v ns ms) (hb : Below w.heap.size w w') : NGrow B w' v ns ms :=
  h.keep (fun b hs => hb.block b hs.lt) (fun b hs => hb.block b hs.lt) (fun b hs => hb.block b (h.own.lt b hs).2)

/-- A row of another type grows, or a new block is laid. -/
theorem NGrow.grown {B : Nat} {w w' : World} {v : Value} {ns : List Nd} {ms : List Rw} {row : Option Nat} (h : NGrow B w v ns ms) (hg : w.grownBy w' row) (hr : ∀ b, row = some b → ∃ e, e ≠ 49 ∧ e ≠ 84 ∧ e ≠ 3 ∧ OwnS 0 e w b) : NGrow B w' v ns ms := by
  have ne : ∀ {e' : TypeId} {b : Nat}, OwnS B e' w b → (e' = 49 ∨ e' = 84 ∨ e' = 3) → row ≠ some b := by
    intro e' b hs he hrow
    obtain ⟨e, h1, h2, h3, _, c, fz, hc⟩ := hr b hrow
    obtain ⟨_, c', fz', hc'⟩ := hs
    rw [hc] at hc'
    injection hc' with hc'
    injection hc' with _ h4 _
    subst h4
    rcases he with he | he | he
    · exact h1 he
    · exact h2 he
    · exact h3 he
  exact h.keep (fun b hs => hg.block b hs.lt (fun e => ne hs (Or.inr (Or.inl rfl)) e.symm)) (fun b hs => hg.block b hs.lt (fun e => ne hs (Or.inr (Or.inr rfl)) e.symm)) (fun b hs => hg.block b (h.own.lt b hs).2 (fun e => ne (ownsRow_type h.own hs) (Or.inl rfl) e.symm))

theorem rawCells_append (l m : List Rw) : rawCells (l ++ m) = rawCells l ++ rawCells m := by
  induction l with
  | nil => rfl
  | cons x r ih => simp [rawCells, ih]

theorem NGrow.snoc {B : Nat} {w w' : World} {v v' : Value} {ns : List Nd} {ms : List Rw} {r : Rw} {x : Nd} (h : NGrow B w v ns ms)
    (hown : w'.ownsRow B 49 5 v' (ns.length + 1) (rawCells ms ++ [.bool r.text, .string r.s, r.va, .int .i64 r.par, r.vk])) (hg : w.grownBy w' v.ownBlock) (hR : RowIs B w r x)
    (hap : ∀ (i : Nat) (q : Rw) (b : Nat), ms[i]? = some q → q.vk.ownBlock = some b → r.vk.ownBlock ≠ some b) : NGrow B w' v' (ns ++ [x]) (ms ++ [r]) := by
  have keep : ∀ {r : Rw} {x : Nd}, RowIs B w r x → RowIs B w' r x := by
    intro r x hR
    refine hR.keep (fun b hs => hg.block b hs.lt (ownBlock_ne_type h.own hs (by decide))) (fun b hs => hg.block b (IRow.lt hR.2.2.2.2 b hs).2 (ownBlock_ne_type h.own (ownsRow_type hR.2.2.2.2 hs) (by decide)))
  refine ⟨by simp [h.len], ?_, ?_, ?_⟩
  · rw [rawCells_append, List.length_append]; exact hown
  · intro i q y hq hy
    rcases Nat.lt_or_ge i ns.length with hi | hi
    · rw [List.getElem?_append_left (by rw [h.len]; exact hi)] at hq
      rw [List.getElem?_append_left hi] at hy
      exact keep (h.each i q y hq hy)
    · rw [List.getElem?_append_right (by rw [h.len]; exact hi)] at hq
      rw [List.getElem?_append_right hi] at hy
      rw [h.len] at hq
      have hz : i - ns.length = 0 := by
        rcases Nat.eq_zero_or_pos (i - ns.length) with h' | h'
        · exact h'
        · rw [List.getElem?_eq_none (by simp; omega)] at hy; cases hy
      rw [hz] at hq hy
      simp at hq hy
      subst hq hy
      exact keep hR
  · have last : ∀ {i : Nat} {q : Rw}, (ms ++ [r])[i]? = some q → (i < ms.length ∧ ms[i]? = some q) ∨ (i = ms.length ∧ q = r) := by
      intro i q hq
      rcases Nat.lt_or_ge i ms.length with hi | hi
      · rw [List.getElem?_append_left hi] at hq; exact Or.inl ⟨hi, hq⟩
      · rw [List.getElem?_append_right hi] at hq
        have hz : i - ms.length = 0 := by
          rcases Nat.eq_zero_or_pos (i - ms.length) with h' | h'
          · exact h'
          · rw [List.getElem?_eq_none (by simp; omega)] at hq; cases hq
        rw [hz] at hq
        simp at hq
        exact Or.inr ⟨by omega, hq.symm⟩
    intro i j p q b hne hp hq hb
    rcases last hp with ⟨hi, hp'⟩ | ⟨hi, hpr⟩
    · rcases last hq with ⟨hj, hq'⟩ | ⟨hj, hqr⟩
      · exact h.apart i j p q b hne hp' hq' hb
      · rw [hqr]; exact hap i p b hp' hb
    · rw [hpr] at hb
      rcases last hq with ⟨hj, hq'⟩ | ⟨hj, _⟩
      · exact fun e => hap j q b hq' e hb
      · omega

theorem NGrow.done {B : Nat} {w : World} {v : Value} {ns : List Nd} {ms : List Rw} (h : NGrow B w v ns ms) : Nodes (fun b => B ≤ b) w v ns := by
  rcases h.own.2 with ⟨hv, h0⟩ | ⟨g, cap, cur, hv, hB, hh, hc, hm, _⟩
  · have : ns = [] := List.eq_nil_of_length_eq_zero h0
    subst this hv
    exact Nodes.nil
  · subst hv
    refine ⟨_, _, rfl, hc, hm, fun _ => ⟨g, 0, rfl, hB, fun i x hx => ?_⟩⟩
    have hi : i < ns.length := by
      rcases Nat.lt_or_ge i ns.length with h' | h'
      · exact h'
      · rw [List.getElem?_eq_none h'] at hx; cases hx
    obtain ⟨r, hr⟩ : ∃ r, ms[i]? = some r := ⟨ms[i]'(by rw [h.len]; exact hi), by simp [h.len, hi]⟩
    obtain ⟨h1, h2, h3, h4, h5⟩ := h.each i r x hr hx
    obtain ⟨g0, g1, g2, g3, g4⟩ := rawCells_get ms i r hr
    refine ⟨r.va, r.vk, ?_, ?_, ?_, ?_, ?_, h4.carry (fun b hb => ⟨hb.1, rfl⟩), h5.ints⟩
    · rw [Nat.zero_add, World.ownsRow.cellAt h.own (i * 5) (by omega), g0, h1]
    · rw [Nat.zero_add, World.ownsRow.cellAt h.own (i * 5 + 1) (by omega), g1, h2]
    · rw [Nat.zero_add, World.ownsRow.cellAt h.own (i * 5 + 2) (by omega), g2]
    · rw [Nat.zero_add, World.ownsRow.cellAt h.own (i * 5 + 3) (by omega), g3, h3]
    · rw [Nat.zero_add, World.ownsRow.cellAt h.own (i * 5 + 4) (by omega), g4]

/-- The cells of a node in the row. -/
theorem NGrow.at {B : Nat} {w : World} {v : Value} {ns : List Nd} {ms : List Rw} (h : NGrow B w v ns ms) {i : Nat} {r : Rw} (hr : ms[i]? = some r) : ∃ g cap, v = .slice (some ⟨g, 0, none⟩) ns.length cap ∧ ns.length ≤ cap ∧ cap ≤ maxLen ∧ B ≤ g ∧ g < w.heap.size ∧
    w.cell? ⟨g, i * 5 + 3, none⟩ = some (.int .i64 r.par) ∧ w.cell? ⟨g, i * 5 + 4, none⟩ = some r.vk ∧ w.frozen? ⟨g, i * 5 + 4, none⟩ = false := by
  have hi : i < ns.length := by
    rw [← h.len]
    rcases Nat.lt_or_ge i ms.length with h' | h'
    · exact h'
    · rw [List.getElem?_eq_none h'] at hr; cases hr
  have hown := h.own
  rcases h.own.2 with ⟨hv, h0⟩ | ⟨g, cap, cur, hv, hB, hh, hc, hm, _⟩
  · omega
  · subst hv
    obtain ⟨g0, g1, g2, g3, g4⟩ := rawCells_get ms i r hr
    exact ⟨g, cap, rfl, hc, hm, hB, blk_lt hh, by rw [World.ownsRow.cellAt h.own (i * 5 + 3) (by omega), g3], by rw [World.ownsRow.cellAt h.own (i * 5 + 4) (by omega), g4], World.ownsRow.frozenAt h.own _⟩

/-- A kid more: its row has grown, and the node's cell holds the new row. -/
theorem NGrow.kid {B : Nat} {w w' : World} {g cap : Nat} {ns : List Nd} {ms : List Rw} {i : Nat} {r : Rw} {x : Nd} {v' : Value} {l : List Int} (h : NGrow B w (.slice (some ⟨g, 0, none⟩) ns.length cap) ns ms) (hr : ms[i]? = some r) (hx : ns[i]? = some x)
    (hown : IRow B w' v' l) (hg : w.grownBy w' r.vk.ownBlock) (hat : v'.ownBlock = r.vk.ownBlock ∨ v'.ownBlock = some w.heap.size) :
    NGrow B (w'.setCell ⟨g, i * 5 + 4, none⟩ v') (.slice (some ⟨g, 0, none⟩) ns.length cap) (ns.set i { x with kids := l }) (ms.set i { r with vk := v' }) := by
  have hR := h.each i r x hr hx
  have hgo : OwnS B 49 w g := ownsRow_type h.own rfl
  have hgl := hgo.lt
  have hgr : some g ≠ r.vk.ownBlock := ownBlock_ne_type hR.2.2.2.2 hgo (by decide)
  have hil : i < ns.length := by
    rcases Nat.lt_or_ge i ns.length with h' | h'
    · exact h'
    · rw [List.getElem?_eq_none h'] at hx; cases hx
  have own' : w'.ownsRow B 49 5 (.slice (some ⟨g, 0, none⟩) ns.length cap) ns.length (rawCells ms) := h.own.kept hg (Or.inr hgr)
  have hvg : v'.ownBlock ≠ some g := by
    rcases hat with e | e
    · rw [e]; exact fun e => hgr e.symm
    · rw [e]; intro e; injection e with e; omega
  have keepB : ∀ b, b < w.heap.size → b ≠ g → r.vk.ownBlock ≠ some b → (w'.setCell ⟨g, i * 5 + 4, none⟩ v').heap[b]? = w.heap[b]? := fun b h1 h2 h3 => by
    rw [blk_set_ne h2, hg.block b h1 (fun e => h3 e.symm)]
  have attrs : ∀ {r : Rw} {x : Nd}, RowIs B w r x → Attrs (OwnS B 84 (w'.setCell ⟨g, i * 5 + 4, none⟩ v')) (w'.setCell ⟨g, i * 5 + 4, none⟩ v') r.va x.attrs := by
    intro q y hq
    refine hq.2.2.2.1.carry fun b hb => ?_
    have e : (w'.setCell ⟨g, i * 5 + 4, none⟩ v').heap[b]? = w.heap[b]? := keepB b hb.lt (fun e => by
      subst e
      obtain ⟨_, c, fz, hc⟩ := hb
      obtain ⟨_, c', fz', hc'⟩ := hgo
      rw [hc] at hc'
      injection hc' with hc'
      injection hc' with _ h4 _
      exact absurd h4 (by decide)) (fun e => ownBlock_ne_type hR.2.2.2.2 hb (by decide) e.symm)
    exact ⟨hb.to (Nat.le_refl _) e, e⟩
  refine ⟨by simp [h.len], ?_, ?_, ?_⟩
  · rw [rawCells_setK ms i r v' hr, List.length_set]
    exact (own'.stored (i * 5 + 4) v').1
  · intro j q y hq hy
    by_cases hj : j = i
    · subst hj
      rw [List.getElem?_set_self (by rw [h.len]; exact hil)] at hq
      rw [List.getElem?_set_self hil] at hy
      injection hq with hq
      injection hy with hy
      subst hq hy
      exact ⟨hR.1, hR.2.1, hR.2.2.1, attrs (r := r) (x := x) hR, ownsRow_heap hown fun b hb => blk_set_ne (fun e => hvg (by rw [hb, e]))⟩
    · rw [List.getElem?_set_ne (fun e => hj e.symm)] at hq hy
      have hq' := h.each j q y hq hy
      exact ⟨hq'.1, hq'.2.1, hq'.2.2.1, attrs hq', ownsRow_heap hq'.2.2.2.2 fun b hb => keepB b (IRow.lt hq'.2.2.2.2 b hb).2 (fun e => ownBlock_ne_type hq'.2.2.2.2 hgo (by decide) (by rw [hb, e])) (fun e => h.apart i j r q b (fun e => hj e.symm) hr hq e hb)⟩
  · intro j k p q b hne hp hq hb e
    by_cases hj : j = i
    · subst hj
      rw [List.getElem?_set_self (by rw [h.len]; exact hil)] at hp
      injection hp with hp
      subst hp
      rw [List.getElem?_set_ne hne] at hq
      obtain ⟨y, hy⟩ : ∃ y, ns[k]? = some y := ⟨ns[k]'(by rw [← h.len]; exact (List.getElem?_eq_some_iff.1 hq).1), by simp⟩
      have hlt := (IRow.lt (h.each k q y hq hy).2.2.2.2 b e).2
      simp only at hb
      rcases hat with e1 | e1
      · rw [e1] at hb; exact h.apart j k r q b hne hr hq hb e
      · rw [e1] at hb; injection hb with hb; omega
    · rw [List.getElem?_set_ne (fun e => hj e.symm)] at hp
      by_cases hk : k = i
      · subst hk
        rw [List.getElem?_set_self (by rw [h.len]; exact hil)] at hq
        injection hq with hq
        subst hq
        obtain ⟨y, hy⟩ : ∃ y, ns[j]? = some y := ⟨ns[j]'(by rw [← h.len]; exact (List.getElem?_eq_some_iff.1 hp).1), by simp⟩
        have hlt := (IRow.lt (h.each j p y hp hy).2.2.2.2 b hb).2
        simp only at e
        rcases hat with e1 | e1
        · rw [e1] at e; exact h.apart j k p r b hne hp hr hb e
        · rw [e1] at e; injection e with e; omega
      · rw [List.getElem?_set_ne (fun e => hk e.symm)] at hq
        exact h.apart j k p q b hne hp hq hb e
end Go.Proofs.YtfghbfocjjmcmabGreatDoor

/- doc.lay: a tree's nodes are laid into a row. Condition: at most 80 nodes; at most 2^20 attributes of each. -/
namespace Go.Proofs.YtfghbfocjjmcmabGreatDoor
open Go.ChangeShapes Go.WideShapes Go.ChangeAt Go.RowKit
set_option maxRecDepth 100000

attribute [local go_sem] cell_set

theorem intInfo : (Tryz.prog.info? 3).map (fun i => (i.zero, i.size, i.bytes)) = some (some (.int .i64 0), 1, 8) := by kernel_rfl

/-- A number appended onto a list of the call's own, as a step of a region that draws. -/
theorem step_int {ops : Array Oper} {o : Oper} {a : Act} {w : World} {K : Act → World → Prop} {Q : Exit → Act → World → Prop} {E : Prop}
    (hg : o.guard = none) (s x : Operand) (hop : o.op = Op.call { callee := Callee.builtin Builtin.append, args := #[s, x], argTypes := #[27, 27] })
    (B : Nat) (v : Value) (n : Nat) (xs : List Value) (hs : a.eval s = v) (hown : w.ownsRow B 3 1 v n xs) (ad : Addr) (k : Int) (hx : a.eval x = .slice (some ad) 1 1)
    (hnews : ∀ j u, [Value.int .i64 k][j]? = some u → w.cell? (ad.add j) = some u) (hn : n ≤ 1048576) (hB : B ≤ w.heap.size)
    (hK : ∀ v' w', w'.ownsRow B 3 1 v' (n + 1) (xs ++ [.int .i64 k]) → w.grownBy w' v.ownBlock → (v'.ownBlock = v.ownBlock ∨ v'.ownBlock = some w.heap.size) → K (a.put o.dst v') w') :
    if Region.wanted o (yielded ops a.tmps) = true then Oper.wp Tryz.prog o a w K Q else E := by
  have hw : Region.wanted o (yielded ops a.tmps) = true := by simp [Region.wanted, hg]
  rw [if_pos hw]
  obtain ⟨i0, hi, hz0, hz1, hz2⟩ := info_parts intInfo
  obtain ⟨v', w', hr, h2, h3, _, h5⟩ := run_append_own_at (P := Tryz.prog) w B 27 o.type 3 i0 _ 1 8 Tryz.underlying27 hi hz0 hz1 hz2 rfl (by decide) v n xs hown ad 1 1 [.int .i64 k] rfl hnews (by intro u hu; simp at hu; subst hu; rfl) (by unfold maxLen; omega) (by omega) hB
  unfold Oper.wp
  simp [execOp, hop, resolve, invoke, builtin, hs, hx, hr, Result.andThen]
  exact hK v' w' h2 h3 h5

def LayOk (d : Nat) : Prop := ∀ (S : Nat → Prop) (va vk : Value) (t : Tr) (par : Int) (nb cb nx : Nat) (ms : List Rw) (w : World), Attrs S w va t.attrs → Trees S w d vk t.kids → (∀ b, S b → b < w.heap.size ∧ b ≠ nb ∧ b ≠ cb) → nb ≠ cb → Row nb ms w → Cnt cb nx w →
  nx + cnt (d + 1) [t] ≤ ms.length → ms.length ≤ 80 → FewN (d + 1) [t] →
  Calls Tryz.prog 88 #[.slice (some ⟨nb, 0, none⟩) ms.length ms.length, .agg #[.bool t.text, .string t.s, va, vk], .int .i64 par, .pointer (some ⟨cb, 0, none⟩)] w fun e w' => e = .returned (.tuple #[]) ∧
    ∃ ms', Row nb ms' w' ∧ ms'.length = ms.length ∧ Cnt cb (nx + cnt (d + 1) [t]) w' ∧ (∀ i, i < nx ∨ nx + cnt (d + 1) [t] ≤ i → ms'[i]? = ms[i]?) ∧ Laid (fun b => w.heap.size ≤ b) w' ms' nx (layF d t par nx) ∧ LFr nb cb w w'

/-- What stands behind i kids that are laid. -/
structure LS (w : World) (nb cb nx d : Nat) (t : Tr) (par : Int) (ms : List Rw) (bx : Array Value) (M : Nat) (va : Value) (i j : Nat) (v : Value) (mi : List Rw) (W : World) : Prop where
  row : Row nb mi W
  len : mi.length = ms.length
  num : Cnt cb (nx + 1 + cnt d (t.kids.take j)) W
  old : ∀ l, l < nx ∨ nx + cnt (d + 1) [t] ≤ l → mi[l]? = ms[l]?
  me : mi[nx]? = some ⟨t.text, t.s, va, par, v⟩
  own : W.ownsRow M 3 1 v i ((startsOf (d - 1) (nx + 1) (t.kids.take i)).map fun k => Value.int .i64 k)
  att : Attrs (fun b => w.heap.size ≤ b ∧ b < M) W va t.attrs
  laid : Laid (fun b => w.heap.size ≤ b ∧ v.ownBlock ≠ some b) W mi (nx + 1) (laysOf (d - 1) (layF (d - 1)) nx (nx + 1) (t.kids.take j))
  box : W.heap[w.heap.size]? = some (.cells bx 68 (0, 0))
  fr : LFr nb cb w W
  le : M ≤ W.heap.size
  lo : w.heap.size < M

theorem cnt_upto {d : Nat} {ts : List Tr} {i : Nat} {k : Tr} (hk : ts[i]? = some k) : cnt (d + 1) (ts.take (i + 1)) = cnt (d + 1) (ts.take i) + cnt (d + 1) [k] ∧ cnt (d + 1) (ts.take i) + cnt (d + 1) [k] ≤ cnt (d + 1) ts := by
  have hi : i < ts.length := by
    rcases Nat.lt_or_ge i ts.length with h' | h'
    · exact h'
    · rw [List.getElem?_eq_none h'] at hk; cases hk
  have e1 : ts.take (i + 1) = ts.take i ++ [k] := by
    rw [List.take_succ_eq_append_getElem hi]; congr 2; simpa [hi] using hk
  have e2 : ts = ts.take (i + 1) ++ ts.drop (i + 1) := (List.take_append_drop _ _).symm
  have happ : ∀ a b : List Tr, cnt (d + 1) (a ++ b) = cnt (d + 1) a + cnt (d + 1) b := by intro a b; simp [cnt]
  refine ⟨by rw [e1, happ], ?_⟩
  have h3 : cnt (d + 1) ts = cnt (d + 1) (ts.take (i + 1)) + cnt (d + 1) (ts.drop (i + 1)) := by conv => lhs; rw [e2]
                                                                                                 exact happ _ _
  rw [h3, e1, happ]
  omega

theorem take_more {ts : List Tr} {i : Nat} {k : Tr} (hk : ts[i]? = some k) : ts.take (i + 1) = ts.take i ++ [k] := by
  have hi : i < ts.length := by
    rcases Nat.lt_or_ge i ts.length with h' | h'
    · exact h'
    · rw [List.getElem?_eq_none h'] at hk; cases hk
  rw [List.take_succ_eq_append_getElem hi]; congr 2; simpa [hi] using hk

theorem lay_step1 {w : World} {nb cb nx d : Nat} {t : Tr} {par : Int} {ms : List Rw} {bx : Array Value} {M : Nat} {va : Value} {i : Nat} {v v' : Value} {mi : List Rw} {wr w6 : World} {k : Tr} {X Y : Obj}
    (hL : LS w nb cb nx (d + 1) t par ms bx M va i i v mi wr) (hk : t.kids[i]? = some k) (hnl : nb < w.heap.size) (hcl : cb < w.heap.size) (hnc : nb ≠ cb)
    (hown : w6.ownsRow M 3 1 v' (i + 1) ((startsOf d (nx + 1) (t.kids.take i)).map (fun k => Value.int .i64 k) ++ [.int .i64 ((nx + 1 + cnt (d + 1) (t.kids.take i) : Nat) : Int)]))
    (hgr : ((wr.alloc Y).alloc X).drew.grownBy w6 v.ownBlock) (hat : v'.ownBlock = v.ownBlock ∨ v'.ownBlock = some ((wr.alloc Y).alloc X).drew.heap.size) :
    LS w nb cb nx (d + 1) t par ms bx M va (i + 1) i v' (mi.set nx ⟨t.text, t.s, va, par, v'⟩) (w6.setCell ⟨nb, nx * 5 + 4, none⟩ v') ∧ (∀ b, b < wr.heap.size → b < M → b ≠ nb → (w6.setCell ⟨nb, nx * 5 + 4, none⟩ v').heap[b]? = wr.heap[b]?) ∧ (w6.setCell ⟨nb, nx * 5 + 4, none⟩ v').heap[wr.heap.size]? = some Y ∧ wr.heap.size < (w6.setCell ⟨nb, nx * 5 + 4, none⟩ v').heap.size := by
  have hlo := hL.lo
  have hle := hL.le
  have hs6 := hgr.size
  have hsx : ((wr.alloc Y).alloc X).drew.heap.size = wr.heap.size + 1 + 1 := by
    show ((wr.alloc Y).alloc X).heap.size = _
    rw [World.size_alloc, World.size_alloc]
  rw [hsx] at hs6
  have hrow : ∀ b, v.ownBlock = some b → M ≤ b ∧ b < wr.heap.size := fun b hb => hL.own.lt b hb
  have hkeep6 : ∀ b, b < wr.heap.size → v.ownBlock ≠ some b → w6.heap[b]? = wr.heap[b]? := by
    intro b h1 h2
    rw [hgr.block b (by rw [hsx]; omega) (fun e => h2 e.symm)]
    show ((wr.alloc Y).alloc X).heap[b]? = _
    rw [Lib.alloc_old _ _ _ (by rw [World.size_alloc]; omega)]
    exact Lib.alloc_old _ _ _ h1
  have hkeep : ∀ b, b < wr.heap.size → b ≠ nb → v.ownBlock ≠ some b → (w6.setCell ⟨nb, nx * 5 + 4, none⟩ v').heap[b]? = wr.heap[b]? := fun b h1 h2 h3 => by rw [blk_set_ne h2, hkeep6 b h1 h3]
  have hsz : (w6.setCell ⟨nb, nx * 5 + 4, none⟩ v').heap.size = w6.heap.size := by simp
  have hnv : v.ownBlock ≠ some nb := fun e => by have := (hrow nb e).1; omega
  have hcv : v.ownBlock ≠ some cb := fun e => by have := (hrow cb e).1; omega
  have hfr := hL.fr.below.size
  have hr6 : Row nb mi w6 := (hkeep6 nb (by omega) hnv).trans hL.row
  have hnx : nx < mi.length := by
    rcases Nat.lt_or_ge nx mi.length with h' | h'
    · exact h'
    · have := hL.me; rw [List.getElem?_eq_none h'] at this; cases this
  have hvb : v.ownBlock ≠ some wr.heap.size := fun e => by have := (hrow _ e).2; omega
  have hB6 : Below 0 w w6 := ((hL.fr.below.alloc (Nat.zero_le _) Y).alloc (Nat.zero_le _) X).drew.grown hgr (Nat.zero_le _) (fun _ _ => Nat.zero_le _)
  refine ⟨⟨hr6.putK hL.me v', by simp [hL.len], ?_, ?_, ?_, ?_, ?_, ?_, ?_, ⟨hB6.setCell (p := ⟨nb, nx * 5 + 4, none⟩) (Nat.zero_le _) _, ?_⟩, by rw [hsz]; omega, hlo⟩, ?_, ?_, by rw [hsz]; omega⟩
  · unfold Cnt
    rw [hkeep cb (by omega) (fun e => hnc e.symm) hcv]
    exact hL.num
  · intro l hl
    rw [List.getElem?_set_ne (by have := cnt_one (d + 1) t; omega)]
    exact hL.old l hl
  · rw [List.getElem?_set_self hnx]
  · have e : (startsOf (d + 1 - 1) (nx + 1) (t.kids.take (i + 1))).map (fun k => Value.int .i64 k) = (startsOf d (nx + 1) (t.kids.take i)).map (fun k => Value.int .i64 k) ++ [.int .i64 ((nx + 1 + cnt (d + 1) (t.kids.take i) : Nat) : Int)] := by
      rw [take_more hk]
      show (startsOf d (nx + 1) (t.kids.take i ++ [k])).map _ = _
      rw [startsOf_append, List.map_append]
      rfl
    rw [e]
    refine ownsRow_heap hown fun b hb => blk_set_ne ?_
    have := (hown.lt b hb).1
    omega
  · refine hL.att.bounded.carry fun b hb => ⟨hb.1, hkeep b hb.2 (by have := hb.1.1; omega) (fun e => by have := (hrow b e).1; have := hb.1.2; omega)⟩
  · refine hL.laid.carry (fun b hb hlt => ⟨⟨hb.1, fun e => ?_⟩, hkeep b hlt (by have := hb.1; omega) hb.2⟩) (fun l h1 _ => by rw [List.getElem?_set_ne (by omega)])
    rcases hat with h1 | h1
    · exact hb.2 (h1.symm.trans e)
    · rw [h1, hsx] at e; injection e with e; omega
  · rw [hkeep _ (by omega) (by omega) (fun e => by have := (hrow _ e).1; omega)]; exact hL.box
  · intro b h1 h2 h3
    rw [hkeep b (by omega) h2 (fun e => by have := (hrow b e).1; omega)]
    exact hL.fr.frame b h1 h2 h3
  · intro b h1 h2 h3
    exact hkeep b h1 h3 (fun e => by have := (hrow b e).1; omega)
  · rw [blk_set_ne (by omega), hgr.block _ (by rw [hsx]; omega) (fun e => hvb e.symm)]
    show ((wr.alloc Y).alloc X).heap[wr.heap.size]? = _
    rw [Lib.alloc_old _ _ _ (by rw [World.size_alloc]; omega)]
    exact heap_alloc_new _ _

theorem lay_step2 {w : World} {nb cb nx d : Nat} {t : Tr} {par : Int} {ms : List Rw} {bx : Array Value} {M : Nat} {va : Value} {i : Nat} {v : Value} {mi mj : List Rw} {w7 w8 : World} {k : Tr}
    (hL : LS w nb cb nx (d + 1) t par ms bx M va (i + 1) i v mi w7) (hk : t.kids[i]? = some k) (hdk : Deep d k.kids) (hdt : Deep (d + 1) t.kids) (hnl : nb < w.heap.size) (hcl : cb < w.heap.size) (hR : Row nb mj w8) (hlen : mj.length = mi.length)
    (hC : Cnt cb (nx + 1 + cnt (d + 1) (t.kids.take i) + cnt (d + 1) [k]) w8) (hold : ∀ l, l < nx + 1 + cnt (d + 1) (t.kids.take i) ∨ nx + 1 + cnt (d + 1) (t.kids.take i) + cnt (d + 1) [k] ≤ l → mj[l]? = mi[l]?)
    (hLd : Laid (fun b => w7.heap.size ≤ b) w8 mj (nx + 1 + cnt (d + 1) (t.kids.take i)) (layF d k nx (nx + 1 + cnt (d + 1) (t.kids.take i)))) (hF : LFr nb cb w7 w8) :
    LS w nb cb nx (d + 1) t par ms bx M va (i + 1) (i + 1) v mj w8 := by
  have hs := hF.below.size
  have hfr := hL.fr.below.size
  have hlo := hL.lo
  obtain ⟨hcu, hcl2⟩ := cnt_upto (d := d) hk
  have hct := cnt_one (d + 1) t
  have hrow : ∀ b, v.ownBlock = some b → M ≤ b ∧ b < w7.heap.size := fun b hb => hL.own.lt b hb
  have hkeep : ∀ b, b < w7.heap.size → w.heap.size ≤ b → w8.heap[b]? = w7.heap[b]? := fun b h1 h2 => hF.frame b h1 (by omega) (by omega)
  have hll : (laysOf d (layF d) nx (nx + 1) (t.kids.take i)).length = cnt (d + 1) (t.kids.take i) := by
    have : ∀ (ts : List Tr) (a : Nat), Deep (d + 1) ts → (laysOf d (layF d) nx a ts).length = cnt (d + 1) ts := by
      intro ts
      induction ts with
      | nil => intro _ _; rfl
      | cons u ts ih2 =>
        intro a hd
        rw [laysOf, List.length_append, layF_length d u _ _ (hd u List.mem_cons_self), ih2 _ (fun x hx => hd x (List.mem_cons_of_mem _ hx)), cnt_more d u ts]
    exact this _ _ (fun u hu => hdt u (List.mem_of_mem_take hu))
  have hlk := layF_length d k (nx : Int) (nx + 1 + cnt (d + 1) (t.kids.take i)) hdk
  refine ⟨hR, hlen.trans hL.len, ?_, ?_, ?_, ?_, ?_, ?_, ?_, ?_, by have := hL.le; omega, hlo⟩
  · rw [hcu, ← Nat.add_assoc]; exact hC
  · intro l hl
    rw [hold l (by omega)]
    exact hL.old l hl
  · rw [hold nx (by omega)]; exact hL.me
  · exact ownsRow_heap hL.own fun b hb => hkeep b (hrow b hb).2 (by have := (hrow b hb).1; omega)
  · exact hL.att.bounded.carry fun b hb => ⟨hb.1, hkeep b hb.2 hb.1.1⟩
  · rw [take_more hk]
    show Laid _ _ _ _ (laysOf d (layF d) nx (nx + 1) (t.kids.take i ++ [k]))
    rw [laysOf_append]
    have hone : laysOf d (layF d) nx (nx + 1 + cnt (d + 1) (t.kids.take i)) [k] = layF d k nx (nx + 1 + cnt (d + 1) (t.kids.take i)) := by simp [laysOf]
    rw [hone]
    refine Laid.append (hL.laid.carry (fun b hb hlt => ⟨hb, hkeep b hlt hb.1⟩) (fun l h1 h2 => ?_)) ?_
    · rw [hold l (Or.inl ?_)]
      have h3 : (laysOf (d + 1 - 1) (layF (d + 1 - 1)) nx (nx + 1) (t.kids.take i)).length = cnt (d + 1) (t.kids.take i) := hll
      omega
    · rw [hll]
      exact hLd.carry (fun b hb _ => ⟨⟨by omega, fun e => by have := (hrow b e).2; omega⟩, rfl⟩) (fun _ _ _ => rfl)
  · rw [hkeep _ (blk_lt hL.box) (Nat.le_refl _)]; exact hL.box
  · exact hL.fr.trans hF

theorem Ints.of_owns {w : World} {B : Nat} {v : Value} {l : List Int} {S : Nat → Prop} (hS : ∀ b, B ≤ b → S b) (h : w.ownsRow B 3 1 v l.length (l.map fun k => Value.int .i64 k)) : Ints S w v l := by
  rcases h.2 with ⟨hv, h0⟩ | ⟨g, cap, cur, hv, hg, hh, hc, hm, hs, ht⟩
  · have : l = [] := List.eq_nil_of_length_eq_zero h0
    subst this hv
    exact Ints.nil
  · subst hv
    refine ⟨_, cap, rfl, hc, hm, fun _ => ⟨g, 0, rfl, hS g hg, fun i x hx => ?_⟩⟩
    have hi : i < l.length := by
      rcases Nat.lt_or_ge i l.length with h' | h'
      · exact h'
      · rw [List.getElem?_eq_none h'] at hx; cases hx
    rw [Nat.zero_add, World.ownsRow.cellAt h i (by omega)]
    simp [hx]

theorem layF_eq {d : Nat} {t : Tr} (h : Deep d t.kids) (par : Int) (nx : Nat) : layF d t par nx = ⟨t.text, t.s, t.attrs, par, startsOf (d - 1) (nx + 1) t.kids⟩ :: laysOf (d - 1) (layF (d - 1)) nx (nx + 1) t.kids := by
  cases d with
  | zero =>
    have e : t.kids = [] := h
    rw [e]
    rfl
  | succ d => rfl

theorem lay_done {w : World} {nb cb nx d : Nat} {t : Tr} {par : Int} {ms : List Rw} {bx : Array Value} {M : Nat} {va : Value} {v : Value} {mi : List Rw} {W : World} (hd : Deep d t.kids) (h : LS w nb cb nx d t par ms bx M va t.kids.length t.kids.length v mi W) :
    Row nb mi W ∧ mi.length = ms.length ∧ Cnt cb (nx + cnt (d + 1) [t]) W ∧ (∀ i, i < nx ∨ nx + cnt (d + 1) [t] ≤ i → mi[i]? = ms[i]?) ∧ Laid (fun b => w.heap.size ≤ b) W mi nx (layF d t par nx) ∧ LFr nb cb w W := by
  have hn := h.num
  rw [List.take_length] at hn
  have hlo := h.lo
  refine ⟨h.row, h.len, ?_, h.old, ?_, h.fr⟩
  · rw [cnt_one, ← Nat.add_assoc]; exact hn
  · rw [layF_eq hd]
    have hl := h.laid
    have ho := h.own
    rw [List.take_length] at hl ho
    intro i x hx
    cases i with
    | zero =>
      simp only [List.getElem?_cons_zero, Option.some.injEq] at hx
      subst hx
      refine ⟨_, h.me, rfl, rfl, rfl, h.att.carry fun b hb => ⟨hb.1, rfl⟩, ?_⟩
      exact Ints.of_owns (B := M) (fun b hb => by omega) (by rw [startsOf_length]; exact ho)
    | succ i =>
      simp only [List.getElem?_cons_succ] at hx
      obtain ⟨r, hr, hR⟩ := hl i x hx
      exact ⟨r, by rw [show nx + (i + 1) = nx + 1 + i by omega]; exact hr, hR.carry fun b hb => ⟨hb.1, rfl⟩⟩

set_option maxHeartbeats 2000000 in
theorem lay_of (d : Nat) (ih : ∀ m, d = m + 1 → LayOk m) : LayOk d := by
  intro S va vk t par nb cb nx ms w hA hK hS hnc hR hC hN h80 hFw
  obtain ⟨aa, ac, rfl⟩ := hA.shape
  obtain ⟨ka, kc, rfl, hkl, hkm⟩ := Trees.shape d hK
  unfold maxLen at hkm
  have hcnt := cnt_one d t
  have hnx : nx < ms.length := by omega
  obtain ⟨r0, hr0⟩ : ∃ r0, ms[nx]? = some r0 := ⟨ms[nx], by simp [hnx]⟩
  have hal := (hFw t List.mem_cons_self).1
  have c0 := hC.c0
  have f0 := hC.f0
  have hcl := hC.lt
  have hnl : nb < w.heap.size := blk_lt hR
  have IH : Hid (∀ m, d = m + 1 → LayOk m) := ih
  have hcx : ∀ X, (w.alloc X).cell? ⟨cb, 0, none⟩ = some (.int .i64 (nx : Int)) := fun X => Lib.cell?_alloc_some _ c0
  have hb1 := Below.alloc1 w (.cells #[.bool t.text, .string t.s, .slice aa t.attrs.length ac, .slice ka t.kids.length kc] 68)
  have hx1 := heap_alloc_new w (.cells #[.bool t.text, .string t.s, .slice aa t.attrs.length ac, .slice ka t.kids.length kc] 68)
  have hC1 := hC.later hb1
  have hfz1 := hC1.f0
  have hce1 := hC1.c0
  have hz1 : (w.alloc (.cells #[.bool t.text, .string t.s, .slice aa t.attrs.length ac, .slice ka t.kids.length kc] 68)).heap.size = w.heap.size + 1 := by simp
  clear ih hcx c0 f0
  go_enter Tryz.func88, Tryz.ntmps88
  go_wp2_with fail
  have hc2 : Cnt cb (nx + 1) (w.setCell ⟨cb, 0, none⟩ (.int .i64 ((nx : Int) + 1))) := by
    have := hC.put (nx + 1)
    simpa using this
  have hsz2 : (w.setCell ⟨cb, 0, none⟩ (.int .i64 ((nx : Int) + 1))).heap.size = w.heap.size := by simp
  have hb2 := Below.alloc1 (w.setCell ⟨cb, 0, none⟩ (.int .i64 ((nx : Int) + 1))) (.cells #[.bool t.text, .string t.s, .slice aa t.attrs.length ac, .slice ka t.kids.length kc] 68)
  have hx2 := heap_alloc_new (w.setCell ⟨cb, 0, none⟩ (.int .i64 ((nx : Int) + 1))) (.cells #[.bool t.text, .string t.s, .slice aa t.attrs.length ac, .slice ka t.kids.length kc] 68)
  rw [hsz2] at hx2
  have hC2 := hc2.later hb2
  have hF2 : LFr nb cb w _ := (LFr.putC nb cb w 0 (.int .i64 ((nx : Int) + 1))).trans (LFr.later hb2)
  have hR2 : Row nb ms ((w.setCell ⟨cb, 0, none⟩ (.int .i64 ((nx : Int) + 1))).alloc (.cells #[.bool t.text, .string t.s, .slice aa t.attrs.length ac, .slice ka t.kids.length kc] 68)) := by
    unfold Row
    rw [hb2.block nb (by rw [hsz2]; exact hnl), blk_set_ne hnc]
    exact hR
  have hz2 : ((w.setCell ⟨cb, 0, none⟩ (.int .i64 ((nx : Int) + 1))).alloc (.cells #[.bool t.text, .string t.s, .slice aa t.attrs.length ac, .slice ka t.kids.length kc] 68)).heap.size = w.heap.size + 1 := by simp
  generalize (w.setCell ⟨cb, 0, none⟩ (.int .i64 ((nx : Int) + 1))).alloc (.cells #[.bool t.text, .string t.s, .slice aa t.attrs.length ac, .slice ka t.kids.length kc] 68) = W2 at hb2 hx2 hC2 hF2 hR2 hz2 ⊢
  have HZ2 : Hid (W2.heap.size = w.heap.size + 1) := hz2
  have hlt2 : w.heap.size < W2.heap.size := by omega
  have HCL : Hid (∀ W, (∀ b, S b → W.heap[b]? = w.heap[b]?) → Calls Tryz.prog 72 #[.slice aa t.attrs.length ac] W fun e w' => ∃ v', e = .returned v' ∧ Attrs (OwnS W.heap.size 84 w') w' v' t.attrs ∧ Below W.heap.size W w') := fun W hW => clone_any S _ t.attrs W (hA.carry fun b hb => ⟨hb, hW b hb⟩) (Nat.le_trans hal (by decide))
  have HSF : Hid (∀ W, LFr nb cb w W → ∀ b, S b → W.heap[b]? = w.heap[b]?) := fun W hW b hb => hW.frame b (hS b hb).1 (hS b hb).2.1 (hS b hb).2.2
  have HWW : Hid (∀ W' : World, W'.heap[w.heap.size]? = W2.heap[w.heap.size]? → W'.cell? ⟨w.heap.size, 0, none⟩ = some (.bool t.text) ∧ W'.cell? ⟨w.heap.size, 1, none⟩ = some (.string t.s) ∧ W'.cell? ⟨w.heap.size, 2, none⟩ = some (.slice aa t.attrs.length ac)) := by
    intro W' h2
    rw [hx2] at h2
    exact ⟨by rw [Lib.cell_of_heap h2]; rfl, by rw [Lib.cell_of_heap h2]; rfl, by rw [Lib.cell_of_heap h2]; rfl⟩
  have HKT : Hid (Trees S w d (.slice ka t.kids.length kc) t.kids) := hK
  have HFW : Hid (FewN d t.kids) := (hFw t List.mem_cons_self).2
  have HSS : Hid (∀ b, S b → b < w.heap.size ∧ b ≠ nb ∧ b ≠ cb) := hS
  have HR2 : Hid (Row nb ms W2) := hR2
  have HC2 : Hid (Cnt cb (nx + 1) W2) := hC2
  have HF2 : Hid (LFr nb cb w W2) := hF2
  have HX2 : Hid _ := hx2
  have HFD : Hid (LFr nb cb w W2.drew) := ⟨hF2.below.drew, hF2.frame⟩
  have hnxi : (nx : Int) < (ms.length : Int) := by omega
  obtain ⟨y0, y1, y2⟩ := HWW.out W2 rfl
  have HSD : Hid _ := HWW.out W2.drew rfl
  have hnbw : w.heap.size ≠ nb := by omega
  have hncw : w.heap.size ≠ cb := by omega
  clear hA hK hS hR hC hFw hb1 hx1 hC1 hfz1 hce1 hz1 hb2 hx2 hC2 hF2 hR2 hz2 hc2 hsz2
  go_region_held3 (fun W : World => W.cell? ⟨w.heap.size, 0, none⟩ = some (.bool t.text) ∧ W.cell? ⟨w.heap.size, 1, none⟩ = some (.string t.s) ∧ W.cell? ⟨w.heap.size, 2, none⟩ = some (.slice aa t.attrs.length ac))
    (first
      | with_reducible exact HS3.out
      | with_reducible exact HS4.out
      | with_reducible exact HSD.out)
    (first
      | (go_at_call 72; refine (Calls.mono (HCL.out W2.drew (HSF.out _ HFD.out)) ?_); rintro e w3 ⟨va3, rfl, hA3, hb3⟩; obtain ⟨a3, c3', rfl⟩ := hA3.shape; have hr3 : Row nb ms w3 := (hb3.block nb (Nat.lt_trans hnl hlt2)).trans HR2.out; obtain ⟨g0, g1, g2, g3, g4⟩ := hr3.cells hr0; have k0 := hr3.frozen (nx * 5); have k1 := hr3.frozen (nx * 5 + 1); have k2 := hr3.frozen (nx * 5 + 2); have k3 := hr3.frozen (nx * 5 + 3); have k4 := hr3.frozen (nx * 5 + 4); have HS3 : Hid _ := HWW.out w3 (hb3.block _ hlt2); have HS4 : Hid _ := HWW.out (((((w3.setCell ⟨nb, nx * 5, none⟩ (.bool t.text)).setCell ⟨nb, nx * 5 + 1, none⟩ (.string t.s)).setCell ⟨nb, nx * 5 + 2, none⟩ (.slice a3 t.attrs.length c3')).setCell ⟨nb, nx * 5 + 3, none⟩ (.int .i64 par)).setCell ⟨nb, nx * 5 + 4, none⟩ (.slice none 0 0)) (by rw [blk_set_ne hnbw, blk_set_ne hnbw, blk_set_ne hnbw, blk_set_ne hnbw, blk_set_ne hnbw]; exact hb3.block _ hlt2)))
  have hLS : LS w nb cb nx d t par ms #[.bool t.text, .string t.s, .slice aa t.attrs.length ac, .slice ka t.kids.length kc] (((((w3.setCell ⟨nb, nx * 5, none⟩ (.bool t.text)).setCell ⟨nb, nx * 5 + 1, none⟩ (.string t.s)).setCell ⟨nb, nx * 5 + 2, none⟩ (.slice a3 t.attrs.length c3')).setCell ⟨nb, nx * 5 + 3, none⟩ (.int .i64 par)).setCell ⟨nb, nx * 5 + 4, none⟩ (.slice none 0 0)).heap.size (.slice a3 t.attrs.length c3') 0 0 (.slice none 0 0) (ms.set nx ⟨t.text, t.s, .slice a3 t.attrs.length c3', par, .slice none 0 0⟩) (((((w3.setCell ⟨nb, nx * 5, none⟩ (.bool t.text)).setCell ⟨nb, nx * 5 + 1, none⟩ (.string t.s)).setCell ⟨nb, nx * 5 + 2, none⟩ (.slice a3 t.attrs.length c3')).setCell ⟨nb, nx * 5 + 3, none⟩ (.int .i64 par)).setCell ⟨nb, nx * 5 + 4, none⟩ (.slice none 0 0)) := by
    have hz := HZ2.out
    have hs3 : W2.heap.size ≤ w3.heap.size := hb3.size
    have hsz : (((((w3.setCell ⟨nb, nx * 5, none⟩ (.bool t.text)).setCell ⟨nb, nx * 5 + 1, none⟩ (.string t.s)).setCell ⟨nb, nx * 5 + 2, none⟩ (.slice a3 t.attrs.length c3')).setCell ⟨nb, nx * 5 + 3, none⟩ (.int .i64 par)).setCell ⟨nb, nx * 5 + 4, none⟩ (.slice none 0 0)).heap.size = w3.heap.size := by simp
    have hkeep : ∀ b, b ≠ nb → (((((w3.setCell ⟨nb, nx * 5, none⟩ (.bool t.text)).setCell ⟨nb, nx * 5 + 1, none⟩ (.string t.s)).setCell ⟨nb, nx * 5 + 2, none⟩ (.slice a3 t.attrs.length c3')).setCell ⟨nb, nx * 5 + 3, none⟩ (.int .i64 par)).setCell ⟨nb, nx * 5 + 4, none⟩ (.slice none 0 0)).heap[b]? = w3.heap[b]? := fun b hb => by rw [blk_set_ne hb, blk_set_ne hb, blk_set_ne hb, blk_set_ne hb, blk_set_ne hb]
    refine ⟨hr3.put hnx ⟨t.text, t.s, .slice a3 t.attrs.length c3', par, .slice none 0 0⟩, by simp, ?_, ?_, ?_, World.ownsRow_nil _ _ _ _, ?_, ?_, ?_, ?_, Nat.le_refl _, by rw [hsz]; omega⟩
    · unfold Cnt
      rw [hkeep cb (fun e => hnc e.symm), hb3.block cb (by show cb < W2.heap.size; omega)]
      have e : nx + 1 + cnt d (t.kids.take 0) = nx + 1 := by simp [cnt_nil]
      rw [e]
      exact HC2.out
    · intro j hj
      rw [List.getElem?_set_ne (by omega)]
    · rw [List.getElem?_set_self hnx]
    · refine hA3.bounded.carry fun b hb => ⟨⟨by have h1 : W2.heap.size ≤ b := hb.1.1; omega, by rw [hsz]; exact hb.2⟩, hkeep b (by have h1 : W2.heap.size ≤ b := hb.1.1; omega)⟩
    · intro j x hx; simp [laysOf] at hx
    · rw [hkeep _ hnbw, hb3.block _ hlt2]; exact HX2.out
    · exact ⟨(HFD.out.below.trans (hb3.mono (Nat.zero_le _))).trans (((((Below.refl 0 w3).setCell (p := ⟨nb, nx * 5, none⟩) (Nat.zero_le _) _).setCell (p := ⟨nb, nx * 5 + 1, none⟩) (Nat.zero_le _) _).setCell (p := ⟨nb, nx * 5 + 2, none⟩) (Nat.zero_le _) _).setCell (p := ⟨nb, nx * 5 + 3, none⟩) (Nat.zero_le _) _ |>.setCell (p := ⟨nb, nx * 5 + 4, none⟩) (Nat.zero_le _) _),
        fun b h1 h2 h3 => by rw [hkeep b h2, hb3.block b (by show b < W2.heap.size; omega)]; exact HFD.out.frame b h1 h2 h3⟩
  generalize (((((w3.setCell ⟨nb, nx * 5, none⟩ (.bool t.text)).setCell ⟨nb, nx * 5 + 1, none⟩ (.string t.s)).setCell ⟨nb, nx * 5 + 2, none⟩ (.slice a3 t.attrs.length c3')).setCell ⟨nb, nx * 5 + 3, none⟩ (.int .i64 par)).setCell ⟨nb, nx * 5 + 4, none⟩ (.slice none 0 0)) = W4 at hLS ⊢
  have q3 : W4.cell? ⟨w.heap.size, 3, none⟩ = some (.slice ka t.kids.length kc) := by rw [Lib.cell_of_heap hLS.box]; rfl
  have HLS : Hid _ := hLS
  clear hLS HS3 HS4 HSD HWW HCL HFD HX2 HF2 HC2 HR2 hr3 hA3 hb3 g0 g1 g2 g3 g4 k0 k1 k2 k3 k4 y0 y1 y2 HZ2 hlt2
  go_wp2_with fail
  go_loopg [34] t.kids.length (fun g j wr => ∃ (i : Nat) (v : Value) (mi : List Rw), i + g = t.kids.length ∧ j = .int .i64 (i : Int) ∧ LS w nb cb nx d t par ms #[.bool t.text, .string t.s, .slice aa t.attrs.length ac, .slice ka t.kids.length kc] W4.heap.size (.slice a3 t.attrs.length c3') i i v mi wr)
  case atStart => exact ⟨0, .slice none 0 0, _, by omega, rfl, HLS.out⟩
  case round =>
    obtain ⟨i, v, mi, hi, rfl, hL⟩ := hrel
    have HL : Hid _ := hL
    obtain ⟨ja, jn, jc, rfl⟩ := row_slice6 hL.own
    by_cases hil : i < t.kids.length
    · obtain ⟨d', rfl⟩ : ∃ d', d = d' + 1 := by
        cases d with
        | zero => have : t.kids = [] := (Trees.deep 0 HKT.out); rw [this] at hil; simp at hil
        | succ d' => exact ⟨d', rfl⟩
      obtain ⟨k, hk⟩ : ∃ k, t.kids[i]? = some k := ⟨t.kids[i], by simp [hil]⟩
      obtain ⟨ta, tcap, htv, _, _, ht4⟩ := HKT.out
      obtain ⟨tb, tof, hta, hSb, htc⟩ := ht4 (by intro e; rw [e] at hil; simp at hil)
      injection htv with htv1 _ htv2
      subst htv1 htv2 hta
      obtain ⟨kva, kvk, e0, e1, e2, e3, hkA, hkK⟩ := htc i k hk
      have hbw : tb < w.heap.size := World.block_lt_of_cell? w _ e0
      have hbr : wr.heap[tb]? = w.heap[tb]? := HSF.out wr HL.out.fr tb hSb
      rw [← World.cell?_of_block (a := ⟨tb, tof + i * 4, none⟩) hbr] at e0
      rw [← World.cell?_of_block (a := ⟨tb, tof + i * 4 + 1, none⟩) hbr] at e1
      rw [← World.cell?_of_block (a := ⟨tb, tof + i * 4 + 2, none⟩) hbr] at e2
      rw [← World.cell?_of_block (a := ⟨tb, tof + i * 4 + 3, none⟩) hbr] at e3
      obtain ⟨xa, xc, rfl⟩ := hkA.shape
      obtain ⟨ya, yc, rfl, _, _⟩ := Trees.shape d' hkK
      obtain ⟨m, hm⟩ : ∃ m, nx + 1 + cnt (d' + 1) (t.kids.take i) = m := ⟨_, rfl⟩
      have hnum := HL.out.num
      rw [hm] at hnum
      have hb5 := Below.alloc1 wr (.cells #[.bool k.text, .string k.s, .slice xa k.attrs.length xc, .slice ya k.kids.length yc] 68)
      have hC5 := hnum.later hb5
      have hR5 : Row nb mi (wr.alloc (.cells #[.bool k.text, .string k.s, .slice xa k.attrs.length xc, .slice ya k.kids.length yc] 68)) := (hb5.block nb (blk_lt HL.out.row)).trans HL.out.row
      obtain ⟨_, _, _, _, g4⟩ := hR5.cells HL.out.me
      have cc := hC5.c0
      have g4a : ((wr.alloc (.cells #[.bool k.text, .string k.s, .slice xa k.attrs.length xc, .slice ya k.kids.length yc] 68)).alloc (.cells #[.int .i64 (m : Int)] 3)).cell? ⟨nb, nx * 5 + 4, none⟩ = some (.slice ja jn jc) := Lib.cell?_alloc_some _ g4
      have hOW : ∀ Y X, ((wr.alloc Y).alloc X).drew.ownsRow W4.heap.size 3 1 (.slice ja jn jc) i ((startsOf d' (nx + 1) (t.kids.take i)).map fun k => Value.int .i64 k) := fun Y X =>
        ownsRow_later (ownsRow_later HL.out.own (Below.alloc1 wr Y)) (Below.alloc1 _ X).drew
      have HOW : Hid _ := hOW
      have HM : Hid (nx + 1 + cnt (d' + 1) (t.kids.take i) = m) := hm
      have hlen5 : mi.length = ms.length := HL.out.len
      have HME : Hid _ := HL.out.me
      have hili : (i : Int) < (t.kids.length : Int) := by omega
      have hi20 : i ≤ 1048576 := by
        have h1 := (cnt_upto (d := d') hk).2
        have h2 := cnt_one (d' + 1) t
        have h3 : i ≤ cnt (d' + 1) (t.kids.take i) := by
          have : ∀ (l : List Tr), l.length ≤ cnt (d' + 1) l := by
            intro l
            induction l with
            | nil => simp
            | cons x l ihl => rw [cnt_more d' x l, cnt_one, List.length_cons]; omega
          have := this (t.kids.take i)
          rw [List.length_take] at this
          omega
        omega
      have hsr : W4.heap.size ≤ wr.heap.size := HL.out.le
      have HKA : Hid (Attrs S w (.slice xa k.attrs.length xc) k.attrs) := hkA
      have HKK : Hid (Trees S w d' (.slice ya k.kids.length yc) k.kids) := hkK
      have hroom : m + cnt (d' + 1) [k] ≤ ms.length := by
        have h1 := (cnt_upto (d := d') hk).2
        have h2 := cnt_one (d' + 1) t
        omega
      have hnxm : nx < mi.length := by omega
      have hfz4 : (wr.alloc (.cells #[.bool k.text, .string k.s, .slice xa k.attrs.length xc, .slice ya k.kids.length yc] 68)).frozen? ⟨nb, nx * 5 + 4, none⟩ = false := hR5.frozen _
      have HRW : Hid (∀ (X : Obj) (w6 : World), ((wr.alloc (.cells #[.bool k.text, .string k.s, .slice xa k.attrs.length xc, .slice ya k.kids.length yc] 68)).alloc X).drew.grownBy w6 (Value.slice ja jn jc).ownBlock → Row nb mi w6) := by
        intro X w6 hg
        have hlt5 : nb < (wr.alloc (.cells #[.bool k.text, .string k.s, .slice xa k.attrs.length xc, .slice ya k.kids.length yc] 68)).heap.size := blk_lt hR5
        unfold Row
        rw [hg.block nb (by show nb < ((wr.alloc (.cells #[.bool k.text, .string k.s, .slice xa k.attrs.length xc, .slice ya k.kids.length yc] 68)).alloc X).heap.size; rw [World.size_alloc]; omega) (fun e => by have := (HL.out.own.lt nb e.symm).1; have := HL.out.lo; omega)]
        show ((wr.alloc (.cells #[.bool k.text, .string k.s, .slice xa k.attrs.length xc, .slice ya k.kids.length yc] 68)).alloc X).heap[nb]? = _
        rw [Lib.alloc_old _ _ _ hlt5]
        exact hR5
      clear hL hkA hkK htc ht4 hnum hOW hm hR5 hC5 q3
      go_wp2_with fail
      go_region_law (first
        | (refine step_int (by rfl) (.tmp 44) (.tmp 48) (by rfl) W4.heap.size (.slice ja jn jc) i ((startsOf d' (nx + 1) (t.kids.take i)).map fun k => Value.int .i64 k) (by simp [Act.eval]) (HOW.out _ _) ⟨(wr.alloc (.cells #[.bool k.text, .string k.s, .slice xa k.attrs.length xc, .slice ya k.kids.length yc] 68)).heap.size, 0, none⟩ (m : Int) (by simp [Act.eval]) (fun j u hj => cell_one_new _ _ _ j u hj) hi20 (by simp; omega) ?_; intro v6 w6 hown6 hgr6 hat6; obtain ⟨a6, n6, c6, rfl⟩ := row_slice6 hown6; obtain ⟨_, _, _, _, z6⟩ := (HRW.out _ w6 hgr6).cells HME.out; have f6 := (HRW.out _ w6 hgr6).frozen (nx * 5 + 4)))
      all_goals
        obtain ⟨hL7, hkp7, hbx7, hs7⟩ := lay_step1 HL.out hk hnl hcl hnc (by rw [HM.out]; exact hown6) hgr6 hat6
        generalize w6.setCell ⟨nb, nx * 5 + 4, none⟩ (.slice a6 n6 c6) = W7 at hL7 hkp7 hbx7 hs7 ⊢
        have q0 : W7.cell? ⟨wr.heap.size, 0, none⟩ = some (.bool k.text) := by rw [Lib.cell_of_heap hbx7]; rfl
        have q1 : W7.cell? ⟨wr.heap.size, 1, none⟩ = some (.string k.s) := by rw [Lib.cell_of_heap hbx7]; rfl
        have q2 : W7.cell? ⟨wr.heap.size, 2, none⟩ = some (.slice xa k.attrs.length xc) := by rw [Lib.cell_of_heap hbx7]; rfl
        have q3 : W7.cell? ⟨wr.heap.size, 3, none⟩ = some (.slice ya k.kids.length yc) := by rw [Lib.cell_of_heap hbx7]; rfl
        have hn7 := hL7.num
        rw [HM.out] at hn7
        have hSF7 := HSF.out W7 hL7.fr
        have hw7 := hL7.fr.below.size
        have hcall := IH.out d' rfl S _ _ k (nx : Int) nb cb m _ W7 (HKA.out.carry fun b hb => ⟨hb, hSF7 b hb⟩) (Trees.carry (fun b hb => ⟨hb, hSF7 b hb⟩) d' HKK.out) (fun b hb => ⟨by have := (HSS.out b hb).1; omega, (HSS.out b hb).2⟩) hnc hL7.row hn7 (by rw [hL7.len]; exact hroom) (by rw [hL7.len]; exact h80) (by
          intro u hu
          simp only [List.mem_singleton] at hu
          subst hu
          exact HFW.out _ (List.mem_of_getElem? hk))
        rw [hL7.len] at hcall
        have HCALL : Hid _ := hcall
        have HL7 : Hid _ := hL7
        clear hcall hL7 hown6 hgr6 hat6 z6 f6 g4 g4a cc e0 e1 e2 e3 hn7 hSF7 hkp7 hbx7
        go_wp2_with fail
        refine (Calls.mono HCALL.out ?_)
        rintro e w8 ⟨rfl, mj, hR8, hlen8, hC8, hold8, hLd8, hF8⟩
        have HL8 : Hid _ := lay_step2 HL7.out hk (Trees.deep d' HKK.out) (Trees.deep (d' + 1) HKT.out) hnl hcl hR8 (by rw [HL7.out.len]; exact hlen8) (by rw [HM.out]; exact hC8) (by rw [HM.out]; exact hold8) (by rw [HM.out]; exact hLd8) hF8
        clear HCALL hR8 hC8 hold8 hLd8 hF8
        go_wp2_with fail
        go_roundg (t.kids.length - (i + 1))
        case measure => omega
        case rel => exact ⟨i + 1, _, mj, by omega, by go_num, HL8.out⟩
    · have hii : i = t.kids.length := by omega
      have hili : ¬ (i : Int) < (t.kids.length : Int) := by omega
      have HLD : Hid _ := lay_done (Trees.deep d HKT.out) (by rw [← hii]; exact HL.out)
      clear hL hii q3
      go_wp2_with fail
      go_returns
      obtain ⟨h1, h2, h3, h4, h5, h6⟩ := HLD.out
      exact ⟨rfl, mi, h1, h2, h3, h4, h5, h6⟩

theorem lay_any (d : Nat) : LayOk d := by
  induction d with
  | zero => exact lay_of 0 (fun m hm => by omega)
  | succ d ih => exact lay_of (d + 1) (fun m hm => by cases hm; exact ih)
end Go.Proofs.YtfghbfocjjmcmabGreatDoor

/- tree.takeLast at the waiting groups of a counter: the last one, and the rest stays. No condition. -/
namespace Go.Proofs.YtfghbfocjjmcmabGreatDoor
open Go.ChangeShapes Go.WideShapes Go.ChangeAt Go.RowKit
set_option maxRecDepth 100000

def groupCells : List (Value × Nat) → List Value
  | [] => []
  | x :: r => x.1 :: .int .i64 (x.2 : Int) :: groupCells r

theorem groupCells_length (l : List (Value × Nat)) : (groupCells l).length = l.length * 2 := by
  induction l with
  | nil => rfl
  | cons x r ih => simp [groupCells, ih]; omega

theorem groupCells_append (l m : List (Value × Nat)) : groupCells (l ++ m) = groupCells l ++ groupCells m := by
  induction l with
  | nil => rfl
  | cons x r ih => simp [groupCells, ih]

/-- The front of a row of the call's own. -/
theorem ownsRow_front {w : World} {B : Nat} {e : TypeId} {size g cap n : Nat} {xs ys : List Value} (h : w.ownsRow B e size (.slice (some ⟨g, 0, none⟩) (n + 1) cap) (n + 1) (xs ++ ys)) (hx : xs.length = n * size) :
    w.ownsRow B e size (.slice (some ⟨g, 0, none⟩) n cap) n xs := by
  obtain ⟨h1, h2⟩ := h
  rcases h2 with ⟨h0, _⟩ | ⟨g', cap', cur, hv, hg, hh, hn, hcap, hsz, htake⟩
  · cases h0
  · cases hv
    refine ⟨hx, Or.inr ⟨g, cap, cur, rfl, hg, hh, by omega, hcap, hsz, ?_⟩⟩
    have e1 : cur.toList.take (n * size) = (cur.toList.take ((n + 1) * size)).take (n * size) := by
      rw [List.take_take, Nat.min_eq_left (Nat.mul_le_mul_right _ (by omega))]
    rw [e1, htake, ← hx, List.take_left]

/-- A counter of the call's own at block cb: depth, count, the waiting groups. -/
structure Cst (B cb : Nat) (w : World) (dd cc : Nat) (v : Value) (G : List (Value × Nat)) : Prop where
  base : B ≤ cb
  held : w.heap[cb]? = some (.cells #[.int .i64 (dd : Int), .int .i64 (cc : Int), v] 143 (0, 0))
  own : w.ownsRow B 170 2 v G.length (groupCells G)
  slices : ∀ x ∈ G, ∃ a l c, x.1 = .slice a l c

theorem Cst.lt {B cb : Nat} {w : World} {dd cc : Nat} {v : Value} {G : List (Value × Nat)} (h : Cst B cb w dd cc v G) : cb < w.heap.size := by
  rcases Nat.lt_or_ge cb w.heap.size with h' | h'
  · exact h'
  · have := h.held; simp [Array.getElem?_eq_none h'] at this

theorem Cst.apart {B cb : Nat} {w : World} {dd cc : Nat} {v : Value} {G : List (Value × Nat)} (h : Cst B cb w dd cc v G) : v.ownBlock ≠ some cb := by
  intro e
  obtain ⟨_, c, fz, hc⟩ := ownsRow_type h.own e
  rw [h.held] at hc
  simp at hc

theorem Cst.shape {B cb : Nat} {w : World} {dd cc : Nat} {v : Value} {G : List (Value × Nat)} (h : Cst B cb w dd cc v G) : ∃ a c, v = .slice a G.length c := by
  rcases h.own.2 with ⟨hv, h0⟩ | ⟨g, cap, cur, hv, _⟩
  · exact ⟨none, 0, by rw [hv, h0]⟩
  · exact ⟨_, _, hv⟩

theorem takeG_any (B cb : Nat) (w : World) (dd cc : Nat) (v : Value) (G : List (Value × Nat)) (x : Value) (d : Nat) (h : Cst B cb w dd cc v (G ++ [(x, d)])) (hBw : B ≤ w.heap.size) :
    Calls Tryz.prog 147 #[.pointer (some ⟨cb, 2, none⟩)] w fun e w' => e = .returned (.agg #[x, .int .i64 (d : Int)]) ∧ ∃ v', Cst B cb w' dd cc v' G ∧ v'.ownBlock = v.ownBlock ∧ (∀ b, b < w.heap.size → b ≠ cb → w'.heap[b]? = w.heap[b]?) ∧ Below B w w' := by
  have hap := h.apart
  have hlt := h.lt
  obtain ⟨hB, hj, hown, hsl⟩ := h
  obtain ⟨xa, xl, xc, hx⟩ := hsl (x, d) (by simp)
  simp only at hx
  subst hx
  rcases hown.2 with ⟨_, h0⟩ | ⟨g, cap, cur, rfl, hg, hh, hc, hm, hs, ht⟩
  · simp at h0
  have hlen : (G ++ [(Value.slice xa xl xc, d)]).length = G.length + 1 := by simp
  rw [hlen] at hown hj hc ht
  have c2 : w.cell? ⟨cb, 2, none⟩ = some (.slice (some ⟨g, 0, none⟩) (G.length + 1) cap) := by rw [Lib.cell_of_heap hj]; rfl
  have f2 : w.frozen? ⟨cb, 2, none⟩ = false := Lib.frozen_of_heap hj 2
  have hgl := groupCells_length G
  have k0 : w.cell? ⟨g, G.length * 2, none⟩ = some (.slice xa xl xc) := by
    rw [World.ownsRow.cellAt hown _ (by omega), groupCells_append, List.getElem?_append_right (by omega), hgl]; simp [groupCells]
  have k1 : w.cell? ⟨g, G.length * 2 + 1, none⟩ = some (.int .i64 (d : Int)) := by
    rw [World.ownsRow.cellAt hown _ (by omega), groupCells_append, List.getElem?_append_right (by omega), hgl]; simp [groupCells]
  have hgs : g < w.heap.size := World.block_lt_of_cell? w _ k0
  unfold maxLen at hm
  have HJ : Hid (w.heap[cb]? = some (.cells #[.int .i64 (dd : Int), .int .i64 (cc : Int), .slice (some ⟨g, 0, none⟩) (G.length + 1) cap] 143 (0, 0))) := hj
  clear hj hgl
  go_enter Tryz.func147, Tryz.ntmps147
  go_wp2_with fail
  have hk : ∀ b, b < w.heap.size → b ≠ cb → (((w.setCell ⟨cb, 2, none⟩ (.slice (some ⟨g, 0, none⟩) G.length cap)).alloc (.cells #[.slice xa xl xc, .int .i64 (d : Int)] 170)).alloc (.cells #[.slice xa xl xc, .int .i64 (d : Int)] 170)).heap[b]? = w.heap[b]? := by
    intro b hb hbc
    rw [Lib.alloc_old _ _ _ (by simp; omega), Lib.alloc_old _ _ _ (by simp; omega), Below.heap_setCell _ _ _ _ hbc]
  have hgc : g ≠ cb := fun e => hap (by rw [e]; rfl)
  refine bodyPost_ret (v := .agg #[.slice xa xl xc, .int .i64 (d : Int)]) (by simp [results, Tryz.results147, go_sem]) rfl ⟨rfl, .slice (some ⟨g, 0, none⟩) G.length cap, ⟨hB, ?_, ?_, fun y hy => hsl y (by simp [hy])⟩, ?_, hk, ?_⟩
  · rw [Lib.alloc_old _ _ _ (by simp; omega), Lib.alloc_old _ _ _ (by simp; omega)]
    simp [World.setCell, Array.getElem?_modify, HJ.out]
  · rw [groupCells_append] at hown
    exact ownsRow_heap (ownsRow_front hown (groupCells_length G)) fun b hb => by cases hb; exact hk g hgs hgc
  · rfl
  · exact ((((Below.refl B w).setCell hB _).alloc (by simp; omega) _).alloc (by simp; omega) _)
end Go.Proofs.YtfghbfocjjmcmabGreatDoor

/- (*counter).add: all within reach is counted, the rest waits. Condition: at most 2^20 trees. -/
namespace Go.Proofs.YtfghbfocjjmcmabGreatDoor
open Go.ChangeShapes Go.WideShapes Go.ChangeAt Go.RowKit
set_option maxRecDepth 100000

theorem groupInfo : (Tryz.prog.info? 170).map (fun i => (i.zero, i.size, i.bytes)) = some (some (.agg #[.slice none 0 0, .int .i64 0]), 2, 32) := by kernel_rfl

/-- A group appended onto the waiting ones, as a step of a region that draws. -/
theorem step_group {ops : Array Oper} {o : Oper} {a : Act} {w : World} {K : Act → World → Prop} {Q : Exit → Act → World → Prop} {E : Prop}
    (hg : o.guard = none) (s x : Operand) (hop : o.op = Op.call { callee := Callee.builtin Builtin.append, args := #[s, x], argTypes := #[141, 141] })
    (B : Nat) (v : Value) (n : Nat) (xs : List Value) (hs : a.eval s = v) (hown : w.ownsRow B 170 2 v n xs) (ad : Addr) (sa : Option Addr) (sl sc : Nat) (d : Int) (hx : a.eval x = .slice (some ad) 1 1)
    (hnews : ∀ j u, [Value.slice sa sl sc, Value.int .i64 d][j]? = some u → w.cell? (ad.add j) = some u) (hn : n ≤ 1048576) (hB : B ≤ w.heap.size)
    (hK : ∀ v' w', w'.ownsRow B 170 2 v' (n + 1) (xs ++ [.slice sa sl sc, .int .i64 d]) → w.grownBy w' v.ownBlock → (v'.ownBlock = v.ownBlock ∨ v'.ownBlock = some w.heap.size) → K (a.put o.dst v') w') :
    if Region.wanted o (yielded ops a.tmps) = true then Oper.wp Tryz.prog o a w K Q else E := by
  have hw : Region.wanted o (yielded ops a.tmps) = true := by simp [Region.wanted, hg]
  rw [if_pos hw]
  obtain ⟨i0, hi, hz0, hz1, hz2⟩ := info_parts groupInfo
  obtain ⟨v', w', hr, h2, h3, _, h5⟩ := run_append_own_at (P := Tryz.prog) w B 141 o.type 170 i0 _ 2 32 Tryz.underlying141 hi hz0 hz1 hz2 rfl (by decide) v n xs hown ad 1 1 [.slice sa sl sc, .int .i64 d] rfl hnews (by intro u hu; simp at hu; rcases hu with rfl | rfl <;> rfl) (by unfold maxLen; omega) (by omega) hB
  unfold Oper.wp
  simp [execOp, hop, resolve, invoke, builtin, hs, hx, hr, Result.andThen]
  exact hK v' w' h2 h3 h5

structure CE where
  v : Value
  n : Nat
  ts : List Tr
  o : Nat

def csum (P : List CE) : Nat := (P.map fun e => cnt e.n e.ts).sum
def cmax (P : List CE) : Nat := (P.map fun e => e.o + dep e.n e.ts).foldr max 0
def grp (e : CE) : Value × Nat := (e.v, e.o + 1)

theorem csum_append (P Q : List CE) : csum (P ++ Q) = csum P + csum Q := by simp [csum]
theorem cmax_append (P Q : List CE) : cmax (P ++ Q) = max (cmax P) (cmax Q) := by
  induction P with
  | nil => simp [cmax]
  | cons e r ih =>
    have h1 : cmax (e :: r ++ Q) = max (e.o + dep e.n e.ts) (cmax (r ++ Q)) := rfl
    have h2 : cmax (e :: r) = max (e.o + dep e.n e.ts) (cmax r) := rfl
    rw [h1, h2, ih]; omega

def PendC (S : Nat → Prop) (w : World) (e : CE) : Prop := e.ts ≠ [] ∧ Trees S w e.n e.v e.ts ∧ e.o + dep e.n e.ts ≤ 1048577

structure AddP (S : Nat → Prop) (B cb : Nat) (w : World) (ds cs L : Nat) (o : Nat) (ts : List Tr) (dd cc : Nat) (wv : Value) (G : List (Value × Nat)) (w' : World) (P : List CE) (dd' cc' : Nat) (wv' : Value) : Prop where
  below : Below B w w'
  cst : Cst B cb w' dd' cc' wv' (G ++ P.map grp)
  row : wv'.ownBlock = wv.ownBlock ∨ ∃ b, wv'.ownBlock = some b ∧ w.heap.size ≤ b
  frame : ∀ b, b < w.heap.size → b ≠ cb → wv.ownBlock ≠ some b → w'.heap[b]? = w.heap[b]?
  pend : ∀ e ∈ P, PendC S w e
  dmax : max dd' (cmax P) = max dd ds
  csum : cc' + csum P = cc + cs
  more : cc ≤ cc' ∧ (0 < L → cc + ts.length ≤ cc')

def AddOk (S : Nat → Prop) (B cb L : Nat) : Prop := ∀ (n : Nat) (v : Value) (ts : List Tr) (o d dd cc : Nat) (wv : Value) (G : List (Value × Nat)) (w : World),
  d = o + 1 → (∀ b, S b → b < w.heap.size ∧ b ≠ cb ∧ wv.ownBlock ≠ some b) → Trees S w n v ts → Cst B cb w dd cc wv G → B ≤ w.heap.size → o + dep n ts ≤ 1048577 → dd ≤ 1048577 → cc + cnt n ts ≤ 1048576 → G.length + cnt n ts ≤ 1048576 →
  Calls Tryz.prog 146 #[.pointer (some ⟨cb, 0, none⟩), .agg #[v, .int .i64 (d : Int)], .int .i64 (L : Int)] w fun e w' => e = .returned (.tuple #[]) ∧
    ∃ P dd' cc' wv', AddP S B cb w (if ts = [] then 0 else o + dep n ts) (cnt n ts) L o ts dd cc wv G w' P dd' cc' wv'

theorem Cst.later {B cb : Nat} {w w' : World} {dd cc : Nat} {v : Value} {G : List (Value × Nat)} (h : Cst B cb w dd cc v G) (hb : Below w.heap.size w w') : Cst B cb w' dd cc v G :=
  ⟨h.base, by rw [hb.block cb h.lt]; exact h.held, ownsRow_later h.own hb, h.slices⟩

theorem add_nil (S : Nat → Prop) (B cb L n : Nat) (v : Value) (o d dd cc : Nat) (wv : Value) (G : List (Value × Nat)) (w : World) (h : Trees S w n v []) (hc : Cst B cb w dd cc wv G) (hB : B ≤ w.heap.size) :
    Calls Tryz.prog 146 #[.pointer (some ⟨cb, 0, none⟩), .agg #[v, .int .i64 (d : Int)], .int .i64 (L : Int)] w fun e w' => e = .returned (.tuple #[]) ∧
      ∃ P dd' cc' wv', AddP S B cb w 0 (cnt n []) L o [] dd cc wv G w' P dd' cc' wv' := by
  obtain ⟨a, c, rfl, _, _⟩ := Trees.shape n h
  simp only [List.length_nil]
  go_enter Tryz.func146, Tryz.ntmps146
  go_wp2_with fail
  go_returns
  refine ⟨rfl, [], dd, cc, wv, ?_⟩
  refine ⟨(Below.refl B w).alloc hB _, by simpa using hc.later (Below.alloc1 w _), Or.inl rfl, fun b hb _ _ => Below.heap_alloc _ _ _ hb, by simp, by simp [cmax], by simp [Go.Proofs.YtfghbfocjjmcmabGreatDoor.csum, cnt_nil], Nat.le_refl _, fun _ => by simp⟩

theorem group_cells {W : World} {ad : Nat} {x y : Value} (h0 : W.cell? ⟨ad, 0, none⟩ = some x) (h1 : W.cell? ⟨ad, 1, none⟩ = some y) : ∀ j u, [x, y][j]? = some u → W.cell? ((⟨ad, 0, none⟩ : Addr).add j) = some u := by
  intro j u hj
  match j, hj with
  | 0, hj => simp at hj; subst hj; exact h0
  | 1, hj => simp at hj; subst hj; exact h1

theorem row_slice {w : World} {B n : Nat} {e : TypeId} {size : Nat} {v : Value} {xs : List Value} (h : w.ownsRow B e size v n xs) : ∃ a l c, v = .slice a l c := by
  rcases h.2 with ⟨hv, _⟩ | ⟨g, cap, cur, hv, _⟩
  · exact ⟨_, _, _, hv⟩
  · exact ⟨_, _, _, hv⟩

theorem grown_held {B cb : Nat} {W X w1 : World} {dd cc : Nat} {wv : Value} {G : List (Value × Nat)} (h : Cst B cb W dd cc wv G) (hX : Below W.heap.size W X) (hg : X.grownBy w1 wv.ownBlock) :
    w1.heap[cb]? = some (.cells #[.int .i64 (dd : Int), .int .i64 (cc : Int), wv] 143 (0, 0)) := by
  rw [hg.block cb (Nat.lt_of_lt_of_le h.lt hX.size) (fun e => h.apart e.symm), hX.block cb h.lt]
  exact h.held

theorem add_one {S : Nat → Prop} {B cb : Nat} {w W0 w1 : World} {n o d dd cc : Nat} {ts : List Tr} {va wa a1 : Option Addr} {vc wc l1 c1 : Nat} {G : List (Value × Nat)} {c : Obj} (hd : d = o + 1) (hne : ts ≠ [])
    (hT : Trees S w n (.slice va ts.length vc) ts) (hod : o + dep n ts ≤ 1048577) (hBw : B ≤ w.heap.size) (hbx : Below w.heap.size w W0) (hX : Cst B cb W0 dd cc (.slice wa G.length wc) G)
    (hown1 : w1.ownsRow B 170 2 (.slice a1 l1 c1) (G.length + 1) (groupCells G ++ [.slice va ts.length vc, .int .i64 (d : Int)]))
    (hgr1 : (W0.alloc c).drew.grownBy w1 (Value.slice wa G.length wc).ownBlock)
    (hat1 : (Value.slice a1 l1 c1).ownBlock = (Value.slice wa G.length wc).ownBlock ∨ (Value.slice a1 l1 c1).ownBlock = some (W0.alloc c).drew.heap.size) :
    AddP S B cb w (o + dep n ts) (cnt n ts) 0 o ts dd cc (.slice wa G.length wc) G (w1.setCell ⟨cb, 2, none⟩ (.slice a1 l1 c1)) [⟨.slice va ts.length vc, n, ts, o⟩] dd cc (.slice a1 l1 c1) := by
  have hH := grown_held hX (Below.alloc1 W0 c).drew hgr1
  have hsz := hbx.size
  have hsX : (W0.alloc c).drew.heap.size = W0.heap.size + 1 := by simp [World.drew]
  have hap : (Value.slice a1 l1 c1).ownBlock ≠ some cb := by
    intro e
    obtain ⟨_, cs, fz, hc⟩ := ownsRow_type hown1 e
    rw [hH] at hc
    simp at hc
  subst hd
  refine ⟨?_, ⟨hX.base, ?_, ?_, ?_⟩, ?_, ?_, ?_, ?_, ?_, Nat.le_refl _, fun h => by omega⟩
  · exact (((((hbx.mono hBw).alloc (by omega) c).drew).grown hgr1 (by omega) (fun k hk => (hX.own.lt k hk).1))).setCell hX.base _
  · simp [World.setCell, Array.getElem?_modify, hH]
  · have e1 : (G ++ List.map grp [(⟨.slice va ts.length vc, n, ts, o⟩ : CE)]).length = G.length + 1 := by simp
    rw [e1, groupCells_append]
    exact ownsRow_heap hown1 fun b hb => Below.heap_setCell _ _ _ _ (fun e => hap (by rw [hb, e]))
  · intro x hx
    rcases List.mem_append.1 hx with hx | hx
    · exact hX.slices x hx
    · simp [grp] at hx; subst hx; exact ⟨_, _, _, rfl⟩
  · rcases hat1 with h | h
    · exact Or.inl h
    · exact Or.inr ⟨_, h, by omega⟩
  · intro b hb h1 h2
    rw [Below.heap_setCell _ _ _ _ h1, hgr1.block b (by omega) (fun e => h2 e.symm)]
    show (W0.alloc c).heap[b]? = _
    rw [Lib.alloc_old _ _ _ (by omega), hbx.block b hb]
  · intro e he
    simp at he
    subst he
    exact ⟨hne, hT, hod⟩
  · simp [cmax]
  · simp [Go.Proofs.YtfghbfocjjmcmabGreatDoor.csum]

theorem add_zero (S : Nat → Prop) (B cb : Nat) : AddOk S B cb 0 := by
  intro n v ts o d dd cc wv G w hd _ hT hC hBw hod hdd hcc hG
  have HD : Hid (d = o + 1) := hd
  by_cases hne : ts = []
  · subst hne
    simpa using add_nil S B cb 0 n v o d dd cc wv G w hT hC hBw
  · have hTo : Hid (Trees S w n v ts) := hT
    obtain ⟨va, vc, rfl, _, hvm⟩ := Trees.shape n hT
    have hl0 : 0 < ts.length := List.length_pos_iff.2 hne
    have hcn : 1 ≤ cnt n ts := by
      have := (Trees.deep n hT).len
      omega
    have hlt := hC.lt
    have hap := hC.apart
    have hne1 : ((ts.length : Int) == 0) = false := by
      have : (ts.length : Int) ≠ 0 := by omega
      simpa using this
    have hbx := Below.alloc1 w (.cells #[.slice va ts.length vc, .int .i64 (d : Int)] 170)
    have hX := hC.later hbx
    have b0 : (w.alloc (.cells #[.slice va ts.length vc, .int .i64 (d : Int)] 170)).cell? ⟨w.heap.size, 0, none⟩ = some (.slice va ts.length vc) := by simp
    have b1 : (w.alloc (.cells #[.slice va ts.length vc, .int .i64 (d : Int)] 170)).cell? ⟨w.heap.size, 1, none⟩ = some (.int .i64 (d : Int)) := by simp
    have hsz : (w.alloc (.cells #[.slice va ts.length vc, .int .i64 (d : Int)] 170)).heap.size = w.heap.size + 1 := by simp
    have HO : Hid (o + dep n ts ≤ 1048577) := hod
    clear hT hd hod hcc hdd
    unfold maxLen at hvm
    go_enter Tryz.func146, Tryz.ntmps146
    go_wp2_with fail
    generalize w.alloc (.cells #[.slice va ts.length vc, .int .i64 (d : Int)] 170) = W0 at hbx hX b0 b1 hsz ⊢
    obtain ⟨wa, wc, rfl⟩ := hC.shape
    have HS : Hid (W0.heap.size = w.heap.size + 1) := hsz
    have hB0 : B ≤ W0.heap.size := by omega
    have hszl : w.heap.size < W0.heap.size := by omega
    clear hsz
    have k2 : W0.cell? ⟨cb, 2, none⟩ = some (.slice wa G.length wc) := by rw [Lib.cell_of_heap hX.held]; rfl
    have kf : W0.frozen? ⟨cb, 2, none⟩ = false := Lib.frozen_of_heap hX.held 2
    have hcb0 : cb < W0.heap.size := hX.lt
    have HX : Hid (Cst B cb W0 dd cc (.slice wa G.length wc) G) := hX
    clear hX hC
    have hrow : (W0.alloc (.cells #[.slice va ts.length vc, .int .i64 (d : Int)] 170)).drew.ownsRow B 170 2 (.slice wa G.length wc) G.length (groupCells G) := HX.out.own.alloc _
    have hgc : ∀ j u, [Value.slice va ts.length vc, Value.int .i64 (d : Int)][j]? = some u → (W0.alloc (.cells #[.slice va ts.length vc, .int .i64 (d : Int)] 170)).drew.cell? ((⟨W0.heap.size, 0, none⟩ : Addr).add j) = some u := group_cells (W := (W0.alloc (.cells #[.slice va ts.length vc, .int .i64 (d : Int)] 170)).drew) (by simp) (by simp)
    have HR : Hid _ := hrow
    have HGC : Hid _ := hgc
    clear hrow hgc
    have hGl : G.length ≤ 1048576 := by omega
    have HH : Hid (∀ w1, (W0.alloc (.cells #[.slice va ts.length vc, .int .i64 (d : Int)] 170)).drew.grownBy w1 (Value.slice wa G.length wc).ownBlock → w1.heap[cb]? = some (.cells #[.int .i64 (dd : Int), .int .i64 (cc : Int), .slice wa G.length wc] 143 (0, 0))) := fun w1 hg => grown_held HX.out (Below.alloc1 W0 _).drew hg
    go_region_law (first
      | (refine step_group (by rfl) (.tmp 17) (.tmp 19) (by rfl) B (.slice wa G.length wc) G.length (groupCells G) (by simp [Act.eval]) HR.out ⟨W0.heap.size, 0, none⟩ va ts.length vc (d : Int) (by simp [Act.eval]) HGC.out hGl (by simp; omega) ?_; intro v1 w1 hown1 hgr1 hat1; obtain ⟨a1, l1, c1, rfl⟩ := row_slice hown1; have hj1 := Lib.cell_of_heap (HH.out w1 hgr1) 2; have hf1 := Lib.frozen_of_heap (HH.out w1 hgr1) 2; simp at hj1))
    all_goals
      go_wp2_with fail
      go_returns
      exact ⟨rfl, _, _, _, _, add_one HD.out hne hTo.out HO.out hBw hbx HX.out hown1 hgr1 hat1⟩
end Go.Proofs.YtfghbfocjjmcmabGreatDoor

/- (*counter).add at some levels. Condition: at most 2^20 trees. -/
namespace Go.Proofs.YtfghbfocjjmcmabGreatDoor
open Go.ChangeShapes Go.WideShapes Go.ChangeAt Go.RowKit
set_option maxRecDepth 100000

attribute [local go_sem] cell_set

/-- The loop's state ahead of round k. -/
structure LoopC (S : Nat → Prop) (B cb : Nat) (w : World) (m o k : Nat) (ts : List Tr) (bx by_ : Value) (dd cc : Nat) (wv : Value) (G : List (Value × Nat)) (w' : World) (P : List CE) (dd' cc' : Nat) (wv' : Value) : Prop where
  below : Below B w w'
  cst : Cst B cb w' dd' cc' wv' (G ++ P.map grp)
  row : wv'.ownBlock = wv.ownBlock ∨ ∃ b, wv'.ownBlock = some b ∧ w.heap.size + 1 ≤ b
  frame : ∀ b, b < w.heap.size → b ≠ cb → wv.ownBlock ≠ some b → w'.heap[b]? = w.heap[b]?
  box0 : w'.cell? ⟨w.heap.size, 0, none⟩ = some bx
  box1 : w'.cell? ⟨w.heap.size, 1, none⟩ = some by_
  size : w.heap.size + 1 ≤ w'.heap.size
  pend : ∀ e ∈ P, PendC S w e
  dmax : max dd' (cmax P) = max dd (max (o + 1) (o + dep (m + 1) (ts.take k)))
  csum : cc' + csum P = cc + ts.length + cnt m (nx (ts.take k))
  more : cc + ts.length ≤ cc'

theorem csum_len {S : Nat → Prop} {w : World} {P : List CE} (h : ∀ e ∈ P, PendC S w e) : P.length ≤ csum P := by
  induction P with
  | nil => simp
  | cons e r ih =>
    have h1 := ih (fun x hx => h x (List.mem_cons_of_mem _ hx))
    obtain ⟨h2, h3, _⟩ := h e List.mem_cons_self
    have h4 := (Trees.deep e.n h3).len
    have h5 := List.length_pos_iff.2 h2
    have h6 : csum (e :: r) = cnt e.n e.ts + csum r := by simp [csum]
    simp only [List.length_cons]; omega

theorem loopC_step {S : Nat → Prop} {B cb : Nat} {w : World} {m o k L : Nat} {ts : List Tr} {bx by_ : Value} {dd cc : Nat} {wv : Value} {G : List (Value × Nat)} {wr w3 : World} {P P1 : List CE} {dd' cc' dd3 cc3 : Nat} {wv' wv3 : Value} {t : Tr}
    (hS : ∀ b, S b → wr.heap[b]? = w.heap[b]?) (I : LoopC S B cb w m o k ts bx by_ dd cc wv G wr P dd' cc' wv') (hwv : ∀ b, wv.ownBlock = some b → b < w.heap.size) (hcb : cb < w.heap.size) (hsn : ts.take (k + 1) = ts.take k ++ [t])
    (J : AddP S B cb wr (if t.kids = [] then 0 else o + 1 + dep m t.kids) (cnt m t.kids) L (o + 1) t.kids dd' cc' wv' (G ++ P.map grp) w3 P1 dd3 cc3 wv3) :
    LoopC S B cb w m o (k + 1) ts bx by_ dd cc wv G w3 (P ++ P1) dd3 cc3 wv3 := by
  have hsz3 := J.below.size
  have hszr := I.size
  have hrow : ∀ b, b < w.heap.size + 1 → wv.ownBlock ≠ some b → wv'.ownBlock ≠ some b := by
    intro b hb h1 h2
    rcases I.row with h | ⟨b', h, h3⟩
    · exact h1 (h.symm.trans h2)
    · rw [h] at h2; cases h2; omega
  have hbox : w3.heap[w.heap.size]? = wr.heap[w.heap.size]? := J.frame _ (by omega) (by omega) (hrow _ (by omega) (fun e => by have := hwv _ e; omega))
  refine ⟨I.below.trans J.below, ?_, ?_, ?_, ?_, ?_, by omega, ?_, ?_, ?_, ?_⟩
  · have := J.cst; simpa using this
  · rcases J.row with h | ⟨b, h, h1⟩
    · rw [h]; exact I.row
    · exact Or.inr ⟨b, h, by omega⟩
  · intro b hb h1 h2
    rw [J.frame b (by omega) h1 (hrow b (by omega) h2), I.frame b hb h1 h2]
  · rw [World.cell?_of_block (a := ⟨w.heap.size, 0, none⟩) hbox]; exact I.box0
  · rw [World.cell?_of_block (a := ⟨w.heap.size, 1, none⟩) hbox]; exact I.box1
  · intro e he
    rcases List.mem_append.1 he with he | he
    · exact I.pend e he
    · obtain ⟨h1, h2, h3⟩ := J.pend e he
      exact ⟨h1, Trees.carry (fun b hb => ⟨hb, (hS b hb).symm⟩) e.n h2, h3⟩
  · rw [cmax_append, hsn, dep_append, dep_cons, dep_nil]
    have h1 := J.dmax
    have h2 := I.dmax
    by_cases hk : t.kids = []
    · rw [if_pos hk] at h1
      rw [hk, dep_nil]
      omega
    · rw [if_neg hk] at h1
      omega
  · rw [csum_append, hsn, nx_append, nx_cons, nx_nil, List.append_nil, cnt_append]
    have h1 := J.csum
    have h2 := I.csum
    omega
  · have := J.more.1; have := I.more; omega

theorem loopC_start {S : Nat → Prop} {B cb : Nat} {w W0 : World} {m o d : Nat} {ts : List Tr} {bx by_ : Value} {dd cc : Nat} {wv : Value} {G : List (Value × Nat)} (hd : d = o + 1) (hBw : B ≤ w.heap.size) (hcb : cb < w.heap.size) (hsz : W0.heap.size = w.heap.size + 1) (hbx : Below w.heap.size w W0) (hX : Cst B cb W0 dd cc wv G)
    (b0 : W0.cell? ⟨w.heap.size, 0, none⟩ = some bx) (b1 : W0.cell? ⟨w.heap.size, 1, none⟩ = some by_) :
    LoopC S B cb w m o 0 ts bx by_ dd cc wv G ((W0.setCell ⟨cb, 0, none⟩ (.int .i64 (max (dd : Int) (d : Int)))).setCell ⟨cb, 1, none⟩ (.int .i64 ((cc : Int) + (ts.length : Int)))).drew.drew [] (max dd d) (cc + ts.length) wv := by
  have hk : ∀ b, b ≠ cb → ((W0.setCell ⟨cb, 0, none⟩ (.int .i64 (max (dd : Int) (d : Int)))).setCell ⟨cb, 1, none⟩ (.int .i64 ((cc : Int) + (ts.length : Int)))).drew.drew.heap[b]? = W0.heap[b]? := by
    intro b hb
    show ((W0.setCell ⟨cb, 0, none⟩ (.int .i64 (max (dd : Int) (d : Int)))).setCell ⟨cb, 1, none⟩ (.int .i64 ((cc : Int) + (ts.length : Int)))).heap[b]? = _
    rw [Below.heap_setCell _ _ _ _ hb, Below.heap_setCell _ _ _ _ hb]
  subst hd
  refine ⟨((((hbx.mono hBw).setCell hX.base _).setCell hX.base _).drew).drew, ⟨hX.base, ?_, ?_, ?_⟩, Or.inl rfl, ?_, ?_, ?_, ?_, by simp, ?_, ?_, Nat.le_refl _⟩
  · show ((W0.setCell ⟨cb, 0, none⟩ _).setCell ⟨cb, 1, none⟩ _).heap[cb]? = _
    have e1 : (((max dd (o + 1) : Nat)) : Int) = max (dd : Int) ((o + 1 : Nat) : Int) := by omega
    have e2 : (((cc + ts.length : Nat)) : Int) = (cc : Int) + (ts.length : Int) := by omega
    rw [e1, e2]
    simp [World.setCell, Array.getElem?_modify, hX.held]
  · simp only [List.map_nil, List.append_nil]
    exact ownsRow_heap hX.own fun b hb => hk b (fun e => hX.apart (by rw [hb, e]))
  · simp only [List.map_nil, List.append_nil]
    exact hX.slices
  · intro b hb h1 _
    rw [hk b h1, hbx.block b hb]
  · rw [World.cell?_of_block (a := ⟨w.heap.size, 0, none⟩) (hk w.heap.size (by omega))]; exact b0
  · rw [World.cell?_of_block (a := ⟨w.heap.size, 1, none⟩) (hk w.heap.size (by omega))]; exact b1
  · show w.heap.size + 1 ≤ ((W0.setCell ⟨cb, 0, none⟩ _).setCell ⟨cb, 1, none⟩ _).heap.size
    simp; omega
  · simp [cmax, dep_nil]
  · simp [Go.Proofs.YtfghbfocjjmcmabGreatDoor.csum, nx_nil, cnt_nil]

theorem loopC_stop {S : Nat → Prop} {B cb : Nat} {w : World} {m o L : Nat} {ts : List Tr} {bx by_ : Value} {dd cc : Nat} {wv : Value} {G : List (Value × Nat)} {wr : World} {P : List CE} {dd' cc' : Nat} {wv' : Value}
    (hne : ts ≠ []) (I : LoopC S B cb w m o ts.length ts bx by_ dd cc wv G wr P dd' cc' wv') : AddP S B cb w (o + dep (m + 1) ts) (cnt (m + 1) ts) L o ts dd cc wv G wr P dd' cc' wv' := by
  refine ⟨I.below, I.cst, ?_, I.frame, I.pend, ?_, ?_, ?_, fun _ => I.more⟩
  · rcases I.row with h | ⟨b, h, h1⟩
    · exact Or.inl h
    · exact Or.inr ⟨b, h, by omega⟩
  · have h := I.dmax
    rw [List.take_length] at h
    rw [h, dep_nx m ts hne]; omega
  · have h := I.csum
    rw [List.take_length] at h
    rw [h, cnt_nx m ts]; omega
  · have := I.more; omega

theorem AddP.undrew {S : Nat → Prop} {B cb : Nat} {w : World} {ds cs L o : Nat} {ts : List Tr} {dd cc : Nat} {wv : Value} {G : List (Value × Nat)} {w' : World} {P : List CE} {dd' cc' : Nat} {wv' : Value}
    (h : AddP S B cb w.drew ds cs L o ts dd cc wv G w' P dd' cc' wv') : AddP S B cb w ds cs L o ts dd cc wv G w' P dd' cc' wv' :=
  ⟨(Below.refl B w).drew.trans h.below, h.cst, h.row, h.frame, fun e he => by
    obtain ⟨h1, h2, h3⟩ := h.pend e he
    exact ⟨h1, Trees.carry (w := w.drew) (w' := w) (fun b hb => ⟨hb, rfl⟩) e.n h2, h3⟩, h.dmax, h.csum, h.more⟩

theorem add_succ (S : Nat → Prop) (B cb : Nat) (L : Nat) (hL : L < 1000) (ih : AddOk S B cb L) : AddOk S B cb (L + 1) := by
  intro n v ts o d dd cc wv G w hd hS0 hT hC hBw hod hdd hcc hG
  have HS0 : Hid (∀ b, S b → b < w.heap.size ∧ b ≠ cb ∧ wv.ownBlock ≠ some b) := hS0
  clear hS0
  have HD : Hid (d = o + 1) := hd
  by_cases hne : ts = []
  · subst hne
    simpa using add_nil S B cb (L + 1) n v o d dd cc wv G w hT hC hBw
  · have hTo : Hid (Trees S w n v ts) := hT
    obtain ⟨va, vc, rfl, _, hvm⟩ := Trees.shape n hT
    have hl0 : 0 < ts.length := List.length_pos_iff.2 hne
    have hcn := (Trees.deep n hT).len
    have hlt := hC.lt
    have hap := hC.apart
    have hne1 : ((ts.length : Int) == 0) = false := by
      have : (ts.length : Int) ≠ 0 := by omega
      simpa using this
    have hne2 : ((((L + 1 : Nat) : Int)) == 0) = false := by
      have : (((L + 1 : Nat) : Int)) ≠ 0 := by omega
      simpa using this
    obtain ⟨M, hM⟩ : ∃ M, L + 1 = M := ⟨_, rfl⟩
    rw [hM] at hne2 ⊢
    have hbx := Below.alloc1 w (.cells #[.slice va ts.length vc, .int .i64 (d : Int)] 170)
    have hX := hC.later hbx
    have b0 : (w.alloc (.cells #[.slice va ts.length vc, .int .i64 (d : Int)] 170)).cell? ⟨w.heap.size, 0, none⟩ = some (.slice va ts.length vc) := by simp
    have b1 : (w.alloc (.cells #[.slice va ts.length vc, .int .i64 (d : Int)] 170)).cell? ⟨w.heap.size, 1, none⟩ = some (.int .i64 (d : Int)) := by simp
    have hsz : (w.alloc (.cells #[.slice va ts.length vc, .int .i64 (d : Int)] 170)).heap.size = w.heap.size + 1 := by simp
    have HO : Hid (o + dep n ts ≤ 1048577) := hod
    have HIH : Hid (AddOk S B cb L) := ih
    have HM : Hid (L + 1 = M) := hM
    clear hT hd ih hM
    unfold maxLen at hvm
    go_enter Tryz.func146, Tryz.ntmps146
    go_wp2_with fail
    generalize w.alloc (.cells #[.slice va ts.length vc, .int .i64 (d : Int)] 170) = W0 at hbx hX b0 b1 hsz ⊢
    have HS : Hid (W0.heap.size = w.heap.size + 1) := hsz
    have hB0 : B ≤ W0.heap.size := by omega
    have hszl : w.heap.size < W0.heap.size := by omega
    have hcw : cb ≠ w.heap.size := by omega
    clear hsz
    have k0 : W0.cell? ⟨cb, 0, none⟩ = some (.int .i64 (dd : Int)) := by rw [Lib.cell_of_heap hX.held]; rfl
    have k1 : W0.cell? ⟨cb, 1, none⟩ = some (.int .i64 (cc : Int)) := by rw [Lib.cell_of_heap hX.held]; rfl
    have kf0 : W0.frozen? ⟨cb, 0, none⟩ = false := Lib.frozen_of_heap hX.held 0
    have kf1 : W0.frozen? ⟨cb, 1, none⟩ = false := Lib.frozen_of_heap hX.held 1
    have HX : Hid (Cst B cb W0 dd cc wv G) := hX
    have HWV : Hid (∀ b, wv.ownBlock = some b → b < w.heap.size) := fun b hb => (hC.own.lt b hb).2
    clear hX hC
    go_region
    go_wp2_with fail
    go_region
    go_wp2_with fail
    cases n with
    | zero => exact absurd hTo.out.1 hne
    | succ m =>
    have hwv : ∀ b, wv.ownBlock = some b → b < w.heap.size := fun b hb => HWV.out b hb
    have HW : Hid (∀ b, wv.ownBlock = some b → b < w.heap.size) := hwv
    clear hwv
    go_loopg [46] ts.length (fun g i wr => ∃ (k : Nat) (P : List CE) (dd' cc' : Nat) (wv' : Value), k + g = ts.length ∧ i = .int .i64 k ∧ LoopC S B cb w m o k ts (.slice va ts.length vc) (.int .i64 (d : Int)) dd cc wv G wr P dd' cc' wv')
    case atStart => exact ⟨0, [], _, _, _, by omega, rfl, loopC_start HD.out hBw hlt HS.out hbx HX.out b0 b1⟩
    case round =>
      obtain ⟨k, P, dd', cc', wv', hk, rfl, I⟩ := hrel
      have HI : Hid (LoopC S B cb w m o k ts (.slice va ts.length vc) (.int .i64 (d : Int)) dd cc wv G wr P dd' cc' wv') := I
      have x0 := I.box0
      have x1 := I.box1
      have hBr := I.below
      have hsr := I.size
      clear I b0 b1 k0 k1 kf0 kf1 HX hbx hcw hB0 hszl HS
      by_cases hlt' : k < ts.length
      · obtain ⟨_, _, hve, _, _, h4⟩ := hTo.out
        obtain ⟨b, o', hao, hs, hcc'⟩ := h4 hne
        injection hve with e1 e2 e3
        subst e1
        subst hao
        obtain ⟨t, ht⟩ : ∃ t, ts[k]? = some t := ⟨ts[k], by simp [hlt']⟩
        obtain ⟨xa, xk, c0, c1, c2, c3, hat, hkt⟩ := hcc' k t ht
        obtain ⟨ka, kc, rfl, _, hkm⟩ := Trees.shape m hkt
        have hkeep : ∀ b, S b → wr.heap[b]? = w.heap[b]? := fun b hb => HI.out.frame b (HS0.out b hb).1 (HS0.out b hb).2.1 (HS0.out b hb).2.2
        have HKEEP : Hid (∀ b, S b → wr.heap[b]? = w.heap[b]?) := hkeep
        rw [← World.cell?_of_block (a := ⟨b, o' + k * 4 + 3, none⟩) (hkeep b hs)] at c3
        have hsn : ts.take (k + 1) = ts.take k ++ [t] := by
          rw [List.take_succ_eq_append_getElem hlt']; congr 2; simpa [hlt'] using ht
        have HSN : Hid (ts.take (k + 1) = ts.take k ++ [t]) := hsn
        have hkT : Trees S wr m (.slice ka t.kids.length kc) t.kids := Trees.carry (fun b hb => ⟨hb, hkeep b hb⟩) m hkt
        have HKT : Hid (Trees S wr m (.slice ka t.kids.length kc) t.kids) := hkT
        have hkids : dep m t.kids + 1 ≤ dep (m + 1) ts ∧ cnt m (nx (ts.take (k + 1))) ≤ cnt m (nx ts) ∧ dep (m + 1) (ts.take k) ≤ dep (m + 1) ts := by
          refine ⟨?_, ?_, ?_⟩
          · obtain ⟨a, b, e⟩ := List.append_of_mem (List.mem_of_getElem? ht)
            rw [e, dep_append, dep_cons]; omega
          · have e : nx ts = nx (ts.take (k + 1)) ++ nx (ts.drop (k + 1)) := by rw [← nx_append, List.take_append_drop]
            rw [e, cnt_append]; omega
          · have e : dep (m + 1) ts = max (dep (m + 1) (ts.take k)) (dep (m + 1) (ts.drop k)) := by rw [← dep_append, List.take_append_drop]
            omega
        have HCALL : Hid (Calls Tryz.prog 146 #[.pointer (some ⟨cb, 0, none⟩), .agg #[.slice ka t.kids.length kc, .int .i64 ((d : Int) + 1)], .int .i64 ((M : Int) - 1)] wr.drew fun e w' => ∃ r, e = .returned r ∧ (r = .tuple #[] ∧ ∃ P1 dd3 cc3 wv3, AddP S B cb wr (if t.kids = [] then 0 else o + 1 + dep m t.kids) (cnt m t.kids) L (o + 1) t.kids dd' cc' wv' (G ++ P.map grp) w' P1 dd3 cc3 wv3)) := by
          have I := HI.out
          have h1 := I.dmax
          have h2 := I.csum
          have h3 := csum_len I.pend
          have h4 := I.more
          have h5 := cnt_nx m ts
          obtain ⟨h6, h7, h8⟩ := hkids
          rw [hsn, nx_append, nx_cons, nx_nil, List.append_nil, cnt_append] at h7
          have hd := HD.out
          have hfree : ∀ b, S b → b < wr.drew.heap.size ∧ b ≠ cb ∧ wv'.ownBlock ≠ some b := by
            intro b hb
            obtain ⟨q1, q2, q3⟩ := HS0.out b hb
            refine ⟨Nat.lt_of_lt_of_le q1 (Nat.le_trans (Nat.le_succ _) I.size), q2, fun h => ?_⟩
            rcases I.row with h' | ⟨b', h', h''⟩
            · exact q3 (h'.symm.trans h)
            · rw [h'] at h; cases h; omega
          have hcst : Cst B cb wr.drew dd' cc' wv' (G ++ P.map grp) := ⟨I.cst.base, I.cst.held, I.cst.own, I.cst.slices⟩
          have hTd : Trees S wr.drew m (.slice ka t.kids.length kc) t.kids := Trees.carry (w := wr) (w' := wr.drew) (fun b hb => ⟨hb, rfl⟩) m HKT.out
          have := HIH.out m (.slice ka t.kids.length kc) t.kids (o + 1) (d + 1) dd' cc' wv' (G ++ P.map grp) wr.drew (by omega) hfree hTd hcst (by show B ≤ wr.heap.size; omega) (by omega) (by omega) (by omega) (by rw [List.length_append, List.length_map]; omega)
          have e1 : ((d + 1 : Nat) : Int) = (d : Int) + 1 := by omega
          have e2 : (L : Int) = (M : Int) - 1 := by have := HM.out; omega
          rw [e1, e2] at this
          refine this.mono ?_
          rintro e w' ⟨rfl, P1, dd3, cc3, wv3, J⟩
          exact ⟨_, rfl, rfl, P1, dd3, cc3, wv3, J.undrew⟩
        have hkb : (k : Int) < (ts.length : Int) := by omega
        have hdb : d ≤ 1048578 := by have := HD.out; omega
        have hMb : 1 ≤ M ∧ M ≤ 1000 := by have := HM.out; omega
        clear c0 c1 c2 hat hkt hkT hcc' h4 e2 e3 ht hsn hs hkids hkeep
        go_wp2_with fail
        go_region_law (first
          | (refine step_enter (by rfl) 146 #[.pointer (some ⟨cb, 0, none⟩), .agg #[.slice ka t.kids.length kc, .int .i64 ((d : Int) + 1)], .int .i64 ((M : Int) - 1)] (by go_simp; exact ⟨IntWalk.i64_in _ (by omega), IntWalk.i64_in _ (by omega)⟩) _ HCALL.out ?_; intro r w3 hR; obtain ⟨hr, P1, dd3, cc3, wv3, J⟩ := hR))
        all_goals
          go_wp2_with fail
          go_roundg (ts.length - (k + 1))
          case measure => omega
          case rel => exact ⟨k + 1, _, _, _, _, by omega, by go_num, loopC_step HKEEP.out HI.out HW.out hlt HSN.out J⟩
      · have hkk : k = ts.length := by omega
        subst hkk
        go_wp2_with fail
        go_returns
        exact ⟨rfl, _, _, _, _, loopC_stop hne HI.out⟩
end Go.Proofs.YtfghbfocjjmcmabGreatDoor

/- tree.Size, for every tree: as deep and as many as the document's. Condition: at most 2^20 trees. -/
namespace Go.Proofs.YtfghbfocjjmcmabGreatDoor
open Go.ChangeShapes Go.WideShapes Go.ChangeAt Go.RowKit
set_option maxRecDepth 100000

attribute [local go_sem] cell_set

theorem add_any (S : Nat → Prop) (B cb : Nat) : ∀ L, L ≤ 1000 → AddOk S B cb L := by
  intro L
  induction L with
  | zero => intro _; exact add_zero S B cb
  | succ L ih => intro h; exact add_succ S B cb L (by omega) (ih (by omega))

structure CntI (S : Nat → Prop) (B cb : Nat) (w : World) (D C : Nat) (w' : World) (P : List CE) (dd cc : Nat) (wv : Value) : Prop where
  below : Below B w w'
  cst : Cst B cb w' dd cc wv (P.map grp)
  keep : ∀ b, S b → w'.heap[b]? = w.heap[b]?
  free : ∀ b, S b → wv.ownBlock ≠ some b
  pend : ∀ e ∈ P, PendC S w e
  dmax : max dd (cmax P) = D
  csum : cc + csum P = C

theorem cnt_start {S : Nat → Prop} {B cb n : Nat} {va : Option Addr} {vc : Nat} {ts : List Tr} {w : World} (hS : ∀ b, S b → b < w.heap.size ∧ b ≠ cb) (hne : ts ≠ []) (hT : Trees S w n (.slice va ts.length vc) ts) (hD : dep n ts ≤ 1048577) (hC : Cst B cb w 0 0 (.slice none 0 0) []) (hBw : B ≤ w.heap.size) :
    CntI S B cb w (dep n ts) (cnt n ts) ((w.setCell ⟨cb, 2, none⟩ (.slice (some ⟨w.heap.size, 0, none⟩) 1 1)).alloc (.cells #[.slice va ts.length vc, .int .i64 1] 170)) [⟨.slice va ts.length vc, n, ts, 0⟩] 0 0 (.slice (some ⟨w.heap.size, 0, none⟩) 1 1) := by
  have hlt := hC.lt
  refine ⟨((Below.refl B w).setCell hC.base _).alloc (by simp; omega) _, ⟨hC.base, ?_, ?_, ?_⟩, ?_, ?_, ?_, ?_, ?_⟩
  · rw [Lib.alloc_old _ _ _ (by simp; omega)]
    simp [World.setCell, Array.getElem?_modify, hC.held]
  · have := World.ownsRow_lit (base := B) (e := 170) (size := 2) (w.setCell ⟨cb, 2, none⟩ (.slice (some ⟨w.heap.size, 0, none⟩) 1 1)) #[.slice va ts.length vc, .int .i64 1] 1 (by simp; omega) (by unfold maxLen; omega) rfl
    simpa [grp, groupCells] using this
  · intro x hx
    simp [grp] at hx
    subst hx
    exact ⟨_, _, _, rfl⟩
  · intro b hb
    rw [Lib.alloc_old _ _ _ (by simp; exact (hS b hb).1), Below.heap_setCell _ _ _ _ (hS b hb).2]
  · intro b hb h
    cases h
    exact Nat.lt_irrefl _ (hS _ hb).1
  · intro e he
    simp at he
    subst he
    exact ⟨hne, hT, by simpa using hD⟩
  · simp [cmax]
  · simp [Go.Proofs.YtfghbfocjjmcmabGreatDoor.csum]

theorem countAll_any (S : Nat → Prop) (B cb n : Nat) (v : Value) (ts : List Tr) (w : World) (hS : ∀ b, S b → b < w.heap.size ∧ b ≠ cb) (hne : ts ≠ []) (hT : Trees S w n v ts) (hC : Cst B cb w 0 0 (.slice none 0 0) []) (hBw : B ≤ w.heap.size) (hcnt : cnt n ts ≤ 1048576) :
    Calls Tryz.prog 117 #[.pointer (some ⟨cb, 0, none⟩), v] w fun e w' => e = .returned (.tuple #[]) ∧ ∃ wv, Cst B cb w' (dep n ts) (cnt n ts) wv [] ∧ Below B w w' := by
  obtain ⟨va, vc, rfl, _, hvm⟩ := Trees.shape n hT
  have hDC := dep_cnt n ts
  have hlt := hC.lt
  have c2 : w.cell? ⟨cb, 2, none⟩ = some (.slice none 0 0) := by rw [Lib.cell_of_heap hC.held]; rfl
  have f2 : w.frozen? ⟨cb, 2, none⟩ = false := Lib.frozen_of_heap hC.held 2
  have HC : Hid (Cst B cb w 0 0 (.slice none 0 0) []) := hC
  have HT : Hid (Trees S w n (.slice va ts.length vc) ts) := hT
  clear hC hT
  go_enter Tryz.func117, Tryz.ntmps117
  go_wp2_with fail
  go_loopg [] (cnt n ts) (fun g wr => ∃ P dd cc wv, csum P = g ∧ CntI S B cb w (dep n ts) (cnt n ts) wr P dd cc wv)
  case atStart => exact ⟨_, _, _, _, by simp [csum], cnt_start hS hne HT.out (by omega) HC.out hBw⟩
  case round =>
    obtain ⟨P, dd, cc, wv, hm, I⟩ := hrel
    subst hm
    obtain ⟨wa, wc, rfl⟩ := I.cst.shape
    rw [List.length_map] at I
    have d2 : wr.cell? ⟨cb, 2, none⟩ = some (.slice wa P.length wc) := by rw [Lib.cell_of_heap I.cst.held]; rfl
    have HI : Hid (CntI S B cb w (dep n ts) (cnt n ts) wr P dd cc (.slice wa P.length wc)) := I
    clear I
    rcases List.eq_nil_or_concat P with rfl | ⟨P0, e, hPe⟩
    · simp only [List.length_nil] at d2
      go_wp2_with fail
      go_returns
      have I := HI.out
      have h1 := I.dmax
      have h2 := I.csum
      have h3 : cmax [] = 0 := rfl
      have h4 : csum [] = 0 := rfl
      rw [h3] at h1
      rw [h4] at h2
      have e1 : dd = dep n ts := by omega
      have e2 : cc = cnt n ts := by omega
      have hc := I.cst
      rw [e1, e2] at hc
      exact ⟨rfl, _, hc, I.below⟩
    · rw [List.concat_eq_append] at hPe
      subst hPe
      have hl : (P0 ++ [e]).length = P0.length + 1 := by simp
      rw [hl] at d2
      have hcs : Cst B cb wr dd cc (.slice wa (P0 ++ [e]).length wc) (P0.map grp ++ [(e.v, e.o + 1)]) := by
        have := HI.out.cst
        rw [List.map_append, List.map_cons, List.map_nil] at this
        exact this
      have hszr : B ≤ wr.heap.size := Nat.le_trans hBw HI.out.below.size
      have HCS : Hid _ := hcs
      clear hcs
      go_wp2_with fail
      refine (takeG_any B cb wr dd cc _ (P0.map grp) e.v (e.o + 1) HCS.out hszr).mono ?_
      rintro e' w1 ⟨rfl, v1, hc1, hv1, hk1, hb1⟩
      have hB1 : Below B w w1 := HI.out.below.trans hb1
      obtain ⟨hp1, hp2, hp3⟩ := HI.out.pend e (by simp)
      have hwr := HI.out.below.size
      have hw1 := hb1.size
      have hkp : ∀ b, S b → w1.heap[b]? = w.heap[b]? := fun b hb => (hk1 b (by have := (hS b hb).1; omega) (hS b hb).2).trans (HI.out.keep b hb)
      have HKP : Hid (∀ b, S b → w1.heap[b]? = w.heap[b]?) := hkp
      have hfr : ∀ b, S b → b < w1.heap.size ∧ b ≠ cb ∧ v1.ownBlock ≠ some b := fun b hb => ⟨by have := (hS b hb).1; omega, (hS b hb).2, by rw [hv1]; exact HI.out.free b hb⟩
      have HFR : Hid (∀ b, S b → b < w1.heap.size ∧ b ≠ cb ∧ v1.ownBlock ≠ some b) := hfr
      have hTe : Trees S w1 e.n e.v e.ts := Trees.carry (fun b hb => ⟨hb, hkp b hb⟩) e.n hp2
      have h1 := HI.out.dmax
      have h2 := HI.out.csum
      have h3 : csum (P0 ++ [e]) = csum P0 + cnt e.n e.ts := by rw [csum_append]; simp [csum]
      have h4 : cmax (P0 ++ [e]) = max (cmax P0) (e.o + dep e.n e.ts) := by rw [cmax_append]; simp [cmax]
      have h5 := csum_len (P := P0) (fun x hx => HI.out.pend x (by simp [hx]))
      rw [h3] at h2
      rw [h4] at h1
      have hcall := add_any S B cb 1000 (Nat.le_refl _) e.n e.v e.ts e.o (e.o + 1) dd cc v1 (P0.map grp) w1 rfl hfr hTe hc1 (by have := hb1.size; omega) hp3 (by omega) (by omega) (by rw [List.length_map]; omega)
      have e1 : ((e.o + 1 : Nat) : Int) = (e.o : Int) + 1 := by omega
      rw [e1, show ((1000 : Nat) : Int) = 1000 from rfl] at hcall
      have HCALL : Hid _ := hcall
      clear hcall e1 hkp hfr hk1
      have H1 : Hid (max dd (max (cmax P0) (e.o + dep e.n e.ts)) = dep n ts) := h1
      have H2 : Hid (cc + (csum P0 + cnt e.n e.ts) = cnt n ts) := h2
      have H3 : Hid (csum (P0 ++ [e]) = csum P0 + cnt e.n e.ts) := h3
      clear d2 h1 h2 h3 h4 h5 hp3 hTe hc1 hv1 hl hszr
      go_wp2_with fail
      refine (Calls.mono HCALL.out ?_)
      rintro e' w2 ⟨rfl, P1, dd3, cc3, wv3, J⟩
      go_wp2_with fail
      go_roundg (csum (P0 ++ P1))
      case measure =>
        have h6 := J.csum
        have h7 := J.more.2 (by omega)
        have h8 := List.length_pos_iff.2 hp1
        rw [H3.out, csum_append]
        omega
      case rel =>
        refine ⟨P0 ++ P1, dd3, cc3, wv3, rfl, hB1.trans J.below, by rw [List.map_append]; exact J.cst, fun b hb => (J.frame b (HFR.out b hb).1 (HFR.out b hb).2.1 (HFR.out b hb).2.2).trans (HKP.out b hb), ?_, ?_, ?_, ?_⟩
        · intro b hb h
          rcases J.row with h' | ⟨b', h', h''⟩
          · exact (HFR.out b hb).2.2 (h'.symm.trans h)
          · rw [h'] at h; cases h; have := (HFR.out _ hb).1; omega
        · intro x hx
          rcases List.mem_append.1 hx with hx | hx
          · exact HI.out.pend x (by simp [hx])
          · obtain ⟨q1, q2, q3⟩ := J.pend x hx
            exact ⟨q1, Trees.carry (fun b hb => ⟨hb, (HKP.out b hb).symm⟩) x.n q2, q3⟩
        · have h6 := J.dmax
          rw [if_neg hp1] at h6
          have h1 := H1.out
          rw [cmax_append]; omega
        · have h6 := J.csum
          have h2 := H2.out
          rw [csum_append]; omega


theorem size_any (S : Nat → Prop) (n : Nat) (va vk : Value) (t : Tr) (w : World) (h : Attrs S w va t.attrs) (hk : Trees S w n vk t.kids) (hc : cnt (n + 1) [t] ≤ 1048576) :
    Calls Tryz.prog 87 #[.agg #[.bool t.text, .string t.s, va, vk]] w fun e w' => e = .returned (.tuple #[.int .i64 (dep (n + 1) [t] : Int), .int .i64 (cnt (n + 1) [t] : Int)]) ∧ Below w.heap.size w w' := by
  obtain ⟨aa, ac, rfl⟩ := h.shape
  obtain ⟨ka, kc, rfl, _, _⟩ := Trees.shape n hk
  have hb : ∀ X Y Z, Below w.heap.size w (((w.alloc X).alloc Y).alloc Z) := fun X Y Z => ((Below.alloc1 w X).alloc (by simp) Y).alloc (by simp; omega) Z
  have HB : Hid (∀ X Y Z, Below w.heap.size w (((w.alloc X).alloc Y).alloc Z)) := hb
  have HA : Hid (Attrs (fun b => S b ∧ b < w.heap.size) w (.slice aa t.attrs.length ac) t.attrs) := h.bounded
  have HK : Hid (Trees (fun b => S b ∧ b < w.heap.size) w n (.slice ka t.kids.length kc) t.kids) := Trees.bounded n hk
  clear h hk hb
  go_enter Tryz.func87, Tryz.ntmps87
  go_wp2_with fail
  have hT := Trees.of_block (S := fun b => S b ∧ b < w.heap.size) (n := n) (len := 1) (cap := 1) (ts := [t]) (e := 68) (fz := (0, 0)) (qs := [(t.text, t.s, .slice aa t.attrs.length ac, .slice ka t.kids.length kc)]) (heap_alloc_new ((w.alloc (.cells #[.bool t.text, .string t.s, .slice aa t.attrs.length ac, .slice ka t.kids.length kc] 68)).alloc (.cells #[.int .i64 0, .int .i64 0, .slice none 0 0] 143)) (.cells #[.bool t.text, .string t.s, .slice aa t.attrs.length ac, .slice ka t.kids.length kc] 68)) rfl rfl rfl (Nat.le_refl _) (by unfold maxLen; simp) (by
    intro i q t' hq ht'
    cases i with
    | zero =>
      simp at hq ht'
      subst hq ht'
      exact ⟨rfl, rfl, HA.out.later (HB.out _ _ _), Trees.later (HB.out _ _ _) n HK.out⟩
    | succ i => simp at ht')
  have hCst : Cst w.heap.size (w.heap.size + 1) (((w.alloc (.cells #[.bool t.text, .string t.s, .slice aa t.attrs.length ac, .slice ka t.kids.length kc] 68)).alloc (.cells #[.int .i64 0, .int .i64 0, .slice none 0 0] 143)).alloc (.cells #[.bool t.text, .string t.s, .slice aa t.attrs.length ac, .slice ka t.kids.length kc] 68)) 0 0 (.slice none 0 0) [] := by
    refine ⟨by omega, ?_, World.ownsRow_nil _ _ _ _, by simp⟩
    have e := heap_alloc_new (w.alloc (.cells #[.bool t.text, .string t.s, .slice aa t.attrs.length ac, .slice ka t.kids.length kc] 68)) (.cells #[.int .i64 0, .int .i64 0, .slice none 0 0] 143)
    rw [World.size_alloc] at e
    rw [Lib.alloc_old _ _ _ (by simp)]
    exact e
  have hB3 := HB.out (.cells #[.bool t.text, .string t.s, .slice aa t.attrs.length ac, .slice ka t.kids.length kc] 68) (.cells #[.int .i64 0, .int .i64 0, .slice none 0 0] 143) (.cells #[.bool t.text, .string t.s, .slice aa t.attrs.length ac, .slice ka t.kids.length kc] 68)
  have hs2 : ((w.alloc (.cells #[.bool t.text, .string t.s, .slice aa t.attrs.length ac, .slice ka t.kids.length kc] 68)).alloc (.cells #[.int .i64 0, .int .i64 0, .slice none 0 0] 143)).heap.size = w.heap.size + 1 + 1 := by simp
  rw [hs2] at hT
  refine (countAll_any _ w.heap.size (w.heap.size + 1) (n + 1) _ [t] _ ?_ (by simp) hT hCst hB3.size hc).mono ?_
  · intro b hb
    simp only [World.size_alloc]
    rcases hb with hb | hb
    · have := hb.2; omega
    · omega
  rintro e w2 ⟨rfl, wv, hC2, hb2⟩
  have k0 : w2.cell? ⟨w.heap.size + 1, 0, none⟩ = some (.int .i64 (dep (n + 1) [t] : Int)) := by rw [Lib.cell_of_heap hC2.held]; rfl
  have k1 : w2.cell? ⟨w.heap.size + 1, 1, none⟩ = some (.int .i64 (cnt (n + 1) [t] : Int)) := by rw [Lib.cell_of_heap hC2.held]; rfl
  have hB4 : Below w.heap.size w w2 := hB3.trans hb2
  obtain ⟨D, hD⟩ : ∃ D, dep (n + 1) [t] = D := ⟨_, rfl⟩
  obtain ⟨C, hC⟩ : ∃ C, cnt (n + 1) [t] = C := ⟨_, rfl⟩
  rw [hD] at k0
  rw [hC] at k1
  have HD : Hid (dep (n + 1) [t] = D) := hD
  have HC : Hid (cnt (n + 1) [t] = C) := hC
  clear hD hC hc
  clear hC2 hT hCst hB3 hb2 hs2
  go_wp2_with fail
  go_region
  all_goals
    go_wp2_with fail
    go_ret2
    exact ⟨by rw [HD.out, HC.out]; rfl, hB4.drew⟩
end Go.Proofs.YtfghbfocjjmcmabGreatDoor

/- The document's own SameNumbers and SameDoc answer true of what is alike. No condition. -/
namespace Go.Proofs.YtfghbfocjjmcmabGreatDoor
open Go.ChangeShapes Go.WideShapes Go.ChangeAt Go.RowKit
set_option maxRecDepth 100000

attribute [local go_sem] cell_set

set_option maxHeartbeats 2000000 in
theorem sameNumbers_ex (S T : Nat → Prop) (va vb : Value) (l m : List Int) (w : World) (h1 : Ints S w va l) (h2 : Ints T w vb m) :
    Calls Tryz.prog 9 #[va, vb] w fun e w' => e = .returned (.bool (decide (l = m))) ∧ Below w.heap.size w w' := by
  have H1 : Hid (Ints S w va l) := h1
  have H2 : Hid (Ints T w vb m) := h2
  obtain ⟨a, ca, rfl, _, hcm⟩ := h1.shape
  obtain ⟨b, cb, rfl, _, hcm2⟩ := h2.shape
  unfold maxLen at hcm hcm2
  clear h1 h2
  by_cases hlm : l.length = m.length
  · have hne : ((l.length : Int) != (m.length : Int)) = false := by simp [hlm]
    have HLM : Hid (l.length = m.length) := hlm
    clear hlm
    go_enter Tryz.func9, Tryz.ntmps9
    go_wp2_with fail
    go_loopg [13] l.length (fun g j wr => ∃ (i : Nat), i + g = l.length ∧ j = .int .i64 (i : Int) ∧ Below w.heap.size w wr ∧ l.take i = m.take i)
    case atStart => exact ⟨0, by omega, rfl, Below.refl _ _, rfl⟩
    case round =>
      obtain ⟨i, hi, rfl, hB, hT⟩ := hrel
      have HT : Hid (l.take i = m.take i) := hT
      clear hT
      by_cases hil : i < l.length
      · have him : i < m.length := by have := HLM.out; omega
        obtain ⟨u, hu⟩ : ∃ u, l[i]? = some u := ⟨l[i], by simp [hil]⟩
        obtain ⟨v, hv⟩ : ∃ v, m[i]? = some v := ⟨m[i], by simp [him]⟩
        obtain ⟨b1, o1, c1, hv1, _, hbw1, e0⟩ := (H1.out.later hB).at hu
        injection hv1 with hv1 hvl hv2
        subst hv1 hv2
        clear hvl
        obtain ⟨b2, o2, c2, hv3, _, hbw2, g0⟩ := (H2.out.later hB).at hv
        injection hv3 with hv3 hvl hv4
        subst hv3 hv4
        clear hvl
        have hili : (i : Int) < (l.length : Int) := by omega
        have himi : (i : Int) < (m.length : Int) := by omega
        have hbn : Below wr.heap.size wr wr.drew := (Below.refl _ _).drew
        have HC : Hid (∀ W, Below wr.heap.size wr W → Below wr.heap.size wr W ∧ W.cell? ⟨b1, o1 + i, none⟩ = some (.int .i64 u) ∧ W.cell? ⟨b2, o2 + i, none⟩ = some (.int .i64 v)) := by
          intro W h
          refine ⟨h, ?_, ?_⟩
          · rw [h.cell (p := ⟨b1, o1 + i, none⟩) hbw1]; exact e0
          · rw [h.cell (p := ⟨b2, o2 + i, none⟩) hbw2]; exact g0
        have el : l[i] = u := by simpa [hil] using hu
        have em : m[i] = v := by simpa [him] using hv
        by_cases huv : u = v
        · have huvb : (u != v) = false := by simp [huv]
          have HT2 : Hid (l.take (i + 1) = m.take (i + 1)) := by
            show _ = _
            rw [List.take_succ_eq_append_getElem hil, List.take_succ_eq_append_getElem him, el, em, HT.out, huv]
          clear hu hv el em huv
          go_wp2_with fail
          go_region_held3 (fun W : World => Below wr.heap.size wr W ∧ W.cell? ⟨b1, o1 + i, none⟩ = some (.int .i64 u) ∧ W.cell? ⟨b2, o2 + i, none⟩ = some (.int .i64 v))
            (with_reducible exact HC.out _ hbn)
            (fail)
          go_wp2_with fail
          go_roundg (l.length - (i + 1))
          case measure => omega
          case rel => exact ⟨i + 1, by omega, by go_num, hB.trans (hbn.mono hB.size), HT2.out⟩
        · have huvb : (u != v) = true := by simpa using huv
          have HE : Hid (decide (l = m) = false) := by
            refine decide_eq_false ?_
            intro e
            subst e
            exact huv (by rw [← el, ← em])
          clear hu hv el em huv
          go_wp2_with fail
          go_region_held3 (fun W : World => Below wr.heap.size wr W ∧ W.cell? ⟨b1, o1 + i, none⟩ = some (.int .i64 u) ∧ W.cell? ⟨b2, o2 + i, none⟩ = some (.int .i64 v))
            (with_reducible exact HC.out _ hbn)
            (fail)
          go_wp2_with fail
          go_ret
          exact ⟨by rw [HE.out]; rfl, hB.trans (hbn.mono hB.size)⟩
      · have hili : ¬ (i : Int) < (l.length : Int) := by omega
        have HE : Hid (decide (l = m) = true) := by
          refine decide_eq_true ?_
          have := HT.out
          rw [List.take_of_length_le (by omega), List.take_of_length_le (by have := HLM.out; omega)] at this
          exact this
        go_wp2_with fail
        go_ret
        exact ⟨by rw [HE.out]; rfl, hB⟩
  · have hne : ((l.length : Int) != (m.length : Int)) = true := by simp; omega
    have HE : Hid (decide (l = m) = false) := decide_eq_false (fun e => hlm (by rw [e]))
    clear hlm
    go_enter Tryz.func9, Tryz.ntmps9
    go_wp2_with fail
    go_ret
    exact ⟨by rw [HE.out]; rfl, Below.refl _ _⟩

def ndB (x y : Nd) : Bool := (x.text == y.text) && decide (x.s = y.s) && decide (x.parent = y.parent) && decide (x.attrs = y.attrs) && decide (x.kids = y.kids)
def ndsB : List Nd → List Nd → Bool
  | [], [] => true
  | x :: a, y :: b => ndB x y && ndsB a b
  | _, _ => false

theorem ndB_iff {x y : Nd} : ndB x y = true ↔ x = y := by
  obtain ⟨a, b, c, d, e⟩ := x
  obtain ⟨a', b', c', d', e'⟩ := y
  unfold ndB
  simp
  constructor
  · rintro ⟨⟨⟨⟨h1, h2⟩, h3⟩, h4⟩, h5⟩; exact ⟨h1, h2, h4, h3, h5⟩
  · rintro ⟨h1, h2, h3, h4, h5⟩; exact ⟨⟨⟨⟨h1, h2⟩, h4⟩, h3⟩, h5⟩
theorem ndsB_iff : ∀ {a b : List Nd}, ndsB a b = true ↔ a = b := by
  intro a
  induction a with
  | nil => intro b; cases b <;> simp [ndsB]
  | cons x a ih => intro b; cases b with
    | nil => simp [ndsB]
    | cons y b => simp [ndsB, ndB_iff, ih]
end Go.Proofs.YtfghbfocjjmcmabGreatDoor

