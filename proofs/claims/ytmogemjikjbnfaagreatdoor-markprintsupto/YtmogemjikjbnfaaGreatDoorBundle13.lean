/- topiaryref.told: a text as it is printed, in the document's own way. Condition: at most 2^20 letters; the variable that strings.ReplaceAll may read holds a number. -/
import Derived.Test.YtmogemjikjbnfaaGreatDoorBundle09
import Derived.Test.YtmogemjikjbnfaaGreatDoorBundle10
import Derived.Test.YtmogemjikjbnfaaGreatDoorBundle11
import Derived.Test.YtmogemjikjbnfaaGreatDoorBundle12
namespace Go.Proofs.YtmogemjikjbnfaaGreatDoor
open Go.ChangeShapes Go.WideShapes Go.ChangeAt Go.RowKit
set_option maxRecDepth 100000

/-- The variable that strings.ReplaceAll may read holds a number. -/
def MaxL (w : World) : Prop := ∃ m : Int, w.cell? ⟨1, 0, none⟩ = some (.int .i64 m)

theorem MaxL.later {w w' : World} (h : MaxL w) (hb : Below w.heap.size w w') : MaxL w' := by
  obtain ⟨m, hm⟩ := h
  exact ⟨m, by rw [hb.cell (World.block_lt_of_cell? w _ hm)]; exact hm⟩

theorem rep_len (c : UInt8) (new : List UInt8) (hn : new.length ≤ 6) : ∀ l : List UInt8, (l.flatMap (rep1 c new)).length ≤ 6 * l.length
  | [] => by simp
  | x :: l => by
    have ih := rep_len c new hn l
    have h1 : (rep1 c new x).length ≤ 6 := by
      unfold rep1
      split
      · exact hn
      · simp
    rw [List.flatMap_cons, List.length_append, List.length_cons]
    omega

theorem sOf_data (l : List UInt8) : (sOf l).data.toList = l := by simp [sOf]

theorem repl_any (s : ByteArray) (c : UInt8) (new : List UInt8) (w : World) (hm : MaxL w) (hs : s.size ≤ 536870912) (hn : new.length ≤ 6) (hne : ([c] == new) = false) :
    Calls Tryz.prog 28 #[.string s, .string ⟨#[c]⟩, .string ⟨new.toArray⟩] w fun e w' => e = .returned (.string (sOf (s.data.toList.flatMap (rep1 c new)))) ∧ Below w.heap.size w w' := by
  obtain ⟨m, hm⟩ := hm
  have h1 : (⟨#[c]⟩ : ByteArray).size = 1 := rfl
  have h2 : (⟨new.toArray⟩ : ByteArray).size = new.length := by simp [ByteArray.size]
  have hc : Lib.countB s ⟨#[c]⟩ ≤ s.size + 1 := Lib.count_le _ _
  have h := Tryz.strings_ReplaceAll s ⟨#[c]⟩ ⟨new.toArray⟩ m w (by omega) hm (by omega) (by
    rw [h2]
    have : Lib.countB s ⟨#[c]⟩ * new.length ≤ (s.size + 1) * 6 := Nat.mul_le_mul hc hn
    omega)
  have e : Lib.replaceAll s.data.toList [c] new = _ := rep_one c new _ hne
  have h3 : (⟨#[c]⟩ : ByteArray).data.toList = [c] := rfl
  have h4 : (⟨new.toArray⟩ : ByteArray).data.toList = new := by simp
  rw [h3, h4, e] at h
  exact h

theorem toldR_any (s : ByteArray) (v : Bool) (w : World) (hm : MaxL w) (hs : s.size ≤ 1048576) :
    Calls Tryz.prog 19 #[.string s, .bool v] w fun e w' => e = .returned (.string (sOf (markL v s.data.toList))) ∧ Below w.heap.size w w' := by
  have HT : Hid (markL v s.data.toList = toldL v s.data.toList) := (told_mark v _).symm
  have HM : Hid (MaxL w) := hm
  obtain ⟨s1, h1⟩ : ∃ s1, sOf (s.data.toList.flatMap (rep1 38 [38, 97, 109, 112, 59])) = s1 := ⟨_, rfl⟩
  have hd1 : s1.data.toList = s.data.toList.flatMap (rep1 38 [38, 97, 109, 112, 59]) := by rw [← h1, sOf_data]
  have hz1 : s1.size ≤ 6291456 := by
    rw [← size_data, hd1]; have := rep_len 38 [38, 97, 109, 112, 59] (by decide) s.data.toList; rw [size_data] at this; omega
  obtain ⟨s2, h2⟩ : ∃ s2, sOf (s1.data.toList.flatMap (rep1 60 [38, 108, 116, 59])) = s2 := ⟨_, rfl⟩
  have hd2 : s2.data.toList = s1.data.toList.flatMap (rep1 60 [38, 108, 116, 59]) := by rw [← h2, sOf_data]
  have hz2 : s2.size ≤ 37748736 := by
    rw [← size_data, hd2]; have := rep_len 60 [38, 108, 116, 59] (by decide) s1.data.toList; rw [size_data] at this; omega
  obtain ⟨s3, h3⟩ : ∃ s3, sOf (s2.data.toList.flatMap (rep1 62 [38, 103, 116, 59])) = s3 := ⟨_, rfl⟩
  have hd3 : s3.data.toList = s2.data.toList.flatMap (rep1 62 [38, 103, 116, 59]) := by rw [← h3, sOf_data]
  have hz3 : s3.size ≤ 226492416 := by
    rw [← size_data, hd3]; have := rep_len 62 [38, 103, 116, 59] (by decide) s2.data.toList; rw [size_data] at this; omega
  obtain ⟨s4, h4⟩ : ∃ s4, sOf (s3.data.toList.flatMap (rep1 34 [38, 113, 117, 111, 116, 59])) = s4 := ⟨_, rfl⟩
  have HR : Hid (sOf (toldL v s.data.toList) = if v then s4 else s3) := by
    show _ = _
    unfold toldL
    rw [← h4, ← hd1, ← hd2, ← hd3]
    cases v with
    | false => simp only [Bool.false_eq_true, if_false]; rw [← h3, sOf_data, hd3] at *
    | true => simp
  have H1 : Hid (∀ W, MaxL W → Calls Tryz.prog 28 #[.string s, .string ⟨#[38]⟩, .string ⟨#[38, 97, 109, 112, 59]⟩] W fun e w' => e = .returned (.string s1) ∧ Below W.heap.size W w') := fun W hW => by
    have := repl_any s 38 [38, 97, 109, 112, 59] W hW (by omega) (by decide) (by decide)
    rw [h1] at this; exact this
  have H2 : Hid (∀ W, MaxL W → Calls Tryz.prog 28 #[.string s1, .string ⟨#[60]⟩, .string ⟨#[38, 108, 116, 59]⟩] W fun e w' => e = .returned (.string s2) ∧ Below W.heap.size W w') := fun W hW => by
    have := repl_any s1 60 [38, 108, 116, 59] W hW (by omega) (by decide) (by decide)
    rw [h2] at this; exact this
  have H3 : Hid (∀ W, MaxL W → Calls Tryz.prog 28 #[.string s2, .string ⟨#[62]⟩, .string ⟨#[38, 103, 116, 59]⟩] W fun e w' => e = .returned (.string s3) ∧ Below W.heap.size W w') := fun W hW => by
    have := repl_any s2 62 [38, 103, 116, 59] W hW (by omega) (by decide) (by decide)
    rw [h3] at this; exact this
  have H4 : Hid (∀ W, MaxL W → Calls Tryz.prog 28 #[.string s3, .string ⟨#[34]⟩, .string ⟨#[38, 113, 117, 111, 116, 59]⟩] W fun e w' => e = .returned (.string s4) ∧ Below W.heap.size W w') := fun W hW => by
    have := repl_any s3 34 [38, 113, 117, 111, 116, 59] W hW (by omega) (by decide) (by decide)
    rw [h4] at this; exact this
  clear h1 h2 h3 h4 hd1 hd2 hd3 hz1 hz2 hz3 hs hm
  go_enter Tryz.func19, Tryz.ntmps19
  go_wp2_with fail
  refine Calls.mono (H1.out _ HM.out) ?_
  rintro e w1 ⟨rfl, hb1⟩
  have HM1 : Hid (MaxL w1) := HM.out.later hb1
  go_wp2_with fail
  refine Calls.mono (H2.out _ HM1.out) ?_
  rintro e w2 ⟨rfl, hb2⟩
  have HM2 : Hid (MaxL w2) := HM1.out.later hb2
  go_wp2_with fail
  refine Calls.mono (H3.out _ HM2.out) ?_
  rintro e w3 ⟨rfl, hb3⟩
  have HM3 : Hid (MaxL w3) := HM2.out.later hb3
  have hB2 := hb1.trans (hb2.mono hb1.size)
  have hB3 := hB2.trans (hb3.mono hB2.size)
  cases v with
  | false =>
    go_wp2_with fail
    go_ret
    exact ⟨by rw [HT.out, HR.out]; rfl, hB3⟩
  | true =>
    go_wp2_with fail
    refine Calls.mono (H4.out _ HM3.out) ?_
    rintro e w4 ⟨rfl, hb4⟩
    go_wp2_with fail
    go_ret
    exact ⟨by rw [HT.out, HR.out]; rfl, hB3.trans (hb4.mono hB3.size)⟩
end Go.Proofs.YtmogemjikjbnfaaGreatDoor

