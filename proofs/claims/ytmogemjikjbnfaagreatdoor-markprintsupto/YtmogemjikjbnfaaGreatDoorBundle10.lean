/- strings.ReplaceAll of one sign, sign by sign; what the document's own way of marking a text comes to. No condition. -/
import Derived.Test.YtmogemjikjbnfaaGreatDoorBundle01
import Derived.Lib.Replace
namespace Go.Proofs.YtmogemjikjbnfaaGreatDoor
set_option maxRecDepth 100000

def rep1 (c : UInt8) (new : List UInt8) (x : UInt8) : List UInt8 := if x = c then new else [x]

theorem repK_one (c : UInt8) (new : List UInt8) : ∀ (s : List UInt8), Lib.replaceK [c] new (Lib.count s [c]) s = s.flatMap (rep1 c new)
  | [] => by
    have h : Lib.count [] [c] = 0 := by rw [Lib.count_one]; rfl
    rw [h]; rfl
  | x :: s => by
    have ih := repK_one c new s
    by_cases hx : x = c
    · subst hx
      rw [Lib.count_cons_eq, Nat.add_comm, Lib.replaceK_hit [x] new _ (x :: s) 0 (by rw [Lib.index_one]; simp [Lib.indexByte])]
      simp only [List.take_zero, List.nil_append, List.length_singleton, Nat.zero_add, List.drop_succ_cons, List.drop_zero, List.flatMap_cons, rep1, if_true]
      rw [ih]
    · rw [Lib.count_cons_ne x c s hx]
      rw [List.flatMap_cons, rep1, if_neg hx, List.singleton_append, ← ih]
      cases hk : Lib.count s [c] with
      | zero => rfl
      | succ k =>
        obtain ⟨i, hi⟩ := Lib.index_of_count (s := s) (old := [c]) (by omega)
        have hi' : Lib.index (x :: s) [c] = ((i + 1 : Nat) : Int) := by
          rw [Lib.index_one] at hi ⊢
          have hb : (x == c) = false := by simpa using hx
          simp only [Lib.indexByte, hb, hi]
          simp
        rw [Lib.replaceK_hit [c] new k (x :: s) (i + 1) hi', Lib.replaceK_hit [c] new k s i hi]
        simp

theorem rep_one (c : UInt8) (new s : List UInt8) (h : ([c] == new) = false) : Lib.replaceAll s [c] new = s.flatMap (rep1 c new) := by
  unfold Lib.replaceAll Lib.replace Lib.replaceNum
  rw [h, if_neg (by simp), if_pos (Or.inl (by decide)), repK_one]

/-- What told makes of a text. -/
def toldL (v : Bool) (s : List UInt8) : List UInt8 :=
  let m := ((s.flatMap (rep1 38 [38, 97, 109, 112, 59])).flatMap (rep1 60 [38, 108, 116, 59])).flatMap (rep1 62 [38, 103, 116, 59])
  if v then m.flatMap (rep1 34 [38, 113, 117, 111, 116, 59]) else m

theorem told_mark (v : Bool) (s : List UInt8) : toldL v s = markL v s := by
  have key : ∀ c : UInt8, (((rep1 38 [38, 97, 109, 112, 59] c).flatMap (rep1 60 [38, 108, 116, 59])).flatMap (rep1 62 [38, 103, 116, 59])) = markC false c ∧
      ((((rep1 38 [38, 97, 109, 112, 59] c).flatMap (rep1 60 [38, 108, 116, 59])).flatMap (rep1 62 [38, 103, 116, 59]))).flatMap (rep1 34 [38, 113, 117, 111, 116, 59]) = markC true c := by
    intro c
    by_cases h1 : c = 38
    · subst h1; decide
    by_cases h2 : c = 60
    · subst h2; decide
    by_cases h3 : c = 62
    · subst h3; decide
    by_cases h4 : c = 34
    · subst h4; decide
    simp [rep1, markC, h1, h2, h3, h4]
  have cong : ∀ (f g : UInt8 → List UInt8), (∀ c, f c = g c) → ∀ l : List UInt8, l.flatMap f = l.flatMap g := fun f g h l => by rw [show f = g from funext h]
  unfold toldL markL
  simp only [List.flatMap_assoc]
  cases v with
  | false => simp only [Bool.false_eq_true, if_false]; exact cong _ _ (fun c => (by have := (key c).1; simpa [List.flatMap_assoc] using this)) s
  | true => simp only [if_true]; exact cong _ _ (fun c => (by have := (key c).2; simpa [List.flatMap_assoc] using this)) s
end Go.Proofs.YtmogemjikjbnfaaGreatDoor

