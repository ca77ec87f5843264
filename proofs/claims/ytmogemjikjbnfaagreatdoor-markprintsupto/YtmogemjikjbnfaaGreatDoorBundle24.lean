/- Bundled: SortM SortL. What each says stands ahead of it. -/
import Derived.Test.YtmogemjikjbnfaaGreatDoorBundle03
import Derived.Shelf.SlSortCmp.WholeK
import Derived.Test.YtmogemjikjbnfaaGreatDoorProg
/- Attributes sorted by name, as slices.SortFunc sorts them: what is sorted, and what stays as it was. No condition. -/
namespace Go.Proofs.YtmogemjikjbnfaaGreatDoor
open Go.Sort
set_option maxRecDepth 100000

def cmpA (x y : List UInt8 × List UInt8) : Int := Lib.compareBytes x.1 y.1

theorem cmp_lt : ∀ a b : List UInt8, decide (Lib.compareBytes a b < 0) = decide (a < b) := by
  intro a
  induction a with
  | nil =>
    intro b
    cases b with
    | nil => simp [Lib.compareBytes]
    | cons d b => simp [Lib.compareBytes]
  | cons c a ih =>
    intro b
    cases b with
    | nil => simp [Lib.compareBytes]
    | cons d b =>
      rw [Lib.compareBytes, decide_eq_decide]
      by_cases h1 : c < d
      · simp [h1, List.cons_lt_cons_iff]
      · by_cases h2 : d < c
        · have h3 : ¬ c = d := by intro e; subst e; exact h1 h2
          simp [h1, h2, h3, List.cons_lt_cons_iff]
        · have h3 : c = d := UInt8.le_antisymm (UInt8.not_lt.1 h2) (UInt8.not_lt.1 h1)
          subst h3
          have := ih b
          rw [decide_eq_decide] at this
          simp [this]

theorem less_lt : ∀ a b : List UInt8, Op.bytesLess a b = decide (a < b) := by
  intro a
  induction a with
  | nil =>
    intro b
    cases b with
    | nil => simp [Op.bytesLess]
    | cons d b => simp [Op.bytesLess]
  | cons c a ih =>
    intro b
    cases b with
    | nil => simp [Op.bytesLess]
    | cons d b =>
      rw [Op.bytesLess, ih b]
      by_cases h1 : c < d
      · simp [h1, List.cons_lt_cons_iff]
      · by_cases h3 : c = d
        · subst h3; simp
        · simp [h1, h3, List.cons_lt_cons_iff]

theorem ltSA (x y : List UInt8 × List UInt8) : ltOf cmpA x y = decide (x.1 < y.1) := cmp_lt x.1 y.1

theorem swoA : SWO (ltOf cmpA) where
  irrefl x := by rw [ltSA]; simp [List.lt_irrefl]
  trans x y z h1 h2 := by rw [ltSA] at *; simp only [decide_eq_true_eq] at *; exact List.lt_trans h1 h2
  ntrans x y z h1 h2 := by
    rw [ltSA] at *
    simp only [decide_eq_false_iff_not, List.not_lt] at *
    exact List.le_trans h2 h1

/-- Attributes as slices.SortFunc sorts them. -/
def sortA (l : List (List UInt8 × List UInt8)) : List (List UInt8 × List UInt8) := (pdq (ltOf cmpA) l.toArray 0 l.length (Lib.bitLen l.length) true true).toList

theorem sortA_facts (l : List (List UInt8 × List UInt8)) : PermIn 0 l.toArray.size l.toArray (sortA l).toArray ∧ SortedIn (ltOf cmpA) 0 l.toArray.size (sortA l).toArray := by
  have := pdq_sorts (ltOf cmpA) swoA l.toArray 0 l.toArray.size (Lib.bitLen l.length) true true (Nat.zero_le _) (Nat.le_refl _) (Or.inl rfl)
  simpa [sortA] using this

theorem sortA_perm (l : List (List UInt8 × List UInt8)) : (sortA l).Perm l := by
  obtain ⟨⟨h1, _, h3⟩, _⟩ := sortA_facts l
  have e1 : (sortA l).toArray.extract 0 l.toArray.size = (sortA l).toArray := by rw [← h1]; exact Array.extract_size
  rw [e1, Array.extract_size] at h3
  simpa using h3

theorem sortA_length (l : List (List UInt8 × List UInt8)) : (sortA l).length = l.length := (sortA_perm l).length_eq

theorem sortA_sorted (l : List (List UInt8 × List UInt8)) : (sortA l).Pairwise fun x y => x.1 ≤ y.1 := by
  obtain ⟨⟨h1, _, _⟩, h4⟩ := sortA_facts l
  rw [List.pairwise_iff_getElem]
  intro i j hi hj hij
  have := h4 i j (Nat.zero_le _) hij (by rw [← h1]; simpa using hj)
  rw [getElem!_pos _ j (by simpa using hj), getElem!_pos _ i (by simpa using hi), ltSA] at this
  simpa [List.not_lt] using this

theorem pair_inj {l : List (List UInt8 × List UInt8)} (h : l.Pairwise fun x y => x.1 < y.1) : ∀ a ∈ l, ∀ b ∈ l, a.1 = b.1 → a = b := by
  induction l with
  | nil => intro a ha; simp at ha
  | cons x r ih =>
    rw [List.pairwise_cons] at h
    intro a ha b hb e
    rw [List.mem_cons] at ha hb
    rcases ha with rfl | ha
    · rcases hb with rfl | hb
      · rfl
      · have := h.1 b hb; rw [e] at this; exact absurd this (List.lt_irrefl _)
    · rcases hb with rfl | hb
      · have := h.1 a ha; rw [e] at this; exact absurd this (List.lt_irrefl _)
      · exact ih h.2 a ha b hb e

/-- What rises by name is sorted as it is. -/
theorem sortA_id {l : List (List UInt8 × List UInt8)} (h : l.Pairwise fun x y => x.1 < y.1) : sortA l = l := by
  refine List.Perm.eq_of_pairwise (le := fun x y => x.1 ≤ y.1) ?_ (sortA_sorted l) (h.imp fun h => List.le_of_lt h) (sortA_perm l)
  intro a b ha hb h1 h2
  exact pair_inj h a ((sortA_perm l).mem_iff.1 ha) b hb (List.le_antisymm h1 h2)
end Go.Proofs.YtmogemjikjbnfaaGreatDoor

/-
  DERIVED: THE SHELF's CONTRACTS AT THIS DUMP, IN PLAIN WORDS (tools/lay-plain.mjs out of 'YtmogemjikjbnfaaGreatDoorSortL.lean', which tools/lay-shelf.mjs wrote): THE SAME DECLARATIONS UNDER THE SAME NAMES: 'import', 'namespace', 'open', 'def', 'theorem' AND NOTHING ELSE: no command of the shelf's: FOR A HAND-IN. Each laying: the table of numbers ('.._ren') and one theorem, a field a fact of the dump's own or the kernel's comparison; each contract: ONE APPLICATION.
-/
namespace Go.Proofs
open Go.Shelf
def Tryz.sortA_ren : Go.Shelf.Ren := ⟨fun | 6 => 45 | 15 => 73 | 14 => 72 | 28 => 96 | 29 => 97 | 20 => 88 | 21 => 89 | 22 => 90 | 23 => 91 | 24 => 92 | 25 => 93 | 26 => 94 | 27 => 95 | 46 => 105 | 47 => 106 | 48 => 107 | 49 => 108 | 50 => 109 | 57 => 112 | n => n, fun | 22 => 22 | 24 => 47 | 25 => 75 | 3 => 3 | 39 => 92 | 0 => 0 | 53 => 106 | 55 => 108 | 4 => 4 | 46 => 99 | 45 => 98 | 50 => 103 | 5 => 5 | 9 => 9 | 66 => 116 | 70 => 120 | 76 => 125 | 77 => 43 | n => n, fun | n => n⟩
theorem Tryz.sortA : Go.Proofs.SlLaysF0.n6 Tryz.prog Tryz.sortA_ren := {
  mixed := by kernel_rfl
  f6 := ⟨Tryz.f45.name, by decide, Tryz.func45.trans (congrArg some (by kernel_rfl))⟩
  f14 := ⟨Tryz.f72.name, by decide, Tryz.func72.trans (congrArg some (by kernel_rfl))⟩
  f15 := Tryz.func73.trans (congrArg some (by kernel_rfl))
  f20 := ⟨Tryz.f88.name, by decide, Tryz.func88.trans (congrArg some (by kernel_rfl))⟩
  f21 := ⟨Tryz.f89.name, by decide, Tryz.func89.trans (congrArg some (by kernel_rfl))⟩
  f22 := ⟨Tryz.f90.name, by decide, Tryz.func90.trans (congrArg some (by kernel_rfl))⟩
  f23 := ⟨Tryz.f91.name, by decide, Tryz.func91.trans (congrArg some (by kernel_rfl))⟩
  f24 := ⟨Tryz.f92.name, by decide, Tryz.func92.trans (congrArg some (by kernel_rfl))⟩
  f25 := ⟨Tryz.f93.name, by decide, Tryz.func93.trans (congrArg some (by kernel_rfl))⟩
  f26 := ⟨Tryz.f94.name, by decide, Tryz.func94.trans (congrArg some (by kernel_rfl))⟩
  f27 := ⟨Tryz.f95.name, by decide, Tryz.func95.trans (congrArg some (by kernel_rfl))⟩
  f28 := Tryz.func96.trans (congrArg some (by kernel_rfl))
  f29 := Tryz.func97.trans (congrArg some (by kernel_rfl))
  f46 := ⟨Tryz.f105.name, by decide, Tryz.func105.trans (congrArg some (by kernel_rfl))⟩
  f47 := Tryz.func106.trans (congrArg some (by kernel_rfl))
  f48 := Tryz.func107.trans (congrArg some (by kernel_rfl))
  f49 := ⟨Tryz.f108.name, by decide, Tryz.func108.trans (congrArg some (by kernel_rfl))⟩
  f50 := ⟨Tryz.f109.name, by decide, Tryz.func109.trans (congrArg some (by kernel_rfl))⟩
  f57 := ⟨Tryz.f112.name, by decide, Tryz.func112.trans (congrArg some (by kernel_rfl))⟩
  t0 := Tryz.underlying0
  a0 := Tryz.isAgg0
  z0 := Tryz.sizeOf0
  v0 := Tryz.zeroValue0
  t3 := Tryz.underlying3
  a3 := Tryz.isAgg3
  z3 := Tryz.sizeOf3
  v3 := Tryz.zeroValue3
  t4 := Tryz.underlying4
  a4 := Tryz.isAgg4
  z4 := Tryz.sizeOf4
  v4 := Tryz.zeroValue4
  t5 := Tryz.underlying5
  a5 := Tryz.isAgg5
  z5 := Tryz.sizeOf5
  v5 := Tryz.zeroValue5
  t9 := Tryz.underlying9
  a9 := Tryz.isAgg9
  z9 := Tryz.sizeOf9
  v9 := Tryz.zeroValue9
  t22 := Tryz.underlying22
  a22 := Tryz.isAgg22
  z22 := Tryz.sizeOf22
  v22 := Tryz.zeroValue22
  t25 := Tryz.underlying75
  a25 := Tryz.isAgg75
  z25 := Tryz.sizeOf75
  v25 := Tryz.zeroValue75
  t39 := Tryz.underlying92
  a39 := Tryz.isAgg92
  z39 := Tryz.sizeOf92
  v39 := Tryz.zeroValue92
  t45 := Tryz.underlying98
  a45 := Tryz.isAgg98
  z45 := Tryz.sizeOf98
  v45 := Tryz.zeroValue98
  t46 := Tryz.underlying99
  a46 := Tryz.isAgg99
  z46 := Tryz.sizeOf99
  v46 := Tryz.zeroValue99
  t50 := Tryz.underlying103
  a50 := Tryz.isAgg103
  z50 := Tryz.sizeOf103
  v50 := Tryz.zeroValue103
  t53 := Tryz.underlying106
  a53 := Tryz.isAgg106
  z53 := Tryz.sizeOf106
  v53 := Tryz.zeroValue106
  t55 := Tryz.underlying108
  a55 := Tryz.isAgg108
  z55 := Tryz.sizeOf108
  v55 := Tryz.zeroValue108
  t66 := Tryz.underlying116
  a66 := Tryz.isAgg116
  z66 := Tryz.sizeOf116
  v66 := Tryz.zeroValue116
  t70 := Tryz.underlying120
  a70 := Tryz.isAgg120
  z70 := Tryz.sizeOf120
  v70 := Tryz.zeroValue120
  t76 := Tryz.underlying125
  a76 := Tryz.isAgg125
  z76 := Tryz.sizeOf125
  v76 := Tryz.zeroValue125
  t77 := Tryz.underlying43
  a77 := Tryz.isAgg43
  z77 := Tryz.sizeOf43
  v77 := Tryz.zeroValue43 }
end Go.Proofs

