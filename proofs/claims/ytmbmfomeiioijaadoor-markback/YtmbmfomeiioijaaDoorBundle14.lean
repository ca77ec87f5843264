/- Bundled: SortM SortL. What each says stands ahead of it. -/
import Derived.Test.YtmbmfomeiioijaaDoorBundle03
import Derived.Shelf.SlSortCmp.WholeK
import Derived.Test.YtmbmfomeiioijaaDoorProg
/- Attributes sorted by name, as slices.SortFunc sorts them: what is sorted, and what stays as it was. No condition. -/
namespace Go.Proofs.YtmbmfomeiioijaaDoor
open Go.Sort
set_option maxRecDepth 100000

def cmpA (x y : List UInt8 × List UInt8) : Int := Lib.compareBytes x.1 y.1

theorem cmp_lt : ∀ a b : List UInt8, decide (Lib.compareBytes a b < 0) = decide (a < b) := by
  intro a
  induction a with
  | nil =>
    intro b
    cases b with
    | nil => simp [Lib.compareBytes]
    | cons d b => simp [Lib.compareBytes]
  | cons c a ih =>
    intro b
    cases b with
    | nil => simp [Lib.compareBytes]
    | cons d b =>
      rw [Lib.compareBytes, decide_eq_decide]
      by_cases h1 : c < d
      · simp [h1, List.cons_lt_cons_iff]
      · by_cases h2 : d < c
        · have h3 : ¬ c = d := by intro e; subst e; exact h1 h2
          simp [h1, h2, h3, List.cons_lt_cons_iff]
        · have h3 : c = d := UInt8.le_antisymm (UInt8.not_lt.1 h2) (UInt8.not_lt.1 h1)
          subst h3
          have := ih b
          rw [decide_eq_decide] at this
          simp [this]

theorem less_lt : ∀ a b : List UInt8, Op.bytesLess a b = decide (a < b) := by
  intro a
  induction a with
  | nil =>
    intro b
    cases b with
    | nil => simp [Op.bytesLess]
    | cons d b => simp [Op.bytesLess]
  | cons c a ih =>
    intro b
    cases b with
    | nil => simp [Op.bytesLess]
    | cons d b =>
      rw [Op.bytesLess, ih b]
      by_cases h1 : c < d
      · simp [h1, List.cons_lt_cons_iff]
      · by_cases h3 : c = d
        · subst h3; simp
        · simp [h1, h3, List.cons_lt_cons_iff]

theorem ltA (x y : List UInt8 × List UInt8) : ltOf cmpA x y = decide (x.1 < y.1) := cmp_lt x.1 y.1

theorem swoA : SWO (ltOf cmpA) where
  irrefl x := by rw [ltA]; simp [List.lt_irrefl]
  trans x y z h1 h2 := by rw [ltA] at *; simp only [decide_eq_true_eq] at *; exact List.lt_trans h1 h2
  ntrans x y z h1 h2 := by
    rw [ltA] at *
    simp only [decide_eq_false_iff_not, List.not_lt] at *
    exact List.le_trans h2 h1

/-- Attributes as slices.SortFunc sorts them. -/
def sortA (l : List (List UInt8 × List UInt8)) : List (List UInt8 × List UInt8) := (pdq (ltOf cmpA) l.toArray 0 l.length (Lib.bitLen l.length) true true).toList

theorem sortA_facts (l : List (List UInt8 × List UInt8)) : PermIn 0 l.toArray.size l.toArray (sortA l).toArray ∧ SortedIn (ltOf cmpA) 0 l.toArray.size (sortA l).toArray := by
  have := pdq_sorts (ltOf cmpA) swoA l.toArray 0 l.toArray.size (Lib.bitLen l.length) true true (Nat.zero_le _) (Nat.le_refl _) (Or.inl rfl)
  simpa [sortA] using this

theorem sortA_perm (l : List (List UInt8 × List UInt8)) : (sortA l).Perm l := by
  obtain ⟨⟨h1, _, h3⟩, _⟩ := sortA_facts l
  have e1 : (sortA l).toArray.extract 0 l.toArray.size = (sortA l).toArray := by rw [← h1]; exact Array.extract_size
  rw [e1, Array.extract_size] at h3
  simpa using h3

theorem sortA_length (l : List (List UInt8 × List UInt8)) : (sortA l).length = l.length := (sortA_perm l).length_eq

theorem sortA_sorted (l : List (List UInt8 × List UInt8)) : (sortA l).Pairwise fun x y => x.1 ≤ y.1 := by
  obtain ⟨⟨h1, _, _⟩, h4⟩ := sortA_facts l
  rw [List.pairwise_iff_getElem]
  intro i j hi hj hij
  have := h4 i j (Nat.zero_le _) hij (by rw [← h1]; simpa using hj)
  rw [getElem!_pos _ j (by simpa using hj), getElem!_pos _ i (by simpa using hi), ltA] at this
  simpa [List.not_lt] using this

theorem pair_inj {l : List (List UInt8 × List UInt8)} (h : l.Pairwise fun x y => x.1 < y.1) : ∀ a ∈ l, ∀ b ∈ l, a.1 = b.1 → a = b := by
  induction l with
  | nil => intro a ha; simp at ha
  | cons x r ih =>
    rw [List.pairwise_cons] at h
    intro a ha b hb e
    rw [List.mem_cons] at ha hb
    rcases ha with rfl | ha
    · rcases hb with rfl | hb
      · rfl
      · have := h.1 b hb; rw [e] at this; exact absurd this (List.lt_irrefl _)
    · rcases hb with rfl | hb
      · have := h.1 a ha; rw [e] at this; exact absurd this (List.lt_irrefl _)
      · exact ih h.2 a ha b hb e

/-- What rises by name is sorted as it is. -/
theorem sortA_id {l : List (List UInt8 × List UInt8)} (h : l.Pairwise fun x y => x.1 < y.1) : sortA l = l := by
  refine List.Perm.eq_of_pairwise (le := fun x y => x.1 ≤ y.1) ?_ (sortA_sorted l) (h.imp fun h => List.le_of_lt h) (sortA_perm l)
  intro a b ha hb h1 h2
  exact pair_inj h a ((sortA_perm l).mem_iff.1 ha) b hb (List.le_antisymm h1 h2)
end Go.Proofs.YtmbmfomeiioijaaDoor

/-
  DERIVED: THE SHELF's CONTRACTS AT THIS DUMP, IN PLAIN WORDS (tools/lay-plain.mjs out of 'YtmbmfomeiioijaaDoorSortL.lean', which tools/lay-shelf.mjs wrote): THE SAME DECLARATIONS UNDER THE SAME NAMES: 'import', 'namespace', 'open', 'def', 'theorem' AND NOTHING ELSE: no command of the shelf's: FOR A HAND-IN. Each laying: the table of numbers ('.._ren') and one theorem, a field a fact of the dump's own or the kernel's comparison; each contract: ONE APPLICATION.
-/
namespace Go.Proofs
open Go.Shelf
def Tryd.sortA_ren : Go.Shelf.Ren := ⟨fun | 6 => 110 | 15 => 129 | 14 => 128 | 28 => 145 | 29 => 146 | 20 => 137 | 21 => 138 | 22 => 139 | 23 => 140 | 24 => 141 | 25 => 142 | 26 => 143 | 27 => 144 | 46 => 149 | 47 => 150 | 48 => 151 | 49 => 152 | 50 => 153 | 57 => 154 | n => n, fun | 22 => 22 | 24 => 65 | 25 => 143 | 3 => 3 | 39 => 154 | 0 => 0 | 53 => 171 | 55 => 173 | 4 => 4 | 46 => 164 | 45 => 163 | 50 => 168 | 5 => 5 | 9 => 9 | 66 => 174 | 70 => 80 | 76 => 179 | 77 => 27 | n => n, fun | n => n⟩
theorem Tryd.sortA : Go.Proofs.SlLaysF0.n6 Tryd.prog Tryd.sortA_ren := {
  mixed := by kernel_rfl
  f6 := ⟨Tryd.f110.name, by decide, Tryd.func110.trans (congrArg some (by kernel_rfl))⟩
  f14 := ⟨Tryd.f128.name, by decide, Tryd.func128.trans (congrArg some (by kernel_rfl))⟩
  f15 := Tryd.func129.trans (congrArg some (by kernel_rfl))
  f20 := ⟨Tryd.f137.name, by decide, Tryd.func137.trans (congrArg some (by kernel_rfl))⟩
  f21 := ⟨Tryd.f138.name, by decide, Tryd.func138.trans (congrArg some (by kernel_rfl))⟩
  f22 := ⟨Tryd.f139.name, by decide, Tryd.func139.trans (congrArg some (by kernel_rfl))⟩
  f23 := ⟨Tryd.f140.name, by decide, Tryd.func140.trans (congrArg some (by kernel_rfl))⟩
  f24 := ⟨Tryd.f141.name, by decide, Tryd.func141.trans (congrArg some (by kernel_rfl))⟩
  f25 := ⟨Tryd.f142.name, by decide, Tryd.func142.trans (congrArg some (by kernel_rfl))⟩
  f26 := ⟨Tryd.f143.name, by decide, Tryd.func143.trans (congrArg some (by kernel_rfl))⟩
  f27 := ⟨Tryd.f144.name, by decide, Tryd.func144.trans (congrArg some (by kernel_rfl))⟩
  f28 := Tryd.func145.trans (congrArg some (by kernel_rfl))
  f29 := Tryd.func146.trans (congrArg some (by kernel_rfl))
  f46 := ⟨Tryd.f149.name, by decide, Tryd.func149.trans (congrArg some (by kernel_rfl))⟩
  f47 := Tryd.func150.trans (congrArg some (by kernel_rfl))
  f48 := Tryd.func151.trans (congrArg some (by kernel_rfl))
  f49 := ⟨Tryd.f152.name, by decide, Tryd.func152.trans (congrArg some (by kernel_rfl))⟩
  f50 := ⟨Tryd.f153.name, by decide, Tryd.func153.trans (congrArg some (by kernel_rfl))⟩
  f57 := ⟨Tryd.f154.name, by decide, Tryd.func154.trans (congrArg some (by kernel_rfl))⟩
  t0 := Tryd.underlying0
  a0 := Tryd.isAgg0
  z0 := Tryd.sizeOf0
  v0 := Tryd.zeroValue0
  t3 := Tryd.underlying3
  a3 := Tryd.isAgg3
  z3 := Tryd.sizeOf3
  v3 := Tryd.zeroValue3
  t4 := Tryd.underlying4
  a4 := Tryd.isAgg4
  z4 := Tryd.sizeOf4
  v4 := Tryd.zeroValue4
  t5 := Tryd.underlying5
  a5 := Tryd.isAgg5
  z5 := Tryd.sizeOf5
  v5 := Tryd.zeroValue5
  t9 := Tryd.underlying9
  a9 := Tryd.isAgg9
  z9 := Tryd.sizeOf9
  v9 := Tryd.zeroValue9
  t22 := Tryd.underlying22
  a22 := Tryd.isAgg22
  z22 := Tryd.sizeOf22
  v22 := Tryd.zeroValue22
  t25 := Tryd.underlying143
  a25 := Tryd.isAgg143
  z25 := Tryd.sizeOf143
  v25 := Tryd.zeroValue143
  t39 := Tryd.underlying154
  a39 := Tryd.isAgg154
  z39 := Tryd.sizeOf154
  v39 := Tryd.zeroValue154
  t45 := Tryd.underlying163
  a45 := Tryd.isAgg163
  z45 := Tryd.sizeOf163
  v45 := Tryd.zeroValue163
  t46 := Tryd.underlying164
  a46 := Tryd.isAgg164
  z46 := Tryd.sizeOf164
  v46 := Tryd.zeroValue164
  t50 := Tryd.underlying168
  a50 := Tryd.isAgg168
  z50 := Tryd.sizeOf168
  v50 := Tryd.zeroValue168
  t53 := Tryd.underlying171
  a53 := Tryd.isAgg171
  z53 := Tryd.sizeOf171
  v53 := Tryd.zeroValue171
  t55 := Tryd.underlying173
  a55 := Tryd.isAgg173
  z55 := Tryd.sizeOf173
  v55 := Tryd.zeroValue173
  t66 := Tryd.underlying174
  a66 := Tryd.isAgg174
  z66 := Tryd.sizeOf174
  v66 := Tryd.zeroValue174
  t70 := Tryd.underlying80
  a70 := Tryd.isAgg80
  z70 := Tryd.sizeOf80
  v70 := Tryd.zeroValue80
  t76 := Tryd.underlying179
  a76 := Tryd.isAgg179
  z76 := Tryd.sizeOf179
  v76 := Tryd.zeroValue179
  t77 := Tryd.underlying27
  a77 := Tryd.isAgg27
  z77 := Tryd.sizeOf27
  v77 := Tryd.zeroValue27 }
end Go.Proofs

