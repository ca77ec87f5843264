/- topiarykeep.pick: a number brought to 0 to n - 1. Condition: n from 1 on. -/
import Derived.Test.YtlchbhlmbphkpaaChecked
import Derived.Test.YtlchbhlmbphkpaaBundle00
namespace Go.Proofs.Ytlchbhlmbphkpaa
open Go.ChangeShapes Go.WideShapes Go.ChangeAt Go.RowKit
set_option maxRecDepth 100000

theorem pick_any (k : Int) (n : Nat) (w : World) (h0 : 1 ≤ n) (h1 : (n : Int) ≤ 9223372036854775807) :
    Calls Try.prog 9 #[.int .i64 k, .int .i64 (n : Int)] w fun e w' => ∃ m : Nat, m < n ∧ e = .returned (.int .i64 (m : Int)) ∧ w' = w := by
  have hne : ¬ ((n : Int) = 0) := by omega
  have hne2 : ((n : Int) == 0) = false := by simp; omega
  obtain ⟨r, hr⟩ : ∃ r, Int.tmod k (n : Int) = r := ⟨_, rfl⟩
  have hr1 : r < (n : Int) := by rw [← hr]; exact Int.tmod_lt_of_pos k (by omega)
  have hr2 : -(n : Int) < r := by rw [← hr]; exact Int.lt_tmod_of_pos k (by omega)
  by_cases hneg : r < 0
  · go_enter Try.func9, Try.ntmps9
    go_wp2
    go_ret
    exact ⟨(r + n).toNat, by omega, by show Ending.returned (Value.int .i64 (r + (n : Int))) = _; rw [Int.toNat_of_nonneg (by omega)], rfl⟩
  · go_enter Try.func9, Try.ntmps9
    go_wp2
    go_ret
    exact ⟨r.toNat, by omega, by show Ending.returned (Value.int .i64 r) = _; rw [Int.toNat_of_nonneg (by omega)], rfl⟩
end Go.Proofs.Ytlchbhlmbphkpaa

