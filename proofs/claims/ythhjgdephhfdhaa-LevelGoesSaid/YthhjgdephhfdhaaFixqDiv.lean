/- What the reference's Div answers: floors of quotients. -/
import Derived.Test.YthhjgdephhfdhaaFixqA
set_option linter.unusedSimpArgs false
set_option linter.unusedVariables false
namespace Go.Proofs.Ythhjgdephhfdhaa
open Go.RowKit

theorem tmod_of (n b : Int) : n.tdiv b * b = n - n.tmod b := by
  have h := Int.tmod_add_mul_tdiv n b
  have e : n.tdiv b * b = b * n.tdiv b := Int.mul_comm _ _
  omega
theorem tdiv_mul_in (n b : Int) (hn : fits64 n) : -9223372036854775808 ≤ n.tdiv b * b ∧ n.tdiv b * b ≤ 9223372036854775807 := by
  unfold fits64 at hn
  have h1 : (n.tdiv b * b).natAbs ≤ n.natAbs := by
    rw [Int.natAbs_mul, natAbs_tdiv']; exact Nat.div_mul_le_self _ _
  have h2 : n.tdiv b * b ≠ 9223372036854775808 := by
    intro h
    have h3 : n = -9223372036854775808 := by omega
    have h4 := tmod_of n b
    have h5 := Int.tmod_nonneg (a := -n) b (by omega)
    have h7 := Int.neg_tmod n b
    have h6 : (n.tmod b).natAbs ≤ n.natAbs := by rw [Int.natAbs_tmod]; exact Nat.mod_le _ _
    omega
  omega
theorem refdiv_zero (n : Int) (w : World) :
    Calls Try.prog 33 #[.int .i64 n, .int .i64 0] w fun e w' => e = .returned (.tuple #[.int .i64 0, .int .i64 1]) ∧ w = w' := by
  go_enter Try.func33, Try.ntmps33
  go_wp2
  go_ret2
  exact ⟨rfl, rfl⟩
theorem refdiv_over (w : World) :
    Calls Try.prog 33 #[.int .i64 (-9223372036854775808), .int .i64 (-1)] w fun e w' => e = .returned (.tuple #[.int .i64 0, .int .i64 9]) ∧ w = w' := by
  go_enter Try.func33, Try.ntmps33
  go_wp2
  go_ret2
  exact ⟨rfl, rfl⟩
theorem refdiv_yes (n b : Int) (w : World) (hn : fits64 n) (hb : b ≠ 0) (h : ¬ (n = -9223372036854775808 ∧ b = -1)) :
    Calls Try.prog 33 #[.int .i64 n, .int .i64 b] w fun e w' => e = .returned (.tuple #[.int .i64 (n.fdiv b), .int .i64 0]) ∧ w = w' := by
  have hq := tdiv_in n b hn hb h
  have hw : IntKind.i64.wrap (n.tdiv b) = n.tdiv b := IntWalk.i64_in _ hq
  have hp := tdiv_mul_in n b hn
  have hf0 := fdiv_of n b hb
  have hi := fdiv_in n b hn hb h
  have hm : ¬ ((n == -9223372036854775808) = true ∧ (b == -1) = true) := by simpa using h
  have hb0 : (b == 0) = false := by simpa using hb
  have ht : (n.tdiv b * b != n) = (n.tmod b != 0) := by
    rw [Bool.eq_iff_iff]; simp; have := tmod_of n b; omega
  clear hn h
  rcases hr : (n.tdiv b * b != n) <;> rcases h1 : decide (n < 0) <;> rcases h2 : decide (b < 0) <;> rcases h3 : (n == -9223372036854775808) <;> rcases h4 : (b == -1)
  all_goals simp only [h3, h4, and_self, not_true_eq_false] at hm
  all_goals
    clear hm
    rw [h1, h2] at hf0
    have hr' := ht.symm.trans hr
    clear ht
    simp only [bne_eq_false_iff_eq, bne_iff_ne] at hr'
    simp [hr'] at hf0
    have hf := Lib.hid hf0
    rw [hf0] at hi
    clear hf0 hr'
    go_enter Try.func33, Try.ntmps33
    go_wp2
    all_goals
      go_ret2
      refine ⟨?_, rfl⟩
      rw [hf.out]
      rfl
end Go.Proofs.Ythhjgdephhfdhaa
