/- What fixq's calls on single numbers answer, and the references' (clamps, floors, differences, signs, magnitudes). -/
import Derived.Test.YtmmmooanapodlaaRows
import Derived.Test.YtmmmooanapodlaaFixqMath
import Derived.ProofKit
import Derived.Handy
import Derived.Deep.QuietTactic
import Derived.BigQuiet
import Derived.RegionTactic
import Derived.Lib.Hide
import Derived.Lib.Mul64
import Derived.Laws.Bits64b
set_option linter.unusedSimpArgs false
set_option linter.unusedVariables false
namespace Go.Proofs.Ytmmmooanapodlaa
open Go.RowKit

theorem clamp_any (n lo hi : Int) (w : World) :
    Calls Try.prog 24 #[.int .i64 n, .int .i64 lo, .int .i64 hi] w fun e w' => e = .returned (.int .i64 (clampZ n lo hi)) ∧ w = w' := by
  unfold clampZ
  by_cases h1 : n < lo <;> by_cases h2 : hi < lo <;> by_cases h3 : hi < n
  all_goals
    go_enter Try.func24, Try.ntmps24
    go_wp2
    go_ret
    exact ⟨by simp [*], rfl⟩
theorem near_any (n : Int) (w : World) :
    Calls Try.prog 22 #[.int .i64 n] w fun e w' => e = .returned (.int .i32 (nearZ n)) ∧ w = w' := by
  have hb := near_bd n
  unfold nearZ at hb ⊢
  go_enter Try.func22, Try.ntmps22
  go_wp2_with (go_at_call 24; refine (clamp_any _ _ _ _).mono ?_; rintro e w' ⟨rfl, rfl⟩)
  go_ret
  exact ⟨by simp [*], rfl⟩
theorem fit_yes (n : Int) (w : World) (h : -2147483648 ≤ n) (h' : n ≤ 2147483647) :
    Calls Try.prog 21 #[.int .i64 n] w fun e w' => e = .returned (.tuple #[.int .i32 n, .int .i64 0]) ∧ w = w' := by
  have hn : nearZ n = n := by unfold nearZ clampZ; rw [if_neg (by omega), if_neg (by omega)]
  go_enter Try.func21, Try.ntmps21
  go_wp2_with (go_at_call 22; refine (near_any _ _).mono ?_; rintro e w' ⟨rfl, rfl⟩)
  go_ret2
  exact ⟨by simp [*], rfl⟩
theorem fit_no (n : Int) (w : World) (h : n < -2147483648 ∨ 2147483647 < n) :
    Calls Try.prog 21 #[.int .i64 n] w fun e w' => e = .returned (.tuple #[.int .i32 0, .int .i64 9]) ∧ w = w' := by
  have hn : nearZ n < n ∨ n < nearZ n := by have := near_bd n; omega
  have hb := near_bd n
  rcases hn with hn | hn
  all_goals
    go_enter Try.func21, Try.ntmps21
    go_wp2_with (go_at_call 22; refine (near_any _ _).mono ?_; rintro e w' ⟨rfl, rfl⟩)
    go_ret2
    exact ⟨by simp [*], rfl⟩

theorem sub_yes (a b : Int) (w : World) (ha : fits64 a) (hb : fits64 b) (hd : fits64 (a - b)) :
    Calls Try.prog 13 #[.int .i64 a, .int .i64 b] w fun e w' => e = .returned (.tuple #[.int .i64 (a - b), .int .i64 0]) ∧ w = w' := by
  unfold fits64 at ha hb hd
  by_cases h1 : a < 0 <;> by_cases h2 : b < 0 <;> by_cases h3 : a - b < 0
  all_goals first | omega | skip
  all_goals
    go_enter Try.func13, Try.ntmps13
    go_wp2
    go_ret2
    exact ⟨by simp [*], rfl⟩
theorem sub_no (a b : Int) (w : World) (ha : fits64 a) (hb : fits64 b) (hd : ¬ fits64 (a - b)) :
    Calls Try.prog 13 #[.int .i64 a, .int .i64 b] w fun e w' => e = .returned (.tuple #[.int .i64 0, .int .i64 9]) ∧ w = w' := by
  have hq : (¬ a < 0 ∧ b < 0 ∧ wrap64 (a - b) < 0) ∨ (a < 0 ∧ ¬ b < 0 ∧ ¬ wrap64 (a - b) < 0) := by unfold fits64 at ha hb hd; unfold wrap64; omega
  clear ha hb hd
  rcases hq with ⟨h1, h2, h3⟩ | ⟨h1, h2, h3⟩
  all_goals
    go_enter Try.func13, Try.ntmps13
    go_wp2
    go_ret2
    exact ⟨by simp [*], rfl⟩

theorem shift_any (n k : Int) (w : World) (hk : 0 ≤ k) :
    Calls Try.prog 28 #[.int .i64 n, .int .i64 k] w fun e w' => e = .returned (.int .i64 (n / 2 ^ min k.toNat 64)) ∧ w = w' := by
  go_enter Try.func28, Try.ntmps28
  go_wp2
  go_ret
  exact ⟨by simp [*], rfl⟩
theorem shift_neg (n k : Int) (w : World) (hk : k < 0) :
    Calls Try.prog 28 #[.int .i64 n, .int .i64 k] w fun e w' => e = .returned (.int .i64 n) ∧ w = w' := by
  go_enter Try.func28, Try.ntmps28
  go_wp2
  go_ret
  exact ⟨by simp [*], rfl⟩

theorem div_zero (n : Int) (w : World) :
    Calls Try.prog 25 #[.int .i64 n, .int .i64 0] w fun e w' => e = .returned (.tuple #[.int .i64 0, .int .i64 1]) ∧ Below w.heap.size w w' := by
  go_enter Try.func25, Try.ntmps25
  go_wp2
  go_ret2
  exact ⟨rfl, Below.refl _ _⟩
theorem div_over (w : World) :
    Calls Try.prog 25 #[.int .i64 (-9223372036854775808), .int .i64 (-1)] w fun e w' => e = .returned (.tuple #[.int .i64 0, .int .i64 9]) ∧ Below w.heap.size w w' := by
  go_enter Try.func25, Try.ntmps25
  go_wp2
  go_ret2
  exact ⟨rfl, Below.refl _ _⟩
theorem div_yes (n b : Int) (w : World) (hn : fits64 n) (hb : b ≠ 0) (h : ¬ (n = -9223372036854775808 ∧ b = -1)) :
    Calls Try.prog 25 #[.int .i64 n, .int .i64 b] w fun e w' => e = .returned (.tuple #[.int .i64 (n.fdiv b), .int .i64 0]) ∧ Below w.heap.size w w' := by
  have hq := tdiv_in n b hn hb h
  have hw : IntKind.i64.wrap (n.tdiv b) = n.tdiv b := IntWalk.i64_in _ hq
  have hf0 := fdiv_of n b hb
  have hi := fdiv_in n b hn hb h
  have hm : ¬ ((n == -9223372036854775808) = true ∧ (b == -1) = true) := by simpa using h
  have hb0 : (b == 0) = false := by simpa using hb
  clear hn h
  rcases hr : (n.tmod b != 0) <;> rcases h1 : decide (n < 0) <;> rcases h2 : decide (b < 0) <;> rcases h3 : (n == -9223372036854775808) <;> rcases h4 : (b == -1)
  all_goals simp only [h3, h4, and_self, not_true_eq_false] at hm
  all_goals
    clear hm
    rw [h1, h2] at hf0
    have hr' := hr
    simp only [bne_eq_false_iff_eq, bne_iff_ne] at hr'
    simp [hr'] at hf0
    have hf := Lib.hid hf0
    rw [hf0] at hi
    clear hf0 hr'
    have hb' := Lib.hid hb
    clear hb
    go_enter Try.func25, Try.ntmps25
    go_wp2
    all_goals
      have hb := hb'.out
      go_quiet (fail)
      clear hb
      go_wp2
      go_ret2
      refine ⟨?_, below_drewN _⟩
      rw [hf.out]
      rfl
end Go.Proofs.Ytmmmooanapodlaa
