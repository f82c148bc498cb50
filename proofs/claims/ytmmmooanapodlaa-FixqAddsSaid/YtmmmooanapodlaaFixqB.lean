/- What fixq's words of 64 bits, roots and products of 15 bits answer; and the references' floors and shifts; the chapter's examples hold. -/
import Derived.Test.YtmmmooanapodlaaFixqA
set_option linter.unusedSimpArgs false
set_option linter.unusedVariables false
namespace Go.Proofs.Ytmmmooanapodlaa
open Go.RowKit

def signZ (n : Int) : Int := IntKind.u64.wrap (n / 9223372036854775808)
theorem signWord_any (n : Int) (w : World) :
    Calls Try.prog 32 #[.int .i64 n] w fun e w' => e = .returned (.int .u64 (signZ n)) ∧ w = w' := by
  go_enter Try.func32, Try.ntmps32
  go_wp2
  go_ret
  exact ⟨ret_int rfl, rfl⟩
theorem magnitude_any (n : Int) (w : World) (ha : fits64 n) :
    Calls Try.prog 35 #[.int .i64 n] w fun e w' => e = .returned (.int .u64 (n.natAbs : Int)) ∧ w = w' := by
  unfold fits64 at ha
  by_cases h : n < 0
  all_goals
    go_enter Try.func35, Try.ntmps35
    go_wp2
    go_ret
    refine ⟨?_, rfl⟩
  · exact ret_int (by rw [u64_wrap, u64_wrap]; omega)
  · exact ret_int (by omega)
def RootIs (n : Int) (e : Ending) : Prop := ∃ r : Int, e = .returned (.int .i64 r) ∧ 0 ≤ r ∧ r ≤ 3037000499 ∧ r * r ≤ n ∧ n < (r + 1) * (r + 1)
theorem root_low (n r : Int) (h : r * r ≤ n) (h0 : 0 ≤ r) (hn : n ≤ 9223372036854775807) : r ≤ 3037000499 := by
  rcases (by omega : 3037000499 < r ∨ r ≤ 3037000499) with h1 | h1
  · have := Int.mul_le_mul (a := 3037000500) (b := 3037000500) (c := r) (d := r) (by omega) (by omega) (by omega) (by omega)
    omega
  · exact h1
theorem sq_le (x : Int) (h0 : 0 ≤ x) (h : x ≤ 4294967295) : 0 ≤ x * x ∧ x * x ≤ 18446744073709551615 := by
  have h1 := Int.mul_le_mul (a := x) (b := x) (c := 4294967295) (d := 4294967295) h h h0 (by omega)
  have h2 := Int.mul_nonneg h0 h0
  omega
theorem root_any (n : Int) (w : World) (h0 : 0 ≤ n) (hn : n ≤ 9223372036854775807) :
    Calls Try.prog 30 #[.int .i64 n] w fun e w' => RootIs n e ∧ w = w' := by
  go_enter Try.func30, Try.ntmps30
  go_wp2
  go_loop [3, 4] (fun a b => ∃ (m : Nat) (r : Int), m ≤ 32 ∧ 0 ≤ r ∧ r + 2 ^ m ≤ 4294967296 ∧ a = .int .u64 r ∧ b = .int .u64 (2 ^ m / 2) ∧ r * r ≤ n ∧ n < (r + 2 ^ m) * (r + 2 ^ m)) (fun _ b => (intOf b).toNat)
  case atStart => exact ⟨32, 0, by omega, by omega, by omega, rfl, rfl, by omega, by omega⟩
  case round =>
    obtain ⟨m, r, hm, hr, hrm, rfl, rfl, hlo, hhi⟩ := hrel
    rcases m with _ | k
    · have hb := root_low n r hlo hr hn
      go_wp2
      go_ret
      exact ⟨⟨r, rfl, hr, hb, hlo, hhi⟩, rfl⟩
    · have e2 : (2 : Int) ^ (k + 1) / 2 = 2 ^ k := by rw [Int.pow_succ]; omega
      have e3 : (2 : Int) ^ (k + 1) = 2 * 2 ^ k := by rw [Int.pow_succ]; omega
      have hc : (1 : Int) ≤ 2 ^ k := by have := Int.pow_pos (n := 2) (m := k) (by omega); omega
      rw [e2]
      rw [e3] at hrm hhi
      clear e2 e3
      generalize hC : (2 : Int) ^ k = c at *
      have hC' := Lib.hid hC
      clear hC
      have hs := sq_le (r + c) (by omega) (by omega)
      have hhi' : n < (r + c + c) * (r + c + c) := by
        have e : r + c + c = r + 2 * c := by omega
        rw [e]; exact hhi
      clear hhi
      by_cases hle : (r + c) * (r + c) ≤ n
      · go_wp2
        go_round
        case rel => exact ⟨k, r + c, by omega, by omega, by rw [hC'.out]; omega, rfl, by rw [hC'.out], hle, by rw [hC'.out]; exact hhi'⟩
        case measure => simp [intOf]; omega
      · go_wp2
        go_round
        case rel => exact ⟨k, r, by omega, by omega, by rw [hC'.out]; omega, rfl, by rw [hC'.out], hlo, by rw [hC'.out]; omega⟩
        case measure => simp [intOf]; omega
theorem root_neg (n : Int) (w : World) (h0 : n < 0) :
    Calls Try.prog 30 #[.int .i64 n] w fun e w' => e = .returned (.int .i64 0) ∧ w = w' := by
  go_enter Try.func30, Try.ntmps30
  go_wp2
  go_ret
  exact ⟨rfl, rfl⟩
theorem root_0 {e : Ending} (h : RootIs 0 e) : e = .returned (.int .i64 0) := by
  obtain ⟨r, rfl, h0, _, hl, hh⟩ := h
  rcases (by omega : r = 0 ∨ 1 ≤ r) with h1 | h1
  · exact ret_int h1
  · have := Int.mul_le_mul (a := 1) (b := 1) (c := r) (d := r) h1 h1 (by omega) (by omega)
    omega
theorem root_99 {e : Ending} (h : RootIs 99 e) : e = .returned (.int .i64 9) := by
  obtain ⟨r, rfl, h0, _, hl, hh⟩ := h
  have h1 : r ≤ 9 := by
    rcases (by omega : 10 ≤ r ∨ r ≤ 9) with h1 | h1
    · have := Int.mul_le_mul (a := 10) (b := 10) (c := r) (d := r) h1 h1 (by omega) (by omega)
      omega
    · exact h1
  have h2 : 9 ≤ r := by
    rcases (by omega : r + 1 ≤ 9 ∨ 9 ≤ r) with h2 | h2
    · have := Int.mul_le_mul (a := r + 1) (b := r + 1) (c := 9) (d := 9) h2 h2 (by omega) (by omega)
      omega
    · exact h2
  exact ret_int (by omega)


def shiftZ (n k : Int) : Int := n / 2 ^ min k.toNat 63
theorem shift_is (n k : Int) (w : World) (hn : fits64 n) :
    Calls Try.prog 28 #[.int .i64 n, .int .i64 k] w fun e w' => e = .returned (.int .i64 (shiftZ n k)) ∧ w = w' := by
  unfold fits64 at hn
  rcases (by omega : k < 0 ∨ 0 ≤ k) with h | h
  · refine (shift_neg n k w h).mono fun e w' ⟨he, hw⟩ => ⟨?_, hw⟩
    rw [he]
    exact ret_int (by unfold shiftZ; rw [show k.toNat = 0 by omega]; simp)
  · refine (shift_any n k w h).mono fun e w' ⟨he, hw⟩ => ⟨?_, hw⟩
    rw [he]
    refine ret_int ?_
    unfold shiftZ
    rcases Nat.lt_or_ge k.toNat 64 with h1 | h1
    · rw [show min k.toNat 64 = min k.toNat 63 by omega]
    · rw [show min k.toNat 64 = 64 by omega, show min k.toNat 63 = 63 by omega]
      omega

theorem mul32_in (x y : Int) (hx : -2147483648 ≤ x ∧ x ≤ 2147483647) (hy : -2147483648 ≤ y ∧ y ≤ 2147483647) : fits64 (x * y) := by
  have h1 : (x * y).natAbs ≤ 2147483648 * 2147483648 := by
    rw [Int.natAbs_mul]; exact Nat.mul_le_mul (by omega) (by omega)
  unfold fits64; omega
theorem q15_any (x y : Int) (w : World) (hx : -2147483648 ≤ x ∧ x ≤ 2147483647) (hy : -2147483648 ≤ y ∧ y ≤ 2147483647) :
    Calls Try.prog 29 #[.int .i32 x, .int .i32 y] w fun e w' => e = .returned (.int .i32 (nearZ (shiftZ (x * y) 15))) ∧ w = w' := by
  have hm := mul32_in x y hx hy
  have hm' := hm
  unfold fits64 at hm'
  go_enter Try.func29, Try.ntmps29
  go_wp2_with (first
    | (go_at_call 28; refine (shift_is _ _ _ hm).mono ?_; rintro e w' ⟨rfl, rfl⟩)
    | (go_at_call 22; refine (near_any _ _).mono ?_; rintro e w' ⟨rfl, rfl⟩))
  go_ret
  exact ⟨rfl, rfl⟩
end Go.Proofs.Ytmmmooanapodlaa
