/- What fixq's words of 64 bits, roots and products of 15 bits answer; and the references' floors and shifts; the chapter's examples hold. -/
import Derived.Test.YtpfoonhobeflhaaFixqA
set_option linter.unusedSimpArgs false
set_option linter.unusedVariables false
namespace Go.Proofs.Ytpfoonhobeflhaa
open Go.RowKit

def signZ (n : Int) : Int := IntKind.u64.wrap (n / 9223372036854775808)
theorem magnitude_any (n : Int) (w : World) (ha : fits64 n) :
    Calls Try.prog 37 #[.int .i64 n] w fun e w' => e = .returned (.int .u64 (n.natAbs : Int)) ∧ w = w' := by
  unfold fits64 at ha
  by_cases h : n < 0
  all_goals
    go_enter Try.func37, Try.ntmps37
    go_wp2
    go_ret
    refine ⟨?_, rfl⟩
  · exact ret_int (by rw [u64_wrap, u64_wrap]; omega)
  · exact ret_int (by omega)
def RootIs (n : Int) (e : Ending) : Prop := ∃ r : Int, e = .returned (.int .i64 r) ∧ 0 ≤ r ∧ r ≤ 3037000499 ∧ r * r ≤ n ∧ n < (r + 1) * (r + 1)
theorem root_low (n r : Int) (h : r * r ≤ n) (h0 : 0 ≤ r) (hn : n ≤ 9223372036854775807) : r ≤ 3037000499 := by
  rcases (by omega : 3037000499 < r ∨ r ≤ 3037000499) with h1 | h1
  · have := Int.mul_le_mul (a := 3037000500) (b := 3037000500) (c := r) (d := r) (by omega) (by omega) (by omega) (by omega)
    omega
  · exact h1
theorem sq_le (x : Int) (h0 : 0 ≤ x) (h : x ≤ 4294967295) : 0 ≤ x * x ∧ x * x ≤ 18446744073709551615 := by
  have h1 := Int.mul_le_mul (a := x) (b := x) (c := 4294967295) (d := 4294967295) h h h0 (by omega)
  have h2 := Int.mul_nonneg h0 h0
  omega
theorem root_0 {e : Ending} (h : RootIs 0 e) : e = .returned (.int .i64 0) := by
  obtain ⟨r, rfl, h0, _, hl, hh⟩ := h
  rcases (by omega : r = 0 ∨ 1 ≤ r) with h1 | h1
  · exact ret_int h1
  · have := Int.mul_le_mul (a := 1) (b := 1) (c := r) (d := r) h1 h1 (by omega) (by omega)
    omega
theorem root_99 {e : Ending} (h : RootIs 99 e) : e = .returned (.int .i64 9) := by
  obtain ⟨r, rfl, h0, _, hl, hh⟩ := h
  have h1 : r ≤ 9 := by
    rcases (by omega : 10 ≤ r ∨ r ≤ 9) with h1 | h1
    · have := Int.mul_le_mul (a := 10) (b := 10) (c := r) (d := r) h1 h1 (by omega) (by omega)
      omega
    · exact h1
  have h2 : 9 ≤ r := by
    rcases (by omega : r + 1 ≤ 9 ∨ 9 ≤ r) with h2 | h2
    · have := Int.mul_le_mul (a := r + 1) (b := r + 1) (c := 9) (d := 9) h2 h2 (by omega) (by omega)
      omega
    · exact h2
  exact ret_int (by omega)


def shiftZ (n k : Int) : Int := n / 2 ^ min k.toNat 63
theorem shift_is (n k : Int) (w : World) (hn : fits64 n) :
    Calls Try.prog 25 #[.int .i64 n, .int .i64 k] w fun e w' => e = .returned (.int .i64 (shiftZ n k)) ∧ w = w' := by
  unfold fits64 at hn
  rcases (by omega : k < 0 ∨ 0 ≤ k) with h | h
  · refine (shift_neg n k w h).mono fun e w' ⟨he, hw⟩ => ⟨?_, hw⟩
    rw [he]
    exact ret_int (by unfold shiftZ; rw [show k.toNat = 0 by omega]; simp)
  · refine (shift_any n k w h).mono fun e w' ⟨he, hw⟩ => ⟨?_, hw⟩
    rw [he]
    refine ret_int ?_
    unfold shiftZ
    rcases Nat.lt_or_ge k.toNat 64 with h1 | h1
    · rw [show min k.toNat 64 = min k.toNat 63 by omega]
    · rw [show min k.toNat 64 = 64 by omega, show min k.toNat 63 = 63 by omega]
      omega

theorem mul32_in (x y : Int) (hx : -2147483648 ≤ x ∧ x ≤ 2147483647) (hy : -2147483648 ≤ y ∧ y ≤ 2147483647) : fits64 (x * y) := by
  have h1 : (x * y).natAbs ≤ 2147483648 * 2147483648 := by
    rw [Int.natAbs_mul]; exact Nat.mul_le_mul (by omega) (by omega)
  unfold fits64; omega
end Go.Proofs.Ytpfoonhobeflhaa
