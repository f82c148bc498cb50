/- Bits of a check as the walk spells them. -/
import Derived.WalkKit
import Derived.Test.YtlhjligeigkbnaaCrcMath
set_option linter.unusedSimpArgs false
set_option linter.unusedVariables false
namespace Go.Proofs.Ytlhjligeigkbnaa.Crc
open Go.RowKit

theorem ret_int {k : IntKind} {a b : Int} (h : a = b) : Ending.returned (.int k a) = .returned (.int k b) := by rw [h]
theorem u16_wrap (n : Int) : IntKind.u16.wrap n = n % 65536 := by simp [IntKind.wrap, IntKind.bits, IntKind.signed]
theorem u16_high (s : Nat) (h : s < 65536) : bits .and .u16 (s : Int) 32768 = if 32768 ≤ s then 32768 else 0 := by
  have := u16_and_nat s 32768 h (by decide)
  rw [show ((32768 : Nat) : Int) = 32768 from rfl] at this
  rw [this]
  have e : s &&& 32768 = if 32768 ≤ s then 32768 else 0 := by
    apply Nat.eq_of_testBit_eq
    intro i
    rw [Nat.testBit_and, show (32768 : Nat) = 2 ^ 15 from rfl]
    by_cases hi : i = 15
    · subst hi
      rw [high_iff s h]
      by_cases h1 : 32768 ≤ s
      · simp [h1]
      · simp [h1]
    · rw [Nat.testBit_two_pow_of_ne (by omega), Bool.and_false]
      split
      · rw [Nat.testBit_two_pow_of_ne (by omega)]
      · simp
  rw [e]
  split <;> rfl
theorem bit_yes (s : Nat) (b : Bool) (h : s < 65536) (hb : decide (32768 ≤ s) ≠ b) (S : Int) (hS : S = (s : Int) * 2 % 65536) : bits .xor .u16 S 4129 = (bitZ s b : Nat) := by
  have e : S = ((2 * s % 65536 : Nat) : Int) := by omega
  have := u16_xor_nat (2 * s % 65536) 4129 (Nat.mod_lt _ (by decide)) (by decide)
  rw [e, show (4129 : Int) = ((4129 : Nat) : Int) from rfl, this]
  unfold bitZ
  rw [high_iff s h, if_pos (by simpa using hb)]
theorem bit_no (s : Nat) (b : Bool) (h : s < 65536) (hb : decide (32768 ≤ s) = b) (S : Int) (hS : S = (s : Int) * 2 % 65536) : S = (bitZ s b : Nat) := by
  unfold bitZ
  rw [high_iff s h, hb]
  simp
  omega
end Go.Proofs.Ytlhjligeigkbnaa.Crc
