/- How many bytes a frame has; the next frame's number. -/
import Derived.Test.YtlhjligeigkbnaaFrameMath
import Derived.Lib.Hide
set_option linter.unusedSimpArgs false
set_option linter.unusedVariables false
namespace Go.Proofs.Ytlhjligeigkbnaa.Frm
open Go.RowKit
/-- How many bytes a frame of n samples has. -/
def sizeZ (n : Int) : Int := if n < 1 ∨ 32 < n then 0 else 6 + 3 * n
theorem size_any (n : Int) (h : -9223372036854775808 ≤ n ∧ n ≤ 9223372036854775807) (w : World) : Calls Try.prog 32 #[.int .i64 n] w fun e w' => e = .returned (.int .i64 (sizeZ n)) ∧ w = w' := by
  unfold sizeZ
  rcases (by omega : n < 1 ∨ (¬ n < 1 ∧ 32 < n) ∨ (¬ n < 1 ∧ ¬ 32 < n)) with h1 | h1 | h1
  · rw [if_pos (.inl h1)]
    go_enter Try.func32, Try.ntmps32
    go_wp2
    go_ret
    exact ⟨rfl, rfl⟩
  · rw [if_pos (.inr h1.2)]
    go_enter Try.func32, Try.ntmps32
    go_wp2
    go_ret
    exact ⟨rfl, rfl⟩
  · rw [if_neg (by omega)]
    have h2 : 4 + n * 3 + 2 = 6 + 3 * n := by omega
    have h3 := h1.1
    have h4 := h1.2
    go_enter Try.func32, Try.ntmps32
    go_wp2
    go_ret
    exact ⟨rfl, rfl⟩
theorem next_any (q : Nat) (h : q < 256) (w : World) : Calls Try.prog 29 #[.int .u8 q] w fun e w' => e = .returned (.int .u8 (((q + 1) % 256 : Nat) : Int)) ∧ w = w' := by
  have hw : IntKind.u8.wrap ((q : Int) + 1) = (((q + 1) % 256 : Nat) : Int) := by rw [IntKind.wrap_u8]; omega
  go_enter Try.func29, Try.ntmps29
  go_wp2
  go_ret
  exact ⟨by simp [hw], rfl⟩
end Go.Proofs.Ytlhjligeigkbnaa.Frm
