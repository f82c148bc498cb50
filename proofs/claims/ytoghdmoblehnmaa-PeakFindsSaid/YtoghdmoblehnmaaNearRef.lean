/- The references' nearest value within a bound. -/
import Derived.Test.YtoghdmoblehnmaaRows
import Derived.Test.YtoghdmoblehnmaaFilterMath
import Derived.WalkKit
import Derived.ProofKit
import Derived.Handy
set_option linter.unusedSimpArgs false
set_option linter.unusedVariables false
namespace Go.Proofs.Ytoghdmoblehnmaa
open Go.RowKit
theorem refnear_to (B v : Int) (w : World) (hB : 0 ≤ B) (hB2 : B ≤ 9223372036854775807) :
    Calls Try.prog 25 #[.int .i64 v, .int .i64 B] w fun e w' => e = .returned (.int .i64 (nearTo B v)) ∧ w = w' := by
  have hb0 : -9223372036854775808 ≤ -B ∧ -B ≤ 9223372036854775807 := by omega
  unfold nearTo
  by_cases h1 : B < v
  · rw [if_pos h1]
    go_enter Try.func25, Try.ntmps25
    go_wp2
    go_ret
    exact ⟨rfl, rfl⟩
  · rw [if_neg h1]
    by_cases h2 : v < -B
    · rw [if_pos h2]
      go_enter Try.func25, Try.ntmps25
      go_wp2
      go_ret
      exact ⟨rfl, rfl⟩
    · rw [if_neg h2]
      go_enter Try.func25, Try.ntmps25
      go_wp2
      go_ret
      exact ⟨rfl, rfl⟩
end Go.Proofs.Ytoghdmoblehnmaa
