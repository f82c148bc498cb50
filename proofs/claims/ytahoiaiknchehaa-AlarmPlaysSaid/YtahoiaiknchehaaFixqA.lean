/- What fixq's calls on single numbers answer, and the references' (clamps, floors, differences, signs, magnitudes). -/
import Derived.Test.YtahoiaiknchehaaRows
import Derived.Test.YtahoiaiknchehaaFixqMath
import Derived.ProofKit
import Derived.Handy
import Derived.Deep.QuietTactic
import Derived.BigQuiet
import Derived.RegionTactic
import Derived.Lib.Hide
import Derived.Lib.Mul64
import Derived.Laws.Bits64b
set_option linter.unusedSimpArgs false
set_option linter.unusedVariables false
namespace Go.Proofs.Ytahoiaiknchehaa
open Go.RowKit

theorem clamp_any (n lo hi : Int) (w : World) :
    Calls Try.prog 34 #[.int .i64 n, .int .i64 lo, .int .i64 hi] w fun e w' => e = .returned (.int .i64 (clampZ n lo hi)) ∧ w = w' := by
  unfold clampZ
  by_cases h1 : n < lo <;> by_cases h2 : hi < lo <;> by_cases h3 : hi < n
  all_goals
    go_enter Try.func34, Try.ntmps34
    go_wp2
    go_ret
    exact ⟨by simp [*], rfl⟩



end Go.Proofs.Ytahoiaiknchehaa
