/- The reference of the line: what its calls answer of all that came. -/
import Derived.Test.YtlbppllfmephdaaLineMath
import Derived.Test.YtlbppllfmephdaaArgsJ
import Derived.Lib.Hide
import Derived.Deep.QuietTactic
import Derived.BigQuiet
set_option linter.unusedSimpArgs false
set_option linter.unusedVariables false
namespace Go.Proofs.Ytlbppllfmephdaa
open Go.RowKit RI64

theorem rev_at (h : List Int) (k : Nat) (hk : k < h.length) : h.reverse.getD (h.length - 1 - k) 0 = h.getD k 0 := by
  rw [List.getD_eq_getElem?_getD, List.getElem?_reverse (by omega), show h.length - 1 - (h.length - 1 - k) = k by omega, List.getD_eq_getElem?_getD]
end Go.Proofs.Ytlbppllfmephdaa
