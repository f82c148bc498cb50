/- Orders that come into the laws of layer 24. -/
import Derived.Test.YtmefdgmbpihdfaaDoorOrderMath
import Derived.Test.YtmefdgmbpihdfaaDoorFlat
import Derived.Test.YtmefdgmbpihdfaaDoorEventIn
set_option linter.unusedSimpArgs false
set_option linter.unusedVariables false
namespace Go.Proofs.YtmefdgmbpihdfaaDoor.Order
open Go.RowKit Go.ChangeShapes
open Alarm (Or orS noOr or_cells)
/-- Numbers of 64 bits. -/
def OrOk (o : Or) : Prop := (-9223372036854775808 ≤ o.1 ∧ o.1 ≤ 9223372036854775807) ∧ (-9223372036854775808 ≤ o.2.1 ∧ o.2.1 ≤ 9223372036854775807) ∧ (-9223372036854775808 ≤ o.2.2 ∧ o.2.2 ≤ 9223372036854775807)
theorem or_dec (vs : List Value) (h : Row.Oks [.int .i64, .int .i64, .int .i64] vs) : ∃ z : Or, orS.enc z = vs ∧ OrOk z := by
  obtain ⟨v1, r1, rfl, ⟨n1, rfl, w1⟩, h1⟩ := Row.oks_cons h
  obtain ⟨v2, r2, rfl, ⟨n2, rfl, w2⟩, h2⟩ := Row.oks_cons h1
  obtain ⟨v3, r3, rfl, ⟨n3, rfl, w3⟩, h3⟩ := Row.oks_cons h2
  obtain rfl := Row.oks_nil h3
  exact ⟨(n1, n2, n3), rfl, bounds_i64 w1, bounds_i64 w2, bounds_i64 w3⟩
end Go.Proofs.YtmefdgmbpihdfaaDoor.Order
