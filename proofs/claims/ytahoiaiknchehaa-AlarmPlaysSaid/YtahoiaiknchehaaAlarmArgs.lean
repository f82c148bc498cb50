/- Conditions and orders that come into the laws of layer 23. -/
import Derived.Test.YtahoiaiknchehaaAlarmMath
import Derived.Test.YtahoiaiknchehaaFlat
import Derived.Test.YtahoiaiknchehaaEventIn
set_option linter.unusedSimpArgs false
set_option linter.unusedVariables false
namespace Go.Proofs.Ytahoiaiknchehaa.Alarm
open Go.RowKit
def CdOk (c : Cd) : Prop := True
def OrOk (o : Or) : Prop := True
theorem cd_dec (vs : List Value) (h : Row.Oks [.int .i64, .int .i64, .bool] vs) : ∃ z : Cd, cdS.enc z = vs ∧ CdOk z := by
  obtain ⟨v1, r1, rfl, ⟨n1, rfl, _⟩, h1⟩ := Row.oks_cons h
  obtain ⟨v2, r2, rfl, ⟨n2, rfl, _⟩, h2⟩ := Row.oks_cons h1
  obtain ⟨v3, r3, rfl, ⟨n3, rfl⟩, h3⟩ := Row.oks_cons h2
  obtain rfl := Row.oks_nil h3
  exact ⟨(n1, n2, n3), rfl, trivial⟩
theorem or_dec (vs : List Value) (h : Row.Oks [.int .i64, .int .i64, .int .i64] vs) : ∃ z : Or, orS.enc z = vs ∧ OrOk z := by
  obtain ⟨v1, r1, rfl, ⟨n1, rfl, _⟩, h1⟩ := Row.oks_cons h
  obtain ⟨v2, r2, rfl, ⟨n2, rfl, _⟩, h2⟩ := Row.oks_cons h1
  obtain ⟨v3, r3, rfl, ⟨n3, rfl, _⟩, h3⟩ := Row.oks_cons h2
  obtain rfl := Row.oks_nil h3
  exact ⟨(n1, n2, n3), rfl, trivial⟩
end Go.Proofs.Ytahoiaiknchehaa.Alarm
