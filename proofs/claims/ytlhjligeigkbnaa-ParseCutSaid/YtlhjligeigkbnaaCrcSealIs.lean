/- What a Seal leaves. -/
import Derived.Test.YtlhjligeigkbnaaChecked
import Derived.Test.YtlhjligeigkbnaaCrcSealMath
import Derived.Test.YtlhjligeigkbnaaOwn
set_option linter.unusedSimpArgs false
set_option linter.unusedVariables false
namespace Go.Proofs.Ytlhjligeigkbnaa.Crc
open Go.RowKit RU8

/-- What a Seal leaves: an own row that reads as the sealed bytes; nothing that was there has turned. -/
def Sealed (w : World) (n : Nat) (ys : List Nat) (e : Ending) (w' : World) : Prop := ∃ v, e = .returned v ∧ w'.ownsRow w.heap.size 5 1 v (n + 2) (vals (sealZ ys)) ∧ Below w.heap.size w w'
end Go.Proofs.Ytlhjligeigkbnaa.Crc
