/-
  No cell of these rows narrows 'for every input' (looked for: loops, veiled, ifaces, maps, wideKeys, modest, calm, conditions, laid).
  DERIVED. THE GIVEN ROWS OF THIS SEAT. 5 by the template 'for every input the law returns true; each argument reads behind the call as it read before'; 0 by the template 'total and deterministic' (their statements: YtpmjgomfjfhfkaaTotals.lean).
  GIVEN WITH THE SEED: the statements are not yours to turn. If you find one false, say at which input.
  Laid BY PROGRAM, IN A SANDBOX (cutbox-rows.mjs): the forced cells as the released guide's own fill.sh prints them over the translation 8ecbc0b962ccc974… (all of the seat's roots in one cut). By AI agents, Wed Nov 11 2026. No macro, syntax, notation, axiom, sorry.
-/
import Derived.Test.YtpmjgomfjfhfkaaChecked
import GoSem.Claim
import GoSem.ClaimJoined
import GoSem.ClaimMapViews
import Derived.JoinedTies
import Derived.KernelRfl
namespace Go.Proofs.Ytpmjgomfjfhfkaa
/- THE CELL 'sum', in the pinned program and in every row, IS THE sha256 OF THE DUMP (.gsa) THAT YtpmjgomfjfhfkaaProg.lean LOADS. Nothing in Lean hashes anything: it is a label: what it is worth is what the hold of that sum in a sandbox is worth. -/
noncomputable def Try.pinned : Pinned := { name := "ytpmjgomfjfhfkaa", sum := "8ecbc0b962ccc974cb64e4fbb9b47226d11c7f1513ee8d84fe6bc03b92aa9ea0", checked := Try.checked }
namespace Rows
def none {H : Type} : Left H := { results := [], args := [] }

/-- 'systolelaw22.RhythmPushes': WHATEVER THE INPUT: true; the input reads as it did. -/
def rhythmPushesSpec : ChangeSpec := { name := "rhythmPushes", fn := fun _ => fun
  | [d1, d2, d3, d4] => { results := [.lit (.bool true)], args := [d1, d2, d3, d4] }
  | _ => none }
def rhythmPushesRow : OpenClaim := { program := "ytpmjgomfjfhfkaa", sum := "8ecbc0b962ccc974cb64e4fbb9b47226d11c7f1513ee8d84fe6bc03b92aa9ea0", func := "systole/systolelaw22.RhythmPushes", spec := "rhythmPushes", apart := false }
def RhythmPushesSaid : Prop := rhythmPushesRow.holds Try.pinned (OpenSpec.ofChange rhythmPushesSpec)

/-- ITS FALSE NEIGHBOUR: 'it returns false'. Refute it at one input. -/
def rhythmPushesWrong : ChangeSpec := { name := "rhythmPushes", fn := fun _ => fun
  | [d1, d2, d3, d4] => { results := [.lit (.bool false)], args := [d1, d2, d3, d4] }
  | _ => none }
def RhythmPushesWrongFalsely : Prop := rhythmPushesRow.holds Try.pinned (OpenSpec.ofChange rhythmPushesWrong)

/-- 'systolelaw22.RhythmTurns': WHATEVER THE INPUT: true; the input reads as it did. -/
def rhythmTurnsSpec : ChangeSpec := { name := "rhythmTurns", fn := fun _ => fun
  | [d1, d2] => { results := [.lit (.bool true)], args := [d1, d2] }
  | _ => none }
def rhythmTurnsRow : OpenClaim := { program := "ytpmjgomfjfhfkaa", sum := "8ecbc0b962ccc974cb64e4fbb9b47226d11c7f1513ee8d84fe6bc03b92aa9ea0", func := "systole/systolelaw22.RhythmTurns", spec := "rhythmTurns", apart := false }
def RhythmTurnsSaid : Prop := rhythmTurnsRow.holds Try.pinned (OpenSpec.ofChange rhythmTurnsSpec)

/-- ITS FALSE NEIGHBOUR: 'it returns false'. Refute it at one input. -/
def rhythmTurnsWrong : ChangeSpec := { name := "rhythmTurns", fn := fun _ => fun
  | [d1, d2] => { results := [.lit (.bool false)], args := [d1, d2] }
  | _ => none }
def RhythmTurnsWrongFalsely : Prop := rhythmTurnsRow.holds Try.pinned (OpenSpec.ofChange rhythmTurnsWrong)

/-- 'systolelaw22.RhythmStill': WHATEVER THE INPUT: true; the input reads as it did. -/
def rhythmStillSpec : ChangeSpec := { name := "rhythmStill", fn := fun _ => fun
  | [d1, d2, d3] => { results := [.lit (.bool true)], args := [d1, d2, d3] }
  | _ => none }
def rhythmStillRow : OpenClaim := { program := "ytpmjgomfjfhfkaa", sum := "8ecbc0b962ccc974cb64e4fbb9b47226d11c7f1513ee8d84fe6bc03b92aa9ea0", func := "systole/systolelaw22.RhythmStill", spec := "rhythmStill", apart := false }
def RhythmStillSaid : Prop := rhythmStillRow.holds Try.pinned (OpenSpec.ofChange rhythmStillSpec)

/-- ITS FALSE NEIGHBOUR: 'it returns false'. Refute it at one input. -/
def rhythmStillWrong : ChangeSpec := { name := "rhythmStill", fn := fun _ => fun
  | [d1, d2, d3] => { results := [.lit (.bool false)], args := [d1, d2, d3] }
  | _ => none }
def RhythmStillWrongFalsely : Prop := rhythmStillRow.holds Try.pinned (OpenSpec.ofChange rhythmStillWrong)

/-- 'systolelaw22.RhythmRates': WHATEVER THE INPUT: true; the input reads as it did. -/
def rhythmRatesSpec : ChangeSpec := { name := "rhythmRates", fn := fun _ => fun
  | [d1, d2, d3] => { results := [.lit (.bool true)], args := [d1, d2, d3] }
  | _ => none }
def rhythmRatesRow : OpenClaim := { program := "ytpmjgomfjfhfkaa", sum := "8ecbc0b962ccc974cb64e4fbb9b47226d11c7f1513ee8d84fe6bc03b92aa9ea0", func := "systole/systolelaw22.RhythmRates", spec := "rhythmRates", apart := false }
def RhythmRatesSaid : Prop := rhythmRatesRow.holds Try.pinned (OpenSpec.ofChange rhythmRatesSpec)

/-- ITS FALSE NEIGHBOUR: 'it returns false'. Refute it at one input. -/
def rhythmRatesWrong : ChangeSpec := { name := "rhythmRates", fn := fun _ => fun
  | [d1, d2, d3] => { results := [.lit (.bool false)], args := [d1, d2, d3] }
  | _ => none }
def RhythmRatesWrongFalsely : Prop := rhythmRatesRow.holds Try.pinned (OpenSpec.ofChange rhythmRatesWrong)

/-- 'systolelaw22.RhythmNobody': WHATEVER THE INPUT: true; the input reads as it did. -/
def rhythmNobodySpec : ChangeSpec := { name := "rhythmNobody", fn := fun _ => fun
  | [d1, d2] => { results := [.lit (.bool true)], args := [d1, d2] }
  | _ => none }
def rhythmNobodyRow : OpenClaim := { program := "ytpmjgomfjfhfkaa", sum := "8ecbc0b962ccc974cb64e4fbb9b47226d11c7f1513ee8d84fe6bc03b92aa9ea0", func := "systole/systolelaw22.RhythmNobody", spec := "rhythmNobody", apart := false }
def RhythmNobodySaid : Prop := rhythmNobodyRow.holds Try.pinned (OpenSpec.ofChange rhythmNobodySpec)

/-- ITS FALSE NEIGHBOUR: 'it returns false'. Refute it at one input. -/
def rhythmNobodyWrong : ChangeSpec := { name := "rhythmNobody", fn := fun _ => fun
  | [d1, d2] => { results := [.lit (.bool false)], args := [d1, d2] }
  | _ => none }
def RhythmNobodyWrongFalsely : Prop := rhythmNobodyRow.holds Try.pinned (OpenSpec.ofChange rhythmNobodyWrong)

/- THE SECOND FORM. 'bulk': how many values and letters a reading holds, each counted each time it is reached (what is shared counts as often as it is met; a slice's spare places count too). A statement '..UptoSaid' is the law's where the arguments, and the package variables that the reading takes, are together of bulk at most 1048576: NARROWER than '..Said'. Prove '..Said' where nothing that the law and all that it calls make is longer than what came in: it says more and counts as full. Else prove '..UptoSaid'. A law counts once. -/
mutual
def uptoBulk {H : Type} : DataW H → Nat
  | .lit (.string bytes) => bytes.length + 1
  | .lit _ => 1
  | .nil => 1
  | .ptr d => uptoBulk d + 1
  | .slice elems spare => uptoBulkAll elems + uptoBulkAll spare + 1
  | .agg parts => uptoBulkAll parts + 1
  | .iface _ d => uptoBulk d + 1
  | .map entries => uptoBulkEntries entries + 1
  | .held _ => 1
def uptoBulkAll {H : Type} : List (DataW H) → Nat
  | [] => 0
  | d :: r => uptoBulk d + uptoBulkAll r
def uptoBulkEntries {H : Type} : List (Lit × DataW H) → Nat
  | [] => 0
  | x :: r => uptoBulkEntry x + uptoBulkEntries r
def uptoBulkEntry {H : Type} : Lit × DataW H → Nat
  | (.string bytes, d) => bytes.length + uptoBulk d + 1
  | (_, d) => uptoBulk d + 1
 end
def uptoSmall : (H : Type) → List (DataW H) → Bool := fun _ ds => decide (uptoBulkAll ds ≤ 1048576)
def OpenSpec.upto (s : _root_.Go.ChangeSpec) : _root_.Go.OpenSpec := { _root_.Go.OpenSpec.ofChange s with cond := some uptoSmall }

/-- 'systolelaw22.RhythmPushes', WHERE WHAT IT READS IS OF BULK AT MOST 1048576: true; the input reads as it did. -/
def rhythmPushesUptoRow : OpenClaim := { program := "ytpmjgomfjfhfkaa", sum := "8ecbc0b962ccc974cb64e4fbb9b47226d11c7f1513ee8d84fe6bc03b92aa9ea0", func := "systole/systolelaw22.RhythmPushes", spec := "rhythmPushes", apart := false, narrowed := true }
def RhythmPushesUptoSaid : Prop := rhythmPushesUptoRow.holds Try.pinned (OpenSpec.upto rhythmPushesSpec)

/-- 'systolelaw22.RhythmTurns', WHERE WHAT IT READS IS OF BULK AT MOST 1048576: true; the input reads as it did. -/
def rhythmTurnsUptoRow : OpenClaim := { program := "ytpmjgomfjfhfkaa", sum := "8ecbc0b962ccc974cb64e4fbb9b47226d11c7f1513ee8d84fe6bc03b92aa9ea0", func := "systole/systolelaw22.RhythmTurns", spec := "rhythmTurns", apart := false, narrowed := true }
def RhythmTurnsUptoSaid : Prop := rhythmTurnsUptoRow.holds Try.pinned (OpenSpec.upto rhythmTurnsSpec)

/-- 'systolelaw22.RhythmStill', WHERE WHAT IT READS IS OF BULK AT MOST 1048576: true; the input reads as it did. -/
def rhythmStillUptoRow : OpenClaim := { program := "ytpmjgomfjfhfkaa", sum := "8ecbc0b962ccc974cb64e4fbb9b47226d11c7f1513ee8d84fe6bc03b92aa9ea0", func := "systole/systolelaw22.RhythmStill", spec := "rhythmStill", apart := false, narrowed := true }
def RhythmStillUptoSaid : Prop := rhythmStillUptoRow.holds Try.pinned (OpenSpec.upto rhythmStillSpec)

/-- 'systolelaw22.RhythmRates', WHERE WHAT IT READS IS OF BULK AT MOST 1048576: true; the input reads as it did. -/
def rhythmRatesUptoRow : OpenClaim := { program := "ytpmjgomfjfhfkaa", sum := "8ecbc0b962ccc974cb64e4fbb9b47226d11c7f1513ee8d84fe6bc03b92aa9ea0", func := "systole/systolelaw22.RhythmRates", spec := "rhythmRates", apart := false, narrowed := true }
def RhythmRatesUptoSaid : Prop := rhythmRatesUptoRow.holds Try.pinned (OpenSpec.upto rhythmRatesSpec)

/-- 'systolelaw22.RhythmNobody', WHERE WHAT IT READS IS OF BULK AT MOST 1048576: true; the input reads as it did. -/
def rhythmNobodyUptoRow : OpenClaim := { program := "ytpmjgomfjfhfkaa", sum := "8ecbc0b962ccc974cb64e4fbb9b47226d11c7f1513ee8d84fe6bc03b92aa9ea0", func := "systole/systolelaw22.RhythmNobody", spec := "rhythmNobody", apart := false, narrowed := true }
def RhythmNobodyUptoSaid : Prop := rhythmNobodyUptoRow.holds Try.pinned (OpenSpec.upto rhythmNobodySpec)

end Rows
end Go.Proofs.Ytpmjgomfjfhfkaa
