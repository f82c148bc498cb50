/-
  No cell of these rows narrows 'for every input' (looked for: loops, veiled, ifaces, maps, wideKeys, modest, calm, conditions, laid).
  DERIVED. THE GIVEN ROWS OF THIS SEAT. 5 by the template 'for every input the law returns true; each argument reads behind the call as it read before'; 0 by the template 'total and deterministic' (their statements: YthhjgdephhfdhaaTotals.lean).
  GIVEN WITH THE SEED: the statements are not yours to turn. If you find one false, say at which input.
  Laid BY PROGRAM, IN A SANDBOX (cutbox-rows.mjs): the forced cells as the released guide's own fill.sh prints them over the translation 947be3241a7a90d5… (all of the seat's roots in one cut). By AI agents, Wed Nov 11 2026. No macro, syntax, notation, axiom, sorry.
-/
import Derived.Test.YthhjgdephhfdhaaChecked
import GoSem.Claim
import GoSem.ClaimJoined
import GoSem.ClaimMapViews
import Derived.JoinedTies
import Derived.KernelRfl
namespace Go.Proofs.Ythhjgdephhfdhaa
/- THE CELL 'sum', in the pinned program and in every row, IS THE sha256 OF THE DUMP (.gsa) THAT YthhjgdephhfdhaaProg.lean LOADS. Nothing in Lean hashes anything: it is a label: what it is worth is what the hold of that sum in a sandbox is worth. -/
noncomputable def Try.pinned : Pinned := { name := "ythhjgdephhfdhaa", sum := "947be3241a7a90d551d1948cb9eb94441330e0ecfd9ed227ee3f6efb3b1430dc", checked := Try.checked }
namespace Rows
def none {H : Type} : Left H := { results := [], args := [] }

/-- 'systolelaw17.LevelGoes': WHATEVER THE INPUT: true; the input reads as it did. -/
def levelGoesSpec : ChangeSpec := { name := "levelGoes", fn := fun _ => fun
  | [d1, d2, d3] => { results := [.lit (.bool true)], args := [d1, d2, d3] }
  | _ => none }
def levelGoesRow : OpenClaim := { program := "ythhjgdephhfdhaa", sum := "947be3241a7a90d551d1948cb9eb94441330e0ecfd9ed227ee3f6efb3b1430dc", func := "systole/systolelaw17.LevelGoes", spec := "levelGoes", apart := false }
def LevelGoesSaid : Prop := levelGoesRow.holds Try.pinned (OpenSpec.ofChange levelGoesSpec)

/-- ITS FALSE NEIGHBOUR: 'it returns false'. Refute it at one input. -/
def levelGoesWrong : ChangeSpec := { name := "levelGoes", fn := fun _ => fun
  | [d1, d2, d3] => { results := [.lit (.bool false)], args := [d1, d2, d3] }
  | _ => none }
def LevelGoesWrongFalsely : Prop := levelGoesRow.holds Try.pinned (OpenSpec.ofChange levelGoesWrong)

/-- 'systolelaw17.LevelThresholds': WHATEVER THE INPUT: true; the input reads as it did. -/
def levelThresholdsSpec : ChangeSpec := { name := "levelThresholds", fn := fun _ => fun
  | [d] => { results := [.lit (.bool true)], args := [d] }
  | _ => none }
def levelThresholdsRow : OpenClaim := { program := "ythhjgdephhfdhaa", sum := "947be3241a7a90d551d1948cb9eb94441330e0ecfd9ed227ee3f6efb3b1430dc", func := "systole/systolelaw17.LevelThresholds", spec := "levelThresholds", apart := false }
def LevelThresholdsSaid : Prop := levelThresholdsRow.holds Try.pinned (OpenSpec.ofChange levelThresholdsSpec)

/-- ITS FALSE NEIGHBOUR: 'it returns false'. Refute it at one input. -/
def levelThresholdsWrong : ChangeSpec := { name := "levelThresholds", fn := fun _ => fun
  | [d] => { results := [.lit (.bool false)], args := [d] }
  | _ => none }
def LevelThresholdsWrongFalsely : Prop := levelThresholdsRow.holds Try.pinned (OpenSpec.ofChange levelThresholdsWrong)

/-- 'systolelaw17.LevelBetween': WHATEVER THE INPUT: true; the input reads as it did. -/
def levelBetweenSpec : ChangeSpec := { name := "levelBetween", fn := fun _ => fun
  | [d1, d2] => { results := [.lit (.bool true)], args := [d1, d2] }
  | _ => none }
def levelBetweenRow : OpenClaim := { program := "ythhjgdephhfdhaa", sum := "947be3241a7a90d551d1948cb9eb94441330e0ecfd9ed227ee3f6efb3b1430dc", func := "systole/systolelaw17.LevelBetween", spec := "levelBetween", apart := false }
def LevelBetweenSaid : Prop := levelBetweenRow.holds Try.pinned (OpenSpec.ofChange levelBetweenSpec)

/-- ITS FALSE NEIGHBOUR: 'it returns false'. Refute it at one input. -/
def levelBetweenWrong : ChangeSpec := { name := "levelBetween", fn := fun _ => fun
  | [d1, d2] => { results := [.lit (.bool false)], args := [d1, d2] }
  | _ => none }
def LevelBetweenWrongFalsely : Prop := levelBetweenRow.holds Try.pinned (OpenSpec.ofChange levelBetweenWrong)

/-- 'systolelaw17.LevelKept': WHATEVER THE INPUT: true; the input reads as it did. -/
def levelKeptSpec : ChangeSpec := { name := "levelKept", fn := fun _ => fun
  | [d1, d2] => { results := [.lit (.bool true)], args := [d1, d2] }
  | _ => none }
def levelKeptRow : OpenClaim := { program := "ythhjgdephhfdhaa", sum := "947be3241a7a90d551d1948cb9eb94441330e0ecfd9ed227ee3f6efb3b1430dc", func := "systole/systolelaw17.LevelKept", spec := "levelKept", apart := false }
def LevelKeptSaid : Prop := levelKeptRow.holds Try.pinned (OpenSpec.ofChange levelKeptSpec)

/-- ITS FALSE NEIGHBOUR: 'it returns false'. Refute it at one input. -/
def levelKeptWrong : ChangeSpec := { name := "levelKept", fn := fun _ => fun
  | [d1, d2] => { results := [.lit (.bool false)], args := [d1, d2] }
  | _ => none }
def LevelKeptWrongFalsely : Prop := levelKeptRow.holds Try.pinned (OpenSpec.ofChange levelKeptWrong)

/-- 'systolelaw17.LevelAbove': WHATEVER THE INPUT: true; the input reads as it did. -/
def levelAboveSpec : ChangeSpec := { name := "levelAbove", fn := fun _ => fun
  | [d1, d2] => { results := [.lit (.bool true)], args := [d1, d2] }
  | _ => none }
def levelAboveRow : OpenClaim := { program := "ythhjgdephhfdhaa", sum := "947be3241a7a90d551d1948cb9eb94441330e0ecfd9ed227ee3f6efb3b1430dc", func := "systole/systolelaw17.LevelAbove", spec := "levelAbove", apart := false }
def LevelAboveSaid : Prop := levelAboveRow.holds Try.pinned (OpenSpec.ofChange levelAboveSpec)

/-- ITS FALSE NEIGHBOUR: 'it returns false'. Refute it at one input. -/
def levelAboveWrong : ChangeSpec := { name := "levelAbove", fn := fun _ => fun
  | [d1, d2] => { results := [.lit (.bool false)], args := [d1, d2] }
  | _ => none }
def LevelAboveWrongFalsely : Prop := levelAboveRow.holds Try.pinned (OpenSpec.ofChange levelAboveWrong)

/- THE SECOND FORM. 'bulk': how many values and letters a reading holds, each counted each time it is reached (what is shared counts as often as it is met; a slice's spare places count too). A statement '..UptoSaid' is the law's where the arguments, and the package variables that the reading takes, are together of bulk at most 1048576: NARROWER than '..Said'. Prove '..Said' where nothing that the law and all that it calls make is longer than what came in: it says more and counts as full. Else prove '..UptoSaid'. A law counts once. -/
mutual
def uptoBulk {H : Type} : DataW H → Nat
  | .lit (.string bytes) => bytes.length + 1
  | .lit _ => 1
  | .nil => 1
  | .ptr d => uptoBulk d + 1
  | .slice elems spare => uptoBulkAll elems + uptoBulkAll spare + 1
  | .agg parts => uptoBulkAll parts + 1
  | .iface _ d => uptoBulk d + 1
  | .map entries => uptoBulkEntries entries + 1
  | .held _ => 1
def uptoBulkAll {H : Type} : List (DataW H) → Nat
  | [] => 0
  | d :: r => uptoBulk d + uptoBulkAll r
def uptoBulkEntries {H : Type} : List (Lit × DataW H) → Nat
  | [] => 0
  | x :: r => uptoBulkEntry x + uptoBulkEntries r
def uptoBulkEntry {H : Type} : Lit × DataW H → Nat
  | (.string bytes, d) => bytes.length + uptoBulk d + 1
  | (_, d) => uptoBulk d + 1
 end
def uptoSmall : (H : Type) → List (DataW H) → Bool := fun _ ds => decide (uptoBulkAll ds ≤ 1048576)
def OpenSpec.upto (s : _root_.Go.ChangeSpec) : _root_.Go.OpenSpec := { _root_.Go.OpenSpec.ofChange s with cond := some uptoSmall }

/-- 'systolelaw17.LevelGoes', WHERE WHAT IT READS IS OF BULK AT MOST 1048576: true; the input reads as it did. -/
def levelGoesUptoRow : OpenClaim := { program := "ythhjgdephhfdhaa", sum := "947be3241a7a90d551d1948cb9eb94441330e0ecfd9ed227ee3f6efb3b1430dc", func := "systole/systolelaw17.LevelGoes", spec := "levelGoes", apart := false, narrowed := true }
def LevelGoesUptoSaid : Prop := levelGoesUptoRow.holds Try.pinned (OpenSpec.upto levelGoesSpec)

/-- 'systolelaw17.LevelThresholds', WHERE WHAT IT READS IS OF BULK AT MOST 1048576: true; the input reads as it did. -/
def levelThresholdsUptoRow : OpenClaim := { program := "ythhjgdephhfdhaa", sum := "947be3241a7a90d551d1948cb9eb94441330e0ecfd9ed227ee3f6efb3b1430dc", func := "systole/systolelaw17.LevelThresholds", spec := "levelThresholds", apart := false, narrowed := true }
def LevelThresholdsUptoSaid : Prop := levelThresholdsUptoRow.holds Try.pinned (OpenSpec.upto levelThresholdsSpec)

/-- 'systolelaw17.LevelBetween', WHERE WHAT IT READS IS OF BULK AT MOST 1048576: true; the input reads as it did. -/
def levelBetweenUptoRow : OpenClaim := { program := "ythhjgdephhfdhaa", sum := "947be3241a7a90d551d1948cb9eb94441330e0ecfd9ed227ee3f6efb3b1430dc", func := "systole/systolelaw17.LevelBetween", spec := "levelBetween", apart := false, narrowed := true }
def LevelBetweenUptoSaid : Prop := levelBetweenUptoRow.holds Try.pinned (OpenSpec.upto levelBetweenSpec)

/-- 'systolelaw17.LevelKept', WHERE WHAT IT READS IS OF BULK AT MOST 1048576: true; the input reads as it did. -/
def levelKeptUptoRow : OpenClaim := { program := "ythhjgdephhfdhaa", sum := "947be3241a7a90d551d1948cb9eb94441330e0ecfd9ed227ee3f6efb3b1430dc", func := "systole/systolelaw17.LevelKept", spec := "levelKept", apart := false, narrowed := true }
def LevelKeptUptoSaid : Prop := levelKeptUptoRow.holds Try.pinned (OpenSpec.upto levelKeptSpec)

/-- 'systolelaw17.LevelAbove', WHERE WHAT IT READS IS OF BULK AT MOST 1048576: true; the input reads as it did. -/
def levelAboveUptoRow : OpenClaim := { program := "ythhjgdephhfdhaa", sum := "947be3241a7a90d551d1948cb9eb94441330e0ecfd9ed227ee3f6efb3b1430dc", func := "systole/systolelaw17.LevelAbove", spec := "levelAbove", apart := false, narrowed := true }
def LevelAboveUptoSaid : Prop := levelAboveUptoRow.holds Try.pinned (OpenSpec.upto levelAboveSpec)

end Rows
end Go.Proofs.Ythhjgdephhfdhaa
