/-
  No cell of these rows narrows 'for every input' (looked for: loops, veiled, ifaces, maps, wideKeys, modest, calm, conditions, laid).
  DERIVED. THE GIVEN ROWS OF THIS SEAT. 4 by the template 'for every input the law returns true; each argument reads behind the call as it read before'; 0 by the template 'total and deterministic' (their statements: YtgdhpoafjfjdiaaTotals.lean).
  GIVEN WITH THE SEED: the statements are not yours to turn. If you find one false, say at which input.
  Laid BY PROGRAM, IN A SANDBOX (cutbox-rows.mjs): the forced cells as the released guide's own fill.sh prints them over the translation 7c44e8f228afdcf4… (all of the seat's roots in one cut). By AI agents, Wed Nov 11 2026. No macro, syntax, notation, axiom, sorry.
-/
import Derived.Test.YtgdhpoafjfjdiaaChecked
import GoSem.Claim
import GoSem.ClaimJoined
import GoSem.ClaimMapViews
import Derived.JoinedTies
import Derived.KernelRfl
namespace Go.Proofs.Ytgdhpoafjfjdiaa
/- THE CELL 'sum', in the pinned program and in every row, IS THE sha256 OF THE DUMP (.gsa) THAT YtgdhpoafjfjdiaaProg.lean LOADS. Nothing in Lean hashes anything: it is a label: what it is worth is what the hold of that sum in a sandbox is worth. -/
noncomputable def Try.pinned : Pinned := { name := "ytgdhpoafjfjdiaa", sum := "7c44e8f228afdcf4c57677527f16f9a013611805d7b9d4661d4bafbf9df44702", checked := Try.checked }
namespace Rows
def none {H : Type} : Left H := { results := [], args := [] }

/-- 'systolelaw18.PaceMeans': WHATEVER THE INPUT: true; the input reads as it did. -/
def paceMeansSpec : ChangeSpec := { name := "paceMeans", fn := fun _ => fun
  | [d1, d2, d3] => { results := [.lit (.bool true)], args := [d1, d2, d3] }
  | _ => none }
def paceMeansRow : OpenClaim := { program := "ytgdhpoafjfjdiaa", sum := "7c44e8f228afdcf4c57677527f16f9a013611805d7b9d4661d4bafbf9df44702", func := "systole/systolelaw18.PaceMeans", spec := "paceMeans", apart := false }
def PaceMeansSaid : Prop := paceMeansRow.holds Try.pinned (OpenSpec.ofChange paceMeansSpec)

/-- ITS FALSE NEIGHBOUR: 'it returns false'. Refute it at one input. -/
def paceMeansWrong : ChangeSpec := { name := "paceMeans", fn := fun _ => fun
  | [d1, d2, d3] => { results := [.lit (.bool false)], args := [d1, d2, d3] }
  | _ => none }
def PaceMeansWrongFalsely : Prop := paceMeansRow.holds Try.pinned (OpenSpec.ofChange paceMeansWrong)

/-- 'systolelaw18.PaceRates': WHATEVER THE INPUT: true; the input reads as it did. -/
def paceRatesSpec : ChangeSpec := { name := "paceRates", fn := fun _ => fun
  | [d] => { results := [.lit (.bool true)], args := [d] }
  | _ => none }
def paceRatesRow : OpenClaim := { program := "ytgdhpoafjfjdiaa", sum := "7c44e8f228afdcf4c57677527f16f9a013611805d7b9d4661d4bafbf9df44702", func := "systole/systolelaw18.PaceRates", spec := "paceRates", apart := false }
def PaceRatesSaid : Prop := paceRatesRow.holds Try.pinned (OpenSpec.ofChange paceRatesSpec)

/-- ITS FALSE NEIGHBOUR: 'it returns false'. Refute it at one input. -/
def paceRatesWrong : ChangeSpec := { name := "paceRates", fn := fun _ => fun
  | [d] => { results := [.lit (.bool false)], args := [d] }
  | _ => none }
def PaceRatesWrongFalsely : Prop := paceRatesRow.holds Try.pinned (OpenSpec.ofChange paceRatesWrong)

/-- 'systolelaw18.PaceBetween': WHATEVER THE INPUT: true; the input reads as it did. -/
def paceBetweenSpec : ChangeSpec := { name := "paceBetween", fn := fun _ => fun
  | [d1, d2] => { results := [.lit (.bool true)], args := [d1, d2] }
  | _ => none }
def paceBetweenRow : OpenClaim := { program := "ytgdhpoafjfjdiaa", sum := "7c44e8f228afdcf4c57677527f16f9a013611805d7b9d4661d4bafbf9df44702", func := "systole/systolelaw18.PaceBetween", spec := "paceBetween", apart := false }
def PaceBetweenSaid : Prop := paceBetweenRow.holds Try.pinned (OpenSpec.ofChange paceBetweenSpec)

/-- ITS FALSE NEIGHBOUR: 'it returns false'. Refute it at one input. -/
def paceBetweenWrong : ChangeSpec := { name := "paceBetween", fn := fun _ => fun
  | [d1, d2] => { results := [.lit (.bool false)], args := [d1, d2] }
  | _ => none }
def PaceBetweenWrongFalsely : Prop := paceBetweenRow.holds Try.pinned (OpenSpec.ofChange paceBetweenWrong)

/-- 'systolelaw18.PaceNobody': WHATEVER THE INPUT: true; the input reads as it did. -/
def paceNobodySpec : ChangeSpec := { name := "paceNobody", fn := fun _ => fun
  | [d1, d2] => { results := [.lit (.bool true)], args := [d1, d2] }
  | _ => none }
def paceNobodyRow : OpenClaim := { program := "ytgdhpoafjfjdiaa", sum := "7c44e8f228afdcf4c57677527f16f9a013611805d7b9d4661d4bafbf9df44702", func := "systole/systolelaw18.PaceNobody", spec := "paceNobody", apart := false }
def PaceNobodySaid : Prop := paceNobodyRow.holds Try.pinned (OpenSpec.ofChange paceNobodySpec)

/-- ITS FALSE NEIGHBOUR: 'it returns false'. Refute it at one input. -/
def paceNobodyWrong : ChangeSpec := { name := "paceNobody", fn := fun _ => fun
  | [d1, d2] => { results := [.lit (.bool false)], args := [d1, d2] }
  | _ => none }
def PaceNobodyWrongFalsely : Prop := paceNobodyRow.holds Try.pinned (OpenSpec.ofChange paceNobodyWrong)

/- THE SECOND FORM. 'bulk': how many values and letters a reading holds, each counted each time it is reached (what is shared counts as often as it is met; a slice's spare places count too). A statement '..UptoSaid' is the law's where the arguments, and the package variables that the reading takes, are together of bulk at most 1048576: NARROWER than '..Said'. Prove '..Said' where nothing that the law and all that it calls make is longer than what came in: it says more and counts as full. Else prove '..UptoSaid'. A law counts once. -/
mutual
def uptoBulk {H : Type} : DataW H → Nat
  | .lit (.string bytes) => bytes.length + 1
  | .lit _ => 1
  | .nil => 1
  | .ptr d => uptoBulk d + 1
  | .slice elems spare => uptoBulkAll elems + uptoBulkAll spare + 1
  | .agg parts => uptoBulkAll parts + 1
  | .iface _ d => uptoBulk d + 1
  | .map entries => uptoBulkEntries entries + 1
  | .held _ => 1
def uptoBulkAll {H : Type} : List (DataW H) → Nat
  | [] => 0
  | d :: r => uptoBulk d + uptoBulkAll r
def uptoBulkEntries {H : Type} : List (Lit × DataW H) → Nat
  | [] => 0
  | x :: r => uptoBulkEntry x + uptoBulkEntries r
def uptoBulkEntry {H : Type} : Lit × DataW H → Nat
  | (.string bytes, d) => bytes.length + uptoBulk d + 1
  | (_, d) => uptoBulk d + 1
 end
def uptoSmall : (H : Type) → List (DataW H) → Bool := fun _ ds => decide (uptoBulkAll ds ≤ 1048576)
def OpenSpec.upto (s : _root_.Go.ChangeSpec) : _root_.Go.OpenSpec := { _root_.Go.OpenSpec.ofChange s with cond := some uptoSmall }

/-- 'systolelaw18.PaceMeans', WHERE WHAT IT READS IS OF BULK AT MOST 1048576: true; the input reads as it did. -/
def paceMeansUptoRow : OpenClaim := { program := "ytgdhpoafjfjdiaa", sum := "7c44e8f228afdcf4c57677527f16f9a013611805d7b9d4661d4bafbf9df44702", func := "systole/systolelaw18.PaceMeans", spec := "paceMeans", apart := false, narrowed := true }
def PaceMeansUptoSaid : Prop := paceMeansUptoRow.holds Try.pinned (OpenSpec.upto paceMeansSpec)

/-- 'systolelaw18.PaceRates', WHERE WHAT IT READS IS OF BULK AT MOST 1048576: true; the input reads as it did. -/
def paceRatesUptoRow : OpenClaim := { program := "ytgdhpoafjfjdiaa", sum := "7c44e8f228afdcf4c57677527f16f9a013611805d7b9d4661d4bafbf9df44702", func := "systole/systolelaw18.PaceRates", spec := "paceRates", apart := false, narrowed := true }
def PaceRatesUptoSaid : Prop := paceRatesUptoRow.holds Try.pinned (OpenSpec.upto paceRatesSpec)

/-- 'systolelaw18.PaceBetween', WHERE WHAT IT READS IS OF BULK AT MOST 1048576: true; the input reads as it did. -/
def paceBetweenUptoRow : OpenClaim := { program := "ytgdhpoafjfjdiaa", sum := "7c44e8f228afdcf4c57677527f16f9a013611805d7b9d4661d4bafbf9df44702", func := "systole/systolelaw18.PaceBetween", spec := "paceBetween", apart := false, narrowed := true }
def PaceBetweenUptoSaid : Prop := paceBetweenUptoRow.holds Try.pinned (OpenSpec.upto paceBetweenSpec)

/-- 'systolelaw18.PaceNobody', WHERE WHAT IT READS IS OF BULK AT MOST 1048576: true; the input reads as it did. -/
def paceNobodyUptoRow : OpenClaim := { program := "ytgdhpoafjfjdiaa", sum := "7c44e8f228afdcf4c57677527f16f9a013611805d7b9d4661d4bafbf9df44702", func := "systole/systolelaw18.PaceNobody", spec := "paceNobody", apart := false, narrowed := true }
def PaceNobodyUptoSaid : Prop := paceNobodyUptoRow.holds Try.pinned (OpenSpec.upto paceNobodySpec)

end Rows
end Go.Proofs.Ytgdhpoafjfjdiaa
