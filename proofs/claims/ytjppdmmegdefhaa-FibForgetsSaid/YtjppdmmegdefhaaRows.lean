/-
  No cell of these rows narrows 'for every input' (looked for: loops, veiled, ifaces, maps, wideKeys, modest, calm, conditions, laid).
  DERIVED. THE GIVEN ROWS OF THIS SEAT. 4 by the template 'for every input the law returns true; each argument reads behind the call as it read before'; 0 by the template 'total and deterministic' (their statements: YtjppdmmegdefhaaTotals.lean).
  GIVEN WITH THE SEED: the statements are not yours to turn. If you find one false, say at which input.
  Laid BY PROGRAM, IN A SANDBOX (cutbox-rows.mjs): the forced cells as the released guide's own fill.sh prints them over the translation 8524f01f1bc182a1… (all of the seat's roots in one cut). By AI agents, Wed Nov 11 2026. No macro, syntax, notation, axiom, sorry.
-/
import Derived.Test.YtjppdmmegdefhaaChecked
import GoSem.Claim
import GoSem.ClaimJoined
import GoSem.ClaimMapViews
import Derived.JoinedTies
import Derived.KernelRfl
namespace Go.Proofs.Ytjppdmmegdefhaa
/- THE CELL 'sum', in the pinned program and in every row, IS THE sha256 OF THE DUMP (.gsa) THAT YtjppdmmegdefhaaProg.lean LOADS. Nothing in Lean hashes anything: it is a label: what it is worth is what the hold of that sum in a sandbox is worth. -/
noncomputable def Try.pinned : Pinned := { name := "ytjppdmmegdefhaa", sum := "8524f01f1bc182a1877a161923da9fe48165d7bf29be79c50ef6a05e8c998c06", checked := Try.checked }
namespace Rows
def none {H : Type} : Left H := { results := [], args := [] }

/-- 'systolelaw21.FibCounts': WHATEVER THE INPUT: true; the input reads as it did. -/
def fibCountsSpec : ChangeSpec := { name := "fibCounts", fn := fun _ => fun
  | [d1, d2, d3] => { results := [.lit (.bool true)], args := [d1, d2, d3] }
  | _ => none }
def fibCountsRow : OpenClaim := { program := "ytjppdmmegdefhaa", sum := "8524f01f1bc182a1877a161923da9fe48165d7bf29be79c50ef6a05e8c998c06", func := "systole/systolelaw21.FibCounts", spec := "fibCounts", apart := false }
def FibCountsSaid : Prop := fibCountsRow.holds Try.pinned (OpenSpec.ofChange fibCountsSpec)

/-- ITS FALSE NEIGHBOUR: 'it returns false'. Refute it at one input. -/
def fibCountsWrong : ChangeSpec := { name := "fibCounts", fn := fun _ => fun
  | [d1, d2, d3] => { results := [.lit (.bool false)], args := [d1, d2, d3] }
  | _ => none }
def FibCountsWrongFalsely : Prop := fibCountsRow.holds Try.pinned (OpenSpec.ofChange fibCountsWrong)

/-- 'systolelaw21.FibBounds': WHATEVER THE INPUT: true; the input reads as it did. -/
def fibBoundsSpec : ChangeSpec := { name := "fibBounds", fn := fun _ => fun
  | [d] => { results := [.lit (.bool true)], args := [d] }
  | _ => none }
def fibBoundsRow : OpenClaim := { program := "ytjppdmmegdefhaa", sum := "8524f01f1bc182a1877a161923da9fe48165d7bf29be79c50ef6a05e8c998c06", func := "systole/systolelaw21.FibBounds", spec := "fibBounds", apart := false }
def FibBoundsSaid : Prop := fibBoundsRow.holds Try.pinned (OpenSpec.ofChange fibBoundsSpec)

/-- ITS FALSE NEIGHBOUR: 'it returns false'. Refute it at one input. -/
def fibBoundsWrong : ChangeSpec := { name := "fibBounds", fn := fun _ => fun
  | [d] => { results := [.lit (.bool false)], args := [d] }
  | _ => none }
def FibBoundsWrongFalsely : Prop := fibBoundsRow.holds Try.pinned (OpenSpec.ofChange fibBoundsWrong)

/-- 'systolelaw21.FibForgets': WHATEVER THE INPUT: true; the input reads as it did. -/
def fibForgetsSpec : ChangeSpec := { name := "fibForgets", fn := fun _ => fun
  | [d1, d2, d3] => { results := [.lit (.bool true)], args := [d1, d2, d3] }
  | _ => none }
def fibForgetsRow : OpenClaim := { program := "ytjppdmmegdefhaa", sum := "8524f01f1bc182a1877a161923da9fe48165d7bf29be79c50ef6a05e8c998c06", func := "systole/systolelaw21.FibForgets", spec := "fibForgets", apart := false }
def FibForgetsSaid : Prop := fibForgetsRow.holds Try.pinned (OpenSpec.ofChange fibForgetsSpec)

/-- ITS FALSE NEIGHBOUR: 'it returns false'. Refute it at one input. -/
def fibForgetsWrong : ChangeSpec := { name := "fibForgets", fn := fun _ => fun
  | [d1, d2, d3] => { results := [.lit (.bool false)], args := [d1, d2, d3] }
  | _ => none }
def FibForgetsWrongFalsely : Prop := fibForgetsRow.holds Try.pinned (OpenSpec.ofChange fibForgetsWrong)

/-- 'systolelaw21.FibNobody': WHATEVER THE INPUT: true; the input reads as it did. -/
def fibNobodySpec : ChangeSpec := { name := "fibNobody", fn := fun _ => fun
  | [d] => { results := [.lit (.bool true)], args := [d] }
  | _ => none }
def fibNobodyRow : OpenClaim := { program := "ytjppdmmegdefhaa", sum := "8524f01f1bc182a1877a161923da9fe48165d7bf29be79c50ef6a05e8c998c06", func := "systole/systolelaw21.FibNobody", spec := "fibNobody", apart := false }
def FibNobodySaid : Prop := fibNobodyRow.holds Try.pinned (OpenSpec.ofChange fibNobodySpec)

/-- ITS FALSE NEIGHBOUR: 'it returns false'. Refute it at one input. -/
def fibNobodyWrong : ChangeSpec := { name := "fibNobody", fn := fun _ => fun
  | [d] => { results := [.lit (.bool false)], args := [d] }
  | _ => none }
def FibNobodyWrongFalsely : Prop := fibNobodyRow.holds Try.pinned (OpenSpec.ofChange fibNobodyWrong)

/- THE SECOND FORM. 'bulk': how many values and letters a reading holds, each counted each time it is reached (what is shared counts as often as it is met; a slice's spare places count too). A statement '..UptoSaid' is the law's where the arguments, and the package variables that the reading takes, are together of bulk at most 1048576: NARROWER than '..Said'. Prove '..Said' where nothing that the law and all that it calls make is longer than what came in: it says more and counts as full. Else prove '..UptoSaid'. A law counts once. -/
mutual
def uptoBulk {H : Type} : DataW H → Nat
  | .lit (.string bytes) => bytes.length + 1
  | .lit _ => 1
  | .nil => 1
  | .ptr d => uptoBulk d + 1
  | .slice elems spare => uptoBulkAll elems + uptoBulkAll spare + 1
  | .agg parts => uptoBulkAll parts + 1
  | .iface _ d => uptoBulk d + 1
  | .map entries => uptoBulkEntries entries + 1
  | .held _ => 1
def uptoBulkAll {H : Type} : List (DataW H) → Nat
  | [] => 0
  | d :: r => uptoBulk d + uptoBulkAll r
def uptoBulkEntries {H : Type} : List (Lit × DataW H) → Nat
  | [] => 0
  | x :: r => uptoBulkEntry x + uptoBulkEntries r
def uptoBulkEntry {H : Type} : Lit × DataW H → Nat
  | (.string bytes, d) => bytes.length + uptoBulk d + 1
  | (_, d) => uptoBulk d + 1
 end
def uptoSmall : (H : Type) → List (DataW H) → Bool := fun _ ds => decide (uptoBulkAll ds ≤ 1048576)
def OpenSpec.upto (s : _root_.Go.ChangeSpec) : _root_.Go.OpenSpec := { _root_.Go.OpenSpec.ofChange s with cond := some uptoSmall }

/-- 'systolelaw21.FibCounts', WHERE WHAT IT READS IS OF BULK AT MOST 1048576: true; the input reads as it did. -/
def fibCountsUptoRow : OpenClaim := { program := "ytjppdmmegdefhaa", sum := "8524f01f1bc182a1877a161923da9fe48165d7bf29be79c50ef6a05e8c998c06", func := "systole/systolelaw21.FibCounts", spec := "fibCounts", apart := false, narrowed := true }
def FibCountsUptoSaid : Prop := fibCountsUptoRow.holds Try.pinned (OpenSpec.upto fibCountsSpec)

/-- 'systolelaw21.FibBounds', WHERE WHAT IT READS IS OF BULK AT MOST 1048576: true; the input reads as it did. -/
def fibBoundsUptoRow : OpenClaim := { program := "ytjppdmmegdefhaa", sum := "8524f01f1bc182a1877a161923da9fe48165d7bf29be79c50ef6a05e8c998c06", func := "systole/systolelaw21.FibBounds", spec := "fibBounds", apart := false, narrowed := true }
def FibBoundsUptoSaid : Prop := fibBoundsUptoRow.holds Try.pinned (OpenSpec.upto fibBoundsSpec)

/-- 'systolelaw21.FibForgets', WHERE WHAT IT READS IS OF BULK AT MOST 1048576: true; the input reads as it did. -/
def fibForgetsUptoRow : OpenClaim := { program := "ytjppdmmegdefhaa", sum := "8524f01f1bc182a1877a161923da9fe48165d7bf29be79c50ef6a05e8c998c06", func := "systole/systolelaw21.FibForgets", spec := "fibForgets", apart := false, narrowed := true }
def FibForgetsUptoSaid : Prop := fibForgetsUptoRow.holds Try.pinned (OpenSpec.upto fibForgetsSpec)

/-- 'systolelaw21.FibNobody', WHERE WHAT IT READS IS OF BULK AT MOST 1048576: true; the input reads as it did. -/
def fibNobodyUptoRow : OpenClaim := { program := "ytjppdmmegdefhaa", sum := "8524f01f1bc182a1877a161923da9fe48165d7bf29be79c50ef6a05e8c998c06", func := "systole/systolelaw21.FibNobody", spec := "fibNobody", apart := false, narrowed := true }
def FibNobodyUptoSaid : Prop := fibNobodyUptoRow.holds Try.pinned (OpenSpec.upto fibNobodySpec)

end Rows
end Go.Proofs.Ytjppdmmegdefhaa
