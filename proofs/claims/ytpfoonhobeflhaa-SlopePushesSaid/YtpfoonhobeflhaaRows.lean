/-
  No cell of these rows narrows 'for every input' (looked for: loops, veiled, ifaces, maps, wideKeys, modest, calm, conditions, laid).
  DERIVED. THE GIVEN ROWS OF THIS SEAT. 4 by the template 'for every input the law returns true; each argument reads behind the call as it read before'; 0 by the template 'total and deterministic' (their statements: YtpfoonhobeflhaaTotals.lean).
  GIVEN WITH THE SEED: the statements are not yours to turn. If you find one false, say at which input.
  Laid BY PROGRAM, IN A SANDBOX (cutbox-rows.mjs): the forced cells as the released guide's own fill.sh prints them over the translation 67a6fbb29d088a72… (all of the seat's roots in one cut). By AI agents, Wed Nov 11 2026. No macro, syntax, notation, axiom, sorry.
-/
import Derived.Test.YtpfoonhobeflhaaChecked
import GoSem.Claim
import GoSem.ClaimJoined
import GoSem.ClaimMapViews
import Derived.JoinedTies
import Derived.KernelRfl
namespace Go.Proofs.Ytpfoonhobeflhaa
/- THE CELL 'sum', in the pinned program and in every row, IS THE sha256 OF THE DUMP (.gsa) THAT YtpfoonhobeflhaaProg.lean LOADS. Nothing in Lean hashes anything: it is a label: what it is worth is what the hold of that sum in a sandbox is worth. -/
noncomputable def Try.pinned : Pinned := { name := "ytpfoonhobeflhaa", sum := "67a6fbb29d088a72059a66da91efb785e7425e0c5343c01e6f1f32b11fa4102f", checked := Try.checked }
namespace Rows
def none {H : Type} : Left H := { results := [], args := [] }

/-- 'systolelaw13.SlopePushes': WHATEVER THE INPUT: true; the input reads as it did. -/
def slopePushesSpec : ChangeSpec := { name := "slopePushes", fn := fun _ => fun
  | [d1, d2] => { results := [.lit (.bool true)], args := [d1, d2] }
  | _ => none }
def slopePushesRow : OpenClaim := { program := "ytpfoonhobeflhaa", sum := "67a6fbb29d088a72059a66da91efb785e7425e0c5343c01e6f1f32b11fa4102f", func := "systole/systolelaw13.SlopePushes", spec := "slopePushes", apart := false }
def SlopePushesSaid : Prop := slopePushesRow.holds Try.pinned (OpenSpec.ofChange slopePushesSpec)

/-- ITS FALSE NEIGHBOUR: 'it returns false'. Refute it at one input. -/
def slopePushesWrong : ChangeSpec := { name := "slopePushes", fn := fun _ => fun
  | [d1, d2] => { results := [.lit (.bool false)], args := [d1, d2] }
  | _ => none }
def SlopePushesWrongFalsely : Prop := slopePushesRow.holds Try.pinned (OpenSpec.ofChange slopePushesWrong)

/-- 'systolelaw13.SlopeSquares': WHATEVER THE INPUT: true; the input reads as it did. -/
def slopeSquaresSpec : ChangeSpec := { name := "slopeSquares", fn := fun _ => fun
  | [d1, d2] => { results := [.lit (.bool true)], args := [d1, d2] }
  | _ => none }
def slopeSquaresRow : OpenClaim := { program := "ytpfoonhobeflhaa", sum := "67a6fbb29d088a72059a66da91efb785e7425e0c5343c01e6f1f32b11fa4102f", func := "systole/systolelaw13.SlopeSquares", spec := "slopeSquares", apart := false }
def SlopeSquaresSaid : Prop := slopeSquaresRow.holds Try.pinned (OpenSpec.ofChange slopeSquaresSpec)

/-- ITS FALSE NEIGHBOUR: 'it returns false'. Refute it at one input. -/
def slopeSquaresWrong : ChangeSpec := { name := "slopeSquares", fn := fun _ => fun
  | [d1, d2] => { results := [.lit (.bool false)], args := [d1, d2] }
  | _ => none }
def SlopeSquaresWrongFalsely : Prop := slopeSquaresRow.holds Try.pinned (OpenSpec.ofChange slopeSquaresWrong)

/-- 'systolelaw13.SlopeBounds': WHATEVER THE INPUT: true; the input reads as it did. -/
def slopeBoundsSpec : ChangeSpec := { name := "slopeBounds", fn := fun _ => fun
  | [d] => { results := [.lit (.bool true)], args := [d] }
  | _ => none }
def slopeBoundsRow : OpenClaim := { program := "ytpfoonhobeflhaa", sum := "67a6fbb29d088a72059a66da91efb785e7425e0c5343c01e6f1f32b11fa4102f", func := "systole/systolelaw13.SlopeBounds", spec := "slopeBounds", apart := false }
def SlopeBoundsSaid : Prop := slopeBoundsRow.holds Try.pinned (OpenSpec.ofChange slopeBoundsSpec)

/-- ITS FALSE NEIGHBOUR: 'it returns false'. Refute it at one input. -/
def slopeBoundsWrong : ChangeSpec := { name := "slopeBounds", fn := fun _ => fun
  | [d] => { results := [.lit (.bool false)], args := [d] }
  | _ => none }
def SlopeBoundsWrongFalsely : Prop := slopeBoundsRow.holds Try.pinned (OpenSpec.ofChange slopeBoundsWrong)

/-- 'systolelaw13.SlopeLines': WHATEVER THE INPUT: true; the input reads as it did. -/
def slopeLinesSpec : ChangeSpec := { name := "slopeLines", fn := fun _ => fun
  | [d1, d2, d3] => { results := [.lit (.bool true)], args := [d1, d2, d3] }
  | _ => none }
def slopeLinesRow : OpenClaim := { program := "ytpfoonhobeflhaa", sum := "67a6fbb29d088a72059a66da91efb785e7425e0c5343c01e6f1f32b11fa4102f", func := "systole/systolelaw13.SlopeLines", spec := "slopeLines", apart := false }
def SlopeLinesSaid : Prop := slopeLinesRow.holds Try.pinned (OpenSpec.ofChange slopeLinesSpec)

/-- ITS FALSE NEIGHBOUR: 'it returns false'. Refute it at one input. -/
def slopeLinesWrong : ChangeSpec := { name := "slopeLines", fn := fun _ => fun
  | [d1, d2, d3] => { results := [.lit (.bool false)], args := [d1, d2, d3] }
  | _ => none }
def SlopeLinesWrongFalsely : Prop := slopeLinesRow.holds Try.pinned (OpenSpec.ofChange slopeLinesWrong)

/- THE SECOND FORM. 'bulk': how many values and letters a reading holds, each counted each time it is reached (what is shared counts as often as it is met; a slice's spare places count too). A statement '..UptoSaid' is the law's where the arguments, and the package variables that the reading takes, are together of bulk at most 1048576: NARROWER than '..Said'. Prove '..Said' where nothing that the law and all that it calls make is longer than what came in: it says more and counts as full. Else prove '..UptoSaid'. A law counts once. -/
mutual
def uptoBulk {H : Type} : DataW H → Nat
  | .lit (.string bytes) => bytes.length + 1
  | .lit _ => 1
  | .nil => 1
  | .ptr d => uptoBulk d + 1
  | .slice elems spare => uptoBulkAll elems + uptoBulkAll spare + 1
  | .agg parts => uptoBulkAll parts + 1
  | .iface _ d => uptoBulk d + 1
  | .map entries => uptoBulkEntries entries + 1
  | .held _ => 1
def uptoBulkAll {H : Type} : List (DataW H) → Nat
  | [] => 0
  | d :: r => uptoBulk d + uptoBulkAll r
def uptoBulkEntries {H : Type} : List (Lit × DataW H) → Nat
  | [] => 0
  | x :: r => uptoBulkEntry x + uptoBulkEntries r
def uptoBulkEntry {H : Type} : Lit × DataW H → Nat
  | (.string bytes, d) => bytes.length + uptoBulk d + 1
  | (_, d) => uptoBulk d + 1
 end
def uptoSmall : (H : Type) → List (DataW H) → Bool := fun _ ds => decide (uptoBulkAll ds ≤ 1048576)
def OpenSpec.upto (s : _root_.Go.ChangeSpec) : _root_.Go.OpenSpec := { _root_.Go.OpenSpec.ofChange s with cond := some uptoSmall }

/-- 'systolelaw13.SlopePushes', WHERE WHAT IT READS IS OF BULK AT MOST 1048576: true; the input reads as it did. -/
def slopePushesUptoRow : OpenClaim := { program := "ytpfoonhobeflhaa", sum := "67a6fbb29d088a72059a66da91efb785e7425e0c5343c01e6f1f32b11fa4102f", func := "systole/systolelaw13.SlopePushes", spec := "slopePushes", apart := false, narrowed := true }
def SlopePushesUptoSaid : Prop := slopePushesUptoRow.holds Try.pinned (OpenSpec.upto slopePushesSpec)

/-- 'systolelaw13.SlopeSquares', WHERE WHAT IT READS IS OF BULK AT MOST 1048576: true; the input reads as it did. -/
def slopeSquaresUptoRow : OpenClaim := { program := "ytpfoonhobeflhaa", sum := "67a6fbb29d088a72059a66da91efb785e7425e0c5343c01e6f1f32b11fa4102f", func := "systole/systolelaw13.SlopeSquares", spec := "slopeSquares", apart := false, narrowed := true }
def SlopeSquaresUptoSaid : Prop := slopeSquaresUptoRow.holds Try.pinned (OpenSpec.upto slopeSquaresSpec)

/-- 'systolelaw13.SlopeBounds', WHERE WHAT IT READS IS OF BULK AT MOST 1048576: true; the input reads as it did. -/
def slopeBoundsUptoRow : OpenClaim := { program := "ytpfoonhobeflhaa", sum := "67a6fbb29d088a72059a66da91efb785e7425e0c5343c01e6f1f32b11fa4102f", func := "systole/systolelaw13.SlopeBounds", spec := "slopeBounds", apart := false, narrowed := true }
def SlopeBoundsUptoSaid : Prop := slopeBoundsUptoRow.holds Try.pinned (OpenSpec.upto slopeBoundsSpec)

/-- 'systolelaw13.SlopeLines', WHERE WHAT IT READS IS OF BULK AT MOST 1048576: true; the input reads as it did. -/
def slopeLinesUptoRow : OpenClaim := { program := "ytpfoonhobeflhaa", sum := "67a6fbb29d088a72059a66da91efb785e7425e0c5343c01e6f1f32b11fa4102f", func := "systole/systolelaw13.SlopeLines", spec := "slopeLines", apart := false, narrowed := true }
def SlopeLinesUptoSaid : Prop := slopeLinesUptoRow.holds Try.pinned (OpenSpec.upto slopeLinesSpec)

end Rows
end Go.Proofs.Ytpfoonhobeflhaa
