/-
  No cell of these rows narrows 'for every input' (looked for: loops, veiled, ifaces, maps, wideKeys, modest, calm, conditions, laid).
  DERIVED. THE GIVEN ROWS OF THIS SEAT. 4 by the template 'for every input the law returns true; each argument reads behind the call as it read before'; 0 by the template 'total and deterministic' (their statements: YtjjnabhkdhobiaaTotals.lean).
  GIVEN WITH THE SEED: the statements are not yours to turn. If you find one false, say at which input.
  Laid BY PROGRAM, IN A SANDBOX (cutbox-rows.mjs): the forced cells as the released guide's own fill.sh prints them over the translation 9b69cd20539e65ca… (all of the seat's roots in one cut). By AI agents, Wed Nov 11 2026. No macro, syntax, notation, axiom, sorry.
-/
import Derived.Test.YtjjnabhkdhobiaaChecked
import GoSem.Claim
import GoSem.ClaimJoined
import GoSem.ClaimMapViews
import Derived.JoinedTies
import Derived.KernelRfl
namespace Go.Proofs.Ytjjnabhkdhobiaa
/- THE CELL 'sum', in the pinned program and in every row, IS THE sha256 OF THE DUMP (.gsa) THAT YtjjnabhkdhobiaaProg.lean LOADS. Nothing in Lean hashes anything: it is a label: what it is worth is what the hold of that sum in a sandbox is worth. -/
noncomputable def Try.pinned : Pinned := { name := "ytjjnabhkdhobiaa", sum := "9b69cd20539e65caa25da0d247e3f165918ad1c63ac92567163843aa59c03afc", checked := Try.checked }
namespace Rows
def none {H : Type} : Left H := { results := [], args := [] }

/-- 'systolelaw03.LineBacks': WHATEVER THE INPUT: true; the input reads as it did. -/
def lineBacksSpec : ChangeSpec := { name := "lineBacks", fn := fun _ => fun
  | [d1, d2, d3, d4] => { results := [.lit (.bool true)], args := [d1, d2, d3, d4] }
  | _ => none }
def lineBacksRow : OpenClaim := { program := "ytjjnabhkdhobiaa", sum := "9b69cd20539e65caa25da0d247e3f165918ad1c63ac92567163843aa59c03afc", func := "systole/systolelaw03.LineBacks", spec := "lineBacks", apart := false }
def LineBacksSaid : Prop := lineBacksRow.holds Try.pinned (OpenSpec.ofChange lineBacksSpec)

/-- ITS FALSE NEIGHBOUR: 'it returns false'. Refute it at one input. -/
def lineBacksWrong : ChangeSpec := { name := "lineBacks", fn := fun _ => fun
  | [d1, d2, d3, d4] => { results := [.lit (.bool false)], args := [d1, d2, d3, d4] }
  | _ => none }
def LineBacksWrongFalsely : Prop := lineBacksRow.holds Try.pinned (OpenSpec.ofChange lineBacksWrong)

/-- 'systolelaw03.LineSums': WHATEVER THE INPUT: true; the input reads as it did. -/
def lineSumsSpec : ChangeSpec := { name := "lineSums", fn := fun _ => fun
  | [d1, d2, d3, d4] => { results := [.lit (.bool true)], args := [d1, d2, d3, d4] }
  | _ => none }
def lineSumsRow : OpenClaim := { program := "ytjjnabhkdhobiaa", sum := "9b69cd20539e65caa25da0d247e3f165918ad1c63ac92567163843aa59c03afc", func := "systole/systolelaw03.LineSums", spec := "lineSums", apart := false }
def LineSumsSaid : Prop := lineSumsRow.holds Try.pinned (OpenSpec.ofChange lineSumsSpec)

/-- ITS FALSE NEIGHBOUR: 'it returns false'. Refute it at one input. -/
def lineSumsWrong : ChangeSpec := { name := "lineSums", fn := fun _ => fun
  | [d1, d2, d3, d4] => { results := [.lit (.bool false)], args := [d1, d2, d3, d4] }
  | _ => none }
def LineSumsWrongFalsely : Prop := lineSumsRow.holds Try.pinned (OpenSpec.ofChange lineSumsWrong)

/-- 'systolelaw03.LineRuns': WHATEVER THE INPUT: true; the input reads as it did. -/
def lineRunsSpec : ChangeSpec := { name := "lineRuns", fn := fun _ => fun
  | [d1, d2] => { results := [.lit (.bool true)], args := [d1, d2] }
  | _ => none }
def lineRunsRow : OpenClaim := { program := "ytjjnabhkdhobiaa", sum := "9b69cd20539e65caa25da0d247e3f165918ad1c63ac92567163843aa59c03afc", func := "systole/systolelaw03.LineRuns", spec := "lineRuns", apart := false }
def LineRunsSaid : Prop := lineRunsRow.holds Try.pinned (OpenSpec.ofChange lineRunsSpec)

/-- ITS FALSE NEIGHBOUR: 'it returns false'. Refute it at one input. -/
def lineRunsWrong : ChangeSpec := { name := "lineRuns", fn := fun _ => fun
  | [d1, d2] => { results := [.lit (.bool false)], args := [d1, d2] }
  | _ => none }
def LineRunsWrongFalsely : Prop := lineRunsRow.holds Try.pinned (OpenSpec.ofChange lineRunsWrong)

/-- 'systolelaw03.LinePieces': WHATEVER THE INPUT: true; the input reads as it did. -/
def linePiecesSpec : ChangeSpec := { name := "linePieces", fn := fun _ => fun
  | [d1, d2, d3] => { results := [.lit (.bool true)], args := [d1, d2, d3] }
  | _ => none }
def linePiecesRow : OpenClaim := { program := "ytjjnabhkdhobiaa", sum := "9b69cd20539e65caa25da0d247e3f165918ad1c63ac92567163843aa59c03afc", func := "systole/systolelaw03.LinePieces", spec := "linePieces", apart := false }
def LinePiecesSaid : Prop := linePiecesRow.holds Try.pinned (OpenSpec.ofChange linePiecesSpec)

/-- ITS FALSE NEIGHBOUR: 'it returns false'. Refute it at one input. -/
def linePiecesWrong : ChangeSpec := { name := "linePieces", fn := fun _ => fun
  | [d1, d2, d3] => { results := [.lit (.bool false)], args := [d1, d2, d3] }
  | _ => none }
def LinePiecesWrongFalsely : Prop := linePiecesRow.holds Try.pinned (OpenSpec.ofChange linePiecesWrong)

/- THE SECOND FORM. 'bulk': how many values and letters a reading holds, each counted each time it is reached (what is shared counts as often as it is met; a slice's spare places count too). A statement '..UptoSaid' is the law's where the arguments, and the package variables that the reading takes, are together of bulk at most 1048576: NARROWER than '..Said'. Prove '..Said' where nothing that the law and all that it calls make is longer than what came in: it says more and counts as full. Else prove '..UptoSaid'. A law counts once. -/
mutual
def uptoBulk {H : Type} : DataW H → Nat
  | .lit (.string bytes) => bytes.length + 1
  | .lit _ => 1
  | .nil => 1
  | .ptr d => uptoBulk d + 1
  | .slice elems spare => uptoBulkAll elems + uptoBulkAll spare + 1
  | .agg parts => uptoBulkAll parts + 1
  | .iface _ d => uptoBulk d + 1
  | .map entries => uptoBulkEntries entries + 1
  | .held _ => 1
def uptoBulkAll {H : Type} : List (DataW H) → Nat
  | [] => 0
  | d :: r => uptoBulk d + uptoBulkAll r
def uptoBulkEntries {H : Type} : List (Lit × DataW H) → Nat
  | [] => 0
  | x :: r => uptoBulkEntry x + uptoBulkEntries r
def uptoBulkEntry {H : Type} : Lit × DataW H → Nat
  | (.string bytes, d) => bytes.length + uptoBulk d + 1
  | (_, d) => uptoBulk d + 1
 end
def uptoSmall : (H : Type) → List (DataW H) → Bool := fun _ ds => decide (uptoBulkAll ds ≤ 1048576)
def OpenSpec.upto (s : _root_.Go.ChangeSpec) : _root_.Go.OpenSpec := { _root_.Go.OpenSpec.ofChange s with cond := some uptoSmall }

/-- 'systolelaw03.LineBacks', WHERE WHAT IT READS IS OF BULK AT MOST 1048576: true; the input reads as it did. -/
def lineBacksUptoRow : OpenClaim := { program := "ytjjnabhkdhobiaa", sum := "9b69cd20539e65caa25da0d247e3f165918ad1c63ac92567163843aa59c03afc", func := "systole/systolelaw03.LineBacks", spec := "lineBacks", apart := false, narrowed := true }
def LineBacksUptoSaid : Prop := lineBacksUptoRow.holds Try.pinned (OpenSpec.upto lineBacksSpec)

/-- 'systolelaw03.LineSums', WHERE WHAT IT READS IS OF BULK AT MOST 1048576: true; the input reads as it did. -/
def lineSumsUptoRow : OpenClaim := { program := "ytjjnabhkdhobiaa", sum := "9b69cd20539e65caa25da0d247e3f165918ad1c63ac92567163843aa59c03afc", func := "systole/systolelaw03.LineSums", spec := "lineSums", apart := false, narrowed := true }
def LineSumsUptoSaid : Prop := lineSumsUptoRow.holds Try.pinned (OpenSpec.upto lineSumsSpec)

/-- 'systolelaw03.LineRuns', WHERE WHAT IT READS IS OF BULK AT MOST 1048576: true; the input reads as it did. -/
def lineRunsUptoRow : OpenClaim := { program := "ytjjnabhkdhobiaa", sum := "9b69cd20539e65caa25da0d247e3f165918ad1c63ac92567163843aa59c03afc", func := "systole/systolelaw03.LineRuns", spec := "lineRuns", apart := false, narrowed := true }
def LineRunsUptoSaid : Prop := lineRunsUptoRow.holds Try.pinned (OpenSpec.upto lineRunsSpec)

/-- 'systolelaw03.LinePieces', WHERE WHAT IT READS IS OF BULK AT MOST 1048576: true; the input reads as it did. -/
def linePiecesUptoRow : OpenClaim := { program := "ytjjnabhkdhobiaa", sum := "9b69cd20539e65caa25da0d247e3f165918ad1c63ac92567163843aa59c03afc", func := "systole/systolelaw03.LinePieces", spec := "linePieces", apart := false, narrowed := true }
def LinePiecesUptoSaid : Prop := linePiecesUptoRow.holds Try.pinned (OpenSpec.upto linePiecesSpec)

end Rows
end Go.Proofs.Ytjjnabhkdhobiaa
