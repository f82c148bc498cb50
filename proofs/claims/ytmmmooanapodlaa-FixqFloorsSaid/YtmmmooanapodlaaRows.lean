/-
  No cell of these rows narrows 'for every input' (looked for: loops, veiled, ifaces, maps, wideKeys, modest, calm, conditions, laid).
  DERIVED. THE GIVEN ROWS OF THIS SEAT. 7 by the template 'for every input the law returns true; each argument reads behind the call as it read before'; 0 by the template 'total and deterministic' (their statements: YtmmmooanapodlaaTotals.lean).
  GIVEN WITH THE SEED: the statements are not yours to turn. If you find one false, say at which input.
  Laid BY PROGRAM, IN A SANDBOX (cutbox-rows.mjs): the forced cells as the released guide's own fill.sh prints them over the translation e6c923ca74dd3590… (all of the seat's roots in one cut). By AI agents, Wed Nov 11 2026. No macro, syntax, notation, axiom, sorry.
-/
import Derived.Test.YtmmmooanapodlaaChecked
import GoSem.Claim
import GoSem.ClaimJoined
import GoSem.ClaimMapViews
import Derived.JoinedTies
import Derived.KernelRfl
namespace Go.Proofs.Ytmmmooanapodlaa
/- THE CELL 'sum', in the pinned program and in every row, IS THE sha256 OF THE DUMP (.gsa) THAT YtmmmooanapodlaaProg.lean LOADS. Nothing in Lean hashes anything: it is a label: what it is worth is what the hold of that sum in a sandbox is worth. -/
noncomputable def Try.pinned : Pinned := { name := "ytmmmooanapodlaa", sum := "e6c923ca74dd3590e417a10a89708d6c4ffc08b5bb6be0bc10724a5d4aa6edd2", checked := Try.checked }
namespace Rows
def none {H : Type} : Left H := { results := [], args := [] }

/-- 'systolelaw01.FixqAdds': WHATEVER THE INPUT: true; the input reads as it did. -/
def fixqAddsSpec : ChangeSpec := { name := "fixqAdds", fn := fun _ => fun
  | [d1, d2, d3] => { results := [.lit (.bool true)], args := [d1, d2, d3] }
  | _ => none }
def fixqAddsRow : OpenClaim := { program := "ytmmmooanapodlaa", sum := "e6c923ca74dd3590e417a10a89708d6c4ffc08b5bb6be0bc10724a5d4aa6edd2", func := "systole/systolelaw01.FixqAdds", spec := "fixqAdds", inPlace := ["math/bits.Add64"], apart := false }
def FixqAddsSaid : Prop := fixqAddsRow.holds Try.pinned (OpenSpec.ofChange fixqAddsSpec)

/-- ITS FALSE NEIGHBOUR: 'it returns false'. Refute it at one input. -/
def fixqAddsWrong : ChangeSpec := { name := "fixqAdds", fn := fun _ => fun
  | [d1, d2, d3] => { results := [.lit (.bool false)], args := [d1, d2, d3] }
  | _ => none }
def FixqAddsWrongFalsely : Prop := fixqAddsRow.holds Try.pinned (OpenSpec.ofChange fixqAddsWrong)

/-- 'systolelaw01.FixqMultiplies': WHATEVER THE INPUT: true; the input reads as it did. -/
def fixqMultipliesSpec : ChangeSpec := { name := "fixqMultiplies", fn := fun _ => fun
  | [d1, d2, d3] => { results := [.lit (.bool true)], args := [d1, d2, d3] }
  | _ => none }
def fixqMultipliesRow : OpenClaim := { program := "ytmmmooanapodlaa", sum := "e6c923ca74dd3590e417a10a89708d6c4ffc08b5bb6be0bc10724a5d4aa6edd2", func := "systole/systolelaw01.FixqMultiplies", spec := "fixqMultiplies", apart := false }
def FixqMultipliesSaid : Prop := fixqMultipliesRow.holds Try.pinned (OpenSpec.ofChange fixqMultipliesSpec)

/-- ITS FALSE NEIGHBOUR: 'it returns false'. Refute it at one input. -/
def fixqMultipliesWrong : ChangeSpec := { name := "fixqMultiplies", fn := fun _ => fun
  | [d1, d2, d3] => { results := [.lit (.bool false)], args := [d1, d2, d3] }
  | _ => none }
def FixqMultipliesWrongFalsely : Prop := fixqMultipliesRow.holds Try.pinned (OpenSpec.ofChange fixqMultipliesWrong)

/-- 'systolelaw01.FixqNearest': WHATEVER THE INPUT: true; the input reads as it did. -/
def fixqNearestSpec : ChangeSpec := { name := "fixqNearest", fn := fun _ => fun
  | [d1, d2, d3] => { results := [.lit (.bool true)], args := [d1, d2, d3] }
  | _ => none }
def fixqNearestRow : OpenClaim := { program := "ytmmmooanapodlaa", sum := "e6c923ca74dd3590e417a10a89708d6c4ffc08b5bb6be0bc10724a5d4aa6edd2", func := "systole/systolelaw01.FixqNearest", spec := "fixqNearest", apart := false }
def FixqNearestSaid : Prop := fixqNearestRow.holds Try.pinned (OpenSpec.ofChange fixqNearestSpec)

/-- ITS FALSE NEIGHBOUR: 'it returns false'. Refute it at one input. -/
def fixqNearestWrong : ChangeSpec := { name := "fixqNearest", fn := fun _ => fun
  | [d1, d2, d3] => { results := [.lit (.bool false)], args := [d1, d2, d3] }
  | _ => none }
def FixqNearestWrongFalsely : Prop := fixqNearestRow.holds Try.pinned (OpenSpec.ofChange fixqNearestWrong)

/-- 'systolelaw01.FixqFloors': WHATEVER THE INPUT: true; the input reads as it did. -/
def fixqFloorsSpec : ChangeSpec := { name := "fixqFloors", fn := fun _ => fun
  | [d1, d2, d3, d4, d5] => { results := [.lit (.bool true)], args := [d1, d2, d3, d4, d5] }
  | _ => none }
def fixqFloorsRow : OpenClaim := { program := "ytmmmooanapodlaa", sum := "e6c923ca74dd3590e417a10a89708d6c4ffc08b5bb6be0bc10724a5d4aa6edd2", func := "systole/systolelaw01.FixqFloors", spec := "fixqFloors", apart := false }
def FixqFloorsSaid : Prop := fixqFloorsRow.holds Try.pinned (OpenSpec.ofChange fixqFloorsSpec)

/-- ITS FALSE NEIGHBOUR: 'it returns false'. Refute it at one input. -/
def fixqFloorsWrong : ChangeSpec := { name := "fixqFloors", fn := fun _ => fun
  | [d1, d2, d3, d4, d5] => { results := [.lit (.bool false)], args := [d1, d2, d3, d4, d5] }
  | _ => none }
def FixqFloorsWrongFalsely : Prop := fixqFloorsRow.holds Try.pinned (OpenSpec.ofChange fixqFloorsWrong)

/-- 'systolelaw01.FixqRest': WHATEVER THE INPUT: true; the input reads as it did. -/
def fixqRestSpec : ChangeSpec := { name := "fixqRest", fn := fun _ => fun
  | [d1, d2] => { results := [.lit (.bool true)], args := [d1, d2] }
  | _ => none }
def fixqRestRow : OpenClaim := { program := "ytmmmooanapodlaa", sum := "e6c923ca74dd3590e417a10a89708d6c4ffc08b5bb6be0bc10724a5d4aa6edd2", func := "systole/systolelaw01.FixqRest", spec := "fixqRest", apart := false }
def FixqRestSaid : Prop := fixqRestRow.holds Try.pinned (OpenSpec.ofChange fixqRestSpec)

/-- ITS FALSE NEIGHBOUR: 'it returns false'. Refute it at one input. -/
def fixqRestWrong : ChangeSpec := { name := "fixqRest", fn := fun _ => fun
  | [d1, d2] => { results := [.lit (.bool false)], args := [d1, d2] }
  | _ => none }
def FixqRestWrongFalsely : Prop := fixqRestRow.holds Try.pinned (OpenSpec.ofChange fixqRestWrong)

/-- 'systolelaw01.FixqRoots': WHATEVER THE INPUT: true; the input reads as it did. -/
def fixqRootsSpec : ChangeSpec := { name := "fixqRoots", fn := fun _ => fun
  | [d] => { results := [.lit (.bool true)], args := [d] }
  | _ => none }
def fixqRootsRow : OpenClaim := { program := "ytmmmooanapodlaa", sum := "e6c923ca74dd3590e417a10a89708d6c4ffc08b5bb6be0bc10724a5d4aa6edd2", func := "systole/systolelaw01.FixqRoots", spec := "fixqRoots", apart := false }
def FixqRootsSaid : Prop := fixqRootsRow.holds Try.pinned (OpenSpec.ofChange fixqRootsSpec)

/-- ITS FALSE NEIGHBOUR: 'it returns false'. Refute it at one input. -/
def fixqRootsWrong : ChangeSpec := { name := "fixqRoots", fn := fun _ => fun
  | [d] => { results := [.lit (.bool false)], args := [d] }
  | _ => none }
def FixqRootsWrongFalsely : Prop := fixqRootsRow.holds Try.pinned (OpenSpec.ofChange fixqRootsWrong)

/-- 'systolelaw01.FixqParts': WHATEVER THE INPUT: true; the input reads as it did. -/
def fixqPartsSpec : ChangeSpec := { name := "fixqParts", fn := fun _ => fun
  | [d1, d2] => { results := [.lit (.bool true)], args := [d1, d2] }
  | _ => none }
def fixqPartsRow : OpenClaim := { program := "ytmmmooanapodlaa", sum := "e6c923ca74dd3590e417a10a89708d6c4ffc08b5bb6be0bc10724a5d4aa6edd2", func := "systole/systolelaw01.FixqParts", spec := "fixqParts", inPlace := ["math/bits.Add64"], apart := false }
def FixqPartsSaid : Prop := fixqPartsRow.holds Try.pinned (OpenSpec.ofChange fixqPartsSpec)

/-- ITS FALSE NEIGHBOUR: 'it returns false'. Refute it at one input. -/
def fixqPartsWrong : ChangeSpec := { name := "fixqParts", fn := fun _ => fun
  | [d1, d2] => { results := [.lit (.bool false)], args := [d1, d2] }
  | _ => none }
def FixqPartsWrongFalsely : Prop := fixqPartsRow.holds Try.pinned (OpenSpec.ofChange fixqPartsWrong)

/- THE SECOND FORM. 'bulk': how many values and letters a reading holds, each counted each time it is reached (what is shared counts as often as it is met; a slice's spare places count too). A statement '..UptoSaid' is the law's where the arguments, and the package variables that the reading takes, are together of bulk at most 1048576: NARROWER than '..Said'. Prove '..Said' where nothing that the law and all that it calls make is longer than what came in: it says more and counts as full. Else prove '..UptoSaid'. A law counts once. -/
mutual
def uptoBulk {H : Type} : DataW H → Nat
  | .lit (.string bytes) => bytes.length + 1
  | .lit _ => 1
  | .nil => 1
  | .ptr d => uptoBulk d + 1
  | .slice elems spare => uptoBulkAll elems + uptoBulkAll spare + 1
  | .agg parts => uptoBulkAll parts + 1
  | .iface _ d => uptoBulk d + 1
  | .map entries => uptoBulkEntries entries + 1
  | .held _ => 1
def uptoBulkAll {H : Type} : List (DataW H) → Nat
  | [] => 0
  | d :: r => uptoBulk d + uptoBulkAll r
def uptoBulkEntries {H : Type} : List (Lit × DataW H) → Nat
  | [] => 0
  | x :: r => uptoBulkEntry x + uptoBulkEntries r
def uptoBulkEntry {H : Type} : Lit × DataW H → Nat
  | (.string bytes, d) => bytes.length + uptoBulk d + 1
  | (_, d) => uptoBulk d + 1
 end
def uptoSmall : (H : Type) → List (DataW H) → Bool := fun _ ds => decide (uptoBulkAll ds ≤ 1048576)
def OpenSpec.upto (s : _root_.Go.ChangeSpec) : _root_.Go.OpenSpec := { _root_.Go.OpenSpec.ofChange s with cond := some uptoSmall }

/-- 'systolelaw01.FixqAdds', WHERE WHAT IT READS IS OF BULK AT MOST 1048576: true; the input reads as it did. -/
def fixqAddsUptoRow : OpenClaim := { program := "ytmmmooanapodlaa", sum := "e6c923ca74dd3590e417a10a89708d6c4ffc08b5bb6be0bc10724a5d4aa6edd2", func := "systole/systolelaw01.FixqAdds", spec := "fixqAdds", inPlace := ["math/bits.Add64"], apart := false, narrowed := true }
def FixqAddsUptoSaid : Prop := fixqAddsUptoRow.holds Try.pinned (OpenSpec.upto fixqAddsSpec)

/-- 'systolelaw01.FixqMultiplies', WHERE WHAT IT READS IS OF BULK AT MOST 1048576: true; the input reads as it did. -/
def fixqMultipliesUptoRow : OpenClaim := { program := "ytmmmooanapodlaa", sum := "e6c923ca74dd3590e417a10a89708d6c4ffc08b5bb6be0bc10724a5d4aa6edd2", func := "systole/systolelaw01.FixqMultiplies", spec := "fixqMultiplies", apart := false, narrowed := true }
def FixqMultipliesUptoSaid : Prop := fixqMultipliesUptoRow.holds Try.pinned (OpenSpec.upto fixqMultipliesSpec)

/-- 'systolelaw01.FixqNearest', WHERE WHAT IT READS IS OF BULK AT MOST 1048576: true; the input reads as it did. -/
def fixqNearestUptoRow : OpenClaim := { program := "ytmmmooanapodlaa", sum := "e6c923ca74dd3590e417a10a89708d6c4ffc08b5bb6be0bc10724a5d4aa6edd2", func := "systole/systolelaw01.FixqNearest", spec := "fixqNearest", apart := false, narrowed := true }
def FixqNearestUptoSaid : Prop := fixqNearestUptoRow.holds Try.pinned (OpenSpec.upto fixqNearestSpec)

/-- 'systolelaw01.FixqFloors', WHERE WHAT IT READS IS OF BULK AT MOST 1048576: true; the input reads as it did. -/
def fixqFloorsUptoRow : OpenClaim := { program := "ytmmmooanapodlaa", sum := "e6c923ca74dd3590e417a10a89708d6c4ffc08b5bb6be0bc10724a5d4aa6edd2", func := "systole/systolelaw01.FixqFloors", spec := "fixqFloors", apart := false, narrowed := true }
def FixqFloorsUptoSaid : Prop := fixqFloorsUptoRow.holds Try.pinned (OpenSpec.upto fixqFloorsSpec)

/-- 'systolelaw01.FixqRest', WHERE WHAT IT READS IS OF BULK AT MOST 1048576: true; the input reads as it did. -/
def fixqRestUptoRow : OpenClaim := { program := "ytmmmooanapodlaa", sum := "e6c923ca74dd3590e417a10a89708d6c4ffc08b5bb6be0bc10724a5d4aa6edd2", func := "systole/systolelaw01.FixqRest", spec := "fixqRest", apart := false, narrowed := true }
def FixqRestUptoSaid : Prop := fixqRestUptoRow.holds Try.pinned (OpenSpec.upto fixqRestSpec)

/-- 'systolelaw01.FixqRoots', WHERE WHAT IT READS IS OF BULK AT MOST 1048576: true; the input reads as it did. -/
def fixqRootsUptoRow : OpenClaim := { program := "ytmmmooanapodlaa", sum := "e6c923ca74dd3590e417a10a89708d6c4ffc08b5bb6be0bc10724a5d4aa6edd2", func := "systole/systolelaw01.FixqRoots", spec := "fixqRoots", apart := false, narrowed := true }
def FixqRootsUptoSaid : Prop := fixqRootsUptoRow.holds Try.pinned (OpenSpec.upto fixqRootsSpec)

/-- 'systolelaw01.FixqParts', WHERE WHAT IT READS IS OF BULK AT MOST 1048576: true; the input reads as it did. -/
def fixqPartsUptoRow : OpenClaim := { program := "ytmmmooanapodlaa", sum := "e6c923ca74dd3590e417a10a89708d6c4ffc08b5bb6be0bc10724a5d4aa6edd2", func := "systole/systolelaw01.FixqParts", spec := "fixqParts", inPlace := ["math/bits.Add64"], apart := false, narrowed := true }
def FixqPartsUptoSaid : Prop := fixqPartsUptoRow.holds Try.pinned (OpenSpec.upto fixqPartsSpec)

end Rows
end Go.Proofs.Ytmmmooanapodlaa
