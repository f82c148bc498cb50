/-
  No cell of these rows narrows 'for every input' (looked for: loops, veiled, ifaces, maps, wideKeys, modest, calm, conditions, laid).
  DERIVED. THE GIVEN ROWS OF THIS SEAT. 5 by the template 'for every input the law returns true; each argument reads behind the call as it read before'; 0 by the template 'total and deterministic' (their statements: YtoghdmoblehnmaaTotals.lean).
  GIVEN WITH THE SEED: the statements are not yours to turn. If you find one false, say at which input.
  Laid BY PROGRAM, IN A SANDBOX (cutbox-rows.mjs): the forced cells as the released guide's own fill.sh prints them over the translation d4e65651f587fdd1… (all of the seat's roots in one cut). By AI agents, Wed Nov 11 2026. No macro, syntax, notation, axiom, sorry.
-/
import Derived.Test.YtoghdmoblehnmaaChecked
import GoSem.Claim
import GoSem.ClaimJoined
import GoSem.ClaimMapViews
import Derived.JoinedTies
import Derived.KernelRfl
namespace Go.Proofs.Ytoghdmoblehnmaa
/- THE CELL 'sum', in the pinned program and in every row, IS THE sha256 OF THE DUMP (.gsa) THAT YtoghdmoblehnmaaProg.lean LOADS. Nothing in Lean hashes anything: it is a label: what it is worth is what the hold of that sum in a sandbox is worth. -/
noncomputable def Try.pinned : Pinned := { name := "ytoghdmoblehnmaa", sum := "d4e65651f587fdd111a5bb9fc29dfe0bf4181e3a3b993fb3172d113e92f59b14", checked := Try.checked }
namespace Rows
def none {H : Type} : Left H := { results := [], args := [] }

/-- 'systolelaw16.PeakFinds': WHATEVER THE INPUT: true; the input reads as it did. -/
def peakFindsSpec : ChangeSpec := { name := "peakFinds", fn := fun _ => fun
  | [d1, d2] => { results := [.lit (.bool true)], args := [d1, d2] }
  | _ => none }
def peakFindsRow : OpenClaim := { program := "ytoghdmoblehnmaa", sum := "d4e65651f587fdd111a5bb9fc29dfe0bf4181e3a3b993fb3172d113e92f59b14", func := "systole/systolelaw16.PeakFinds", spec := "peakFinds", apart := false }
def PeakFindsSaid : Prop := peakFindsRow.holds Try.pinned (OpenSpec.ofChange peakFindsSpec)

/-- ITS FALSE NEIGHBOUR: 'it returns false'. Refute it at one input. -/
def peakFindsWrong : ChangeSpec := { name := "peakFinds", fn := fun _ => fun
  | [d1, d2] => { results := [.lit (.bool false)], args := [d1, d2] }
  | _ => none }
def PeakFindsWrongFalsely : Prop := peakFindsRow.holds Try.pinned (OpenSpec.ofChange peakFindsWrong)

/-- 'systolelaw16.PeakEach': WHATEVER THE INPUT: true; the input reads as it did. -/
def peakEachSpec : ChangeSpec := { name := "peakEach", fn := fun _ => fun
  | [d] => { results := [.lit (.bool true)], args := [d] }
  | _ => none }
def peakEachRow : OpenClaim := { program := "ytoghdmoblehnmaa", sum := "d4e65651f587fdd111a5bb9fc29dfe0bf4181e3a3b993fb3172d113e92f59b14", func := "systole/systolelaw16.PeakEach", spec := "peakEach", apart := false }
def PeakEachSaid : Prop := peakEachRow.holds Try.pinned (OpenSpec.ofChange peakEachSpec)

/-- ITS FALSE NEIGHBOUR: 'it returns false'. Refute it at one input. -/
def peakEachWrong : ChangeSpec := { name := "peakEach", fn := fun _ => fun
  | [d] => { results := [.lit (.bool false)], args := [d] }
  | _ => none }
def PeakEachWrongFalsely : Prop := peakEachRow.holds Try.pinned (OpenSpec.ofChange peakEachWrong)

/-- 'systolelaw16.PeakQuiet': WHATEVER THE INPUT: true; the input reads as it did. -/
def peakQuietSpec : ChangeSpec := { name := "peakQuiet", fn := fun _ => fun
  | [d1, d2] => { results := [.lit (.bool true)], args := [d1, d2] }
  | _ => none }
def peakQuietRow : OpenClaim := { program := "ytoghdmoblehnmaa", sum := "d4e65651f587fdd111a5bb9fc29dfe0bf4181e3a3b993fb3172d113e92f59b14", func := "systole/systolelaw16.PeakQuiet", spec := "peakQuiet", apart := false }
def PeakQuietSaid : Prop := peakQuietRow.holds Try.pinned (OpenSpec.ofChange peakQuietSpec)

/-- ITS FALSE NEIGHBOUR: 'it returns false'. Refute it at one input. -/
def peakQuietWrong : ChangeSpec := { name := "peakQuiet", fn := fun _ => fun
  | [d1, d2] => { results := [.lit (.bool false)], args := [d1, d2] }
  | _ => none }
def PeakQuietWrongFalsely : Prop := peakQuietRow.holds Try.pinned (OpenSpec.ofChange peakQuietWrong)

/-- 'systolelaw16.PeakScaled': WHATEVER THE INPUT: true; the input reads as it did. -/
def peakScaledSpec : ChangeSpec := { name := "peakScaled", fn := fun _ => fun
  | [d1, d2] => { results := [.lit (.bool true)], args := [d1, d2] }
  | _ => none }
def peakScaledRow : OpenClaim := { program := "ytoghdmoblehnmaa", sum := "d4e65651f587fdd111a5bb9fc29dfe0bf4181e3a3b993fb3172d113e92f59b14", func := "systole/systolelaw16.PeakScaled", spec := "peakScaled", apart := false }
def PeakScaledSaid : Prop := peakScaledRow.holds Try.pinned (OpenSpec.ofChange peakScaledSpec)

/-- ITS FALSE NEIGHBOUR: 'it returns false'. Refute it at one input. -/
def peakScaledWrong : ChangeSpec := { name := "peakScaled", fn := fun _ => fun
  | [d1, d2] => { results := [.lit (.bool false)], args := [d1, d2] }
  | _ => none }
def PeakScaledWrongFalsely : Prop := peakScaledRow.holds Try.pinned (OpenSpec.ofChange peakScaledWrong)

/-- 'systolelaw16.PeakNobody': WHATEVER THE INPUT: true; the input reads as it did. -/
def peakNobodySpec : ChangeSpec := { name := "peakNobody", fn := fun _ => fun
  | [d] => { results := [.lit (.bool true)], args := [d] }
  | _ => none }
def peakNobodyRow : OpenClaim := { program := "ytoghdmoblehnmaa", sum := "d4e65651f587fdd111a5bb9fc29dfe0bf4181e3a3b993fb3172d113e92f59b14", func := "systole/systolelaw16.PeakNobody", spec := "peakNobody", apart := false }
def PeakNobodySaid : Prop := peakNobodyRow.holds Try.pinned (OpenSpec.ofChange peakNobodySpec)

/-- ITS FALSE NEIGHBOUR: 'it returns false'. Refute it at one input. -/
def peakNobodyWrong : ChangeSpec := { name := "peakNobody", fn := fun _ => fun
  | [d] => { results := [.lit (.bool false)], args := [d] }
  | _ => none }
def PeakNobodyWrongFalsely : Prop := peakNobodyRow.holds Try.pinned (OpenSpec.ofChange peakNobodyWrong)

/- THE SECOND FORM. 'bulk': how many values and letters a reading holds, each counted each time it is reached (what is shared counts as often as it is met; a slice's spare places count too). A statement '..UptoSaid' is the law's where the arguments, and the package variables that the reading takes, are together of bulk at most 1048576: NARROWER than '..Said'. Prove '..Said' where nothing that the law and all that it calls make is longer than what came in: it says more and counts as full. Else prove '..UptoSaid'. A law counts once. -/
mutual
def uptoBulk {H : Type} : DataW H → Nat
  | .lit (.string bytes) => bytes.length + 1
  | .lit _ => 1
  | .nil => 1
  | .ptr d => uptoBulk d + 1
  | .slice elems spare => uptoBulkAll elems + uptoBulkAll spare + 1
  | .agg parts => uptoBulkAll parts + 1
  | .iface _ d => uptoBulk d + 1
  | .map entries => uptoBulkEntries entries + 1
  | .held _ => 1
def uptoBulkAll {H : Type} : List (DataW H) → Nat
  | [] => 0
  | d :: r => uptoBulk d + uptoBulkAll r
def uptoBulkEntries {H : Type} : List (Lit × DataW H) → Nat
  | [] => 0
  | x :: r => uptoBulkEntry x + uptoBulkEntries r
def uptoBulkEntry {H : Type} : Lit × DataW H → Nat
  | (.string bytes, d) => bytes.length + uptoBulk d + 1
  | (_, d) => uptoBulk d + 1
 end
def uptoSmall : (H : Type) → List (DataW H) → Bool := fun _ ds => decide (uptoBulkAll ds ≤ 1048576)
def OpenSpec.upto (s : _root_.Go.ChangeSpec) : _root_.Go.OpenSpec := { _root_.Go.OpenSpec.ofChange s with cond := some uptoSmall }

/-- 'systolelaw16.PeakFinds', WHERE WHAT IT READS IS OF BULK AT MOST 1048576: true; the input reads as it did. -/
def peakFindsUptoRow : OpenClaim := { program := "ytoghdmoblehnmaa", sum := "d4e65651f587fdd111a5bb9fc29dfe0bf4181e3a3b993fb3172d113e92f59b14", func := "systole/systolelaw16.PeakFinds", spec := "peakFinds", apart := false, narrowed := true }
def PeakFindsUptoSaid : Prop := peakFindsUptoRow.holds Try.pinned (OpenSpec.upto peakFindsSpec)

/-- 'systolelaw16.PeakEach', WHERE WHAT IT READS IS OF BULK AT MOST 1048576: true; the input reads as it did. -/
def peakEachUptoRow : OpenClaim := { program := "ytoghdmoblehnmaa", sum := "d4e65651f587fdd111a5bb9fc29dfe0bf4181e3a3b993fb3172d113e92f59b14", func := "systole/systolelaw16.PeakEach", spec := "peakEach", apart := false, narrowed := true }
def PeakEachUptoSaid : Prop := peakEachUptoRow.holds Try.pinned (OpenSpec.upto peakEachSpec)

/-- 'systolelaw16.PeakQuiet', WHERE WHAT IT READS IS OF BULK AT MOST 1048576: true; the input reads as it did. -/
def peakQuietUptoRow : OpenClaim := { program := "ytoghdmoblehnmaa", sum := "d4e65651f587fdd111a5bb9fc29dfe0bf4181e3a3b993fb3172d113e92f59b14", func := "systole/systolelaw16.PeakQuiet", spec := "peakQuiet", apart := false, narrowed := true }
def PeakQuietUptoSaid : Prop := peakQuietUptoRow.holds Try.pinned (OpenSpec.upto peakQuietSpec)

/-- 'systolelaw16.PeakScaled', WHERE WHAT IT READS IS OF BULK AT MOST 1048576: true; the input reads as it did. -/
def peakScaledUptoRow : OpenClaim := { program := "ytoghdmoblehnmaa", sum := "d4e65651f587fdd111a5bb9fc29dfe0bf4181e3a3b993fb3172d113e92f59b14", func := "systole/systolelaw16.PeakScaled", spec := "peakScaled", apart := false, narrowed := true }
def PeakScaledUptoSaid : Prop := peakScaledUptoRow.holds Try.pinned (OpenSpec.upto peakScaledSpec)

/-- 'systolelaw16.PeakNobody', WHERE WHAT IT READS IS OF BULK AT MOST 1048576: true; the input reads as it did. -/
def peakNobodyUptoRow : OpenClaim := { program := "ytoghdmoblehnmaa", sum := "d4e65651f587fdd111a5bb9fc29dfe0bf4181e3a3b993fb3172d113e92f59b14", func := "systole/systolelaw16.PeakNobody", spec := "peakNobody", apart := false, narrowed := true }
def PeakNobodyUptoSaid : Prop := peakNobodyUptoRow.holds Try.pinned (OpenSpec.upto peakNobodySpec)

end Rows
end Go.Proofs.Ytoghdmoblehnmaa
