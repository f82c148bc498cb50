/-
  No cell of these rows narrows 'for every input' (looked for: loops, veiled, ifaces, maps, wideKeys, modest, calm, conditions, laid).
  DERIVED. THE GIVEN ROWS OF THIS SEAT. 4 by the template 'for every input the law returns true; each argument reads behind the call as it read before'; 0 by the template 'total and deterministic' (their statements: YtlopkmbindfkjaaTotals.lean).
  GIVEN WITH THE SEED: the statements are not yours to turn. If you find one false, say at which input.
  Laid BY PROGRAM, IN A SANDBOX (cutbox-rows.mjs): the forced cells as the released guide's own fill.sh prints them over the translation d9f9b5af5beea78b… (all of the seat's roots in one cut). By AI agents, Wed Nov 11 2026. No macro, syntax, notation, axiom, sorry.
-/
import Derived.Test.YtlopkmbindfkjaaChecked
import GoSem.Claim
import GoSem.ClaimJoined
import GoSem.ClaimMapViews
import Derived.JoinedTies
import Derived.KernelRfl
namespace Go.Proofs.Ytlopkmbindfkjaa
/- THE CELL 'sum', in the pinned program and in every row, IS THE sha256 OF THE DUMP (.gsa) THAT YtlopkmbindfkjaaProg.lean LOADS. Nothing in Lean hashes anything: it is a label: what it is worth is what the hold of that sum in a sandbox is worth. -/
noncomputable def Try.pinned : Pinned := { name := "ytlopkmbindfkjaa", sum := "d9f9b5af5beea78ba8a487eb4df9707d2c1a573a1a47d44f2c0e16246ec6b868", checked := Try.checked }
namespace Rows
def none {H : Type} : Left H := { results := [], args := [] }

/-- 'systolelaw09.LeadPushes': WHATEVER THE INPUT: true; the input reads as it did. -/
def leadPushesSpec : ChangeSpec := { name := "leadPushes", fn := fun _ => fun
  | [d] => { results := [.lit (.bool true)], args := [d] }
  | _ => none }
def leadPushesRow : OpenClaim := { program := "ytlopkmbindfkjaa", sum := "d9f9b5af5beea78ba8a487eb4df9707d2c1a573a1a47d44f2c0e16246ec6b868", func := "systole/systolelaw09.LeadPushes", spec := "leadPushes", apart := false }
def LeadPushesSaid : Prop := leadPushesRow.holds Try.pinned (OpenSpec.ofChange leadPushesSpec)

/-- ITS FALSE NEIGHBOUR: 'it returns false'. Refute it at one input. -/
def leadPushesWrong : ChangeSpec := { name := "leadPushes", fn := fun _ => fun
  | [d] => { results := [.lit (.bool false)], args := [d] }
  | _ => none }
def LeadPushesWrongFalsely : Prop := leadPushesRow.holds Try.pinned (OpenSpec.ofChange leadPushesWrong)

/-- 'systolelaw09.LeadRuns': WHATEVER THE INPUT: true; the input reads as it did. -/
def leadRunsSpec : ChangeSpec := { name := "leadRuns", fn := fun _ => fun
  | [d1, d2, d3] => { results := [.lit (.bool true)], args := [d1, d2, d3] }
  | _ => none }
def leadRunsRow : OpenClaim := { program := "ytlopkmbindfkjaa", sum := "d9f9b5af5beea78ba8a487eb4df9707d2c1a573a1a47d44f2c0e16246ec6b868", func := "systole/systolelaw09.LeadRuns", spec := "leadRuns", apart := false }
def LeadRunsSaid : Prop := leadRunsRow.holds Try.pinned (OpenSpec.ofChange leadRunsSpec)

/-- ITS FALSE NEIGHBOUR: 'it returns false'. Refute it at one input. -/
def leadRunsWrong : ChangeSpec := { name := "leadRuns", fn := fun _ => fun
  | [d1, d2, d3] => { results := [.lit (.bool false)], args := [d1, d2, d3] }
  | _ => none }
def LeadRunsWrongFalsely : Prop := leadRunsRow.holds Try.pinned (OpenSpec.ofChange leadRunsWrong)

/-- 'systolelaw09.LeadEach': WHATEVER THE INPUT: true; the input reads as it did. -/
def leadEachSpec : ChangeSpec := { name := "leadEach", fn := fun _ => fun
  | [d] => { results := [.lit (.bool true)], args := [d] }
  | _ => none }
def leadEachRow : OpenClaim := { program := "ytlopkmbindfkjaa", sum := "d9f9b5af5beea78ba8a487eb4df9707d2c1a573a1a47d44f2c0e16246ec6b868", func := "systole/systolelaw09.LeadEach", spec := "leadEach", apart := false }
def LeadEachSaid : Prop := leadEachRow.holds Try.pinned (OpenSpec.ofChange leadEachSpec)

/-- ITS FALSE NEIGHBOUR: 'it returns false'. Refute it at one input. -/
def leadEachWrong : ChangeSpec := { name := "leadEach", fn := fun _ => fun
  | [d] => { results := [.lit (.bool false)], args := [d] }
  | _ => none }
def LeadEachWrongFalsely : Prop := leadEachRow.holds Try.pinned (OpenSpec.ofChange leadEachWrong)

/-- 'systolelaw09.LeadNobody': WHATEVER THE INPUT: true; the input reads as it did. -/
def leadNobodySpec : ChangeSpec := { name := "leadNobody", fn := fun _ => fun
  | [d] => { results := [.lit (.bool true)], args := [d] }
  | _ => none }
def leadNobodyRow : OpenClaim := { program := "ytlopkmbindfkjaa", sum := "d9f9b5af5beea78ba8a487eb4df9707d2c1a573a1a47d44f2c0e16246ec6b868", func := "systole/systolelaw09.LeadNobody", spec := "leadNobody", apart := false }
def LeadNobodySaid : Prop := leadNobodyRow.holds Try.pinned (OpenSpec.ofChange leadNobodySpec)

/-- ITS FALSE NEIGHBOUR: 'it returns false'. Refute it at one input. -/
def leadNobodyWrong : ChangeSpec := { name := "leadNobody", fn := fun _ => fun
  | [d] => { results := [.lit (.bool false)], args := [d] }
  | _ => none }
def LeadNobodyWrongFalsely : Prop := leadNobodyRow.holds Try.pinned (OpenSpec.ofChange leadNobodyWrong)

/- THE SECOND FORM. 'bulk': how many values and letters a reading holds, each counted each time it is reached (what is shared counts as often as it is met; a slice's spare places count too). A statement '..UptoSaid' is the law's where the arguments, and the package variables that the reading takes, are together of bulk at most 1048576: NARROWER than '..Said'. Prove '..Said' where nothing that the law and all that it calls make is longer than what came in: it says more and counts as full. Else prove '..UptoSaid'. A law counts once. -/
mutual
def uptoBulk {H : Type} : DataW H → Nat
  | .lit (.string bytes) => bytes.length + 1
  | .lit _ => 1
  | .nil => 1
  | .ptr d => uptoBulk d + 1
  | .slice elems spare => uptoBulkAll elems + uptoBulkAll spare + 1
  | .agg parts => uptoBulkAll parts + 1
  | .iface _ d => uptoBulk d + 1
  | .map entries => uptoBulkEntries entries + 1
  | .held _ => 1
def uptoBulkAll {H : Type} : List (DataW H) → Nat
  | [] => 0
  | d :: r => uptoBulk d + uptoBulkAll r
def uptoBulkEntries {H : Type} : List (Lit × DataW H) → Nat
  | [] => 0
  | x :: r => uptoBulkEntry x + uptoBulkEntries r
def uptoBulkEntry {H : Type} : Lit × DataW H → Nat
  | (.string bytes, d) => bytes.length + uptoBulk d + 1
  | (_, d) => uptoBulk d + 1
 end
def uptoSmall : (H : Type) → List (DataW H) → Bool := fun _ ds => decide (uptoBulkAll ds ≤ 1048576)
def OpenSpec.upto (s : _root_.Go.ChangeSpec) : _root_.Go.OpenSpec := { _root_.Go.OpenSpec.ofChange s with cond := some uptoSmall }

/-- 'systolelaw09.LeadPushes', WHERE WHAT IT READS IS OF BULK AT MOST 1048576: true; the input reads as it did. -/
def leadPushesUptoRow : OpenClaim := { program := "ytlopkmbindfkjaa", sum := "d9f9b5af5beea78ba8a487eb4df9707d2c1a573a1a47d44f2c0e16246ec6b868", func := "systole/systolelaw09.LeadPushes", spec := "leadPushes", apart := false, narrowed := true }
def LeadPushesUptoSaid : Prop := leadPushesUptoRow.holds Try.pinned (OpenSpec.upto leadPushesSpec)

/-- 'systolelaw09.LeadRuns', WHERE WHAT IT READS IS OF BULK AT MOST 1048576: true; the input reads as it did. -/
def leadRunsUptoRow : OpenClaim := { program := "ytlopkmbindfkjaa", sum := "d9f9b5af5beea78ba8a487eb4df9707d2c1a573a1a47d44f2c0e16246ec6b868", func := "systole/systolelaw09.LeadRuns", spec := "leadRuns", apart := false, narrowed := true }
def LeadRunsUptoSaid : Prop := leadRunsUptoRow.holds Try.pinned (OpenSpec.upto leadRunsSpec)

/-- 'systolelaw09.LeadEach', WHERE WHAT IT READS IS OF BULK AT MOST 1048576: true; the input reads as it did. -/
def leadEachUptoRow : OpenClaim := { program := "ytlopkmbindfkjaa", sum := "d9f9b5af5beea78ba8a487eb4df9707d2c1a573a1a47d44f2c0e16246ec6b868", func := "systole/systolelaw09.LeadEach", spec := "leadEach", apart := false, narrowed := true }
def LeadEachUptoSaid : Prop := leadEachUptoRow.holds Try.pinned (OpenSpec.upto leadEachSpec)

/-- 'systolelaw09.LeadNobody', WHERE WHAT IT READS IS OF BULK AT MOST 1048576: true; the input reads as it did. -/
def leadNobodyUptoRow : OpenClaim := { program := "ytlopkmbindfkjaa", sum := "d9f9b5af5beea78ba8a487eb4df9707d2c1a573a1a47d44f2c0e16246ec6b868", func := "systole/systolelaw09.LeadNobody", spec := "leadNobody", apart := false, narrowed := true }
def LeadNobodyUptoSaid : Prop := leadNobodyUptoRow.holds Try.pinned (OpenSpec.upto leadNobodySpec)

end Rows
end Go.Proofs.Ytlopkmbindfkjaa
