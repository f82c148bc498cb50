/-
  No cell of these rows narrows 'for every input' (looked for: loops, veiled, ifaces, maps, wideKeys, modest, calm, conditions, laid).
  DERIVED. THE GIVEN ROWS OF THIS SEAT. 5 by the template 'for every input the law returns true; each argument reads behind the call as it read before'; 0 by the template 'total and deterministic' (their statements: YtahoiaiknchehaaTotals.lean).
  GIVEN WITH THE SEED: the statements are not yours to turn. If you find one false, say at which input.
  Laid BY PROGRAM, IN A SANDBOX (cutbox-rows.mjs): the forced cells as the released guide's own fill.sh prints them over the translation 272d8a96e93828f8… (all of the seat's roots in one cut). By AI agents, Wed Nov 11 2026. No macro, syntax, notation, axiom, sorry.
-/
import Derived.Test.YtahoiaiknchehaaChecked
import GoSem.Claim
import GoSem.ClaimJoined
import GoSem.ClaimMapViews
import Derived.JoinedTies
import Derived.KernelRfl
namespace Go.Proofs.Ytahoiaiknchehaa
/- THE CELL 'sum', in the pinned program and in every row, IS THE sha256 OF THE DUMP (.gsa) THAT YtahoiaiknchehaaProg.lean LOADS. Nothing in Lean hashes anything: it is a label: what it is worth is what the hold of that sum in a sandbox is worth. -/
noncomputable def Try.pinned : Pinned := { name := "ytahoiaiknchehaa", sum := "272d8a96e93828f8179b006afca66ca8d72332be8c6542c257b90cb5bcabc063", checked := Try.checked }
namespace Rows
def none {H : Type} : Left H := { results := [], args := [] }

/-- 'systolelaw23.AlarmPlays': WHATEVER THE INPUT: true; the input reads as it did. -/
def alarmPlaysSpec : ChangeSpec := { name := "alarmPlays", fn := fun _ => fun
  | [d1, d2] => { results := [.lit (.bool true)], args := [d1, d2] }
  | _ => none }
def alarmPlaysRow : OpenClaim := { program := "ytahoiaiknchehaa", sum := "272d8a96e93828f8179b006afca66ca8d72332be8c6542c257b90cb5bcabc063", func := "systole/systolelaw23.AlarmPlays", spec := "alarmPlays", apart := false }
def AlarmPlaysSaid : Prop := alarmPlaysRow.holds Try.pinned (OpenSpec.ofChange alarmPlaysSpec)

/-- ITS FALSE NEIGHBOUR: 'it returns false'. Refute it at one input. -/
def alarmPlaysWrong : ChangeSpec := { name := "alarmPlays", fn := fun _ => fun
  | [d1, d2] => { results := [.lit (.bool false)], args := [d1, d2] }
  | _ => none }
def AlarmPlaysWrongFalsely : Prop := alarmPlaysRow.holds Try.pinned (OpenSpec.ofChange alarmPlaysWrong)

/-- 'systolelaw23.AlarmLatched': WHATEVER THE INPUT: true; the input reads as it did. -/
def alarmLatchedSpec : ChangeSpec := { name := "alarmLatched", fn := fun _ => fun
  | [d1, d2, d3] => { results := [.lit (.bool true)], args := [d1, d2, d3] }
  | _ => none }
def alarmLatchedRow : OpenClaim := { program := "ytahoiaiknchehaa", sum := "272d8a96e93828f8179b006afca66ca8d72332be8c6542c257b90cb5bcabc063", func := "systole/systolelaw23.AlarmLatched", spec := "alarmLatched", apart := false }
def AlarmLatchedSaid : Prop := alarmLatchedRow.holds Try.pinned (OpenSpec.ofChange alarmLatchedSpec)

/-- ITS FALSE NEIGHBOUR: 'it returns false'. Refute it at one input. -/
def alarmLatchedWrong : ChangeSpec := { name := "alarmLatched", fn := fun _ => fun
  | [d1, d2, d3] => { results := [.lit (.bool false)], args := [d1, d2, d3] }
  | _ => none }
def AlarmLatchedWrongFalsely : Prop := alarmLatchedRow.holds Try.pinned (OpenSpec.ofChange alarmLatchedWrong)

/-- 'systolelaw23.AlarmTurns': WHATEVER THE INPUT: true; the input reads as it did. -/
def alarmTurnsSpec : ChangeSpec := { name := "alarmTurns", fn := fun _ => fun
  | [d1, d2] => { results := [.lit (.bool true)], args := [d1, d2] }
  | _ => none }
def alarmTurnsRow : OpenClaim := { program := "ytahoiaiknchehaa", sum := "272d8a96e93828f8179b006afca66ca8d72332be8c6542c257b90cb5bcabc063", func := "systole/systolelaw23.AlarmTurns", spec := "alarmTurns", apart := false }
def AlarmTurnsSaid : Prop := alarmTurnsRow.holds Try.pinned (OpenSpec.ofChange alarmTurnsSpec)

/-- ITS FALSE NEIGHBOUR: 'it returns false'. Refute it at one input. -/
def alarmTurnsWrong : ChangeSpec := { name := "alarmTurns", fn := fun _ => fun
  | [d1, d2] => { results := [.lit (.bool false)], args := [d1, d2] }
  | _ => none }
def AlarmTurnsWrongFalsely : Prop := alarmTurnsRow.holds Try.pinned (OpenSpec.ofChange alarmTurnsWrong)

/-- 'systolelaw23.AlarmHeard': WHATEVER THE INPUT: true; the input reads as it did. -/
def alarmHeardSpec : ChangeSpec := { name := "alarmHeard", fn := fun _ => fun
  | [d1, d2, d3, d4] => { results := [.lit (.bool true)], args := [d1, d2, d3, d4] }
  | _ => none }
def alarmHeardRow : OpenClaim := { program := "ytahoiaiknchehaa", sum := "272d8a96e93828f8179b006afca66ca8d72332be8c6542c257b90cb5bcabc063", func := "systole/systolelaw23.AlarmHeard", spec := "alarmHeard", apart := false }
def AlarmHeardSaid : Prop := alarmHeardRow.holds Try.pinned (OpenSpec.ofChange alarmHeardSpec)

/-- ITS FALSE NEIGHBOUR: 'it returns false'. Refute it at one input. -/
def alarmHeardWrong : ChangeSpec := { name := "alarmHeard", fn := fun _ => fun
  | [d1, d2, d3, d4] => { results := [.lit (.bool false)], args := [d1, d2, d3, d4] }
  | _ => none }
def AlarmHeardWrongFalsely : Prop := alarmHeardRow.holds Try.pinned (OpenSpec.ofChange alarmHeardWrong)

/-- 'systolelaw23.AlarmNobody': WHATEVER THE INPUT: true; the input reads as it did. -/
def alarmNobodySpec : ChangeSpec := { name := "alarmNobody", fn := fun _ => fun
  | [d1, d2, d3] => { results := [.lit (.bool true)], args := [d1, d2, d3] }
  | _ => none }
def alarmNobodyRow : OpenClaim := { program := "ytahoiaiknchehaa", sum := "272d8a96e93828f8179b006afca66ca8d72332be8c6542c257b90cb5bcabc063", func := "systole/systolelaw23.AlarmNobody", spec := "alarmNobody", apart := false }
def AlarmNobodySaid : Prop := alarmNobodyRow.holds Try.pinned (OpenSpec.ofChange alarmNobodySpec)

/-- ITS FALSE NEIGHBOUR: 'it returns false'. Refute it at one input. -/
def alarmNobodyWrong : ChangeSpec := { name := "alarmNobody", fn := fun _ => fun
  | [d1, d2, d3] => { results := [.lit (.bool false)], args := [d1, d2, d3] }
  | _ => none }
def AlarmNobodyWrongFalsely : Prop := alarmNobodyRow.holds Try.pinned (OpenSpec.ofChange alarmNobodyWrong)

/- THE SECOND FORM. 'bulk': how many values and letters a reading holds, each counted each time it is reached (what is shared counts as often as it is met; a slice's spare places count too). A statement '..UptoSaid' is the law's where the arguments, and the package variables that the reading takes, are together of bulk at most 1048576: NARROWER than '..Said'. Prove '..Said' where nothing that the law and all that it calls make is longer than what came in: it says more and counts as full. Else prove '..UptoSaid'. A law counts once. -/
mutual
def uptoBulk {H : Type} : DataW H → Nat
  | .lit (.string bytes) => bytes.length + 1
  | .lit _ => 1
  | .nil => 1
  | .ptr d => uptoBulk d + 1
  | .slice elems spare => uptoBulkAll elems + uptoBulkAll spare + 1
  | .agg parts => uptoBulkAll parts + 1
  | .iface _ d => uptoBulk d + 1
  | .map entries => uptoBulkEntries entries + 1
  | .held _ => 1
def uptoBulkAll {H : Type} : List (DataW H) → Nat
  | [] => 0
  | d :: r => uptoBulk d + uptoBulkAll r
def uptoBulkEntries {H : Type} : List (Lit × DataW H) → Nat
  | [] => 0
  | x :: r => uptoBulkEntry x + uptoBulkEntries r
def uptoBulkEntry {H : Type} : Lit × DataW H → Nat
  | (.string bytes, d) => bytes.length + uptoBulk d + 1
  | (_, d) => uptoBulk d + 1
 end
def uptoSmall : (H : Type) → List (DataW H) → Bool := fun _ ds => decide (uptoBulkAll ds ≤ 1048576)
def OpenSpec.upto (s : _root_.Go.ChangeSpec) : _root_.Go.OpenSpec := { _root_.Go.OpenSpec.ofChange s with cond := some uptoSmall }

/-- 'systolelaw23.AlarmPlays', WHERE WHAT IT READS IS OF BULK AT MOST 1048576: true; the input reads as it did. -/
def alarmPlaysUptoRow : OpenClaim := { program := "ytahoiaiknchehaa", sum := "272d8a96e93828f8179b006afca66ca8d72332be8c6542c257b90cb5bcabc063", func := "systole/systolelaw23.AlarmPlays", spec := "alarmPlays", apart := false, narrowed := true }
def AlarmPlaysUptoSaid : Prop := alarmPlaysUptoRow.holds Try.pinned (OpenSpec.upto alarmPlaysSpec)

/-- 'systolelaw23.AlarmLatched', WHERE WHAT IT READS IS OF BULK AT MOST 1048576: true; the input reads as it did. -/
def alarmLatchedUptoRow : OpenClaim := { program := "ytahoiaiknchehaa", sum := "272d8a96e93828f8179b006afca66ca8d72332be8c6542c257b90cb5bcabc063", func := "systole/systolelaw23.AlarmLatched", spec := "alarmLatched", apart := false, narrowed := true }
def AlarmLatchedUptoSaid : Prop := alarmLatchedUptoRow.holds Try.pinned (OpenSpec.upto alarmLatchedSpec)

/-- 'systolelaw23.AlarmTurns', WHERE WHAT IT READS IS OF BULK AT MOST 1048576: true; the input reads as it did. -/
def alarmTurnsUptoRow : OpenClaim := { program := "ytahoiaiknchehaa", sum := "272d8a96e93828f8179b006afca66ca8d72332be8c6542c257b90cb5bcabc063", func := "systole/systolelaw23.AlarmTurns", spec := "alarmTurns", apart := false, narrowed := true }
def AlarmTurnsUptoSaid : Prop := alarmTurnsUptoRow.holds Try.pinned (OpenSpec.upto alarmTurnsSpec)

/-- 'systolelaw23.AlarmHeard', WHERE WHAT IT READS IS OF BULK AT MOST 1048576: true; the input reads as it did. -/
def alarmHeardUptoRow : OpenClaim := { program := "ytahoiaiknchehaa", sum := "272d8a96e93828f8179b006afca66ca8d72332be8c6542c257b90cb5bcabc063", func := "systole/systolelaw23.AlarmHeard", spec := "alarmHeard", apart := false, narrowed := true }
def AlarmHeardUptoSaid : Prop := alarmHeardUptoRow.holds Try.pinned (OpenSpec.upto alarmHeardSpec)

/-- 'systolelaw23.AlarmNobody', WHERE WHAT IT READS IS OF BULK AT MOST 1048576: true; the input reads as it did. -/
def alarmNobodyUptoRow : OpenClaim := { program := "ytahoiaiknchehaa", sum := "272d8a96e93828f8179b006afca66ca8d72332be8c6542c257b90cb5bcabc063", func := "systole/systolelaw23.AlarmNobody", spec := "alarmNobody", apart := false, narrowed := true }
def AlarmNobodyUptoSaid : Prop := alarmNobodyUptoRow.holds Try.pinned (OpenSpec.upto alarmNobodySpec)

end Rows
end Go.Proofs.Ytahoiaiknchehaa
