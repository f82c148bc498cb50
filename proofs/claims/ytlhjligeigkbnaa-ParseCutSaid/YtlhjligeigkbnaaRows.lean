/-
  No cell of these rows narrows 'for every input' (looked for: loops, veiled, ifaces, maps, wideKeys, modest, calm, conditions, laid).
  DERIVED. THE GIVEN ROWS OF THIS SEAT. 5 by the template 'for every input the law returns true; each argument reads behind the call as it read before'; 0 by the template 'total and deterministic' (their statements: YtlhjligeigkbnaaTotals.lean).
  GIVEN WITH THE SEED: the statements are not yours to turn. If you find one false, say at which input.
  Laid BY PROGRAM, IN A SANDBOX (cutbox-rows.mjs): the forced cells as the released guide's own fill.sh prints them over the translation ac9eb7a01afdf337… (all of the seat's roots in one cut). By AI agents, Wed Nov 11 2026. No macro, syntax, notation, axiom, sorry.
-/
import Derived.Test.YtlhjligeigkbnaaChecked
import GoSem.Claim
import GoSem.ClaimJoined
import GoSem.ClaimMapViews
import Derived.JoinedTies
import Derived.KernelRfl
namespace Go.Proofs.Ytlhjligeigkbnaa
/- THE CELL 'sum', in the pinned program and in every row, IS THE sha256 OF THE DUMP (.gsa) THAT YtlhjligeigkbnaaProg.lean LOADS. Nothing in Lean hashes anything: it is a label: what it is worth is what the hold of that sum in a sandbox is worth. -/
noncomputable def Try.pinned : Pinned := { name := "ytlhjligeigkbnaa", sum := "ac9eb7a01afdf337e606a073d313d044b7472af3aa25612b4497a49ebc0c0186", checked := Try.checked }
namespace Rows
def none {H : Type} : Left H := { results := [], args := [] }

/-- 'systolelaw07.ParseFrames': WHATEVER THE INPUT: true; the input reads as it did. -/
def parseFramesSpec : ChangeSpec := { name := "parseFrames", fn := fun _ => fun
  | [d] => { results := [.lit (.bool true)], args := [d] }
  | _ => none }
def parseFramesRow : OpenClaim := { program := "ytlhjligeigkbnaa", sum := "ac9eb7a01afdf337e606a073d313d044b7472af3aa25612b4497a49ebc0c0186", func := "systole/systolelaw07.ParseFrames", spec := "parseFrames", unfollowed := true, recurses := true, apart := false }
def ParseFramesSaid : Prop := parseFramesRow.holds Try.pinned (OpenSpec.ofChange parseFramesSpec)

/-- ITS FALSE NEIGHBOUR: 'it returns false'. Refute it at one input. -/
def parseFramesWrong : ChangeSpec := { name := "parseFrames", fn := fun _ => fun
  | [d] => { results := [.lit (.bool false)], args := [d] }
  | _ => none }
def ParseFramesWrongFalsely : Prop := parseFramesRow.holds Try.pinned (OpenSpec.ofChange parseFramesWrong)

/-- 'systolelaw07.ParseEvents': WHATEVER THE INPUT: true; the input reads as it did. -/
def parseEventsSpec : ChangeSpec := { name := "parseEvents", fn := fun _ => fun
  | [d] => { results := [.lit (.bool true)], args := [d] }
  | _ => none }
def parseEventsRow : OpenClaim := { program := "ytlhjligeigkbnaa", sum := "ac9eb7a01afdf337e606a073d313d044b7472af3aa25612b4497a49ebc0c0186", func := "systole/systolelaw07.ParseEvents", spec := "parseEvents", unfollowed := true, recurses := true, apart := false }
def ParseEventsSaid : Prop := parseEventsRow.holds Try.pinned (OpenSpec.ofChange parseEventsSpec)

/-- ITS FALSE NEIGHBOUR: 'it returns false'. Refute it at one input. -/
def parseEventsWrong : ChangeSpec := { name := "parseEvents", fn := fun _ => fun
  | [d] => { results := [.lit (.bool false)], args := [d] }
  | _ => none }
def ParseEventsWrongFalsely : Prop := parseEventsRow.holds Try.pinned (OpenSpec.ofChange parseEventsWrong)

/-- 'systolelaw07.ParseCut': WHATEVER THE INPUT: true; the input reads as it did. -/
def parseCutSpec : ChangeSpec := { name := "parseCut", fn := fun _ => fun
  | [d1, d2] => { results := [.lit (.bool true)], args := [d1, d2] }
  | _ => none }
def parseCutRow : OpenClaim := { program := "ytlhjligeigkbnaa", sum := "ac9eb7a01afdf337e606a073d313d044b7472af3aa25612b4497a49ebc0c0186", func := "systole/systolelaw07.ParseCut", spec := "parseCut", unfollowed := true, recurses := true, apart := false }
def ParseCutSaid : Prop := parseCutRow.holds Try.pinned (OpenSpec.ofChange parseCutSpec)

/-- ITS FALSE NEIGHBOUR: 'it returns false'. Refute it at one input. -/
def parseCutWrong : ChangeSpec := { name := "parseCut", fn := fun _ => fun
  | [d1, d2] => { results := [.lit (.bool false)], args := [d1, d2] }
  | _ => none }
def ParseCutWrongFalsely : Prop := parseCutRow.holds Try.pinned (OpenSpec.ofChange parseCutWrong)

/-- 'systolelaw07.ParseOnly': WHATEVER THE INPUT: true; the input reads as it did. -/
def parseOnlySpec : ChangeSpec := { name := "parseOnly", fn := fun _ => fun
  | [d] => { results := [.lit (.bool true)], args := [d] }
  | _ => none }
def parseOnlyRow : OpenClaim := { program := "ytlhjligeigkbnaa", sum := "ac9eb7a01afdf337e606a073d313d044b7472af3aa25612b4497a49ebc0c0186", func := "systole/systolelaw07.ParseOnly", spec := "parseOnly", unfollowed := true, recurses := true, apart := false }
def ParseOnlySaid : Prop := parseOnlyRow.holds Try.pinned (OpenSpec.ofChange parseOnlySpec)

/-- ITS FALSE NEIGHBOUR: 'it returns false'. Refute it at one input. -/
def parseOnlyWrong : ChangeSpec := { name := "parseOnly", fn := fun _ => fun
  | [d] => { results := [.lit (.bool false)], args := [d] }
  | _ => none }
def ParseOnlyWrongFalsely : Prop := parseOnlyRow.holds Try.pinned (OpenSpec.ofChange parseOnlyWrong)

/-- 'systolelaw07.ParseResumes': WHATEVER THE INPUT: true; the input reads as it did. -/
def parseResumesSpec : ChangeSpec := { name := "parseResumes", fn := fun _ => fun
  | [d1, d2, d3] => { results := [.lit (.bool true)], args := [d1, d2, d3] }
  | _ => none }
def parseResumesRow : OpenClaim := { program := "ytlhjligeigkbnaa", sum := "ac9eb7a01afdf337e606a073d313d044b7472af3aa25612b4497a49ebc0c0186", func := "systole/systolelaw07.ParseResumes", spec := "parseResumes", unfollowed := true, recurses := true, apart := false }
def ParseResumesSaid : Prop := parseResumesRow.holds Try.pinned (OpenSpec.ofChange parseResumesSpec)

/-- ITS FALSE NEIGHBOUR: 'it returns false'. Refute it at one input. -/
def parseResumesWrong : ChangeSpec := { name := "parseResumes", fn := fun _ => fun
  | [d1, d2, d3] => { results := [.lit (.bool false)], args := [d1, d2, d3] }
  | _ => none }
def ParseResumesWrongFalsely : Prop := parseResumesRow.holds Try.pinned (OpenSpec.ofChange parseResumesWrong)

/- THE SECOND FORM. 'bulk': how many values and letters a reading holds, each counted each time it is reached (what is shared counts as often as it is met; a slice's spare places count too). A statement '..UptoSaid' is the law's where the arguments, and the package variables that the reading takes, are together of bulk at most 1048576: NARROWER than '..Said'. Prove '..Said' where nothing that the law and all that it calls make is longer than what came in: it says more and counts as full. Else prove '..UptoSaid'. A law counts once. -/
mutual
def uptoBulk {H : Type} : DataW H → Nat
  | .lit (.string bytes) => bytes.length + 1
  | .lit _ => 1
  | .nil => 1
  | .ptr d => uptoBulk d + 1
  | .slice elems spare => uptoBulkAll elems + uptoBulkAll spare + 1
  | .agg parts => uptoBulkAll parts + 1
  | .iface _ d => uptoBulk d + 1
  | .map entries => uptoBulkEntries entries + 1
  | .held _ => 1
def uptoBulkAll {H : Type} : List (DataW H) → Nat
  | [] => 0
  | d :: r => uptoBulk d + uptoBulkAll r
def uptoBulkEntries {H : Type} : List (Lit × DataW H) → Nat
  | [] => 0
  | x :: r => uptoBulkEntry x + uptoBulkEntries r
def uptoBulkEntry {H : Type} : Lit × DataW H → Nat
  | (.string bytes, d) => bytes.length + uptoBulk d + 1
  | (_, d) => uptoBulk d + 1
 end
def uptoSmall : (H : Type) → List (DataW H) → Bool := fun _ ds => decide (uptoBulkAll ds ≤ 1048576)
def OpenSpec.upto (s : _root_.Go.ChangeSpec) : _root_.Go.OpenSpec := { _root_.Go.OpenSpec.ofChange s with cond := some uptoSmall }

/-- 'systolelaw07.ParseFrames', WHERE WHAT IT READS IS OF BULK AT MOST 1048576: true; the input reads as it did. -/
def parseFramesUptoRow : OpenClaim := { program := "ytlhjligeigkbnaa", sum := "ac9eb7a01afdf337e606a073d313d044b7472af3aa25612b4497a49ebc0c0186", func := "systole/systolelaw07.ParseFrames", spec := "parseFrames", unfollowed := true, recurses := true, apart := false, narrowed := true }
def ParseFramesUptoSaid : Prop := parseFramesUptoRow.holds Try.pinned (OpenSpec.upto parseFramesSpec)

/-- 'systolelaw07.ParseEvents', WHERE WHAT IT READS IS OF BULK AT MOST 1048576: true; the input reads as it did. -/
def parseEventsUptoRow : OpenClaim := { program := "ytlhjligeigkbnaa", sum := "ac9eb7a01afdf337e606a073d313d044b7472af3aa25612b4497a49ebc0c0186", func := "systole/systolelaw07.ParseEvents", spec := "parseEvents", unfollowed := true, recurses := true, apart := false, narrowed := true }
def ParseEventsUptoSaid : Prop := parseEventsUptoRow.holds Try.pinned (OpenSpec.upto parseEventsSpec)

/-- 'systolelaw07.ParseCut', WHERE WHAT IT READS IS OF BULK AT MOST 1048576: true; the input reads as it did. -/
def parseCutUptoRow : OpenClaim := { program := "ytlhjligeigkbnaa", sum := "ac9eb7a01afdf337e606a073d313d044b7472af3aa25612b4497a49ebc0c0186", func := "systole/systolelaw07.ParseCut", spec := "parseCut", unfollowed := true, recurses := true, apart := false, narrowed := true }
def ParseCutUptoSaid : Prop := parseCutUptoRow.holds Try.pinned (OpenSpec.upto parseCutSpec)

/-- 'systolelaw07.ParseOnly', WHERE WHAT IT READS IS OF BULK AT MOST 1048576: true; the input reads as it did. -/
def parseOnlyUptoRow : OpenClaim := { program := "ytlhjligeigkbnaa", sum := "ac9eb7a01afdf337e606a073d313d044b7472af3aa25612b4497a49ebc0c0186", func := "systole/systolelaw07.ParseOnly", spec := "parseOnly", unfollowed := true, recurses := true, apart := false, narrowed := true }
def ParseOnlyUptoSaid : Prop := parseOnlyUptoRow.holds Try.pinned (OpenSpec.upto parseOnlySpec)

/-- 'systolelaw07.ParseResumes', WHERE WHAT IT READS IS OF BULK AT MOST 1048576: true; the input reads as it did. -/
def parseResumesUptoRow : OpenClaim := { program := "ytlhjligeigkbnaa", sum := "ac9eb7a01afdf337e606a073d313d044b7472af3aa25612b4497a49ebc0c0186", func := "systole/systolelaw07.ParseResumes", spec := "parseResumes", unfollowed := true, recurses := true, apart := false, narrowed := true }
def ParseResumesUptoSaid : Prop := parseResumesUptoRow.holds Try.pinned (OpenSpec.upto parseResumesSpec)

end Rows
end Go.Proofs.Ytlhjligeigkbnaa
