/-
  No cell of these rows narrows 'for every input' (looked for: loops, veiled, ifaces, maps, wideKeys, modest, calm, conditions, laid).
  DERIVED. THE GIVEN ROWS OF THIS SEAT. 9 by the template 'for every input the law returns true; each argument reads behind the call as it read before'; 0 by the template 'total and deterministic' (their statements: YtnoppoimahfknaaTotals.lean).
  GIVEN WITH THE SEED: the statements are not yours to turn. If you find one false, say at which input.
  Laid BY PROGRAM, IN A SANDBOX (cutbox-rows.mjs): the forced cells as the released guide's own fill.sh prints them over the translation 84ce3271668bfe9b… (all of the seat's roots in one cut). By AI agents, Wed Nov 11 2026. No macro, syntax, notation, axiom, sorry.
-/
import Derived.Test.YtnoppoimahfknaaChecked
import GoSem.Claim
import GoSem.ClaimJoined
import GoSem.ClaimMapViews
import Derived.JoinedTies
import Derived.KernelRfl
namespace Go.Proofs.Ytnoppoimahfknaa
/- THE CELL 'sum', in the pinned program and in every row, IS THE sha256 OF THE DUMP (.gsa) THAT YtnoppoimahfknaaProg.lean LOADS. Nothing in Lean hashes anything: it is a label: what it is worth is what the hold of that sum in a sandbox is worth. -/
noncomputable def Try.pinned : Pinned := { name := "ytnoppoimahfknaa", sum := "84ce3271668bfe9be75458c179cf4bb9d582160c02c59ae89328894a8694de23", checked := Try.checked }
namespace Rows
def none {H : Type} : Left H := { results := [], args := [] }

/-- 'systolelaw19.QrsResets': WHATEVER THE INPUT: true; the input reads as it did. -/
def qrsResetsSpec : ChangeSpec := { name := "qrsResets", fn := fun _ => fun
  | [d1, d2] => { results := [.lit (.bool true)], args := [d1, d2] }
  | _ => none }
def qrsResetsRow : OpenClaim := { program := "ytnoppoimahfknaa", sum := "84ce3271668bfe9be75458c179cf4bb9d582160c02c59ae89328894a8694de23", func := "systole/systolelaw19.QrsResets", spec := "qrsResets", unfollowed := true, recurses := true, apart := false }
def QrsResetsSaid : Prop := qrsResetsRow.holds Try.pinned (OpenSpec.ofChange qrsResetsSpec)

/-- ITS FALSE NEIGHBOUR: 'it returns false'. Refute it at one input. -/
def qrsResetsWrong : ChangeSpec := { name := "qrsResets", fn := fun _ => fun
  | [d1, d2] => { results := [.lit (.bool false)], args := [d1, d2] }
  | _ => none }
def QrsResetsWrongFalsely : Prop := qrsResetsRow.holds Try.pinned (OpenSpec.ofChange qrsResetsWrong)

/-- 'systolelaw19.QrsApart': WHATEVER THE INPUT: true; the input reads as it did. -/
def qrsApartSpec : ChangeSpec := { name := "qrsApart", fn := fun _ => fun
  | [d1, d2] => { results := [.lit (.bool true)], args := [d1, d2] }
  | _ => none }
def qrsApartRow : OpenClaim := { program := "ytnoppoimahfknaa", sum := "84ce3271668bfe9be75458c179cf4bb9d582160c02c59ae89328894a8694de23", func := "systole/systolelaw19.QrsApart", spec := "qrsApart", unfollowed := true, recurses := true, apart := false }
def QrsApartSaid : Prop := qrsApartRow.holds Try.pinned (OpenSpec.ofChange qrsApartSpec)

/-- ITS FALSE NEIGHBOUR: 'it returns false'. Refute it at one input. -/
def qrsApartWrong : ChangeSpec := { name := "qrsApart", fn := fun _ => fun
  | [d1, d2] => { results := [.lit (.bool false)], args := [d1, d2] }
  | _ => none }
def QrsApartWrongFalsely : Prop := qrsApartRow.holds Try.pinned (OpenSpec.ofChange qrsApartWrong)

/-- 'systolelaw19.QrsQuiet': WHATEVER THE INPUT: true; the input reads as it did. -/
def qrsQuietSpec : ChangeSpec := { name := "qrsQuiet", fn := fun _ => fun
  | [d1, d2] => { results := [.lit (.bool true)], args := [d1, d2] }
  | _ => none }
def qrsQuietRow : OpenClaim := { program := "ytnoppoimahfknaa", sum := "84ce3271668bfe9be75458c179cf4bb9d582160c02c59ae89328894a8694de23", func := "systole/systolelaw19.QrsQuiet", spec := "qrsQuiet", unfollowed := true, recurses := true, apart := false }
def QrsQuietSaid : Prop := qrsQuietRow.holds Try.pinned (OpenSpec.ofChange qrsQuietSpec)

/-- ITS FALSE NEIGHBOUR: 'it returns false'. Refute it at one input. -/
def qrsQuietWrong : ChangeSpec := { name := "qrsQuiet", fn := fun _ => fun
  | [d1, d2] => { results := [.lit (.bool false)], args := [d1, d2] }
  | _ => none }
def QrsQuietWrongFalsely : Prop := qrsQuietRow.holds Try.pinned (OpenSpec.ofChange qrsQuietWrong)

/-- 'systolelaw19.QrsAlike': WHATEVER THE INPUT: true; the input reads as it did. -/
def qrsAlikeSpec : ChangeSpec := { name := "qrsAlike", fn := fun _ => fun
  | [d1, d2] => { results := [.lit (.bool true)], args := [d1, d2] }
  | _ => none }
def qrsAlikeRow : OpenClaim := { program := "ytnoppoimahfknaa", sum := "84ce3271668bfe9be75458c179cf4bb9d582160c02c59ae89328894a8694de23", func := "systole/systolelaw19.QrsAlike", spec := "qrsAlike", unfollowed := true, recurses := true, apart := false }
def QrsAlikeSaid : Prop := qrsAlikeRow.holds Try.pinned (OpenSpec.ofChange qrsAlikeSpec)

/-- ITS FALSE NEIGHBOUR: 'it returns false'. Refute it at one input. -/
def qrsAlikeWrong : ChangeSpec := { name := "qrsAlike", fn := fun _ => fun
  | [d1, d2] => { results := [.lit (.bool false)], args := [d1, d2] }
  | _ => none }
def QrsAlikeWrongFalsely : Prop := qrsAlikeRow.holds Try.pinned (OpenSpec.ofChange qrsAlikeWrong)

/-- 'systolelaw19.QrsNobody': WHATEVER THE INPUT: true; the input reads as it did. -/
def qrsNobodySpec : ChangeSpec := { name := "qrsNobody", fn := fun _ => fun
  | [d1, d2] => { results := [.lit (.bool true)], args := [d1, d2] }
  | _ => none }
def qrsNobodyRow : OpenClaim := { program := "ytnoppoimahfknaa", sum := "84ce3271668bfe9be75458c179cf4bb9d582160c02c59ae89328894a8694de23", func := "systole/systolelaw19.QrsNobody", spec := "qrsNobody", unfollowed := true, recurses := true, apart := false }
def QrsNobodySaid : Prop := qrsNobodyRow.holds Try.pinned (OpenSpec.ofChange qrsNobodySpec)

/-- ITS FALSE NEIGHBOUR: 'it returns false'. Refute it at one input. -/
def qrsNobodyWrong : ChangeSpec := { name := "qrsNobody", fn := fun _ => fun
  | [d1, d2] => { results := [.lit (.bool false)], args := [d1, d2] }
  | _ => none }
def QrsNobodyWrongFalsely : Prop := qrsNobodyRow.holds Try.pinned (OpenSpec.ofChange qrsNobodyWrong)

/-- 'systolelaw20.TallyLimits': WHATEVER THE INPUT: true; the input reads as it did. -/
def tallyLimitsSpec : ChangeSpec := { name := "tallyLimits", fn := fun _ => fun
  | [d] => { results := [.lit (.bool true)], args := [d] }
  | _ => none }
def tallyLimitsRow : OpenClaim := { program := "ytnoppoimahfknaa", sum := "84ce3271668bfe9be75458c179cf4bb9d582160c02c59ae89328894a8694de23", func := "systole/systolelaw20.TallyLimits", spec := "tallyLimits", apart := false }
def TallyLimitsSaid : Prop := tallyLimitsRow.holds Try.pinned (OpenSpec.ofChange tallyLimitsSpec)

/-- ITS FALSE NEIGHBOUR: 'it returns false'. Refute it at one input. -/
def tallyLimitsWrong : ChangeSpec := { name := "tallyLimits", fn := fun _ => fun
  | [d] => { results := [.lit (.bool false)], args := [d] }
  | _ => none }
def TallyLimitsWrongFalsely : Prop := tallyLimitsRow.holds Try.pinned (OpenSpec.ofChange tallyLimitsWrong)

/-- 'systolelaw20.TallyCounts': WHATEVER THE INPUT: true; the input reads as it did. -/
def tallyCountsSpec : ChangeSpec := { name := "tallyCounts", fn := fun _ => fun
  | [d1, d2, d3] => { results := [.lit (.bool true)], args := [d1, d2, d3] }
  | _ => none }
def tallyCountsRow : OpenClaim := { program := "ytnoppoimahfknaa", sum := "84ce3271668bfe9be75458c179cf4bb9d582160c02c59ae89328894a8694de23", func := "systole/systolelaw20.TallyCounts", spec := "tallyCounts", apart := false }
def TallyCountsSaid : Prop := tallyCountsRow.holds Try.pinned (OpenSpec.ofChange tallyCountsSpec)

/-- ITS FALSE NEIGHBOUR: 'it returns false'. Refute it at one input. -/
def tallyCountsWrong : ChangeSpec := { name := "tallyCounts", fn := fun _ => fun
  | [d1, d2, d3] => { results := [.lit (.bool false)], args := [d1, d2, d3] }
  | _ => none }
def TallyCountsWrongFalsely : Prop := tallyCountsRow.holds Try.pinned (OpenSpec.ofChange tallyCountsWrong)

/-- 'systolelaw20.TallyStill': WHATEVER THE INPUT: true; the input reads as it did. -/
def tallyStillSpec : ChangeSpec := { name := "tallyStill", fn := fun _ => fun
  | [d1, d2, d3] => { results := [.lit (.bool true)], args := [d1, d2, d3] }
  | _ => none }
def tallyStillRow : OpenClaim := { program := "ytnoppoimahfknaa", sum := "84ce3271668bfe9be75458c179cf4bb9d582160c02c59ae89328894a8694de23", func := "systole/systolelaw20.TallyStill", spec := "tallyStill", apart := false }
def TallyStillSaid : Prop := tallyStillRow.holds Try.pinned (OpenSpec.ofChange tallyStillSpec)

/-- ITS FALSE NEIGHBOUR: 'it returns false'. Refute it at one input. -/
def tallyStillWrong : ChangeSpec := { name := "tallyStill", fn := fun _ => fun
  | [d1, d2, d3] => { results := [.lit (.bool false)], args := [d1, d2, d3] }
  | _ => none }
def TallyStillWrongFalsely : Prop := tallyStillRow.holds Try.pinned (OpenSpec.ofChange tallyStillWrong)

/-- 'systolelaw20.TallyNobody': WHATEVER THE INPUT: true; the input reads as it did. -/
def tallyNobodySpec : ChangeSpec := { name := "tallyNobody", fn := fun _ => fun
  | [d1, d2] => { results := [.lit (.bool true)], args := [d1, d2] }
  | _ => none }
def tallyNobodyRow : OpenClaim := { program := "ytnoppoimahfknaa", sum := "84ce3271668bfe9be75458c179cf4bb9d582160c02c59ae89328894a8694de23", func := "systole/systolelaw20.TallyNobody", spec := "tallyNobody", apart := false }
def TallyNobodySaid : Prop := tallyNobodyRow.holds Try.pinned (OpenSpec.ofChange tallyNobodySpec)

/-- ITS FALSE NEIGHBOUR: 'it returns false'. Refute it at one input. -/
def tallyNobodyWrong : ChangeSpec := { name := "tallyNobody", fn := fun _ => fun
  | [d1, d2] => { results := [.lit (.bool false)], args := [d1, d2] }
  | _ => none }
def TallyNobodyWrongFalsely : Prop := tallyNobodyRow.holds Try.pinned (OpenSpec.ofChange tallyNobodyWrong)

/- THE SECOND FORM. 'bulk': how many values and letters a reading holds, each counted each time it is reached (what is shared counts as often as it is met; a slice's spare places count too). A statement '..UptoSaid' is the law's where the arguments, and the package variables that the reading takes, are together of bulk at most 1048576: NARROWER than '..Said'. Prove '..Said' where nothing that the law and all that it calls make is longer than what came in: it says more and counts as full. Else prove '..UptoSaid'. A law counts once. -/
mutual
def uptoBulk {H : Type} : DataW H → Nat
  | .lit (.string bytes) => bytes.length + 1
  | .lit _ => 1
  | .nil => 1
  | .ptr d => uptoBulk d + 1
  | .slice elems spare => uptoBulkAll elems + uptoBulkAll spare + 1
  | .agg parts => uptoBulkAll parts + 1
  | .iface _ d => uptoBulk d + 1
  | .map entries => uptoBulkEntries entries + 1
  | .held _ => 1
def uptoBulkAll {H : Type} : List (DataW H) → Nat
  | [] => 0
  | d :: r => uptoBulk d + uptoBulkAll r
def uptoBulkEntries {H : Type} : List (Lit × DataW H) → Nat
  | [] => 0
  | x :: r => uptoBulkEntry x + uptoBulkEntries r
def uptoBulkEntry {H : Type} : Lit × DataW H → Nat
  | (.string bytes, d) => bytes.length + uptoBulk d + 1
  | (_, d) => uptoBulk d + 1
 end
def uptoSmall : (H : Type) → List (DataW H) → Bool := fun _ ds => decide (uptoBulkAll ds ≤ 1048576)
def OpenSpec.upto (s : _root_.Go.ChangeSpec) : _root_.Go.OpenSpec := { _root_.Go.OpenSpec.ofChange s with cond := some uptoSmall }

/-- 'systolelaw19.QrsResets', WHERE WHAT IT READS IS OF BULK AT MOST 1048576: true; the input reads as it did. -/
def qrsResetsUptoRow : OpenClaim := { program := "ytnoppoimahfknaa", sum := "84ce3271668bfe9be75458c179cf4bb9d582160c02c59ae89328894a8694de23", func := "systole/systolelaw19.QrsResets", spec := "qrsResets", unfollowed := true, recurses := true, apart := false, narrowed := true }
def QrsResetsUptoSaid : Prop := qrsResetsUptoRow.holds Try.pinned (OpenSpec.upto qrsResetsSpec)

/-- 'systolelaw19.QrsApart', WHERE WHAT IT READS IS OF BULK AT MOST 1048576: true; the input reads as it did. -/
def qrsApartUptoRow : OpenClaim := { program := "ytnoppoimahfknaa", sum := "84ce3271668bfe9be75458c179cf4bb9d582160c02c59ae89328894a8694de23", func := "systole/systolelaw19.QrsApart", spec := "qrsApart", unfollowed := true, recurses := true, apart := false, narrowed := true }
def QrsApartUptoSaid : Prop := qrsApartUptoRow.holds Try.pinned (OpenSpec.upto qrsApartSpec)

/-- 'systolelaw19.QrsQuiet', WHERE WHAT IT READS IS OF BULK AT MOST 1048576: true; the input reads as it did. -/
def qrsQuietUptoRow : OpenClaim := { program := "ytnoppoimahfknaa", sum := "84ce3271668bfe9be75458c179cf4bb9d582160c02c59ae89328894a8694de23", func := "systole/systolelaw19.QrsQuiet", spec := "qrsQuiet", unfollowed := true, recurses := true, apart := false, narrowed := true }
def QrsQuietUptoSaid : Prop := qrsQuietUptoRow.holds Try.pinned (OpenSpec.upto qrsQuietSpec)

/-- 'systolelaw19.QrsAlike', WHERE WHAT IT READS IS OF BULK AT MOST 1048576: true; the input reads as it did. -/
def qrsAlikeUptoRow : OpenClaim := { program := "ytnoppoimahfknaa", sum := "84ce3271668bfe9be75458c179cf4bb9d582160c02c59ae89328894a8694de23", func := "systole/systolelaw19.QrsAlike", spec := "qrsAlike", unfollowed := true, recurses := true, apart := false, narrowed := true }
def QrsAlikeUptoSaid : Prop := qrsAlikeUptoRow.holds Try.pinned (OpenSpec.upto qrsAlikeSpec)

/-- 'systolelaw19.QrsNobody', WHERE WHAT IT READS IS OF BULK AT MOST 1048576: true; the input reads as it did. -/
def qrsNobodyUptoRow : OpenClaim := { program := "ytnoppoimahfknaa", sum := "84ce3271668bfe9be75458c179cf4bb9d582160c02c59ae89328894a8694de23", func := "systole/systolelaw19.QrsNobody", spec := "qrsNobody", unfollowed := true, recurses := true, apart := false, narrowed := true }
def QrsNobodyUptoSaid : Prop := qrsNobodyUptoRow.holds Try.pinned (OpenSpec.upto qrsNobodySpec)

/-- 'systolelaw20.TallyLimits', WHERE WHAT IT READS IS OF BULK AT MOST 1048576: true; the input reads as it did. -/
def tallyLimitsUptoRow : OpenClaim := { program := "ytnoppoimahfknaa", sum := "84ce3271668bfe9be75458c179cf4bb9d582160c02c59ae89328894a8694de23", func := "systole/systolelaw20.TallyLimits", spec := "tallyLimits", apart := false, narrowed := true }
def TallyLimitsUptoSaid : Prop := tallyLimitsUptoRow.holds Try.pinned (OpenSpec.upto tallyLimitsSpec)

/-- 'systolelaw20.TallyCounts', WHERE WHAT IT READS IS OF BULK AT MOST 1048576: true; the input reads as it did. -/
def tallyCountsUptoRow : OpenClaim := { program := "ytnoppoimahfknaa", sum := "84ce3271668bfe9be75458c179cf4bb9d582160c02c59ae89328894a8694de23", func := "systole/systolelaw20.TallyCounts", spec := "tallyCounts", apart := false, narrowed := true }
def TallyCountsUptoSaid : Prop := tallyCountsUptoRow.holds Try.pinned (OpenSpec.upto tallyCountsSpec)

/-- 'systolelaw20.TallyStill', WHERE WHAT IT READS IS OF BULK AT MOST 1048576: true; the input reads as it did. -/
def tallyStillUptoRow : OpenClaim := { program := "ytnoppoimahfknaa", sum := "84ce3271668bfe9be75458c179cf4bb9d582160c02c59ae89328894a8694de23", func := "systole/systolelaw20.TallyStill", spec := "tallyStill", apart := false, narrowed := true }
def TallyStillUptoSaid : Prop := tallyStillUptoRow.holds Try.pinned (OpenSpec.upto tallyStillSpec)

/-- 'systolelaw20.TallyNobody', WHERE WHAT IT READS IS OF BULK AT MOST 1048576: true; the input reads as it did. -/
def tallyNobodyUptoRow : OpenClaim := { program := "ytnoppoimahfknaa", sum := "84ce3271668bfe9be75458c179cf4bb9d582160c02c59ae89328894a8694de23", func := "systole/systolelaw20.TallyNobody", spec := "tallyNobody", apart := false, narrowed := true }
def TallyNobodyUptoSaid : Prop := tallyNobodyUptoRow.holds Try.pinned (OpenSpec.upto tallyNobodySpec)

end Rows
end Go.Proofs.Ytnoppoimahfknaa
