/-
  No cell of these rows narrows 'for every input' (looked for: loops, veiled, ifaces, maps, wideKeys, modest, calm, conditions, laid).
  DERIVED. THE GIVEN ROWS OF THIS SEAT. 2 by the template 'for every input the law returns true; each argument reads behind the call as it read before'; 0 by the template 'total and deterministic' (their statements: YtfimgkomfnfjkaaTotals.lean).
  GIVEN WITH THE SEED: the statements are not yours to turn. If you find one false, say at which input.
  Laid BY PROGRAM, IN A SANDBOX (cutbox-rows.mjs): the forced cells as the released guide's own fill.sh prints them over the translation 895a24ad85602d1e… (all of the seat's roots in one cut). By AI agents, Wed Nov 11 2026. No macro, syntax, notation, axiom, sorry.
-/
import Derived.Test.YtfimgkomfnfjkaaChecked
import GoSem.Claim
import GoSem.ClaimJoined
import GoSem.ClaimMapViews
import Derived.JoinedTies
import Derived.KernelRfl
namespace Go.Proofs.Ytfimgkomfnfjkaa
/- THE CELL 'sum', in the pinned program and in every row, IS THE sha256 OF THE DUMP (.gsa) THAT YtfimgkomfnfjkaaProg.lean LOADS. Nothing in Lean hashes anything: it is a label: what it is worth is what the hold of that sum in a sandbox is worth. -/
noncomputable def Try.pinned : Pinned := { name := "ytfimgkomfnfjkaa", sum := "895a24ad85602d1ee30b3b3da6f69ea55472d6c0d1f3e37d8509d9acd7a18924", checked := Try.checked }
namespace Rows
def none {H : Type} : Left H := { results := [], args := [] }

/-- 'systolelaw08.DecodeFeeds': WHATEVER THE INPUT: true; the input reads as it did. -/
def decodeFeedsSpec : ChangeSpec := { name := "decodeFeeds", fn := fun _ => fun
  | [d1, d2] => { results := [.lit (.bool true)], args := [d1, d2] }
  | _ => none }
def decodeFeedsRow : OpenClaim := { program := "ytfimgkomfnfjkaa", sum := "895a24ad85602d1ee30b3b3da6f69ea55472d6c0d1f3e37d8509d9acd7a18924", func := "systole/systolelaw08.DecodeFeeds", spec := "decodeFeeds", unfollowed := true, recurses := true, apart := false }
def DecodeFeedsSaid : Prop := decodeFeedsRow.holds Try.pinned (OpenSpec.ofChange decodeFeedsSpec)

/-- ITS FALSE NEIGHBOUR: 'it returns false'. Refute it at one input. -/
def decodeFeedsWrong : ChangeSpec := { name := "decodeFeeds", fn := fun _ => fun
  | [d1, d2] => { results := [.lit (.bool false)], args := [d1, d2] }
  | _ => none }
def DecodeFeedsWrongFalsely : Prop := decodeFeedsRow.holds Try.pinned (OpenSpec.ofChange decodeFeedsWrong)

/-- 'systolelaw08.DecodeCut': WHATEVER THE INPUT: true; the input reads as it did. -/
def decodeCutSpec : ChangeSpec := { name := "decodeCut", fn := fun _ => fun
  | [d1, d2] => { results := [.lit (.bool true)], args := [d1, d2] }
  | _ => none }
def decodeCutRow : OpenClaim := { program := "ytfimgkomfnfjkaa", sum := "895a24ad85602d1ee30b3b3da6f69ea55472d6c0d1f3e37d8509d9acd7a18924", func := "systole/systolelaw08.DecodeCut", spec := "decodeCut", unfollowed := true, recurses := true, apart := false }
def DecodeCutSaid : Prop := decodeCutRow.holds Try.pinned (OpenSpec.ofChange decodeCutSpec)

/-- ITS FALSE NEIGHBOUR: 'it returns false'. Refute it at one input. -/
def decodeCutWrong : ChangeSpec := { name := "decodeCut", fn := fun _ => fun
  | [d1, d2] => { results := [.lit (.bool false)], args := [d1, d2] }
  | _ => none }
def DecodeCutWrongFalsely : Prop := decodeCutRow.holds Try.pinned (OpenSpec.ofChange decodeCutWrong)

/- THE SECOND FORM. 'bulk': how many values and letters a reading holds, each counted each time it is reached (what is shared counts as often as it is met; a slice's spare places count too). A statement '..UptoSaid' is the law's where the arguments, and the package variables that the reading takes, are together of bulk at most 1048576: NARROWER than '..Said'. Prove '..Said' where nothing that the law and all that it calls make is longer than what came in: it says more and counts as full. Else prove '..UptoSaid'. A law counts once. -/
mutual
def uptoBulk {H : Type} : DataW H → Nat
  | .lit (.string bytes) => bytes.length + 1
  | .lit _ => 1
  | .nil => 1
  | .ptr d => uptoBulk d + 1
  | .slice elems spare => uptoBulkAll elems + uptoBulkAll spare + 1
  | .agg parts => uptoBulkAll parts + 1
  | .iface _ d => uptoBulk d + 1
  | .map entries => uptoBulkEntries entries + 1
  | .held _ => 1
def uptoBulkAll {H : Type} : List (DataW H) → Nat
  | [] => 0
  | d :: r => uptoBulk d + uptoBulkAll r
def uptoBulkEntries {H : Type} : List (Lit × DataW H) → Nat
  | [] => 0
  | x :: r => uptoBulkEntry x + uptoBulkEntries r
def uptoBulkEntry {H : Type} : Lit × DataW H → Nat
  | (.string bytes, d) => bytes.length + uptoBulk d + 1
  | (_, d) => uptoBulk d + 1
 end
def uptoSmall : (H : Type) → List (DataW H) → Bool := fun _ ds => decide (uptoBulkAll ds ≤ 1048576)
def OpenSpec.upto (s : _root_.Go.ChangeSpec) : _root_.Go.OpenSpec := { _root_.Go.OpenSpec.ofChange s with cond := some uptoSmall }

/-- 'systolelaw08.DecodeFeeds', WHERE WHAT IT READS IS OF BULK AT MOST 1048576: true; the input reads as it did. -/
def decodeFeedsUptoRow : OpenClaim := { program := "ytfimgkomfnfjkaa", sum := "895a24ad85602d1ee30b3b3da6f69ea55472d6c0d1f3e37d8509d9acd7a18924", func := "systole/systolelaw08.DecodeFeeds", spec := "decodeFeeds", unfollowed := true, recurses := true, apart := false, narrowed := true }
def DecodeFeedsUptoSaid : Prop := decodeFeedsUptoRow.holds Try.pinned (OpenSpec.upto decodeFeedsSpec)

/-- 'systolelaw08.DecodeCut', WHERE WHAT IT READS IS OF BULK AT MOST 1048576: true; the input reads as it did. -/
def decodeCutUptoRow : OpenClaim := { program := "ytfimgkomfnfjkaa", sum := "895a24ad85602d1ee30b3b3da6f69ea55472d6c0d1f3e37d8509d9acd7a18924", func := "systole/systolelaw08.DecodeCut", spec := "decodeCut", unfollowed := true, recurses := true, apart := false, narrowed := true }
def DecodeCutUptoSaid : Prop := decodeCutUptoRow.holds Try.pinned (OpenSpec.upto decodeCutSpec)

end Rows
end Go.Proofs.Ytfimgkomfnfjkaa
