/-
  No cell of these rows narrows 'for every input' (looked for: loops, veiled, ifaces, maps, wideKeys, modest, calm, conditions, laid).
  DERIVED. THE GIVEN ROWS OF THIS SEAT. 5 by the template 'for every input the law returns true; each argument reads behind the call as it read before'; 0 by the template 'total and deterministic' (their statements: YtejlhdmfcmhlaaaTotals.lean).
  GIVEN WITH THE SEED: the statements are not yours to turn. If you find one false, say at which input.
  Laid BY PROGRAM, IN A SANDBOX (cutbox-rows.mjs): the forced cells as the released guide's own fill.sh prints them over the translation 5aa51690ba60481b… (all of the seat's roots in one cut). By AI agents, Wed Nov 11 2026. No macro, syntax, notation, axiom, sorry.
-/
import Derived.Test.YtejlhdmfcmhlaaaChecked
import GoSem.Claim
import GoSem.ClaimJoined
import GoSem.ClaimMapViews
import Derived.JoinedTies
import Derived.KernelRfl
namespace Go.Proofs.Ytejlhdmfcmhlaaa
/- THE CELL 'sum', in the pinned program and in every row, IS THE sha256 OF THE DUMP (.gsa) THAT YtejlhdmfcmhlaaaProg.lean LOADS. Nothing in Lean hashes anything: it is a label: what it is worth is what the hold of that sum in a sandbox is worth. -/
noncomputable def Try.pinned : Pinned := { name := "ytejlhdmfcmhlaaa", sum := "5aa51690ba60481b25e589019c1241ba280e1ebc3ac7dec5cc1fc37a39e2dfb6", checked := Try.checked }
namespace Rows
def none {H : Type} : Left H := { results := [], args := [] }

/-- 'systolelaw15.ChainPushes': WHATEVER THE INPUT: true; the input reads as it did. -/
def chainPushesSpec : ChangeSpec := { name := "chainPushes", fn := fun _ => fun
  | [d1, d2, d3] => { results := [.lit (.bool true)], args := [d1, d2, d3] }
  | _ => none }
def chainPushesRow : OpenClaim := { program := "ytejlhdmfcmhlaaa", sum := "5aa51690ba60481b25e589019c1241ba280e1ebc3ac7dec5cc1fc37a39e2dfb6", func := "systole/systolelaw15.ChainPushes", spec := "chainPushes", apart := false }
def ChainPushesSaid : Prop := chainPushesRow.holds Try.pinned (OpenSpec.ofChange chainPushesSpec)

/-- ITS FALSE NEIGHBOUR: 'it returns false'. Refute it at one input. -/
def chainPushesWrong : ChangeSpec := { name := "chainPushes", fn := fun _ => fun
  | [d1, d2, d3] => { results := [.lit (.bool false)], args := [d1, d2, d3] }
  | _ => none }
def ChainPushesWrongFalsely : Prop := chainPushesRow.holds Try.pinned (OpenSpec.ofChange chainPushesWrong)

/-- 'systolelaw15.ChainBounds': WHATEVER THE INPUT: true; the input reads as it did. -/
def chainBoundsSpec : ChangeSpec := { name := "chainBounds", fn := fun _ => fun
  | [d1, d2] => { results := [.lit (.bool true)], args := [d1, d2] }
  | _ => none }
def chainBoundsRow : OpenClaim := { program := "ytejlhdmfcmhlaaa", sum := "5aa51690ba60481b25e589019c1241ba280e1ebc3ac7dec5cc1fc37a39e2dfb6", func := "systole/systolelaw15.ChainBounds", spec := "chainBounds", apart := false }
def ChainBoundsSaid : Prop := chainBoundsRow.holds Try.pinned (OpenSpec.ofChange chainBoundsSpec)

/-- ITS FALSE NEIGHBOUR: 'it returns false'. Refute it at one input. -/
def chainBoundsWrong : ChangeSpec := { name := "chainBounds", fn := fun _ => fun
  | [d1, d2] => { results := [.lit (.bool false)], args := [d1, d2] }
  | _ => none }
def ChainBoundsWrongFalsely : Prop := chainBoundsRow.holds Try.pinned (OpenSpec.ofChange chainBoundsWrong)

/-- 'systolelaw15.ChainEven': WHATEVER THE INPUT: true; the input reads as it did. -/
def chainEvenSpec : ChangeSpec := { name := "chainEven", fn := fun _ => fun
  | [d1, d2, d3] => { results := [.lit (.bool true)], args := [d1, d2, d3] }
  | _ => none }
def chainEvenRow : OpenClaim := { program := "ytejlhdmfcmhlaaa", sum := "5aa51690ba60481b25e589019c1241ba280e1ebc3ac7dec5cc1fc37a39e2dfb6", func := "systole/systolelaw15.ChainEven", spec := "chainEven", apart := false }
def ChainEvenSaid : Prop := chainEvenRow.holds Try.pinned (OpenSpec.ofChange chainEvenSpec)

/-- ITS FALSE NEIGHBOUR: 'it returns false'. Refute it at one input. -/
def chainEvenWrong : ChangeSpec := { name := "chainEven", fn := fun _ => fun
  | [d1, d2, d3] => { results := [.lit (.bool false)], args := [d1, d2, d3] }
  | _ => none }
def ChainEvenWrongFalsely : Prop := chainEvenRow.holds Try.pinned (OpenSpec.ofChange chainEvenWrong)

/-- 'systolelaw15.ChainLifted': WHATEVER THE INPUT: true; the input reads as it did. -/
def chainLiftedSpec : ChangeSpec := { name := "chainLifted", fn := fun _ => fun
  | [d1, d2, d3] => { results := [.lit (.bool true)], args := [d1, d2, d3] }
  | _ => none }
def chainLiftedRow : OpenClaim := { program := "ytejlhdmfcmhlaaa", sum := "5aa51690ba60481b25e589019c1241ba280e1ebc3ac7dec5cc1fc37a39e2dfb6", func := "systole/systolelaw15.ChainLifted", spec := "chainLifted", apart := false }
def ChainLiftedSaid : Prop := chainLiftedRow.holds Try.pinned (OpenSpec.ofChange chainLiftedSpec)

/-- ITS FALSE NEIGHBOUR: 'it returns false'. Refute it at one input. -/
def chainLiftedWrong : ChangeSpec := { name := "chainLifted", fn := fun _ => fun
  | [d1, d2, d3] => { results := [.lit (.bool false)], args := [d1, d2, d3] }
  | _ => none }
def ChainLiftedWrongFalsely : Prop := chainLiftedRow.holds Try.pinned (OpenSpec.ofChange chainLiftedWrong)

/-- 'systolelaw15.ChainNobody': WHATEVER THE INPUT: true; the input reads as it did. -/
def chainNobodySpec : ChangeSpec := { name := "chainNobody", fn := fun _ => fun
  | [d1, d2] => { results := [.lit (.bool true)], args := [d1, d2] }
  | _ => none }
def chainNobodyRow : OpenClaim := { program := "ytejlhdmfcmhlaaa", sum := "5aa51690ba60481b25e589019c1241ba280e1ebc3ac7dec5cc1fc37a39e2dfb6", func := "systole/systolelaw15.ChainNobody", spec := "chainNobody", apart := false }
def ChainNobodySaid : Prop := chainNobodyRow.holds Try.pinned (OpenSpec.ofChange chainNobodySpec)

/-- ITS FALSE NEIGHBOUR: 'it returns false'. Refute it at one input. -/
def chainNobodyWrong : ChangeSpec := { name := "chainNobody", fn := fun _ => fun
  | [d1, d2] => { results := [.lit (.bool false)], args := [d1, d2] }
  | _ => none }
def ChainNobodyWrongFalsely : Prop := chainNobodyRow.holds Try.pinned (OpenSpec.ofChange chainNobodyWrong)

/- THE SECOND FORM. 'bulk': how many values and letters a reading holds, each counted each time it is reached (what is shared counts as often as it is met; a slice's spare places count too). A statement '..UptoSaid' is the law's where the arguments, and the package variables that the reading takes, are together of bulk at most 1048576: NARROWER than '..Said'. Prove '..Said' where nothing that the law and all that it calls make is longer than what came in: it says more and counts as full. Else prove '..UptoSaid'. A law counts once. -/
mutual
def uptoBulk {H : Type} : DataW H → Nat
  | .lit (.string bytes) => bytes.length + 1
  | .lit _ => 1
  | .nil => 1
  | .ptr d => uptoBulk d + 1
  | .slice elems spare => uptoBulkAll elems + uptoBulkAll spare + 1
  | .agg parts => uptoBulkAll parts + 1
  | .iface _ d => uptoBulk d + 1
  | .map entries => uptoBulkEntries entries + 1
  | .held _ => 1
def uptoBulkAll {H : Type} : List (DataW H) → Nat
  | [] => 0
  | d :: r => uptoBulk d + uptoBulkAll r
def uptoBulkEntries {H : Type} : List (Lit × DataW H) → Nat
  | [] => 0
  | x :: r => uptoBulkEntry x + uptoBulkEntries r
def uptoBulkEntry {H : Type} : Lit × DataW H → Nat
  | (.string bytes, d) => bytes.length + uptoBulk d + 1
  | (_, d) => uptoBulk d + 1
 end
def uptoSmall : (H : Type) → List (DataW H) → Bool := fun _ ds => decide (uptoBulkAll ds ≤ 1048576)
def OpenSpec.upto (s : _root_.Go.ChangeSpec) : _root_.Go.OpenSpec := { _root_.Go.OpenSpec.ofChange s with cond := some uptoSmall }

/-- 'systolelaw15.ChainPushes', WHERE WHAT IT READS IS OF BULK AT MOST 1048576: true; the input reads as it did. -/
def chainPushesUptoRow : OpenClaim := { program := "ytejlhdmfcmhlaaa", sum := "5aa51690ba60481b25e589019c1241ba280e1ebc3ac7dec5cc1fc37a39e2dfb6", func := "systole/systolelaw15.ChainPushes", spec := "chainPushes", apart := false, narrowed := true }
def ChainPushesUptoSaid : Prop := chainPushesUptoRow.holds Try.pinned (OpenSpec.upto chainPushesSpec)

/-- 'systolelaw15.ChainBounds', WHERE WHAT IT READS IS OF BULK AT MOST 1048576: true; the input reads as it did. -/
def chainBoundsUptoRow : OpenClaim := { program := "ytejlhdmfcmhlaaa", sum := "5aa51690ba60481b25e589019c1241ba280e1ebc3ac7dec5cc1fc37a39e2dfb6", func := "systole/systolelaw15.ChainBounds", spec := "chainBounds", apart := false, narrowed := true }
def ChainBoundsUptoSaid : Prop := chainBoundsUptoRow.holds Try.pinned (OpenSpec.upto chainBoundsSpec)

/-- 'systolelaw15.ChainEven', WHERE WHAT IT READS IS OF BULK AT MOST 1048576: true; the input reads as it did. -/
def chainEvenUptoRow : OpenClaim := { program := "ytejlhdmfcmhlaaa", sum := "5aa51690ba60481b25e589019c1241ba280e1ebc3ac7dec5cc1fc37a39e2dfb6", func := "systole/systolelaw15.ChainEven", spec := "chainEven", apart := false, narrowed := true }
def ChainEvenUptoSaid : Prop := chainEvenUptoRow.holds Try.pinned (OpenSpec.upto chainEvenSpec)

/-- 'systolelaw15.ChainLifted', WHERE WHAT IT READS IS OF BULK AT MOST 1048576: true; the input reads as it did. -/
def chainLiftedUptoRow : OpenClaim := { program := "ytejlhdmfcmhlaaa", sum := "5aa51690ba60481b25e589019c1241ba280e1ebc3ac7dec5cc1fc37a39e2dfb6", func := "systole/systolelaw15.ChainLifted", spec := "chainLifted", apart := false, narrowed := true }
def ChainLiftedUptoSaid : Prop := chainLiftedUptoRow.holds Try.pinned (OpenSpec.upto chainLiftedSpec)

/-- 'systolelaw15.ChainNobody', WHERE WHAT IT READS IS OF BULK AT MOST 1048576: true; the input reads as it did. -/
def chainNobodyUptoRow : OpenClaim := { program := "ytejlhdmfcmhlaaa", sum := "5aa51690ba60481b25e589019c1241ba280e1ebc3ac7dec5cc1fc37a39e2dfb6", func := "systole/systolelaw15.ChainNobody", spec := "chainNobody", apart := false, narrowed := true }
def ChainNobodyUptoSaid : Prop := chainNobodyUptoRow.holds Try.pinned (OpenSpec.upto chainNobodySpec)

end Rows
end Go.Proofs.Ytejlhdmfcmhlaaa
