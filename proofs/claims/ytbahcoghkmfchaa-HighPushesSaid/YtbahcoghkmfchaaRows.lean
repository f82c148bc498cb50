/-
  No cell of these rows narrows 'for every input' (looked for: loops, veiled, ifaces, maps, wideKeys, modest, calm, conditions, laid).
  DERIVED. THE GIVEN ROWS OF THIS SEAT. 4 by the template 'for every input the law returns true; each argument reads behind the call as it read before'; 0 by the template 'total and deterministic' (their statements: YtbahcoghkmfchaaTotals.lean).
  GIVEN WITH THE SEED: the statements are not yours to turn. If you find one false, say at which input.
  Laid BY PROGRAM, IN A SANDBOX (cutbox-rows.mjs): the forced cells as the released guide's own fill.sh prints them over the translation 9b707e55dbda766e… (all of the seat's roots in one cut). By AI agents, Wed Nov 11 2026. No macro, syntax, notation, axiom, sorry.
-/
import Derived.Test.YtbahcoghkmfchaaChecked
import GoSem.Claim
import GoSem.ClaimJoined
import GoSem.ClaimMapViews
import Derived.JoinedTies
import Derived.KernelRfl
namespace Go.Proofs.Ytbahcoghkmfchaa
/- THE CELL 'sum', in the pinned program and in every row, IS THE sha256 OF THE DUMP (.gsa) THAT YtbahcoghkmfchaaProg.lean LOADS. Nothing in Lean hashes anything: it is a label: what it is worth is what the hold of that sum in a sandbox is worth. -/
noncomputable def Try.pinned : Pinned := { name := "ytbahcoghkmfchaa", sum := "9b707e55dbda766eb81186a1ea51167a5b09001776a24996efeaf2d87ba5d9f9", checked := Try.checked }
namespace Rows
def none {H : Type} : Left H := { results := [], args := [] }

/-- 'systolelaw12.HighPushes': WHATEVER THE INPUT: true; the input reads as it did. -/
def highPushesSpec : ChangeSpec := { name := "highPushes", fn := fun _ => fun
  | [d1, d2] => { results := [.lit (.bool true)], args := [d1, d2] }
  | _ => none }
def highPushesRow : OpenClaim := { program := "ytbahcoghkmfchaa", sum := "9b707e55dbda766eb81186a1ea51167a5b09001776a24996efeaf2d87ba5d9f9", func := "systole/systolelaw12.HighPushes", spec := "highPushes", apart := false }
def HighPushesSaid : Prop := highPushesRow.holds Try.pinned (OpenSpec.ofChange highPushesSpec)

/-- ITS FALSE NEIGHBOUR: 'it returns false'. Refute it at one input. -/
def highPushesWrong : ChangeSpec := { name := "highPushes", fn := fun _ => fun
  | [d1, d2] => { results := [.lit (.bool false)], args := [d1, d2] }
  | _ => none }
def HighPushesWrongFalsely : Prop := highPushesRow.holds Try.pinned (OpenSpec.ofChange highPushesWrong)

/-- 'systolelaw12.HighBounds': WHATEVER THE INPUT: true; the input reads as it did. -/
def highBoundsSpec : ChangeSpec := { name := "highBounds", fn := fun _ => fun
  | [d] => { results := [.lit (.bool true)], args := [d] }
  | _ => none }
def highBoundsRow : OpenClaim := { program := "ytbahcoghkmfchaa", sum := "9b707e55dbda766eb81186a1ea51167a5b09001776a24996efeaf2d87ba5d9f9", func := "systole/systolelaw12.HighBounds", spec := "highBounds", apart := false }
def HighBoundsSaid : Prop := highBoundsRow.holds Try.pinned (OpenSpec.ofChange highBoundsSpec)

/-- ITS FALSE NEIGHBOUR: 'it returns false'. Refute it at one input. -/
def highBoundsWrong : ChangeSpec := { name := "highBounds", fn := fun _ => fun
  | [d] => { results := [.lit (.bool false)], args := [d] }
  | _ => none }
def HighBoundsWrongFalsely : Prop := highBoundsRow.holds Try.pinned (OpenSpec.ofChange highBoundsWrong)

/-- 'systolelaw12.HighEven': WHATEVER THE INPUT: true; the input reads as it did. -/
def highEvenSpec : ChangeSpec := { name := "highEven", fn := fun _ => fun
  | [d1, d2] => { results := [.lit (.bool true)], args := [d1, d2] }
  | _ => none }
def highEvenRow : OpenClaim := { program := "ytbahcoghkmfchaa", sum := "9b707e55dbda766eb81186a1ea51167a5b09001776a24996efeaf2d87ba5d9f9", func := "systole/systolelaw12.HighEven", spec := "highEven", apart := false }
def HighEvenSaid : Prop := highEvenRow.holds Try.pinned (OpenSpec.ofChange highEvenSpec)

/-- ITS FALSE NEIGHBOUR: 'it returns false'. Refute it at one input. -/
def highEvenWrong : ChangeSpec := { name := "highEven", fn := fun _ => fun
  | [d1, d2] => { results := [.lit (.bool false)], args := [d1, d2] }
  | _ => none }
def HighEvenWrongFalsely : Prop := highEvenRow.holds Try.pinned (OpenSpec.ofChange highEvenWrong)

/-- 'systolelaw12.HighForgets': WHATEVER THE INPUT: true; the input reads as it did. -/
def highForgetsSpec : ChangeSpec := { name := "highForgets", fn := fun _ => fun
  | [d1, d2, d3] => { results := [.lit (.bool true)], args := [d1, d2, d3] }
  | _ => none }
def highForgetsRow : OpenClaim := { program := "ytbahcoghkmfchaa", sum := "9b707e55dbda766eb81186a1ea51167a5b09001776a24996efeaf2d87ba5d9f9", func := "systole/systolelaw12.HighForgets", spec := "highForgets", apart := false }
def HighForgetsSaid : Prop := highForgetsRow.holds Try.pinned (OpenSpec.ofChange highForgetsSpec)

/-- ITS FALSE NEIGHBOUR: 'it returns false'. Refute it at one input. -/
def highForgetsWrong : ChangeSpec := { name := "highForgets", fn := fun _ => fun
  | [d1, d2, d3] => { results := [.lit (.bool false)], args := [d1, d2, d3] }
  | _ => none }
def HighForgetsWrongFalsely : Prop := highForgetsRow.holds Try.pinned (OpenSpec.ofChange highForgetsWrong)

/- THE SECOND FORM. 'bulk': how many values and letters a reading holds, each counted each time it is reached (what is shared counts as often as it is met; a slice's spare places count too). A statement '..UptoSaid' is the law's where the arguments, and the package variables that the reading takes, are together of bulk at most 1048576: NARROWER than '..Said'. Prove '..Said' where nothing that the law and all that it calls make is longer than what came in: it says more and counts as full. Else prove '..UptoSaid'. A law counts once. -/
mutual
def uptoBulk {H : Type} : DataW H → Nat
  | .lit (.string bytes) => bytes.length + 1
  | .lit _ => 1
  | .nil => 1
  | .ptr d => uptoBulk d + 1
  | .slice elems spare => uptoBulkAll elems + uptoBulkAll spare + 1
  | .agg parts => uptoBulkAll parts + 1
  | .iface _ d => uptoBulk d + 1
  | .map entries => uptoBulkEntries entries + 1
  | .held _ => 1
def uptoBulkAll {H : Type} : List (DataW H) → Nat
  | [] => 0
  | d :: r => uptoBulk d + uptoBulkAll r
def uptoBulkEntries {H : Type} : List (Lit × DataW H) → Nat
  | [] => 0
  | x :: r => uptoBulkEntry x + uptoBulkEntries r
def uptoBulkEntry {H : Type} : Lit × DataW H → Nat
  | (.string bytes, d) => bytes.length + uptoBulk d + 1
  | (_, d) => uptoBulk d + 1
 end
def uptoSmall : (H : Type) → List (DataW H) → Bool := fun _ ds => decide (uptoBulkAll ds ≤ 1048576)
def OpenSpec.upto (s : _root_.Go.ChangeSpec) : _root_.Go.OpenSpec := { _root_.Go.OpenSpec.ofChange s with cond := some uptoSmall }

/-- 'systolelaw12.HighPushes', WHERE WHAT IT READS IS OF BULK AT MOST 1048576: true; the input reads as it did. -/
def highPushesUptoRow : OpenClaim := { program := "ytbahcoghkmfchaa", sum := "9b707e55dbda766eb81186a1ea51167a5b09001776a24996efeaf2d87ba5d9f9", func := "systole/systolelaw12.HighPushes", spec := "highPushes", apart := false, narrowed := true }
def HighPushesUptoSaid : Prop := highPushesUptoRow.holds Try.pinned (OpenSpec.upto highPushesSpec)

/-- 'systolelaw12.HighBounds', WHERE WHAT IT READS IS OF BULK AT MOST 1048576: true; the input reads as it did. -/
def highBoundsUptoRow : OpenClaim := { program := "ytbahcoghkmfchaa", sum := "9b707e55dbda766eb81186a1ea51167a5b09001776a24996efeaf2d87ba5d9f9", func := "systole/systolelaw12.HighBounds", spec := "highBounds", apart := false, narrowed := true }
def HighBoundsUptoSaid : Prop := highBoundsUptoRow.holds Try.pinned (OpenSpec.upto highBoundsSpec)

/-- 'systolelaw12.HighEven', WHERE WHAT IT READS IS OF BULK AT MOST 1048576: true; the input reads as it did. -/
def highEvenUptoRow : OpenClaim := { program := "ytbahcoghkmfchaa", sum := "9b707e55dbda766eb81186a1ea51167a5b09001776a24996efeaf2d87ba5d9f9", func := "systole/systolelaw12.HighEven", spec := "highEven", apart := false, narrowed := true }
def HighEvenUptoSaid : Prop := highEvenUptoRow.holds Try.pinned (OpenSpec.upto highEvenSpec)

/-- 'systolelaw12.HighForgets', WHERE WHAT IT READS IS OF BULK AT MOST 1048576: true; the input reads as it did. -/
def highForgetsUptoRow : OpenClaim := { program := "ytbahcoghkmfchaa", sum := "9b707e55dbda766eb81186a1ea51167a5b09001776a24996efeaf2d87ba5d9f9", func := "systole/systolelaw12.HighForgets", spec := "highForgets", apart := false, narrowed := true }
def HighForgetsUptoSaid : Prop := highForgetsUptoRow.holds Try.pinned (OpenSpec.upto highForgetsSpec)

end Rows
end Go.Proofs.Ytbahcoghkmfchaa
