/-
  No cell of these rows narrows 'for every input' (looked for: loops, veiled, ifaces, maps, wideKeys, modest, calm, conditions, laid).
  DERIVED. THE GIVEN ROWS OF THIS SEAT. 4 by the template 'for every input the law returns true; each argument reads behind the call as it read before'; 0 by the template 'total and deterministic' (their statements: YtnecdglokkljfaaTotals.lean).
  GIVEN WITH THE SEED: the statements are not yours to turn. If you find one false, say at which input.
  Laid BY PROGRAM, IN A SANDBOX (cutbox-rows.mjs): the forced cells as the released guide's own fill.sh prints them over the translation a0269ec4696c6fb6… (all of the seat's roots in one cut). By AI agents, Wed Nov 11 2026. No macro, syntax, notation, axiom, sorry.
-/
import Derived.Test.YtnecdglokkljfaaChecked
import GoSem.Claim
import GoSem.ClaimJoined
import GoSem.ClaimMapViews
import Derived.JoinedTies
import Derived.KernelRfl
namespace Go.Proofs.Ytnecdglokkljfaa
/- THE CELL 'sum', in the pinned program and in every row, IS THE sha256 OF THE DUMP (.gsa) THAT YtnecdglokkljfaaProg.lean LOADS. Nothing in Lean hashes anything: it is a label: what it is worth is what the hold of that sum in a sandbox is worth. -/
noncomputable def Try.pinned : Pinned := { name := "ytnecdglokkljfaa", sum := "a0269ec4696c6fb6bd6a9f78cf65a77126a9ea905e9f60e823bc7f889484c4a5", checked := Try.checked }
namespace Rows
def none {H : Type} : Left H := { results := [], args := [] }

/-- 'systolelaw11.LowPushes': WHATEVER THE INPUT: true; the input reads as it did. -/
def lowPushesSpec : ChangeSpec := { name := "lowPushes", fn := fun _ => fun
  | [d1, d2] => { results := [.lit (.bool true)], args := [d1, d2] }
  | _ => none }
def lowPushesRow : OpenClaim := { program := "ytnecdglokkljfaa", sum := "a0269ec4696c6fb6bd6a9f78cf65a77126a9ea905e9f60e823bc7f889484c4a5", func := "systole/systolelaw11.LowPushes", spec := "lowPushes", apart := false }
def LowPushesSaid : Prop := lowPushesRow.holds Try.pinned (OpenSpec.ofChange lowPushesSpec)

/-- ITS FALSE NEIGHBOUR: 'it returns false'. Refute it at one input. -/
def lowPushesWrong : ChangeSpec := { name := "lowPushes", fn := fun _ => fun
  | [d1, d2] => { results := [.lit (.bool false)], args := [d1, d2] }
  | _ => none }
def LowPushesWrongFalsely : Prop := lowPushesRow.holds Try.pinned (OpenSpec.ofChange lowPushesWrong)

/-- 'systolelaw11.LowBounds': WHATEVER THE INPUT: true; the input reads as it did. -/
def lowBoundsSpec : ChangeSpec := { name := "lowBounds", fn := fun _ => fun
  | [d] => { results := [.lit (.bool true)], args := [d] }
  | _ => none }
def lowBoundsRow : OpenClaim := { program := "ytnecdglokkljfaa", sum := "a0269ec4696c6fb6bd6a9f78cf65a77126a9ea905e9f60e823bc7f889484c4a5", func := "systole/systolelaw11.LowBounds", spec := "lowBounds", apart := false }
def LowBoundsSaid : Prop := lowBoundsRow.holds Try.pinned (OpenSpec.ofChange lowBoundsSpec)

/-- ITS FALSE NEIGHBOUR: 'it returns false'. Refute it at one input. -/
def lowBoundsWrong : ChangeSpec := { name := "lowBounds", fn := fun _ => fun
  | [d] => { results := [.lit (.bool false)], args := [d] }
  | _ => none }
def LowBoundsWrongFalsely : Prop := lowBoundsRow.holds Try.pinned (OpenSpec.ofChange lowBoundsWrong)

/-- 'systolelaw11.LowForgets': WHATEVER THE INPUT: true; the input reads as it did. -/
def lowForgetsSpec : ChangeSpec := { name := "lowForgets", fn := fun _ => fun
  | [d1, d2, d3] => { results := [.lit (.bool true)], args := [d1, d2, d3] }
  | _ => none }
def lowForgetsRow : OpenClaim := { program := "ytnecdglokkljfaa", sum := "a0269ec4696c6fb6bd6a9f78cf65a77126a9ea905e9f60e823bc7f889484c4a5", func := "systole/systolelaw11.LowForgets", spec := "lowForgets", apart := false }
def LowForgetsSaid : Prop := lowForgetsRow.holds Try.pinned (OpenSpec.ofChange lowForgetsSpec)

/-- ITS FALSE NEIGHBOUR: 'it returns false'. Refute it at one input. -/
def lowForgetsWrong : ChangeSpec := { name := "lowForgets", fn := fun _ => fun
  | [d1, d2, d3] => { results := [.lit (.bool false)], args := [d1, d2, d3] }
  | _ => none }
def LowForgetsWrongFalsely : Prop := lowForgetsRow.holds Try.pinned (OpenSpec.ofChange lowForgetsWrong)

/-- 'systolelaw11.LowSteps': WHATEVER THE INPUT: true; the input reads as it did. -/
def lowStepsSpec : ChangeSpec := { name := "lowSteps", fn := fun _ => fun
  | [d] => { results := [.lit (.bool true)], args := [d] }
  | _ => none }
def lowStepsRow : OpenClaim := { program := "ytnecdglokkljfaa", sum := "a0269ec4696c6fb6bd6a9f78cf65a77126a9ea905e9f60e823bc7f889484c4a5", func := "systole/systolelaw11.LowSteps", spec := "lowSteps", unfollowed := true, recurses := true, apart := false }
def LowStepsSaid : Prop := lowStepsRow.holds Try.pinned (OpenSpec.ofChange lowStepsSpec)

/-- ITS FALSE NEIGHBOUR: 'it returns false'. Refute it at one input. -/
def lowStepsWrong : ChangeSpec := { name := "lowSteps", fn := fun _ => fun
  | [d] => { results := [.lit (.bool false)], args := [d] }
  | _ => none }
def LowStepsWrongFalsely : Prop := lowStepsRow.holds Try.pinned (OpenSpec.ofChange lowStepsWrong)

/- THE SECOND FORM. 'bulk': how many values and letters a reading holds, each counted each time it is reached (what is shared counts as often as it is met; a slice's spare places count too). A statement '..UptoSaid' is the law's where the arguments, and the package variables that the reading takes, are together of bulk at most 1048576: NARROWER than '..Said'. Prove '..Said' where nothing that the law and all that it calls make is longer than what came in: it says more and counts as full. Else prove '..UptoSaid'. A law counts once. -/
mutual
def uptoBulk {H : Type} : DataW H → Nat
  | .lit (.string bytes) => bytes.length + 1
  | .lit _ => 1
  | .nil => 1
  | .ptr d => uptoBulk d + 1
  | .slice elems spare => uptoBulkAll elems + uptoBulkAll spare + 1
  | .agg parts => uptoBulkAll parts + 1
  | .iface _ d => uptoBulk d + 1
  | .map entries => uptoBulkEntries entries + 1
  | .held _ => 1
def uptoBulkAll {H : Type} : List (DataW H) → Nat
  | [] => 0
  | d :: r => uptoBulk d + uptoBulkAll r
def uptoBulkEntries {H : Type} : List (Lit × DataW H) → Nat
  | [] => 0
  | x :: r => uptoBulkEntry x + uptoBulkEntries r
def uptoBulkEntry {H : Type} : Lit × DataW H → Nat
  | (.string bytes, d) => bytes.length + uptoBulk d + 1
  | (_, d) => uptoBulk d + 1
 end
def uptoSmall : (H : Type) → List (DataW H) → Bool := fun _ ds => decide (uptoBulkAll ds ≤ 1048576)
def OpenSpec.upto (s : _root_.Go.ChangeSpec) : _root_.Go.OpenSpec := { _root_.Go.OpenSpec.ofChange s with cond := some uptoSmall }

/-- 'systolelaw11.LowPushes', WHERE WHAT IT READS IS OF BULK AT MOST 1048576: true; the input reads as it did. -/
def lowPushesUptoRow : OpenClaim := { program := "ytnecdglokkljfaa", sum := "a0269ec4696c6fb6bd6a9f78cf65a77126a9ea905e9f60e823bc7f889484c4a5", func := "systole/systolelaw11.LowPushes", spec := "lowPushes", apart := false, narrowed := true }
def LowPushesUptoSaid : Prop := lowPushesUptoRow.holds Try.pinned (OpenSpec.upto lowPushesSpec)

/-- 'systolelaw11.LowBounds', WHERE WHAT IT READS IS OF BULK AT MOST 1048576: true; the input reads as it did. -/
def lowBoundsUptoRow : OpenClaim := { program := "ytnecdglokkljfaa", sum := "a0269ec4696c6fb6bd6a9f78cf65a77126a9ea905e9f60e823bc7f889484c4a5", func := "systole/systolelaw11.LowBounds", spec := "lowBounds", apart := false, narrowed := true }
def LowBoundsUptoSaid : Prop := lowBoundsUptoRow.holds Try.pinned (OpenSpec.upto lowBoundsSpec)

/-- 'systolelaw11.LowForgets', WHERE WHAT IT READS IS OF BULK AT MOST 1048576: true; the input reads as it did. -/
def lowForgetsUptoRow : OpenClaim := { program := "ytnecdglokkljfaa", sum := "a0269ec4696c6fb6bd6a9f78cf65a77126a9ea905e9f60e823bc7f889484c4a5", func := "systole/systolelaw11.LowForgets", spec := "lowForgets", apart := false, narrowed := true }
def LowForgetsUptoSaid : Prop := lowForgetsUptoRow.holds Try.pinned (OpenSpec.upto lowForgetsSpec)

/-- 'systolelaw11.LowSteps', WHERE WHAT IT READS IS OF BULK AT MOST 1048576: true; the input reads as it did. -/
def lowStepsUptoRow : OpenClaim := { program := "ytnecdglokkljfaa", sum := "a0269ec4696c6fb6bd6a9f78cf65a77126a9ea905e9f60e823bc7f889484c4a5", func := "systole/systolelaw11.LowSteps", spec := "lowSteps", unfollowed := true, recurses := true, apart := false, narrowed := true }
def LowStepsUptoSaid : Prop := lowStepsUptoRow.holds Try.pinned (OpenSpec.upto lowStepsSpec)

end Rows
end Go.Proofs.Ytnecdglokkljfaa
