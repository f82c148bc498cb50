/-
  DERIVED. GIVEN WITH THE SEED: THE CARDS: each row of YtjhpogiknhbegaaDoorRows.lean that lists a variable, with what it lists TIED to the program's text (the seventh form; the later family's looks); each row that meets fmt, with fmt's text TOLD by the authors' own Lean function (tested against real Go, not proved from fmt's source: count such statements apart). THE CARD IS WHAT COUNTS. Prove the row's statement (the work); the ties are given (YtjhpogiknhbegaaDoorTie.lean); close each card by the builder's one call (the guide's Derived/Test/ToyasCard.lean, 'card_holds'). Laid BY PROGRAM, IN A SANDBOX (cutbox-door.mjs). By AI agents, Wed Nov 11 2026. No macro, syntax, notation, axiom, sorry.
-/
import Derived.Test.YtjhpogiknhbegaaDoorRows
import GoSem.ClaimSeven
namespace Go.Proofs.YtjhpogiknhbegaaDoor
namespace Rows

/-- THE TIED CARD OF 'systolelaw25.AnnalKeeps'. -/
def annalKeepsCard : Claim7 := { stood := { row := annalKeepsRow, standIns := [], harness := (true, "56986ab4e2c69312776135a6ed9e441b3eabe2a8682a4a0d9dc3be2a2acc147a"), looks := false }, kinds := [], alts := [], laidByText := true, laidKinds := [.data, .data], laidTests := true, laidLooks := .later }
def AnnalKeepsCardSaid : Prop := Claim7.holds Tryd.pinned (.plain (OpenSpec.ofChange annalKeepsSpec)) annalKeepsCard

/-- THE TIED CARD OF 'systolelaw25.AnnalAll'. -/
def annalAllCard : Claim7 := { stood := { row := annalAllRow, standIns := [], harness := (true, "56986ab4e2c69312776135a6ed9e441b3eabe2a8682a4a0d9dc3be2a2acc147a"), looks := false }, kinds := [], alts := [], laidByText := true, laidKinds := [.data, .data], laidTests := true, laidLooks := .later }
def AnnalAllCardSaid : Prop := Claim7.holds Tryd.pinned (.plain (OpenSpec.ofChange annalAllSpec)) annalAllCard

/-- THE SECOND FORM's CARD OF 'systolelaw25.AnnalKeeps'. -/
def annalKeepsUptoCard : Claim7 := { stood := { row := annalKeepsUptoRow, standIns := [], harness := (true, "56986ab4e2c69312776135a6ed9e441b3eabe2a8682a4a0d9dc3be2a2acc147a"), looks := false }, kinds := [], alts := [], laidByText := true, laidKinds := [.data, .data], laidTests := true, laidLooks := .later }
def AnnalKeepsUptoCardSaid : Prop := Claim7.holds Tryd.pinned (.plain (OpenSpec.upto annalKeepsSpec)) annalKeepsUptoCard

/-- THE SECOND FORM's CARD OF 'systolelaw25.AnnalAll'. -/
def annalAllUptoCard : Claim7 := { stood := { row := annalAllUptoRow, standIns := [], harness := (true, "56986ab4e2c69312776135a6ed9e441b3eabe2a8682a4a0d9dc3be2a2acc147a"), looks := false }, kinds := [], alts := [], laidByText := true, laidKinds := [.data, .data], laidTests := true, laidLooks := .later }
def AnnalAllUptoCardSaid : Prop := Claim7.holds Tryd.pinned (.plain (OpenSpec.upto annalAllSpec)) annalAllUptoCard
end Rows
end Go.Proofs.YtjhpogiknhbegaaDoor
