/-
  DERIVED. GIVEN WITH THE SEED: THE CARDS: each row of YtmefdgmbpihdfaaDoorRows.lean that lists a variable, with what it lists TIED to the program's text (the seventh form; the later family's looks); each row that meets fmt, with fmt's text TOLD by the authors' own Lean function (tested against real Go, not proved from fmt's source: count such statements apart). THE CARD IS WHAT COUNTS. Prove the row's statement (the work); the ties are given (YtmefdgmbpihdfaaDoorTie.lean); close each card by the builder's one call (the guide's Derived/Test/ToyasCard.lean, 'card_holds'). Laid BY PROGRAM, IN A SANDBOX (cutbox-door.mjs). By AI agents, Wed Nov 11 2026. No macro, syntax, notation, axiom, sorry.
-/
import Derived.Test.YtmefdgmbpihdfaaDoorRows
import GoSem.ClaimSeven
namespace Go.Proofs.YtmefdgmbpihdfaaDoor
namespace Rows

/-- THE TIED CARD OF 'systolelaw24.OrderLines'. -/
def orderLinesCard : Claim7 := { stood := { row := orderLinesRow, standIns := [], harness := (true, "c916c9dbcad83e149cb3fb04f9de74d0904f6abc6f1ee0ebbcbf9c4f845927ea"), looks := true }, kinds := [], alts := [], laidByText := true, laidKinds := [.data, .data, .data, .sentinel, .sentinel], laidTests := true, laidLooks := .later }
def OrderLinesCardSaid : Prop := Claim7.holds Tryd.pinned (.plain (OpenSpec.ofChange orderLinesSpec)) orderLinesCard

/-- THE TIED CARD OF 'systolelaw24.OrderPlays'. -/
def orderPlaysCard : Claim7 := { stood := { row := orderPlaysRow, standIns := [], harness := (true, "c916c9dbcad83e149cb3fb04f9de74d0904f6abc6f1ee0ebbcbf9c4f845927ea"), looks := true }, kinds := [], alts := [], laidByText := true, laidKinds := [.data, .data, .data], laidTests := true, laidLooks := .later }
def OrderPlaysCardSaid : Prop := Claim7.holds Tryd.pinned (.plain (OpenSpec.ofChange orderPlaysSpec)) orderPlaysCard

/-- THE TIED CARD OF 'systolelaw24.OrderOnce'. -/
def orderOnceCard : Claim7 := { stood := { row := orderOnceRow, standIns := [], harness := (true, "c916c9dbcad83e149cb3fb04f9de74d0904f6abc6f1ee0ebbcbf9c4f845927ea"), looks := true }, kinds := [], alts := [], laidByText := true, laidKinds := [.data, .data, .data], laidTests := true, laidLooks := .later }
def OrderOnceCardSaid : Prop := Claim7.holds Tryd.pinned (.plain (OpenSpec.ofChange orderOnceSpec)) orderOnceCard

/-- THE TIED CARD OF 'systolelaw24.OrderWhenever'. -/
def orderWheneverCard : Claim7 := { stood := { row := orderWheneverRow, standIns := [], harness := (true, "c916c9dbcad83e149cb3fb04f9de74d0904f6abc6f1ee0ebbcbf9c4f845927ea"), looks := true }, kinds := [], alts := [], laidByText := true, laidKinds := [.data, .data, .data], laidTests := true, laidLooks := .later }
def OrderWheneverCardSaid : Prop := Claim7.holds Tryd.pinned (.plain (OpenSpec.ofChange orderWheneverSpec)) orderWheneverCard

/-- THE TIED CARD OF 'systolelaw24.OrderNobody'. -/
def orderNobodyCard : Claim7 := { stood := { row := orderNobodyRow, standIns := [], harness := (true, "c916c9dbcad83e149cb3fb04f9de74d0904f6abc6f1ee0ebbcbf9c4f845927ea"), looks := true }, kinds := [], alts := [], laidByText := true, laidKinds := [.data, .data, .data], laidTests := true, laidLooks := .later }
def OrderNobodyCardSaid : Prop := Claim7.holds Tryd.pinned (.plain (OpenSpec.ofChange orderNobodySpec)) orderNobodyCard

/-- THE SECOND FORM's CARD OF 'systolelaw24.OrderLines'. -/
def orderLinesUptoCard : Claim7 := { stood := { row := orderLinesUptoRow, standIns := [], harness := (true, "c916c9dbcad83e149cb3fb04f9de74d0904f6abc6f1ee0ebbcbf9c4f845927ea"), looks := true }, kinds := [], alts := [], laidByText := true, laidKinds := [.data, .data, .data, .sentinel, .sentinel], laidTests := true, laidLooks := .later }
def OrderLinesUptoCardSaid : Prop := Claim7.holds Tryd.pinned (.plain (OpenSpec.upto orderLinesSpec)) orderLinesUptoCard

/-- THE SECOND FORM's CARD OF 'systolelaw24.OrderPlays'. -/
def orderPlaysUptoCard : Claim7 := { stood := { row := orderPlaysUptoRow, standIns := [], harness := (true, "c916c9dbcad83e149cb3fb04f9de74d0904f6abc6f1ee0ebbcbf9c4f845927ea"), looks := true }, kinds := [], alts := [], laidByText := true, laidKinds := [.data, .data, .data], laidTests := true, laidLooks := .later }
def OrderPlaysUptoCardSaid : Prop := Claim7.holds Tryd.pinned (.plain (OpenSpec.upto orderPlaysSpec)) orderPlaysUptoCard

/-- THE SECOND FORM's CARD OF 'systolelaw24.OrderOnce'. -/
def orderOnceUptoCard : Claim7 := { stood := { row := orderOnceUptoRow, standIns := [], harness := (true, "c916c9dbcad83e149cb3fb04f9de74d0904f6abc6f1ee0ebbcbf9c4f845927ea"), looks := true }, kinds := [], alts := [], laidByText := true, laidKinds := [.data, .data, .data], laidTests := true, laidLooks := .later }
def OrderOnceUptoCardSaid : Prop := Claim7.holds Tryd.pinned (.plain (OpenSpec.upto orderOnceSpec)) orderOnceUptoCard

/-- THE SECOND FORM's CARD OF 'systolelaw24.OrderWhenever'. -/
def orderWheneverUptoCard : Claim7 := { stood := { row := orderWheneverUptoRow, standIns := [], harness := (true, "c916c9dbcad83e149cb3fb04f9de74d0904f6abc6f1ee0ebbcbf9c4f845927ea"), looks := true }, kinds := [], alts := [], laidByText := true, laidKinds := [.data, .data, .data], laidTests := true, laidLooks := .later }
def OrderWheneverUptoCardSaid : Prop := Claim7.holds Tryd.pinned (.plain (OpenSpec.upto orderWheneverSpec)) orderWheneverUptoCard

/-- THE SECOND FORM's CARD OF 'systolelaw24.OrderNobody'. -/
def orderNobodyUptoCard : Claim7 := { stood := { row := orderNobodyUptoRow, standIns := [], harness := (true, "c916c9dbcad83e149cb3fb04f9de74d0904f6abc6f1ee0ebbcbf9c4f845927ea"), looks := true }, kinds := [], alts := [], laidByText := true, laidKinds := [.data, .data, .data], laidTests := true, laidLooks := .later }
def OrderNobodyUptoCardSaid : Prop := Claim7.holds Tryd.pinned (.plain (OpenSpec.upto orderNobodySpec)) orderNobodyUptoCard
end Rows
end Go.Proofs.YtmefdgmbpihdfaaDoor
