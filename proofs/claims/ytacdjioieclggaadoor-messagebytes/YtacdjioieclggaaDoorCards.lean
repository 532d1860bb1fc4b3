/-
  DERIVED. GIVEN WITH THE SEED: THE CARDS: each row of YtacdjioieclggaaDoorRows.lean that lists a variable, with what it lists TIED to the program's text (the seventh form; the later family's looks); each row that meets fmt, with fmt's text TOLD by the authors' own Lean function (tested against real Go, not proved from fmt's source: count such statements apart). THE CARD IS WHAT COUNTS. Prove the row's statement (the work); the ties are given (YtacdjioieclggaaDoorTie.lean); close each card by the builder's one call (the guide's Derived/Test/ToyasCard.lean, 'card_holds'). Laid BY PROGRAM, IN A SANDBOX (cutbox-door.mjs). By AI agents, Wed Nov 11 2026. No macro, syntax, notation, axiom, sorry.
-/
import Derived.Test.YtacdjioieclggaaDoorRows
import GoSem.ClaimSeven
namespace Go.Proofs.YtacdjioieclggaaDoor
namespace Rows

/-- THE TIED CARD OF 'bourselaw04.MessageLines'. -/
def messageLinesCard : Claim7 := { stood := { row := messageLinesRow, standIns := [], harness := (true, "905a95e3f44f3c956efa6cd6825d0ccbd8a18ab8d9ff8258c5dacb4a641d69de"), looks := true }, kinds := [], alts := [], laidByText := true, laidKinds := [.data, .data, .data], laidTests := true, laidLooks := .later }
def MessageLinesCardSaid : Prop := Claim7.holds Tryd.pinned (.plain (OpenSpec.ofChange messageLinesSpec)) messageLinesCard

/-- THE TIED CARD OF 'bourselaw04.MessageBack'. -/
def messageBackCard : Claim7 := { stood := { row := messageBackRow, standIns := [], harness := (true, "905a95e3f44f3c956efa6cd6825d0ccbd8a18ab8d9ff8258c5dacb4a641d69de"), looks := true }, kinds := [], alts := [], laidByText := true, laidKinds := [.data, .data, .data, .sentinel, .sentinel], laidTests := true, laidLooks := .later }
def MessageBackCardSaid : Prop := Claim7.holds Tryd.pinned (.plain (OpenSpec.ofChange messageBackSpec)) messageBackCard

/-- THE TIED CARD OF 'bourselaw04.MessageOneForm'. -/
def messageOneFormCard : Claim7 := { stood := { row := messageOneFormRow, standIns := [], harness := (true, "905a95e3f44f3c956efa6cd6825d0ccbd8a18ab8d9ff8258c5dacb4a641d69de"), looks := true }, kinds := [], alts := [], laidByText := true, laidKinds := [.data, .data, .data, .sentinel, .sentinel], laidTests := true, laidLooks := .later }
def MessageOneFormCardSaid : Prop := Claim7.holds Tryd.pinned (.plain (OpenSpec.ofChange messageOneFormSpec)) messageOneFormCard

/-- THE TIED CARD OF 'bourselaw04.MessageBytes'. -/
def messageBytesCard : Claim7 := { stood := { row := messageBytesRow, standIns := [], harness := (true, "905a95e3f44f3c956efa6cd6825d0ccbd8a18ab8d9ff8258c5dacb4a641d69de"), looks := true }, kinds := [], alts := [], laidByText := true, laidKinds := [.data, .data, .data, .sentinel, .sentinel, .data], laidTests := true, laidLooks := .later }
def MessageBytesCardSaid : Prop := Claim7.holds Tryd.pinned (.plain (OpenSpec.ofChange messageBytesSpec)) messageBytesCard

/-- THE TIED CARD OF 'bourselaw04.MessageEdges'. -/
def messageEdgesCard : Claim7 := { stood := { row := messageEdgesRow, standIns := [], harness := (true, "905a95e3f44f3c956efa6cd6825d0ccbd8a18ab8d9ff8258c5dacb4a641d69de"), looks := true }, kinds := [], alts := [], laidByText := true, laidKinds := [.data, .data, .data, .sentinel, .sentinel], laidTests := true, laidLooks := .later }
def MessageEdgesCardSaid : Prop := Claim7.holds Tryd.pinned (.plain (OpenSpec.ofChange messageEdgesSpec)) messageEdgesCard

/-- THE SECOND FORM's CARD OF 'bourselaw04.MessageLines'. -/
def messageLinesUptoCard : Claim7 := { stood := { row := messageLinesUptoRow, standIns := [], harness := (true, "905a95e3f44f3c956efa6cd6825d0ccbd8a18ab8d9ff8258c5dacb4a641d69de"), looks := true }, kinds := [], alts := [], laidByText := true, laidKinds := [.data, .data, .data], laidTests := true, laidLooks := .later }
def MessageLinesUptoCardSaid : Prop := Claim7.holds Tryd.pinned (.plain (OpenSpec.upto messageLinesSpec)) messageLinesUptoCard

/-- THE SECOND FORM's CARD OF 'bourselaw04.MessageBack'. -/
def messageBackUptoCard : Claim7 := { stood := { row := messageBackUptoRow, standIns := [], harness := (true, "905a95e3f44f3c956efa6cd6825d0ccbd8a18ab8d9ff8258c5dacb4a641d69de"), looks := true }, kinds := [], alts := [], laidByText := true, laidKinds := [.data, .data, .data, .sentinel, .sentinel], laidTests := true, laidLooks := .later }
def MessageBackUptoCardSaid : Prop := Claim7.holds Tryd.pinned (.plain (OpenSpec.upto messageBackSpec)) messageBackUptoCard

/-- THE SECOND FORM's CARD OF 'bourselaw04.MessageOneForm'. -/
def messageOneFormUptoCard : Claim7 := { stood := { row := messageOneFormUptoRow, standIns := [], harness := (true, "905a95e3f44f3c956efa6cd6825d0ccbd8a18ab8d9ff8258c5dacb4a641d69de"), looks := true }, kinds := [], alts := [], laidByText := true, laidKinds := [.data, .data, .data, .sentinel, .sentinel], laidTests := true, laidLooks := .later }
def MessageOneFormUptoCardSaid : Prop := Claim7.holds Tryd.pinned (.plain (OpenSpec.upto messageOneFormSpec)) messageOneFormUptoCard

/-- THE SECOND FORM's CARD OF 'bourselaw04.MessageBytes'. -/
def messageBytesUptoCard : Claim7 := { stood := { row := messageBytesUptoRow, standIns := [], harness := (true, "905a95e3f44f3c956efa6cd6825d0ccbd8a18ab8d9ff8258c5dacb4a641d69de"), looks := true }, kinds := [], alts := [], laidByText := true, laidKinds := [.data, .data, .data, .sentinel, .sentinel, .data], laidTests := true, laidLooks := .later }
def MessageBytesUptoCardSaid : Prop := Claim7.holds Tryd.pinned (.plain (OpenSpec.upto messageBytesSpec)) messageBytesUptoCard

/-- THE SECOND FORM's CARD OF 'bourselaw04.MessageEdges'. -/
def messageEdgesUptoCard : Claim7 := { stood := { row := messageEdgesUptoRow, standIns := [], harness := (true, "905a95e3f44f3c956efa6cd6825d0ccbd8a18ab8d9ff8258c5dacb4a641d69de"), looks := true }, kinds := [], alts := [], laidByText := true, laidKinds := [.data, .data, .data, .sentinel, .sentinel], laidTests := true, laidLooks := .later }
def MessageEdgesUptoCardSaid : Prop := Claim7.holds Tryd.pinned (.plain (OpenSpec.upto messageEdgesSpec)) messageEdgesUptoCard
end Rows
end Go.Proofs.YtacdjioieclggaaDoor
