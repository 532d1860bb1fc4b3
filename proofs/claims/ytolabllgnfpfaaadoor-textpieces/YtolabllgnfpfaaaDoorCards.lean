/-
  DERIVED. GIVEN WITH THE SEED: THE CARDS: each row of YtolabllgnfpfaaaDoorRows.lean that lists a variable, with what it lists TIED to the program's text (the seventh form; the later family's looks); each row that meets fmt, with fmt's text TOLD by the authors' own Lean function (tested against real Go, not proved from fmt's source: count such statements apart). THE CARD IS WHAT COUNTS. Prove the row's statement (the work); the ties are given (YtolabllgnfpfaaaDoorTie.lean); close each card by the builder's one call (the guide's Derived/Test/ToyasCard.lean, 'card_holds'). Laid BY PROGRAM, IN A SANDBOX (cutbox-door.mjs). By AI agents, Wed Nov 11 2026. No macro, syntax, notation, axiom, sorry.
-/
import Derived.Test.YtolabllgnfpfaaaDoorRows
import GoSem.ClaimSeven
namespace Go.Proofs.YtolabllgnfpfaaaDoor
namespace Rows

/-- THE TIED CARD OF 'bourselaw03.TextReaders'. -/
def textReadersCard : Claim7 := { stood := { row := textReadersRow, standIns := [], harness := (true, "a18b5fb5564a50422216ff4ef224694ca01f8a42815a552e8c74c6bcfd20b0c9"), looks := true }, kinds := [], alts := [], laidByText := true, laidKinds := [.data, .data, .data, .sentinel, .sentinel], laidTests := true, laidLooks := .later }
def TextReadersCardSaid : Prop := Claim7.holds Tryd.pinned (.plain (OpenSpec.ofChange textReadersSpec)) textReadersCard

/-- THE TIED CARD OF 'bourselaw03.TextPieces'. -/
def textPiecesCard : Claim7 := { stood := { row := textPiecesRow, standIns := [], harness := (true, "a18b5fb5564a50422216ff4ef224694ca01f8a42815a552e8c74c6bcfd20b0c9"), looks := true }, kinds := [], alts := [], laidByText := true, laidKinds := [.data, .data, .data, .sentinel, .sentinel], laidTests := true, laidLooks := .later }
def TextPiecesCardSaid : Prop := Claim7.holds Tryd.pinned (.plain (OpenSpec.ofChange textPiecesSpec)) textPiecesCard

/-- THE SECOND FORM's CARD OF 'bourselaw03.TextReaders'. -/
def textReadersUptoCard : Claim7 := { stood := { row := textReadersUptoRow, standIns := [], harness := (true, "a18b5fb5564a50422216ff4ef224694ca01f8a42815a552e8c74c6bcfd20b0c9"), looks := true }, kinds := [], alts := [], laidByText := true, laidKinds := [.data, .data, .data, .sentinel, .sentinel], laidTests := true, laidLooks := .later }
def TextReadersUptoCardSaid : Prop := Claim7.holds Tryd.pinned (.plain (OpenSpec.upto textReadersSpec)) textReadersUptoCard

/-- THE SECOND FORM's CARD OF 'bourselaw03.TextPieces'. -/
def textPiecesUptoCard : Claim7 := { stood := { row := textPiecesUptoRow, standIns := [], harness := (true, "a18b5fb5564a50422216ff4ef224694ca01f8a42815a552e8c74c6bcfd20b0c9"), looks := true }, kinds := [], alts := [], laidByText := true, laidKinds := [.data, .data, .data, .sentinel, .sentinel], laidTests := true, laidLooks := .later }
def TextPiecesUptoCardSaid : Prop := Claim7.holds Tryd.pinned (.plain (OpenSpec.upto textPiecesSpec)) textPiecesUptoCard
end Rows
end Go.Proofs.YtolabllgnfpfaaaDoor
