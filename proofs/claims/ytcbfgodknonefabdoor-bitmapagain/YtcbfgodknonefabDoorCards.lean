/-
  DERIVED. GIVEN WITH THE SEED: THE CARDS: each row of YtcbfgodknonefabDoorRows.lean that lists a variable, with what it lists TIED to the program's text (the seventh form; the later family's looks); each row that meets fmt, with fmt's text TOLD by the authors' own Lean function (tested against real Go, not proved from fmt's source: count such statements apart). THE CARD IS WHAT COUNTS. Prove the row's statement (the work); the ties are given (YtcbfgodknonefabDoorTie.lean); close each card by the builder's one call (the guide's Derived/Test/ToyasCard.lean, 'card_holds'). Laid BY PROGRAM, IN A SANDBOX (cutbox-door.mjs). By AI agents, Wed Nov 11 2026. No macro, syntax, notation, axiom, sorry.
-/
import Derived.Test.YtcbfgodknonefabDoorRows
import GoSem.ClaimSeven
namespace Go.Proofs.YtcbfgodknonefabDoor
namespace Rows

/-- THE TIED CARD OF 'bourselaw06.BitmapAgain'. -/
def bitmapAgainCard : Claim7 := { stood := { row := bitmapAgainRow, standIns := [], harness := (true, "af679d4bab8ab2eda4e39aff77fa5efc455f0cfa2a5ed9415062af54738ad4c5"), looks := false }, kinds := [], alts := [], laidByText := true, laidKinds := [.data], laidTests := true, laidLooks := .later }
def BitmapAgainCardSaid : Prop := Claim7.holds Tryd.pinned (.plain (OpenSpec.ofChange bitmapAgainSpec)) bitmapAgainCard

/-- THE SECOND FORM's CARD OF 'bourselaw06.BitmapAgain'. -/
def bitmapAgainUptoCard : Claim7 := { stood := { row := bitmapAgainUptoRow, standIns := [], harness := (true, "af679d4bab8ab2eda4e39aff77fa5efc455f0cfa2a5ed9415062af54738ad4c5"), looks := false }, kinds := [], alts := [], laidByText := true, laidKinds := [.data], laidTests := true, laidLooks := .later }
def BitmapAgainUptoCardSaid : Prop := Claim7.holds Tryd.pinned (.plain (OpenSpec.upto bitmapAgainSpec)) bitmapAgainUptoCard
end Rows
end Go.Proofs.YtcbfgodknonefabDoor
