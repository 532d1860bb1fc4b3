/-
  DERIVED. GIVEN WITH THE SEED: THE CARDS: each row of YtjpkodllemoniaaDoorRows.lean that lists a variable, with what it lists TIED to the program's text (the seventh form; the later family's looks); each row that meets fmt, with fmt's text TOLD by the authors' own Lean function (tested against real Go, not proved from fmt's source: count such statements apart). THE CARD IS WHAT COUNTS. Prove the row's statement (the work); the ties are given (YtjpkodllemoniaaDoorTie.lean); close each card by the builder's one call (the guide's Derived/Test/ToyasCard.lean, 'card_holds'). Laid BY PROGRAM, IN A SANDBOX (cutbox-door.mjs). By AI agents, Wed Nov 11 2026. No macro, syntax, notation, axiom, sorry.
-/
import Derived.Test.YtjpkodllemoniaaDoorRows
import GoSem.ClaimSeven
namespace Go.Proofs.YtjpkodllemoniaaDoor
namespace Rows

/-- THE TIED CARD OF 'bourselaw12.SnapshotEncodes'. -/
def snapshotEncodesCard : Claim7 := { stood := { row := snapshotEncodesRow, standIns := [], harness := (true, "5ae74603fee242c5d839331b21d4bbae923352b664cc6d738cea515a9f4a3486"), looks := false }, kinds := [], alts := [], laidByText := true, laidKinds := [.data], laidTests := true, laidLooks := .later }
def SnapshotEncodesCardSaid : Prop := Claim7.holds Tryd.pinned (.plain (OpenSpec.ofChange snapshotEncodesSpec)) snapshotEncodesCard

/-- THE TIED CARD OF 'bourselaw12.SnapshotDecodes'. -/
def snapshotDecodesCard : Claim7 := { stood := { row := snapshotDecodesRow, standIns := [], harness := (true, "5ae74603fee242c5d839331b21d4bbae923352b664cc6d738cea515a9f4a3486"), looks := false }, kinds := [], alts := [], laidByText := true, laidKinds := [.data], laidTests := true, laidLooks := .later }
def SnapshotDecodesCardSaid : Prop := Claim7.holds Tryd.pinned (.plain (OpenSpec.ofChange snapshotDecodesSpec)) snapshotDecodesCard

/-- THE SECOND FORM's CARD OF 'bourselaw12.SnapshotEncodes'. -/
def snapshotEncodesUptoCard : Claim7 := { stood := { row := snapshotEncodesUptoRow, standIns := [], harness := (true, "5ae74603fee242c5d839331b21d4bbae923352b664cc6d738cea515a9f4a3486"), looks := false }, kinds := [], alts := [], laidByText := true, laidKinds := [.data], laidTests := true, laidLooks := .later }
def SnapshotEncodesUptoCardSaid : Prop := Claim7.holds Tryd.pinned (.plain (OpenSpec.upto snapshotEncodesSpec)) snapshotEncodesUptoCard

/-- THE SECOND FORM's CARD OF 'bourselaw12.SnapshotDecodes'. -/
def snapshotDecodesUptoCard : Claim7 := { stood := { row := snapshotDecodesUptoRow, standIns := [], harness := (true, "5ae74603fee242c5d839331b21d4bbae923352b664cc6d738cea515a9f4a3486"), looks := false }, kinds := [], alts := [], laidByText := true, laidKinds := [.data], laidTests := true, laidLooks := .later }
def SnapshotDecodesUptoCardSaid : Prop := Claim7.holds Tryd.pinned (.plain (OpenSpec.upto snapshotDecodesSpec)) snapshotDecodesUptoCard
end Rows
end Go.Proofs.YtjpkodllemoniaaDoor
