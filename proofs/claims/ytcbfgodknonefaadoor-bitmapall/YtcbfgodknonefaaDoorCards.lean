/-
  DERIVED. GIVEN WITH THE SEED: THE CARDS: each row of YtcbfgodknonefaaDoorRows.lean that lists a variable, with what it lists TIED to the program's text (the seventh form; the later family's looks); each row that meets fmt, with fmt's text TOLD by the authors' own Lean function (tested against real Go, not proved from fmt's source: count such statements apart). THE CARD IS WHAT COUNTS. Prove the row's statement (the work); the ties are given (YtcbfgodknonefaaDoorTie.lean); close each card by the builder's one call (the guide's Derived/Test/ToyasCard.lean, 'card_holds'). Laid BY PROGRAM, IN A SANDBOX (cutbox-door.mjs). By AI agents, Wed Nov 11 2026. No macro, syntax, notation, axiom, sorry.
-/
import Derived.Test.YtcbfgodknonefaaDoorRows
import GoSem.ClaimSeven
namespace Go.Proofs.YtcbfgodknonefaaDoor
namespace Rows

/-- THE TIED CARD OF 'bourselaw06.BitmapAll'. -/
def bitmapAllCard : Claim7 := { stood := { row := bitmapAllRow, standIns := [], harness := (true, "5b3c0c2b6125f9b963557bcb57aa7e7b98cf05e7f6bd1bfd974ef86b887b76c4"), looks := false }, kinds := [], alts := [], laidByText := true, laidKinds := [.data], laidTests := true, laidLooks := .later }
def BitmapAllCardSaid : Prop := Claim7.holds Tryd.pinned (.plain (OpenSpec.ofChange bitmapAllSpec)) bitmapAllCard

/-- THE TIED CARD OF 'bourselaw06.BitmapNumbers'. -/
def bitmapNumbersCard : Claim7 := { stood := { row := bitmapNumbersRow, standIns := [], harness := (true, "5b3c0c2b6125f9b963557bcb57aa7e7b98cf05e7f6bd1bfd974ef86b887b76c4"), looks := false }, kinds := [], alts := [], laidByText := true, laidKinds := [.data], laidTests := true, laidLooks := .later }
def BitmapNumbersCardSaid : Prop := Claim7.holds Tryd.pinned (.plain (OpenSpec.ofChange bitmapNumbersSpec)) bitmapNumbersCard

/-- THE TIED CARD OF 'bourselaw06.BitmapLevels'. -/
def bitmapLevelsCard : Claim7 := { stood := { row := bitmapLevelsRow, standIns := [], harness := (true, "5b3c0c2b6125f9b963557bcb57aa7e7b98cf05e7f6bd1bfd974ef86b887b76c4"), looks := false }, kinds := [], alts := [], laidByText := true, laidKinds := [.data], laidTests := true, laidLooks := .later }
def BitmapLevelsCardSaid : Prop := Claim7.holds Tryd.pinned (.plain (OpenSpec.ofChange bitmapLevelsSpec)) bitmapLevelsCard

/-- THE TIED CARD OF 'bourselaw06.BitmapNear'. -/
def bitmapNearCard : Claim7 := { stood := { row := bitmapNearRow, standIns := [], harness := (true, "5b3c0c2b6125f9b963557bcb57aa7e7b98cf05e7f6bd1bfd974ef86b887b76c4"), looks := false }, kinds := [], alts := [], laidByText := true, laidKinds := [.data], laidTests := true, laidLooks := .later }
def BitmapNearCardSaid : Prop := Claim7.holds Tryd.pinned (.plain (OpenSpec.ofChange bitmapNearSpec)) bitmapNearCard

/-- THE TIED CARD OF 'bourselaw06.BitmapCounts'. -/
def bitmapCountsCard : Claim7 := { stood := { row := bitmapCountsRow, standIns := [], harness := (true, "5b3c0c2b6125f9b963557bcb57aa7e7b98cf05e7f6bd1bfd974ef86b887b76c4"), looks := false }, kinds := [], alts := [], laidByText := true, laidKinds := [.data], laidTests := true, laidLooks := .later }
def BitmapCountsCardSaid : Prop := Claim7.holds Tryd.pinned (.plain (OpenSpec.ofChange bitmapCountsSpec)) bitmapCountsCard

/-- THE TIED CARD OF 'bourselaw06.BitmapOrder'. -/
def bitmapOrderCard : Claim7 := { stood := { row := bitmapOrderRow, standIns := [], harness := (true, "5b3c0c2b6125f9b963557bcb57aa7e7b98cf05e7f6bd1bfd974ef86b887b76c4"), looks := false }, kinds := [], alts := [], laidByText := true, laidKinds := [.data], laidTests := true, laidLooks := .later }
def BitmapOrderCardSaid : Prop := Claim7.holds Tryd.pinned (.plain (OpenSpec.ofChange bitmapOrderSpec)) bitmapOrderCard

/-- THE SECOND FORM's CARD OF 'bourselaw06.BitmapAll'. -/
def bitmapAllUptoCard : Claim7 := { stood := { row := bitmapAllUptoRow, standIns := [], harness := (true, "5b3c0c2b6125f9b963557bcb57aa7e7b98cf05e7f6bd1bfd974ef86b887b76c4"), looks := false }, kinds := [], alts := [], laidByText := true, laidKinds := [.data], laidTests := true, laidLooks := .later }
def BitmapAllUptoCardSaid : Prop := Claim7.holds Tryd.pinned (.plain (OpenSpec.upto bitmapAllSpec)) bitmapAllUptoCard

/-- THE SECOND FORM's CARD OF 'bourselaw06.BitmapNumbers'. -/
def bitmapNumbersUptoCard : Claim7 := { stood := { row := bitmapNumbersUptoRow, standIns := [], harness := (true, "5b3c0c2b6125f9b963557bcb57aa7e7b98cf05e7f6bd1bfd974ef86b887b76c4"), looks := false }, kinds := [], alts := [], laidByText := true, laidKinds := [.data], laidTests := true, laidLooks := .later }
def BitmapNumbersUptoCardSaid : Prop := Claim7.holds Tryd.pinned (.plain (OpenSpec.upto bitmapNumbersSpec)) bitmapNumbersUptoCard

/-- THE SECOND FORM's CARD OF 'bourselaw06.BitmapLevels'. -/
def bitmapLevelsUptoCard : Claim7 := { stood := { row := bitmapLevelsUptoRow, standIns := [], harness := (true, "5b3c0c2b6125f9b963557bcb57aa7e7b98cf05e7f6bd1bfd974ef86b887b76c4"), looks := false }, kinds := [], alts := [], laidByText := true, laidKinds := [.data], laidTests := true, laidLooks := .later }
def BitmapLevelsUptoCardSaid : Prop := Claim7.holds Tryd.pinned (.plain (OpenSpec.upto bitmapLevelsSpec)) bitmapLevelsUptoCard

/-- THE SECOND FORM's CARD OF 'bourselaw06.BitmapNear'. -/
def bitmapNearUptoCard : Claim7 := { stood := { row := bitmapNearUptoRow, standIns := [], harness := (true, "5b3c0c2b6125f9b963557bcb57aa7e7b98cf05e7f6bd1bfd974ef86b887b76c4"), looks := false }, kinds := [], alts := [], laidByText := true, laidKinds := [.data], laidTests := true, laidLooks := .later }
def BitmapNearUptoCardSaid : Prop := Claim7.holds Tryd.pinned (.plain (OpenSpec.upto bitmapNearSpec)) bitmapNearUptoCard

/-- THE SECOND FORM's CARD OF 'bourselaw06.BitmapCounts'. -/
def bitmapCountsUptoCard : Claim7 := { stood := { row := bitmapCountsUptoRow, standIns := [], harness := (true, "5b3c0c2b6125f9b963557bcb57aa7e7b98cf05e7f6bd1bfd974ef86b887b76c4"), looks := false }, kinds := [], alts := [], laidByText := true, laidKinds := [.data], laidTests := true, laidLooks := .later }
def BitmapCountsUptoCardSaid : Prop := Claim7.holds Tryd.pinned (.plain (OpenSpec.upto bitmapCountsSpec)) bitmapCountsUptoCard

/-- THE SECOND FORM's CARD OF 'bourselaw06.BitmapOrder'. -/
def bitmapOrderUptoCard : Claim7 := { stood := { row := bitmapOrderUptoRow, standIns := [], harness := (true, "5b3c0c2b6125f9b963557bcb57aa7e7b98cf05e7f6bd1bfd974ef86b887b76c4"), looks := false }, kinds := [], alts := [], laidByText := true, laidKinds := [.data], laidTests := true, laidLooks := .later }
def BitmapOrderUptoCardSaid : Prop := Claim7.holds Tryd.pinned (.plain (OpenSpec.upto bitmapOrderSpec)) bitmapOrderUptoCard
end Rows
end Go.Proofs.YtcbfgodknonefaaDoor
