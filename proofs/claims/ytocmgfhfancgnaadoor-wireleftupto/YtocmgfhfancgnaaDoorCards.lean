/-
  DERIVED. GIVEN WITH THE SEED: THE CARDS: each row of YtocmgfhfancgnaaDoorRows.lean that lists a variable, with what it lists TIED to the program's text (the seventh form; the later family's looks); each row that meets fmt, with fmt's text TOLD by the authors' own Lean function (tested against real Go, not proved from fmt's source: count such statements apart). THE CARD IS WHAT COUNTS. Prove the row's statement (the work); the ties are given (YtocmgfhfancgnaaDoorTie.lean); close each card by the builder's one call (the guide's Derived/Test/ToyasCard.lean, 'card_holds'). Laid BY PROGRAM, IN A SANDBOX (cutbox-door.mjs). By AI agents, Wed Nov 11 2026. No macro, syntax, notation, axiom, sorry.
-/
import Derived.Test.YtocmgfhfancgnaaDoorRows
import GoSem.ClaimSeven
namespace Go.Proofs.YtocmgfhfancgnaaDoor
namespace Rows

/-- THE TIED CARD OF 'bourselaw02.WireSums'. -/
def wireSumsCard : Claim7 := { stood := { row := wireSumsRow, standIns := [], harness := (true, "d8bb4ed3980efb19f6091e19a708bd86ca6c5bdaebdd28d9a58b56ca4971e814"), looks := false }, kinds := [], alts := [], laidByText := true, laidKinds := [.data], laidTests := true, laidLooks := .later }
def WireSumsCardSaid : Prop := Claim7.holds Tryd.pinned (.plain (OpenSpec.ofChange wireSumsSpec)) wireSumsCard

/-- THE TIED CARD OF 'bourselaw02.WirePacks'. -/
def wirePacksCard : Claim7 := { stood := { row := wirePacksRow, standIns := [], harness := (true, "d8bb4ed3980efb19f6091e19a708bd86ca6c5bdaebdd28d9a58b56ca4971e814"), looks := false }, kinds := [], alts := [], laidByText := true, laidKinds := [.data], laidTests := true, laidLooks := .later }
def WirePacksCardSaid : Prop := Claim7.holds Tryd.pinned (.plain (OpenSpec.ofChange wirePacksSpec)) wirePacksCard

/-- THE TIED CARD OF 'bourselaw02.WireUnpacks'. -/
def wireUnpacksCard : Claim7 := { stood := { row := wireUnpacksRow, standIns := [], harness := (true, "d8bb4ed3980efb19f6091e19a708bd86ca6c5bdaebdd28d9a58b56ca4971e814"), looks := false }, kinds := [], alts := [], laidByText := true, laidKinds := [.data], laidTests := true, laidLooks := .later }
def WireUnpacksCardSaid : Prop := Claim7.holds Tryd.pinned (.plain (OpenSpec.ofChange wireUnpacksSpec)) wireUnpacksCard

/-- THE TIED CARD OF 'bourselaw02.WireAlls'. -/
def wireAllsCard : Claim7 := { stood := { row := wireAllsRow, standIns := [], harness := (true, "d8bb4ed3980efb19f6091e19a708bd86ca6c5bdaebdd28d9a58b56ca4971e814"), looks := false }, kinds := [], alts := [], laidByText := true, laidKinds := [.data], laidTests := true, laidLooks := .later }
def WireAllsCardSaid : Prop := Claim7.holds Tryd.pinned (.plain (OpenSpec.ofChange wireAllsSpec)) wireAllsCard

/-- THE TIED CARD OF 'bourselaw02.WireReaders'. -/
def wireReadersCard : Claim7 := { stood := { row := wireReadersRow, standIns := [], harness := (true, "d8bb4ed3980efb19f6091e19a708bd86ca6c5bdaebdd28d9a58b56ca4971e814"), looks := false }, kinds := [], alts := [], laidByText := true, laidKinds := [.data], laidTests := true, laidLooks := .later }
def WireReadersCardSaid : Prop := Claim7.holds Tryd.pinned (.plain (OpenSpec.ofChange wireReadersSpec)) wireReadersCard

/-- THE TIED CARD OF 'bourselaw02.WireLeft'. -/
def wireLeftCard : Claim7 := { stood := { row := wireLeftRow, standIns := [], harness := (true, "d8bb4ed3980efb19f6091e19a708bd86ca6c5bdaebdd28d9a58b56ca4971e814"), looks := false }, kinds := [], alts := [], laidByText := true, laidKinds := [.data], laidTests := true, laidLooks := .later }
def WireLeftCardSaid : Prop := Claim7.holds Tryd.pinned (.plain (OpenSpec.ofChange wireLeftSpec)) wireLeftCard

/-- THE SECOND FORM's CARD OF 'bourselaw02.WireSums'. -/
def wireSumsUptoCard : Claim7 := { stood := { row := wireSumsUptoRow, standIns := [], harness := (true, "d8bb4ed3980efb19f6091e19a708bd86ca6c5bdaebdd28d9a58b56ca4971e814"), looks := false }, kinds := [], alts := [], laidByText := true, laidKinds := [.data], laidTests := true, laidLooks := .later }
def WireSumsUptoCardSaid : Prop := Claim7.holds Tryd.pinned (.plain (OpenSpec.upto wireSumsSpec)) wireSumsUptoCard

/-- THE SECOND FORM's CARD OF 'bourselaw02.WirePacks'. -/
def wirePacksUptoCard : Claim7 := { stood := { row := wirePacksUptoRow, standIns := [], harness := (true, "d8bb4ed3980efb19f6091e19a708bd86ca6c5bdaebdd28d9a58b56ca4971e814"), looks := false }, kinds := [], alts := [], laidByText := true, laidKinds := [.data], laidTests := true, laidLooks := .later }
def WirePacksUptoCardSaid : Prop := Claim7.holds Tryd.pinned (.plain (OpenSpec.upto wirePacksSpec)) wirePacksUptoCard

/-- THE SECOND FORM's CARD OF 'bourselaw02.WireUnpacks'. -/
def wireUnpacksUptoCard : Claim7 := { stood := { row := wireUnpacksUptoRow, standIns := [], harness := (true, "d8bb4ed3980efb19f6091e19a708bd86ca6c5bdaebdd28d9a58b56ca4971e814"), looks := false }, kinds := [], alts := [], laidByText := true, laidKinds := [.data], laidTests := true, laidLooks := .later }
def WireUnpacksUptoCardSaid : Prop := Claim7.holds Tryd.pinned (.plain (OpenSpec.upto wireUnpacksSpec)) wireUnpacksUptoCard

/-- THE SECOND FORM's CARD OF 'bourselaw02.WireAlls'. -/
def wireAllsUptoCard : Claim7 := { stood := { row := wireAllsUptoRow, standIns := [], harness := (true, "d8bb4ed3980efb19f6091e19a708bd86ca6c5bdaebdd28d9a58b56ca4971e814"), looks := false }, kinds := [], alts := [], laidByText := true, laidKinds := [.data], laidTests := true, laidLooks := .later }
def WireAllsUptoCardSaid : Prop := Claim7.holds Tryd.pinned (.plain (OpenSpec.upto wireAllsSpec)) wireAllsUptoCard

/-- THE SECOND FORM's CARD OF 'bourselaw02.WireReaders'. -/
def wireReadersUptoCard : Claim7 := { stood := { row := wireReadersUptoRow, standIns := [], harness := (true, "d8bb4ed3980efb19f6091e19a708bd86ca6c5bdaebdd28d9a58b56ca4971e814"), looks := false }, kinds := [], alts := [], laidByText := true, laidKinds := [.data], laidTests := true, laidLooks := .later }
def WireReadersUptoCardSaid : Prop := Claim7.holds Tryd.pinned (.plain (OpenSpec.upto wireReadersSpec)) wireReadersUptoCard

/-- THE SECOND FORM's CARD OF 'bourselaw02.WireLeft'. -/
def wireLeftUptoCard : Claim7 := { stood := { row := wireLeftUptoRow, standIns := [], harness := (true, "d8bb4ed3980efb19f6091e19a708bd86ca6c5bdaebdd28d9a58b56ca4971e814"), looks := false }, kinds := [], alts := [], laidByText := true, laidKinds := [.data], laidTests := true, laidLooks := .later }
def WireLeftUptoCardSaid : Prop := Claim7.holds Tryd.pinned (.plain (OpenSpec.upto wireLeftSpec)) wireLeftUptoCard
end Rows
end Go.Proofs.YtocmgfhfancgnaaDoor
