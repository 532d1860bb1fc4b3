/-
  No cell of these rows narrows 'for every input' (looked for: loops, veiled, ifaces, maps, wideKeys, modest, calm, conditions, laid).
  DERIVED. THE GIVEN ROWS OF THIS SEAT. 2 by the template 'for every input the law returns true; each argument reads behind the call as it read before'; 0 by the template 'total and deterministic' (their statements: YtnmkfdndfhefiaaGreatTotals.lean).
  GIVEN WITH THE SEED: the statements are not yours to turn. If you find one false, say at which input.
  Laid BY PROGRAM, IN A SANDBOX (cutbox-rows.mjs): the forced cells as the released guide's own fill.sh prints them over the translation 65ece4d22cd1873b… (all of the seat's roots in one cut). By AI agents, Wed Nov 11 2026. No macro, syntax, notation, axiom, sorry.
-/
import Derived.Test.YtnmkfdndfhefiaaGreatChecked
import GoSem.Claim
import GoSem.ClaimJoined
import GoSem.ClaimMapViews
import Derived.JoinedTies
import Derived.KernelRfl
namespace Go.Proofs.YtnmkfdndfhefiaaGreat
/- THE CELL 'sum', in the pinned program and in every row, IS THE sha256 OF THE DUMP (.gsa) THAT YtnmkfdndfhefiaaGreatProg.lean LOADS. Nothing in Lean hashes anything: it is a label: what it is worth is what the hold of that sum in a sandbox is worth. -/
noncomputable def Tryz.pinned : Pinned := { name := "ytnmkfdndfhefiaagreat", sum := "65ece4d22cd1873b01b15ad9efebb53424b7c3593e2195710a1c4945e7b13ea7", checked := Tryz.checked }
namespace Rows
def none {H : Type} : Left H := { results := [], args := [] }

/-- 'bourselaw14.AuctionAll': WHATEVER THE INPUT: true; the input reads as it did. -/
def auctionAllSpec : ChangeSpec := { name := "auctionAll", fn := fun _ => fun
  | [d1, d2, d3] => { results := [.lit (.bool true)], args := [d1, d2, d3] }
  | _ => none }
def auctionAllRow : OpenClaim := { program := "ytnmkfdndfhefiaagreat", sum := "65ece4d22cd1873b01b15ad9efebb53424b7c3593e2195710a1c4945e7b13ea7", func := "bourse/bourselaw14.AuctionAll", spec := "auctionAll", inPlace := ["slices.overlaps[bourse/api.Interest]"], unfollowed := true, recurses := true, apart := false }
def AuctionAllSaid : Prop := auctionAllRow.holds Tryz.pinned (OpenSpec.ofChange auctionAllSpec)

/-- ITS FALSE NEIGHBOUR: 'it returns false'. Refute it at one input. -/
def auctionAllWrong : ChangeSpec := { name := "auctionAll", fn := fun _ => fun
  | [d1, d2, d3] => { results := [.lit (.bool false)], args := [d1, d2, d3] }
  | _ => none }
def AuctionAllWrongFalsely : Prop := auctionAllRow.holds Tryz.pinned (OpenSpec.ofChange auctionAllWrong)

/-- 'bourselaw14.AuctionQuotes': WHATEVER THE INPUT: true; the input reads as it did. -/
def auctionQuotesSpec : ChangeSpec := { name := "auctionQuotes", fn := fun _ => fun
  | [d1, d2, d3] => { results := [.lit (.bool true)], args := [d1, d2, d3] }
  | _ => none }
def auctionQuotesRow : OpenClaim := { program := "ytnmkfdndfhefiaagreat", sum := "65ece4d22cd1873b01b15ad9efebb53424b7c3593e2195710a1c4945e7b13ea7", func := "bourse/bourselaw14.AuctionQuotes", spec := "auctionQuotes", inPlace := ["slices.overlaps[bourse/api.Interest]"], unfollowed := true, recurses := true, apart := false }
def AuctionQuotesSaid : Prop := auctionQuotesRow.holds Tryz.pinned (OpenSpec.ofChange auctionQuotesSpec)

/-- ITS FALSE NEIGHBOUR: 'it returns false'. Refute it at one input. -/
def auctionQuotesWrong : ChangeSpec := { name := "auctionQuotes", fn := fun _ => fun
  | [d1, d2, d3] => { results := [.lit (.bool false)], args := [d1, d2, d3] }
  | _ => none }
def AuctionQuotesWrongFalsely : Prop := auctionQuotesRow.holds Tryz.pinned (OpenSpec.ofChange auctionQuotesWrong)

/- THE SECOND FORM. 'bulk': how many values and letters a reading holds, each counted each time it is reached (what is shared counts as often as it is met; a slice's spare places count too). A statement '..UptoSaid' is the law's where the arguments, and the package variables that the reading takes, are together of bulk at most 1048576: NARROWER than '..Said'. Prove '..Said' where nothing that the law and all that it calls make is longer than what came in: it says more and counts as full. Else prove '..UptoSaid'. A law counts once. -/
mutual
def uptoBulk {H : Type} : DataW H → Nat
  | .lit (.string bytes) => bytes.length + 1
  | .lit _ => 1
  | .nil => 1
  | .ptr d => uptoBulk d + 1
  | .slice elems spare => uptoBulkAll elems + uptoBulkAll spare + 1
  | .agg parts => uptoBulkAll parts + 1
  | .iface _ d => uptoBulk d + 1
  | .map entries => uptoBulkEntries entries + 1
  | .held _ => 1
def uptoBulkAll {H : Type} : List (DataW H) → Nat
  | [] => 0
  | d :: r => uptoBulk d + uptoBulkAll r
def uptoBulkEntries {H : Type} : List (Lit × DataW H) → Nat
  | [] => 0
  | x :: r => uptoBulkEntry x + uptoBulkEntries r
def uptoBulkEntry {H : Type} : Lit × DataW H → Nat
  | (.string bytes, d) => bytes.length + uptoBulk d + 1
  | (_, d) => uptoBulk d + 1
 end
def uptoSmall : (H : Type) → List (DataW H) → Bool := fun _ ds => decide (uptoBulkAll ds ≤ 1048576)
def OpenSpec.upto (s : _root_.Go.ChangeSpec) : _root_.Go.OpenSpec := { _root_.Go.OpenSpec.ofChange s with cond := some uptoSmall }

/-- 'bourselaw14.AuctionAll', WHERE WHAT IT READS IS OF BULK AT MOST 1048576: true; the input reads as it did. -/
def auctionAllUptoRow : OpenClaim := { program := "ytnmkfdndfhefiaagreat", sum := "65ece4d22cd1873b01b15ad9efebb53424b7c3593e2195710a1c4945e7b13ea7", func := "bourse/bourselaw14.AuctionAll", spec := "auctionAll", inPlace := ["slices.overlaps[bourse/api.Interest]"], unfollowed := true, recurses := true, apart := false, narrowed := true }
def AuctionAllUptoSaid : Prop := auctionAllUptoRow.holds Tryz.pinned (OpenSpec.upto auctionAllSpec)

/-- 'bourselaw14.AuctionQuotes', WHERE WHAT IT READS IS OF BULK AT MOST 1048576: true; the input reads as it did. -/
def auctionQuotesUptoRow : OpenClaim := { program := "ytnmkfdndfhefiaagreat", sum := "65ece4d22cd1873b01b15ad9efebb53424b7c3593e2195710a1c4945e7b13ea7", func := "bourse/bourselaw14.AuctionQuotes", spec := "auctionQuotes", inPlace := ["slices.overlaps[bourse/api.Interest]"], unfollowed := true, recurses := true, apart := false, narrowed := true }
def AuctionQuotesUptoSaid : Prop := auctionQuotesUptoRow.holds Tryz.pinned (OpenSpec.upto auctionQuotesSpec)

end Rows
end Go.Proofs.YtnmkfdndfhefiaaGreat
