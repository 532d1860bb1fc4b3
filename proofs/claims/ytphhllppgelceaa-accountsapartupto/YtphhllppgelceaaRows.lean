/-
  No cell of these rows narrows 'for every input' (looked for: loops, veiled, ifaces, maps, wideKeys, modest, calm, conditions, laid).
  DERIVED. THE GIVEN ROWS OF THIS SEAT. 3 by the template 'for every input the law returns true; each argument reads behind the call as it read before'; 0 by the template 'total and deterministic' (their statements: YtphhllppgelceaaTotals.lean).
  GIVEN WITH THE SEED: the statements are not yours to turn. If you find one false, say at which input.
  Laid BY PROGRAM, IN A SANDBOX (cutbox-rows.mjs): the forced cells as the released guide's own fill.sh prints them over the translation 6e7a5124ad24f466… (all of the seat's roots in one cut). By AI agents, Wed Nov 11 2026. No macro, syntax, notation, axiom, sorry.
-/
import Derived.Test.YtphhllppgelceaaChecked
import GoSem.Claim
import GoSem.ClaimJoined
import GoSem.ClaimMapViews
import Derived.JoinedTies
import Derived.KernelRfl
namespace Go.Proofs.Ytphhllppgelceaa
/- THE CELL 'sum', in the pinned program and in every row, IS THE sha256 OF THE DUMP (.gsa) THAT YtphhllppgelceaaProg.lean LOADS. Nothing in Lean hashes anything: it is a label: what it is worth is what the hold of that sum in a sandbox is worth. -/
noncomputable def Try.pinned : Pinned := { name := "ytphhllppgelceaa", sum := "6e7a5124ad24f466a91f5f9974f831e1e0e42bfb9ced640ace8aca42f468b894", checked := Try.checked }
namespace Rows
def none {H : Type} : Left H := { results := [], args := [] }

/-- 'bourselaw20.AccountsDouble': WHATEVER THE INPUT: true; the input reads as it did. -/
def accountsDoubleSpec : ChangeSpec := { name := "accountsDouble", fn := fun _ => fun
  | [d1, d2, d3, d4] => { results := [.lit (.bool true)], args := [d1, d2, d3, d4] }
  | _ => none }
def accountsDoubleRow : OpenClaim := { program := "ytphhllppgelceaa", sum := "6e7a5124ad24f466a91f5f9974f831e1e0e42bfb9ced640ace8aca42f468b894", func := "bourse/bourselaw20.AccountsDouble", spec := "accountsDouble", inPlace := ["math/bits.Sub64", "math/bits.Add64"], recurses := true, named := ["math/bits.divideError", "math/bits.overflowError"], plainKeys := false, apart := false }
def AccountsDoubleSaid : Prop := accountsDoubleRow.holds Try.pinned (OpenSpec.ofChange accountsDoubleSpec)

/-- ITS FALSE NEIGHBOUR: 'it returns false'. Refute it at one input. -/
def accountsDoubleWrong : ChangeSpec := { name := "accountsDouble", fn := fun _ => fun
  | [d1, d2, d3, d4] => { results := [.lit (.bool false)], args := [d1, d2, d3, d4] }
  | _ => none }
def AccountsDoubleWrongFalsely : Prop := accountsDoubleRow.holds Try.pinned (OpenSpec.ofChange accountsDoubleWrong)

/-- 'bourselaw20.AccountsFlat': WHATEVER THE INPUT: true; the input reads as it did. -/
def accountsFlatSpec : ChangeSpec := { name := "accountsFlat", fn := fun _ => fun
  | [d1, d2, d3] => { results := [.lit (.bool true)], args := [d1, d2, d3] }
  | _ => none }
def accountsFlatRow : OpenClaim := { program := "ytphhllppgelceaa", sum := "6e7a5124ad24f466a91f5f9974f831e1e0e42bfb9ced640ace8aca42f468b894", func := "bourse/bourselaw20.AccountsFlat", spec := "accountsFlat", inPlace := ["math/bits.Sub64", "math/bits.Add64"], recurses := true, named := ["math/bits.divideError", "math/bits.overflowError"], plainKeys := false, apart := false }
def AccountsFlatSaid : Prop := accountsFlatRow.holds Try.pinned (OpenSpec.ofChange accountsFlatSpec)

/-- ITS FALSE NEIGHBOUR: 'it returns false'. Refute it at one input. -/
def accountsFlatWrong : ChangeSpec := { name := "accountsFlat", fn := fun _ => fun
  | [d1, d2, d3] => { results := [.lit (.bool false)], args := [d1, d2, d3] }
  | _ => none }
def AccountsFlatWrongFalsely : Prop := accountsFlatRow.holds Try.pinned (OpenSpec.ofChange accountsFlatWrong)

/-- 'bourselaw20.AccountsApart': WHATEVER THE INPUT: true; the input reads as it did. -/
def accountsApartSpec : ChangeSpec := { name := "accountsApart", fn := fun _ => fun
  | [d1, d2, d3] => { results := [.lit (.bool true)], args := [d1, d2, d3] }
  | _ => none }
def accountsApartRow : OpenClaim := { program := "ytphhllppgelceaa", sum := "6e7a5124ad24f466a91f5f9974f831e1e0e42bfb9ced640ace8aca42f468b894", func := "bourse/bourselaw20.AccountsApart", spec := "accountsApart", inPlace := ["math/bits.Sub64", "math/bits.Add64"], recurses := true, named := ["math/bits.divideError", "math/bits.overflowError"], plainKeys := false, apart := false }
def AccountsApartSaid : Prop := accountsApartRow.holds Try.pinned (OpenSpec.ofChange accountsApartSpec)

/-- ITS FALSE NEIGHBOUR: 'it returns false'. Refute it at one input. -/
def accountsApartWrong : ChangeSpec := { name := "accountsApart", fn := fun _ => fun
  | [d1, d2, d3] => { results := [.lit (.bool false)], args := [d1, d2, d3] }
  | _ => none }
def AccountsApartWrongFalsely : Prop := accountsApartRow.holds Try.pinned (OpenSpec.ofChange accountsApartWrong)

/- THE SECOND FORM. 'bulk': how many values and letters a reading holds, each counted each time it is reached (what is shared counts as often as it is met; a slice's spare places count too). A statement '..UptoSaid' is the law's where the arguments, and the package variables that the reading takes, are together of bulk at most 1048576: NARROWER than '..Said'. Prove '..Said' where nothing that the law and all that it calls make is longer than what came in: it says more and counts as full. Else prove '..UptoSaid'. A law counts once. -/
mutual
def uptoBulk {H : Type} : DataW H → Nat
  | .lit (.string bytes) => bytes.length + 1
  | .lit _ => 1
  | .nil => 1
  | .ptr d => uptoBulk d + 1
  | .slice elems spare => uptoBulkAll elems + uptoBulkAll spare + 1
  | .agg parts => uptoBulkAll parts + 1
  | .iface _ d => uptoBulk d + 1
  | .map entries => uptoBulkEntries entries + 1
  | .held _ => 1
def uptoBulkAll {H : Type} : List (DataW H) → Nat
  | [] => 0
  | d :: r => uptoBulk d + uptoBulkAll r
def uptoBulkEntries {H : Type} : List (Lit × DataW H) → Nat
  | [] => 0
  | x :: r => uptoBulkEntry x + uptoBulkEntries r
def uptoBulkEntry {H : Type} : Lit × DataW H → Nat
  | (.string bytes, d) => bytes.length + uptoBulk d + 1
  | (_, d) => uptoBulk d + 1
 end
def uptoSmall : (H : Type) → List (DataW H) → Bool := fun _ ds => decide (uptoBulkAll ds ≤ 1048576)
def OpenSpec.upto (s : _root_.Go.ChangeSpec) : _root_.Go.OpenSpec := { _root_.Go.OpenSpec.ofChange s with cond := some uptoSmall }

/-- 'bourselaw20.AccountsDouble', WHERE WHAT IT READS IS OF BULK AT MOST 1048576: true; the input reads as it did. -/
def accountsDoubleUptoRow : OpenClaim := { program := "ytphhllppgelceaa", sum := "6e7a5124ad24f466a91f5f9974f831e1e0e42bfb9ced640ace8aca42f468b894", func := "bourse/bourselaw20.AccountsDouble", spec := "accountsDouble", inPlace := ["math/bits.Sub64", "math/bits.Add64"], recurses := true, named := ["math/bits.divideError", "math/bits.overflowError"], plainKeys := false, apart := false, narrowed := true }
def AccountsDoubleUptoSaid : Prop := accountsDoubleUptoRow.holds Try.pinned (OpenSpec.upto accountsDoubleSpec)

/-- 'bourselaw20.AccountsFlat', WHERE WHAT IT READS IS OF BULK AT MOST 1048576: true; the input reads as it did. -/
def accountsFlatUptoRow : OpenClaim := { program := "ytphhllppgelceaa", sum := "6e7a5124ad24f466a91f5f9974f831e1e0e42bfb9ced640ace8aca42f468b894", func := "bourse/bourselaw20.AccountsFlat", spec := "accountsFlat", inPlace := ["math/bits.Sub64", "math/bits.Add64"], recurses := true, named := ["math/bits.divideError", "math/bits.overflowError"], plainKeys := false, apart := false, narrowed := true }
def AccountsFlatUptoSaid : Prop := accountsFlatUptoRow.holds Try.pinned (OpenSpec.upto accountsFlatSpec)

/-- 'bourselaw20.AccountsApart', WHERE WHAT IT READS IS OF BULK AT MOST 1048576: true; the input reads as it did. -/
def accountsApartUptoRow : OpenClaim := { program := "ytphhllppgelceaa", sum := "6e7a5124ad24f466a91f5f9974f831e1e0e42bfb9ced640ace8aca42f468b894", func := "bourse/bourselaw20.AccountsApart", spec := "accountsApart", inPlace := ["math/bits.Sub64", "math/bits.Add64"], recurses := true, named := ["math/bits.divideError", "math/bits.overflowError"], plainKeys := false, apart := false, narrowed := true }
def AccountsApartUptoSaid : Prop := accountsApartUptoRow.holds Try.pinned (OpenSpec.upto accountsApartSpec)

end Rows
end Go.Proofs.Ytphhllppgelceaa
