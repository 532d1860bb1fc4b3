/-
  NARROWER THAN 'FOR EVERY INPUT', by the rows' own cells (each row's printed sentence says how): WireSums: laid · WirePacks: laid · WireUnpacks: laid · WireAlls: laid · WireReaders: laid · WirePieces: laid.
  DERIVED. THE GIVEN ROWS OF THIS SEAT. 6 by the template 'for every input the law returns true; each argument reads behind the call as it read before'; 0 by the template 'total and deterministic' (their statements: YtniofmaefonkdaaDoorTotals.lean).
  GIVEN WITH THE SEED: the statements are not yours to turn. If you find one false, say at which input.
  Laid BY PROGRAM, IN A SANDBOX (cutbox-rows.mjs): the forced cells as the released guide's own fill.sh prints them over the translation 2e6715fd86612897… (all of the seat's roots in one cut). By AI agents, Wed Nov 11 2026. No macro, syntax, notation, axiom, sorry.
-/
import Derived.Test.YtniofmaefonkdaaDoorChecked
import GoSem.Claim
import GoSem.ClaimJoined
import GoSem.ClaimMapViews
import Derived.JoinedTies
import Derived.KernelRfl
namespace Go.Proofs.YtniofmaefonkdaaDoor
/- THE CELL 'sum', in the pinned program and in every row, IS THE sha256 OF THE DUMP (.gsa) THAT YtniofmaefonkdaaDoorProg.lean LOADS. Nothing in Lean hashes anything: it is a label: what it is worth is what the hold of that sum in a sandbox is worth. -/
noncomputable def Tryd.pinned : Pinned := { name := "ytniofmaefonkdaadoor", sum := "2e6715fd8661289792633a516aa18948f91270325d9bf3ab5459f6f795cfc197", checked := Tryd.checked }
namespace Rows
def none {H : Type} : Left H := { results := [], args := [] }

/- WHAT THE LISTED PACKAGE-LEVEL VARIABLES READ AS WHEN THE CALL BEGINS. Each datum BY PROGRAM (the guide's laid-datum.mjs) off the statement by which the dump's own 'gosem.cut.vars' lays the variable. In a bare row this is a premise. The card (YtniofmaefonkdaaDoorCards.lean) ties it to the program's text. -/
def laid_bourse_wire_sumSteps {H : Type} : DataW H := .agg [.lit (.int .u32 0), .lit (.int .u32 498536548), .lit (.int .u32 997073096), .lit (.int .u32 651767980), .lit (.int .u32 1994146192), .lit (.int .u32 1802195444), .lit (.int .u32 1303535960), .lit (.int .u32 1342533948), .lit (.int .u32 3988292384), .lit (.int .u32 4027552580), .lit (.int .u32 3604390888), .lit (.int .u32 3412177804), .lit (.int .u32 2607071920), .lit (.int .u32 2262029012), .lit (.int .u32 2685067896), .lit (.int .u32 3183342108)]

/-- 'bourselaw02.WireSums': WHATEVER THE INPUT: true; the input reads as it did. -/
def wireSumsSpec : ChangeSpec := { name := "wireSums", fn := fun _ => fun
  | [d] => { results := [.lit (.bool true)], args := [d] }
  | _ => none }
def wireSumsRow : OpenClaim := { program := "ytniofmaefonkdaadoor", sum := "2e6715fd8661289792633a516aa18948f91270325d9bf3ab5459f6f795cfc197", func := "bourse/bourselaw02.WireSums", spec := "wireSums", named := ["bourse/wire.sumSteps"], apart := false, laid := [("bourse/wire.sumSteps", laid_bourse_wire_sumSteps)] }
def WireSumsSaid : Prop := wireSumsRow.holds Tryd.pinned (OpenSpec.ofChange wireSumsSpec)

/-- ITS FALSE NEIGHBOUR: 'it returns false'. Refute it at one input. -/
def wireSumsWrong : ChangeSpec := { name := "wireSums", fn := fun _ => fun
  | [d] => { results := [.lit (.bool false)], args := [d] }
  | _ => none }
def WireSumsWrongFalsely : Prop := wireSumsRow.holds Tryd.pinned (OpenSpec.ofChange wireSumsWrong)

/-- 'bourselaw02.WirePacks': WHATEVER THE INPUT: true; the input reads as it did. -/
def wirePacksSpec : ChangeSpec := { name := "wirePacks", fn := fun _ => fun
  | [d] => { results := [.lit (.bool true)], args := [d] }
  | _ => none }
def wirePacksRow : OpenClaim := { program := "ytniofmaefonkdaadoor", sum := "2e6715fd8661289792633a516aa18948f91270325d9bf3ab5459f6f795cfc197", func := "bourse/bourselaw02.WirePacks", spec := "wirePacks", named := ["bourse/wire.sumSteps"], apart := false, laid := [("bourse/wire.sumSteps", laid_bourse_wire_sumSteps)] }
def WirePacksSaid : Prop := wirePacksRow.holds Tryd.pinned (OpenSpec.ofChange wirePacksSpec)

/-- ITS FALSE NEIGHBOUR: 'it returns false'. Refute it at one input. -/
def wirePacksWrong : ChangeSpec := { name := "wirePacks", fn := fun _ => fun
  | [d] => { results := [.lit (.bool false)], args := [d] }
  | _ => none }
def WirePacksWrongFalsely : Prop := wirePacksRow.holds Tryd.pinned (OpenSpec.ofChange wirePacksWrong)

/-- 'bourselaw02.WireUnpacks': WHATEVER THE INPUT: true; the input reads as it did. -/
def wireUnpacksSpec : ChangeSpec := { name := "wireUnpacks", fn := fun _ => fun
  | [d] => { results := [.lit (.bool true)], args := [d] }
  | _ => none }
def wireUnpacksRow : OpenClaim := { program := "ytniofmaefonkdaadoor", sum := "2e6715fd8661289792633a516aa18948f91270325d9bf3ab5459f6f795cfc197", func := "bourse/bourselaw02.WireUnpacks", spec := "wireUnpacks", named := ["bourse/wire.sumSteps"], apart := false, laid := [("bourse/wire.sumSteps", laid_bourse_wire_sumSteps)] }
def WireUnpacksSaid : Prop := wireUnpacksRow.holds Tryd.pinned (OpenSpec.ofChange wireUnpacksSpec)

/-- ITS FALSE NEIGHBOUR: 'it returns false'. Refute it at one input. -/
def wireUnpacksWrong : ChangeSpec := { name := "wireUnpacks", fn := fun _ => fun
  | [d] => { results := [.lit (.bool false)], args := [d] }
  | _ => none }
def WireUnpacksWrongFalsely : Prop := wireUnpacksRow.holds Tryd.pinned (OpenSpec.ofChange wireUnpacksWrong)

/-- 'bourselaw02.WireAlls': WHATEVER THE INPUT: true; the input reads as it did. -/
def wireAllsSpec : ChangeSpec := { name := "wireAlls", fn := fun _ => fun
  | [d1, d2, d3] => { results := [.lit (.bool true)], args := [d1, d2, d3] }
  | _ => none }
def wireAllsRow : OpenClaim := { program := "ytniofmaefonkdaadoor", sum := "2e6715fd8661289792633a516aa18948f91270325d9bf3ab5459f6f795cfc197", func := "bourse/bourselaw02.WireAlls", spec := "wireAlls", unfollowed := true, recurses := true, named := ["bourse/wire.sumSteps"], apart := false, laid := [("bourse/wire.sumSteps", laid_bourse_wire_sumSteps)] }
def WireAllsSaid : Prop := wireAllsRow.holds Tryd.pinned (OpenSpec.ofChange wireAllsSpec)

/-- ITS FALSE NEIGHBOUR: 'it returns false'. Refute it at one input. -/
def wireAllsWrong : ChangeSpec := { name := "wireAlls", fn := fun _ => fun
  | [d1, d2, d3] => { results := [.lit (.bool false)], args := [d1, d2, d3] }
  | _ => none }
def WireAllsWrongFalsely : Prop := wireAllsRow.holds Tryd.pinned (OpenSpec.ofChange wireAllsWrong)

/-- 'bourselaw02.WireReaders': WHATEVER THE INPUT: true; the input reads as it did. -/
def wireReadersSpec : ChangeSpec := { name := "wireReaders", fn := fun _ => fun
  | [d] => { results := [.lit (.bool true)], args := [d] }
  | _ => none }
def wireReadersRow : OpenClaim := { program := "ytniofmaefonkdaadoor", sum := "2e6715fd8661289792633a516aa18948f91270325d9bf3ab5459f6f795cfc197", func := "bourse/bourselaw02.WireReaders", spec := "wireReaders", named := ["bourse/wire.sumSteps"], apart := false, laid := [("bourse/wire.sumSteps", laid_bourse_wire_sumSteps)] }
def WireReadersSaid : Prop := wireReadersRow.holds Tryd.pinned (OpenSpec.ofChange wireReadersSpec)

/-- ITS FALSE NEIGHBOUR: 'it returns false'. Refute it at one input. -/
def wireReadersWrong : ChangeSpec := { name := "wireReaders", fn := fun _ => fun
  | [d] => { results := [.lit (.bool false)], args := [d] }
  | _ => none }
def WireReadersWrongFalsely : Prop := wireReadersRow.holds Tryd.pinned (OpenSpec.ofChange wireReadersWrong)

/-- 'bourselaw02.WirePieces': WHATEVER THE INPUT: true; the input reads as it did. -/
def wirePiecesSpec : ChangeSpec := { name := "wirePieces", fn := fun _ => fun
  | [d1, d2] => { results := [.lit (.bool true)], args := [d1, d2] }
  | _ => none }
def wirePiecesRow : OpenClaim := { program := "ytniofmaefonkdaadoor", sum := "2e6715fd8661289792633a516aa18948f91270325d9bf3ab5459f6f795cfc197", func := "bourse/bourselaw02.WirePieces", spec := "wirePieces", unfollowed := true, recurses := true, named := ["bourse/wire.sumSteps"], apart := false, laid := [("bourse/wire.sumSteps", laid_bourse_wire_sumSteps)] }
def WirePiecesSaid : Prop := wirePiecesRow.holds Tryd.pinned (OpenSpec.ofChange wirePiecesSpec)

/-- ITS FALSE NEIGHBOUR: 'it returns false'. Refute it at one input. -/
def wirePiecesWrong : ChangeSpec := { name := "wirePieces", fn := fun _ => fun
  | [d1, d2] => { results := [.lit (.bool false)], args := [d1, d2] }
  | _ => none }
def WirePiecesWrongFalsely : Prop := wirePiecesRow.holds Tryd.pinned (OpenSpec.ofChange wirePiecesWrong)

/- THE SECOND FORM. 'bulk': how many values and letters a reading holds, each counted each time it is reached (what is shared counts as often as it is met; a slice's spare places count too). A statement '..UptoSaid' is the law's where the arguments, and the package variables that the reading takes, are together of bulk at most 1048576: NARROWER than '..Said'. Prove '..Said' where nothing that the law and all that it calls make is longer than what came in: it says more and counts as full. Else prove '..UptoSaid'. A law counts once. -/
mutual
def uptoBulk {H : Type} : DataW H → Nat
  | .lit (.string bytes) => bytes.length + 1
  | .lit _ => 1
  | .nil => 1
  | .ptr d => uptoBulk d + 1
  | .slice elems spare => uptoBulkAll elems + uptoBulkAll spare + 1
  | .agg parts => uptoBulkAll parts + 1
  | .iface _ d => uptoBulk d + 1
  | .map entries => uptoBulkEntries entries + 1
  | .held _ => 1
def uptoBulkAll {H : Type} : List (DataW H) → Nat
  | [] => 0
  | d :: r => uptoBulk d + uptoBulkAll r
def uptoBulkEntries {H : Type} : List (Lit × DataW H) → Nat
  | [] => 0
  | x :: r => uptoBulkEntry x + uptoBulkEntries r
def uptoBulkEntry {H : Type} : Lit × DataW H → Nat
  | (.string bytes, d) => bytes.length + uptoBulk d + 1
  | (_, d) => uptoBulk d + 1
 end
def uptoSmall : (H : Type) → List (DataW H) → Bool := fun _ ds => decide (uptoBulkAll ds ≤ 1048576)
def OpenSpec.upto (s : _root_.Go.ChangeSpec) : _root_.Go.OpenSpec := { _root_.Go.OpenSpec.ofChange s with cond := some uptoSmall }

/-- 'bourselaw02.WireSums', WHERE WHAT IT READS IS OF BULK AT MOST 1048576: true; the input reads as it did. -/
def wireSumsUptoRow : OpenClaim := { program := "ytniofmaefonkdaadoor", sum := "2e6715fd8661289792633a516aa18948f91270325d9bf3ab5459f6f795cfc197", func := "bourse/bourselaw02.WireSums", spec := "wireSums", named := ["bourse/wire.sumSteps"], apart := false, laid := [("bourse/wire.sumSteps", laid_bourse_wire_sumSteps)], narrowed := true }
def WireSumsUptoSaid : Prop := wireSumsUptoRow.holds Tryd.pinned (OpenSpec.upto wireSumsSpec)

/-- 'bourselaw02.WirePacks', WHERE WHAT IT READS IS OF BULK AT MOST 1048576: true; the input reads as it did. -/
def wirePacksUptoRow : OpenClaim := { program := "ytniofmaefonkdaadoor", sum := "2e6715fd8661289792633a516aa18948f91270325d9bf3ab5459f6f795cfc197", func := "bourse/bourselaw02.WirePacks", spec := "wirePacks", named := ["bourse/wire.sumSteps"], apart := false, laid := [("bourse/wire.sumSteps", laid_bourse_wire_sumSteps)], narrowed := true }
def WirePacksUptoSaid : Prop := wirePacksUptoRow.holds Tryd.pinned (OpenSpec.upto wirePacksSpec)

/-- 'bourselaw02.WireUnpacks', WHERE WHAT IT READS IS OF BULK AT MOST 1048576: true; the input reads as it did. -/
def wireUnpacksUptoRow : OpenClaim := { program := "ytniofmaefonkdaadoor", sum := "2e6715fd8661289792633a516aa18948f91270325d9bf3ab5459f6f795cfc197", func := "bourse/bourselaw02.WireUnpacks", spec := "wireUnpacks", named := ["bourse/wire.sumSteps"], apart := false, laid := [("bourse/wire.sumSteps", laid_bourse_wire_sumSteps)], narrowed := true }
def WireUnpacksUptoSaid : Prop := wireUnpacksUptoRow.holds Tryd.pinned (OpenSpec.upto wireUnpacksSpec)

/-- 'bourselaw02.WireAlls', WHERE WHAT IT READS IS OF BULK AT MOST 1048576: true; the input reads as it did. -/
def wireAllsUptoRow : OpenClaim := { program := "ytniofmaefonkdaadoor", sum := "2e6715fd8661289792633a516aa18948f91270325d9bf3ab5459f6f795cfc197", func := "bourse/bourselaw02.WireAlls", spec := "wireAlls", unfollowed := true, recurses := true, named := ["bourse/wire.sumSteps"], apart := false, laid := [("bourse/wire.sumSteps", laid_bourse_wire_sumSteps)], narrowed := true }
def WireAllsUptoSaid : Prop := wireAllsUptoRow.holds Tryd.pinned (OpenSpec.upto wireAllsSpec)

/-- 'bourselaw02.WireReaders', WHERE WHAT IT READS IS OF BULK AT MOST 1048576: true; the input reads as it did. -/
def wireReadersUptoRow : OpenClaim := { program := "ytniofmaefonkdaadoor", sum := "2e6715fd8661289792633a516aa18948f91270325d9bf3ab5459f6f795cfc197", func := "bourse/bourselaw02.WireReaders", spec := "wireReaders", named := ["bourse/wire.sumSteps"], apart := false, laid := [("bourse/wire.sumSteps", laid_bourse_wire_sumSteps)], narrowed := true }
def WireReadersUptoSaid : Prop := wireReadersUptoRow.holds Tryd.pinned (OpenSpec.upto wireReadersSpec)

/-- 'bourselaw02.WirePieces', WHERE WHAT IT READS IS OF BULK AT MOST 1048576: true; the input reads as it did. -/
def wirePiecesUptoRow : OpenClaim := { program := "ytniofmaefonkdaadoor", sum := "2e6715fd8661289792633a516aa18948f91270325d9bf3ab5459f6f795cfc197", func := "bourse/bourselaw02.WirePieces", spec := "wirePieces", unfollowed := true, recurses := true, named := ["bourse/wire.sumSteps"], apart := false, laid := [("bourse/wire.sumSteps", laid_bourse_wire_sumSteps)], narrowed := true }
def WirePiecesUptoSaid : Prop := wirePiecesUptoRow.holds Tryd.pinned (OpenSpec.upto wirePiecesSpec)

end Rows
end Go.Proofs.YtniofmaefonkdaaDoor
