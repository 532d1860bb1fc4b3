/-
  No cell of these rows narrows 'for every input' (looked for: loops, veiled, ifaces, maps, wideKeys, modest, calm, conditions, laid).
  DERIVED. THE GIVEN ROWS OF THIS SEAT. 4 by the template 'for every input the law returns true; each argument reads behind the call as it read before'; 0 by the template 'total and deterministic' (their statements: YtiphgfghdbmlcaaTotals.lean).
  GIVEN WITH THE SEED: the statements are not yours to turn. If you find one false, say at which input.
  Laid BY PROGRAM, IN A SANDBOX (cutbox-rows.mjs): the forced cells as the released guide's own fill.sh prints them over the translation 4076feb58c8cb98c… (all of the seat's roots in one cut). By AI agents, Wed Nov 11 2026. No macro, syntax, notation, axiom, sorry.
-/
import Derived.Test.YtiphgfghdbmlcaaChecked
import GoSem.Claim
import GoSem.ClaimJoined
import GoSem.ClaimMapViews
import Derived.JoinedTies
import Derived.KernelRfl
namespace Go.Proofs.Ytiphgfghdbmlcaa
/- THE CELL 'sum', in the pinned program and in every row, IS THE sha256 OF THE DUMP (.gsa) THAT YtiphgfghdbmlcaaProg.lean LOADS. Nothing in Lean hashes anything: it is a label: what it is worth is what the hold of that sum in a sandbox is worth. -/
noncomputable def Try.pinned : Pinned := { name := "ytiphgfghdbmlcaa", sum := "4076feb58c8cb98ccdf7ecc5e365ee0612f804b83c262c0bcb6b2007fd107c85", checked := Try.checked }
namespace Rows
def none {H : Type} : Left H := { results := [], args := [] }

/-- 'bourselaw18.FeedPublishes': WHATEVER THE INPUT: true; the input reads as it did. -/
def feedPublishesSpec : ChangeSpec := { name := "feedPublishes", fn := fun _ => fun
  | [d1, d2] => { results := [.lit (.bool true)], args := [d1, d2] }
  | _ => none }
def feedPublishesRow : OpenClaim := { program := "ytiphgfghdbmlcaa", sum := "4076feb58c8cb98ccdf7ecc5e365ee0612f804b83c262c0bcb6b2007fd107c85", func := "bourse/bourselaw18.FeedPublishes", spec := "feedPublishes", unfollowed := true, recurses := true, apart := false }
def FeedPublishesSaid : Prop := feedPublishesRow.holds Try.pinned (OpenSpec.ofChange feedPublishesSpec)

/-- ITS FALSE NEIGHBOUR: 'it returns false'. Refute it at one input. -/
def feedPublishesWrong : ChangeSpec := { name := "feedPublishes", fn := fun _ => fun
  | [d1, d2] => { results := [.lit (.bool false)], args := [d1, d2] }
  | _ => none }
def FeedPublishesWrongFalsely : Prop := feedPublishesRow.holds Try.pinned (OpenSpec.ofChange feedPublishesWrong)

/-- 'bourselaw18.FeedTakes': WHATEVER THE INPUT: true; the input reads as it did. -/
def feedTakesSpec : ChangeSpec := { name := "feedTakes", fn := fun _ => fun
  | [d1, d2, d3] => { results := [.lit (.bool true)], args := [d1, d2, d3] }
  | _ => none }
def feedTakesRow : OpenClaim := { program := "ytiphgfghdbmlcaa", sum := "4076feb58c8cb98ccdf7ecc5e365ee0612f804b83c262c0bcb6b2007fd107c85", func := "bourse/bourselaw18.FeedTakes", spec := "feedTakes", inPlace := ["slices.overlaps[bourse/api.Level]"], unfollowed := true, recurses := true, apart := false }
def FeedTakesSaid : Prop := feedTakesRow.holds Try.pinned (OpenSpec.ofChange feedTakesSpec)

/-- ITS FALSE NEIGHBOUR: 'it returns false'. Refute it at one input. -/
def feedTakesWrong : ChangeSpec := { name := "feedTakes", fn := fun _ => fun
  | [d1, d2, d3] => { results := [.lit (.bool false)], args := [d1, d2, d3] }
  | _ => none }
def FeedTakesWrongFalsely : Prop := feedTakesRow.holds Try.pinned (OpenSpec.ofChange feedTakesWrong)

/-- 'bourselaw18.FeedPacks': WHATEVER THE INPUT: true; the input reads as it did. -/
def feedPacksSpec : ChangeSpec := { name := "feedPacks", fn := fun _ => fun
  | [d1, d2] => { results := [.lit (.bool true)], args := [d1, d2] }
  | _ => none }
def feedPacksRow : OpenClaim := { program := "ytiphgfghdbmlcaa", sum := "4076feb58c8cb98ccdf7ecc5e365ee0612f804b83c262c0bcb6b2007fd107c85", func := "bourse/bourselaw18.FeedPacks", spec := "feedPacks", apart := false }
def FeedPacksSaid : Prop := feedPacksRow.holds Try.pinned (OpenSpec.ofChange feedPacksSpec)

/-- ITS FALSE NEIGHBOUR: 'it returns false'. Refute it at one input. -/
def feedPacksWrong : ChangeSpec := { name := "feedPacks", fn := fun _ => fun
  | [d1, d2] => { results := [.lit (.bool false)], args := [d1, d2] }
  | _ => none }
def FeedPacksWrongFalsely : Prop := feedPacksRow.holds Try.pinned (OpenSpec.ofChange feedPacksWrong)

/-- 'bourselaw18.FeedFrames': WHATEVER THE INPUT: true; the input reads as it did. -/
def feedFramesSpec : ChangeSpec := { name := "feedFrames", fn := fun _ => fun
  | [d1, d2] => { results := [.lit (.bool true)], args := [d1, d2] }
  | _ => none }
def feedFramesRow : OpenClaim := { program := "ytiphgfghdbmlcaa", sum := "4076feb58c8cb98ccdf7ecc5e365ee0612f804b83c262c0bcb6b2007fd107c85", func := "bourse/bourselaw18.FeedFrames", spec := "feedFrames", inPlace := ["slices.overlaps[bourse/api.Level]"], unfollowed := true, recurses := true, apart := false }
def FeedFramesSaid : Prop := feedFramesRow.holds Try.pinned (OpenSpec.ofChange feedFramesSpec)

/-- ITS FALSE NEIGHBOUR: 'it returns false'. Refute it at one input. -/
def feedFramesWrong : ChangeSpec := { name := "feedFrames", fn := fun _ => fun
  | [d1, d2] => { results := [.lit (.bool false)], args := [d1, d2] }
  | _ => none }
def FeedFramesWrongFalsely : Prop := feedFramesRow.holds Try.pinned (OpenSpec.ofChange feedFramesWrong)

/- THE SECOND FORM. 'bulk': how many values and letters a reading holds, each counted each time it is reached (what is shared counts as often as it is met; a slice's spare places count too). A statement '..UptoSaid' is the law's where the arguments, and the package variables that the reading takes, are together of bulk at most 1048576: NARROWER than '..Said'. Prove '..Said' where nothing that the law and all that it calls make is longer than what came in: it says more and counts as full. Else prove '..UptoSaid'. A law counts once. -/
mutual
def uptoBulk {H : Type} : DataW H → Nat
  | .lit (.string bytes) => bytes.length + 1
  | .lit _ => 1
  | .nil => 1
  | .ptr d => uptoBulk d + 1
  | .slice elems spare => uptoBulkAll elems + uptoBulkAll spare + 1
  | .agg parts => uptoBulkAll parts + 1
  | .iface _ d => uptoBulk d + 1
  | .map entries => uptoBulkEntries entries + 1
  | .held _ => 1
def uptoBulkAll {H : Type} : List (DataW H) → Nat
  | [] => 0
  | d :: r => uptoBulk d + uptoBulkAll r
def uptoBulkEntries {H : Type} : List (Lit × DataW H) → Nat
  | [] => 0
  | x :: r => uptoBulkEntry x + uptoBulkEntries r
def uptoBulkEntry {H : Type} : Lit × DataW H → Nat
  | (.string bytes, d) => bytes.length + uptoBulk d + 1
  | (_, d) => uptoBulk d + 1
 end
def uptoSmall : (H : Type) → List (DataW H) → Bool := fun _ ds => decide (uptoBulkAll ds ≤ 1048576)
def OpenSpec.upto (s : _root_.Go.ChangeSpec) : _root_.Go.OpenSpec := { _root_.Go.OpenSpec.ofChange s with cond := some uptoSmall }

/-- 'bourselaw18.FeedPublishes', WHERE WHAT IT READS IS OF BULK AT MOST 1048576: true; the input reads as it did. -/
def feedPublishesUptoRow : OpenClaim := { program := "ytiphgfghdbmlcaa", sum := "4076feb58c8cb98ccdf7ecc5e365ee0612f804b83c262c0bcb6b2007fd107c85", func := "bourse/bourselaw18.FeedPublishes", spec := "feedPublishes", unfollowed := true, recurses := true, apart := false, narrowed := true }
def FeedPublishesUptoSaid : Prop := feedPublishesUptoRow.holds Try.pinned (OpenSpec.upto feedPublishesSpec)

/-- 'bourselaw18.FeedTakes', WHERE WHAT IT READS IS OF BULK AT MOST 1048576: true; the input reads as it did. -/
def feedTakesUptoRow : OpenClaim := { program := "ytiphgfghdbmlcaa", sum := "4076feb58c8cb98ccdf7ecc5e365ee0612f804b83c262c0bcb6b2007fd107c85", func := "bourse/bourselaw18.FeedTakes", spec := "feedTakes", inPlace := ["slices.overlaps[bourse/api.Level]"], unfollowed := true, recurses := true, apart := false, narrowed := true }
def FeedTakesUptoSaid : Prop := feedTakesUptoRow.holds Try.pinned (OpenSpec.upto feedTakesSpec)

/-- 'bourselaw18.FeedPacks', WHERE WHAT IT READS IS OF BULK AT MOST 1048576: true; the input reads as it did. -/
def feedPacksUptoRow : OpenClaim := { program := "ytiphgfghdbmlcaa", sum := "4076feb58c8cb98ccdf7ecc5e365ee0612f804b83c262c0bcb6b2007fd107c85", func := "bourse/bourselaw18.FeedPacks", spec := "feedPacks", apart := false, narrowed := true }
def FeedPacksUptoSaid : Prop := feedPacksUptoRow.holds Try.pinned (OpenSpec.upto feedPacksSpec)

/-- 'bourselaw18.FeedFrames', WHERE WHAT IT READS IS OF BULK AT MOST 1048576: true; the input reads as it did. -/
def feedFramesUptoRow : OpenClaim := { program := "ytiphgfghdbmlcaa", sum := "4076feb58c8cb98ccdf7ecc5e365ee0612f804b83c262c0bcb6b2007fd107c85", func := "bourse/bourselaw18.FeedFrames", spec := "feedFrames", inPlace := ["slices.overlaps[bourse/api.Level]"], unfollowed := true, recurses := true, apart := false, narrowed := true }
def FeedFramesUptoSaid : Prop := feedFramesUptoRow.holds Try.pinned (OpenSpec.upto feedFramesSpec)

end Rows
end Go.Proofs.Ytiphgfghdbmlcaa
