/-
  No cell of these rows narrows 'for every input' (looked for: loops, veiled, ifaces, maps, wideKeys, modest, calm, conditions, laid).
  DERIVED. THE GIVEN ROWS OF THIS SEAT. 4 by the template 'for every input the law returns true; each argument reads behind the call as it read before'; 0 by the template 'total and deterministic' (their statements: YtojmcfkbekodpaaTotals.lean).
  GIVEN WITH THE SEED: the statements are not yours to turn. If you find one false, say at which input.
  Laid BY PROGRAM, IN A SANDBOX (cutbox-rows.mjs): the forced cells as the released guide's own fill.sh prints them over the translation 7c648bca7cfe6a08… (all of the seat's roots in one cut). By AI agents, Wed Nov 11 2026. No macro, syntax, notation, axiom, sorry.
-/
import Derived.Test.YtojmcfkbekodpaaChecked
import GoSem.Claim
import GoSem.ClaimJoined
import GoSem.ClaimMapViews
import Derived.JoinedTies
import Derived.KernelRfl
namespace Go.Proofs.Ytojmcfkbekodpaa
/- THE CELL 'sum', in the pinned program and in every row, IS THE sha256 OF THE DUMP (.gsa) THAT YtojmcfkbekodpaaProg.lean LOADS. Nothing in Lean hashes anything: it is a label: what it is worth is what the hold of that sum in a sandbox is worth. -/
noncomputable def Try.pinned : Pinned := { name := "ytojmcfkbekodpaa", sum := "7c648bca7cfe6a085372eeced831eadb0a34a19b13eb2d7a054b4427823294ce", checked := Try.checked }
namespace Rows
def none {H : Type} : Left H := { results := [], args := [] }

/-- 'bourselaw18.FeedBooks': WHATEVER THE INPUT: true; the input reads as it did. -/
def feedBooksSpec : ChangeSpec := { name := "feedBooks", fn := fun _ => fun
  | [d1, d2, d3] => { results := [.lit (.bool true)], args := [d1, d2, d3] }
  | _ => none }
def feedBooksRow : OpenClaim := { program := "ytojmcfkbekodpaa", sum := "7c648bca7cfe6a085372eeced831eadb0a34a19b13eb2d7a054b4427823294ce", func := "bourse/bourselaw18.FeedBooks", spec := "feedBooks", inPlace := ["slices.overlaps[bourse/api.Level]", "slices.overlaps[*bourse/api.Resting]"], unfollowed := true, recurses := true, apart := false }
def FeedBooksSaid : Prop := feedBooksRow.holds Try.pinned (OpenSpec.ofChange feedBooksSpec)

/-- ITS FALSE NEIGHBOUR: 'it returns false'. Refute it at one input. -/
def feedBooksWrong : ChangeSpec := { name := "feedBooks", fn := fun _ => fun
  | [d1, d2, d3] => { results := [.lit (.bool false)], args := [d1, d2, d3] }
  | _ => none }
def FeedBooksWrongFalsely : Prop := feedBooksRow.holds Try.pinned (OpenSpec.ofChange feedBooksWrong)

/-- 'bourselaw18.FeedFollows': WHATEVER THE INPUT: true; the input reads as it did. -/
def feedFollowsSpec : ChangeSpec := { name := "feedFollows", fn := fun _ => fun
  | [d1, d2, d3, d4] => { results := [.lit (.bool true)], args := [d1, d2, d3, d4] }
  | _ => none }
def feedFollowsRow : OpenClaim := { program := "ytojmcfkbekodpaa", sum := "7c648bca7cfe6a085372eeced831eadb0a34a19b13eb2d7a054b4427823294ce", func := "bourse/bourselaw18.FeedFollows", spec := "feedFollows", inPlace := ["slices.overlaps[bourse/api.Level]", "slices.overlaps[*bourse/api.Resting]"], unfollowed := true, recurses := true, apart := false }
def FeedFollowsSaid : Prop := feedFollowsRow.holds Try.pinned (OpenSpec.ofChange feedFollowsSpec)

/-- ITS FALSE NEIGHBOUR: 'it returns false'. Refute it at one input. -/
def feedFollowsWrong : ChangeSpec := { name := "feedFollows", fn := fun _ => fun
  | [d1, d2, d3, d4] => { results := [.lit (.bool false)], args := [d1, d2, d3, d4] }
  | _ => none }
def FeedFollowsWrongFalsely : Prop := feedFollowsRow.holds Try.pinned (OpenSpec.ofChange feedFollowsWrong)

/-- 'bourselaw18.FeedFinds': WHATEVER THE INPUT: true; the input reads as it did. -/
def feedFindsSpec : ChangeSpec := { name := "feedFinds", fn := fun _ => fun
  | [d1, d2, d3, d4, d5] => { results := [.lit (.bool true)], args := [d1, d2, d3, d4, d5] }
  | _ => none }
def feedFindsRow : OpenClaim := { program := "ytojmcfkbekodpaa", sum := "7c648bca7cfe6a085372eeced831eadb0a34a19b13eb2d7a054b4427823294ce", func := "bourse/bourselaw18.FeedFinds", spec := "feedFinds", inPlace := ["slices.overlaps[bourse/api.Level]", "slices.overlaps[*bourse/api.Resting]"], unfollowed := true, recurses := true, apart := false }
def FeedFindsSaid : Prop := feedFindsRow.holds Try.pinned (OpenSpec.ofChange feedFindsSpec)

/-- ITS FALSE NEIGHBOUR: 'it returns false'. Refute it at one input. -/
def feedFindsWrong : ChangeSpec := { name := "feedFinds", fn := fun _ => fun
  | [d1, d2, d3, d4, d5] => { results := [.lit (.bool false)], args := [d1, d2, d3, d4, d5] }
  | _ => none }
def FeedFindsWrongFalsely : Prop := feedFindsRow.holds Try.pinned (OpenSpec.ofChange feedFindsWrong)

/-- 'bourselaw18.FeedDepths': WHATEVER THE INPUT: true; the input reads as it did. -/
def feedDepthsSpec : ChangeSpec := { name := "feedDepths", fn := fun _ => fun
  | [d1, d2, d3, d4] => { results := [.lit (.bool true)], args := [d1, d2, d3, d4] }
  | _ => none }
def feedDepthsRow : OpenClaim := { program := "ytojmcfkbekodpaa", sum := "7c648bca7cfe6a085372eeced831eadb0a34a19b13eb2d7a054b4427823294ce", func := "bourse/bourselaw18.FeedDepths", spec := "feedDepths", inPlace := ["slices.overlaps[bourse/api.Level]", "slices.overlaps[*bourse/api.Resting]"], unfollowed := true, recurses := true, apart := false }
def FeedDepthsSaid : Prop := feedDepthsRow.holds Try.pinned (OpenSpec.ofChange feedDepthsSpec)

/-- ITS FALSE NEIGHBOUR: 'it returns false'. Refute it at one input. -/
def feedDepthsWrong : ChangeSpec := { name := "feedDepths", fn := fun _ => fun
  | [d1, d2, d3, d4] => { results := [.lit (.bool false)], args := [d1, d2, d3, d4] }
  | _ => none }
def FeedDepthsWrongFalsely : Prop := feedDepthsRow.holds Try.pinned (OpenSpec.ofChange feedDepthsWrong)

/- THE SECOND FORM. 'bulk': how many values and letters a reading holds, each counted each time it is reached (what is shared counts as often as it is met; a slice's spare places count too). A statement '..UptoSaid' is the law's where the arguments, and the package variables that the reading takes, are together of bulk at most 1048576: NARROWER than '..Said'. Prove '..Said' where nothing that the law and all that it calls make is longer than what came in: it says more and counts as full. Else prove '..UptoSaid'. A law counts once. -/
mutual
def uptoBulk {H : Type} : DataW H → Nat
  | .lit (.string bytes) => bytes.length + 1
  | .lit _ => 1
  | .nil => 1
  | .ptr d => uptoBulk d + 1
  | .slice elems spare => uptoBulkAll elems + uptoBulkAll spare + 1
  | .agg parts => uptoBulkAll parts + 1
  | .iface _ d => uptoBulk d + 1
  | .map entries => uptoBulkEntries entries + 1
  | .held _ => 1
def uptoBulkAll {H : Type} : List (DataW H) → Nat
  | [] => 0
  | d :: r => uptoBulk d + uptoBulkAll r
def uptoBulkEntries {H : Type} : List (Lit × DataW H) → Nat
  | [] => 0
  | x :: r => uptoBulkEntry x + uptoBulkEntries r
def uptoBulkEntry {H : Type} : Lit × DataW H → Nat
  | (.string bytes, d) => bytes.length + uptoBulk d + 1
  | (_, d) => uptoBulk d + 1
 end
def uptoSmall : (H : Type) → List (DataW H) → Bool := fun _ ds => decide (uptoBulkAll ds ≤ 1048576)
def OpenSpec.upto (s : _root_.Go.ChangeSpec) : _root_.Go.OpenSpec := { _root_.Go.OpenSpec.ofChange s with cond := some uptoSmall }

/-- 'bourselaw18.FeedBooks', WHERE WHAT IT READS IS OF BULK AT MOST 1048576: true; the input reads as it did. -/
def feedBooksUptoRow : OpenClaim := { program := "ytojmcfkbekodpaa", sum := "7c648bca7cfe6a085372eeced831eadb0a34a19b13eb2d7a054b4427823294ce", func := "bourse/bourselaw18.FeedBooks", spec := "feedBooks", inPlace := ["slices.overlaps[bourse/api.Level]", "slices.overlaps[*bourse/api.Resting]"], unfollowed := true, recurses := true, apart := false, narrowed := true }
def FeedBooksUptoSaid : Prop := feedBooksUptoRow.holds Try.pinned (OpenSpec.upto feedBooksSpec)

/-- 'bourselaw18.FeedFollows', WHERE WHAT IT READS IS OF BULK AT MOST 1048576: true; the input reads as it did. -/
def feedFollowsUptoRow : OpenClaim := { program := "ytojmcfkbekodpaa", sum := "7c648bca7cfe6a085372eeced831eadb0a34a19b13eb2d7a054b4427823294ce", func := "bourse/bourselaw18.FeedFollows", spec := "feedFollows", inPlace := ["slices.overlaps[bourse/api.Level]", "slices.overlaps[*bourse/api.Resting]"], unfollowed := true, recurses := true, apart := false, narrowed := true }
def FeedFollowsUptoSaid : Prop := feedFollowsUptoRow.holds Try.pinned (OpenSpec.upto feedFollowsSpec)

/-- 'bourselaw18.FeedFinds', WHERE WHAT IT READS IS OF BULK AT MOST 1048576: true; the input reads as it did. -/
def feedFindsUptoRow : OpenClaim := { program := "ytojmcfkbekodpaa", sum := "7c648bca7cfe6a085372eeced831eadb0a34a19b13eb2d7a054b4427823294ce", func := "bourse/bourselaw18.FeedFinds", spec := "feedFinds", inPlace := ["slices.overlaps[bourse/api.Level]", "slices.overlaps[*bourse/api.Resting]"], unfollowed := true, recurses := true, apart := false, narrowed := true }
def FeedFindsUptoSaid : Prop := feedFindsUptoRow.holds Try.pinned (OpenSpec.upto feedFindsSpec)

/-- 'bourselaw18.FeedDepths', WHERE WHAT IT READS IS OF BULK AT MOST 1048576: true; the input reads as it did. -/
def feedDepthsUptoRow : OpenClaim := { program := "ytojmcfkbekodpaa", sum := "7c648bca7cfe6a085372eeced831eadb0a34a19b13eb2d7a054b4427823294ce", func := "bourse/bourselaw18.FeedDepths", spec := "feedDepths", inPlace := ["slices.overlaps[bourse/api.Level]", "slices.overlaps[*bourse/api.Resting]"], unfollowed := true, recurses := true, apart := false, narrowed := true }
def FeedDepthsUptoSaid : Prop := feedDepthsUptoRow.holds Try.pinned (OpenSpec.upto feedDepthsSpec)

end Rows
end Go.Proofs.Ytojmcfkbekodpaa
