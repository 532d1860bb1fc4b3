/-
  No cell of these rows narrows 'for every input' (looked for: loops, veiled, ifaces, maps, wideKeys, modest, calm, conditions, laid).
  DERIVED. THE GIVEN ROWS OF THIS SEAT. 5 by the template 'for every input the law returns true; each argument reads behind the call as it read before'; 0 by the template 'total and deterministic' (their statements: YtalgndgoedlpoaaTotals.lean).
  GIVEN WITH THE SEED: the statements are not yours to turn. If you find one false, say at which input.
  Laid BY PROGRAM, IN A SANDBOX (cutbox-rows.mjs): the forced cells as the released guide's own fill.sh prints them over the translation 8e61eb4f58dcdbe1… (all of the seat's roots in one cut). By AI agents, Wed Nov 11 2026. No macro, syntax, notation, axiom, sorry.
-/
import Derived.Test.YtalgndgoedlpoaaChecked
import GoSem.Claim
import GoSem.ClaimJoined
import GoSem.ClaimMapViews
import Derived.JoinedTies
import Derived.KernelRfl
namespace Go.Proofs.Ytalgndgoedlpoaa
/- THE CELL 'sum', in the pinned program and in every row, IS THE sha256 OF THE DUMP (.gsa) THAT YtalgndgoedlpoaaProg.lean LOADS. Nothing in Lean hashes anything: it is a label: what it is worth is what the hold of that sum in a sandbox is worth. -/
noncomputable def Try.pinned : Pinned := { name := "ytalgndgoedlpoaa", sum := "8e61eb4f58dcdbe1b7f03b39452f2aec4577a8cafd2816b174ffe449e7af2953", checked := Try.checked }
namespace Rows
def none {H : Type} : Left H := { results := [], args := [] }

/-- 'bourselaw09.RulesDoes': WHATEVER THE INPUT: true; the input reads as it did. -/
def rulesDoesSpec : ChangeSpec := { name := "rulesDoes", fn := fun _ => fun
  | [d1, d2] => { results := [.lit (.bool true)], args := [d1, d2] }
  | _ => none }
def rulesDoesRow : OpenClaim := { program := "ytalgndgoedlpoaa", sum := "8e61eb4f58dcdbe1b7f03b39452f2aec4577a8cafd2816b174ffe449e7af2953", func := "bourse/bourselaw09.RulesDoes", spec := "rulesDoes", inPlace := ["slices.overlaps[*bourse/api.Resting]"], unfollowed := true, recurses := true, apart := false }
def RulesDoesSaid : Prop := rulesDoesRow.holds Try.pinned (OpenSpec.ofChange rulesDoesSpec)

/-- ITS FALSE NEIGHBOUR: 'it returns false'. Refute it at one input. -/
def rulesDoesWrong : ChangeSpec := { name := "rulesDoes", fn := fun _ => fun
  | [d1, d2] => { results := [.lit (.bool false)], args := [d1, d2] }
  | _ => none }
def RulesDoesWrongFalsely : Prop := rulesDoesRow.holds Try.pinned (OpenSpec.ofChange rulesDoesWrong)

/-- 'bourselaw09.RulesQuantity': WHATEVER THE INPUT: true; the input reads as it did. -/
def rulesQuantitySpec : ChangeSpec := { name := "rulesQuantity", fn := fun _ => fun
  | [d1, d2] => { results := [.lit (.bool true)], args := [d1, d2] }
  | _ => none }
def rulesQuantityRow : OpenClaim := { program := "ytalgndgoedlpoaa", sum := "8e61eb4f58dcdbe1b7f03b39452f2aec4577a8cafd2816b174ffe449e7af2953", func := "bourse/bourselaw09.RulesQuantity", spec := "rulesQuantity", inPlace := ["slices.overlaps[*bourse/api.Resting]"], unfollowed := true, recurses := true, apart := false }
def RulesQuantitySaid : Prop := rulesQuantityRow.holds Try.pinned (OpenSpec.ofChange rulesQuantitySpec)

/-- ITS FALSE NEIGHBOUR: 'it returns false'. Refute it at one input. -/
def rulesQuantityWrong : ChangeSpec := { name := "rulesQuantity", fn := fun _ => fun
  | [d1, d2] => { results := [.lit (.bool false)], args := [d1, d2] }
  | _ => none }
def RulesQuantityWrongFalsely : Prop := rulesQuantityRow.holds Try.pinned (OpenSpec.ofChange rulesQuantityWrong)

/-- 'bourselaw09.RulesKinds': WHATEVER THE INPUT: true; the input reads as it did. -/
def rulesKindsSpec : ChangeSpec := { name := "rulesKinds", fn := fun _ => fun
  | [d1, d2] => { results := [.lit (.bool true)], args := [d1, d2] }
  | _ => none }
def rulesKindsRow : OpenClaim := { program := "ytalgndgoedlpoaa", sum := "8e61eb4f58dcdbe1b7f03b39452f2aec4577a8cafd2816b174ffe449e7af2953", func := "bourse/bourselaw09.RulesKinds", spec := "rulesKinds", inPlace := ["slices.overlaps[*bourse/api.Resting]"], unfollowed := true, recurses := true, apart := false }
def RulesKindsSaid : Prop := rulesKindsRow.holds Try.pinned (OpenSpec.ofChange rulesKindsSpec)

/-- ITS FALSE NEIGHBOUR: 'it returns false'. Refute it at one input. -/
def rulesKindsWrong : ChangeSpec := { name := "rulesKinds", fn := fun _ => fun
  | [d1, d2] => { results := [.lit (.bool false)], args := [d1, d2] }
  | _ => none }
def RulesKindsWrongFalsely : Prop := rulesKindsRow.holds Try.pinned (OpenSpec.ofChange rulesKindsWrong)

/-- 'bourselaw09.RulesNumbers': WHATEVER THE INPUT: true; the input reads as it did. -/
def rulesNumbersSpec : ChangeSpec := { name := "rulesNumbers", fn := fun _ => fun
  | [d1, d2] => { results := [.lit (.bool true)], args := [d1, d2] }
  | _ => none }
def rulesNumbersRow : OpenClaim := { program := "ytalgndgoedlpoaa", sum := "8e61eb4f58dcdbe1b7f03b39452f2aec4577a8cafd2816b174ffe449e7af2953", func := "bourse/bourselaw09.RulesNumbers", spec := "rulesNumbers", inPlace := ["slices.overlaps[*bourse/api.Resting]"], unfollowed := true, recurses := true, apart := false }
def RulesNumbersSaid : Prop := rulesNumbersRow.holds Try.pinned (OpenSpec.ofChange rulesNumbersSpec)

/-- ITS FALSE NEIGHBOUR: 'it returns false'. Refute it at one input. -/
def rulesNumbersWrong : ChangeSpec := { name := "rulesNumbers", fn := fun _ => fun
  | [d1, d2] => { results := [.lit (.bool false)], args := [d1, d2] }
  | _ => none }
def RulesNumbersWrongFalsely : Prop := rulesNumbersRow.holds Try.pinned (OpenSpec.ofChange rulesNumbersWrong)

/-- 'bourselaw09.RulesPriority': WHATEVER THE INPUT: true; the input reads as it did. -/
def rulesPrioritySpec : ChangeSpec := { name := "rulesPriority", fn := fun _ => fun
  | [d1, d2] => { results := [.lit (.bool true)], args := [d1, d2] }
  | _ => none }
def rulesPriorityRow : OpenClaim := { program := "ytalgndgoedlpoaa", sum := "8e61eb4f58dcdbe1b7f03b39452f2aec4577a8cafd2816b174ffe449e7af2953", func := "bourse/bourselaw09.RulesPriority", spec := "rulesPriority", inPlace := ["slices.overlaps[*bourse/api.Resting]"], unfollowed := true, recurses := true, apart := false }
def RulesPrioritySaid : Prop := rulesPriorityRow.holds Try.pinned (OpenSpec.ofChange rulesPrioritySpec)

/-- ITS FALSE NEIGHBOUR: 'it returns false'. Refute it at one input. -/
def rulesPriorityWrong : ChangeSpec := { name := "rulesPriority", fn := fun _ => fun
  | [d1, d2] => { results := [.lit (.bool false)], args := [d1, d2] }
  | _ => none }
def RulesPriorityWrongFalsely : Prop := rulesPriorityRow.holds Try.pinned (OpenSpec.ofChange rulesPriorityWrong)

/- THE SECOND FORM. 'bulk': how many values and letters a reading holds, each counted each time it is reached (what is shared counts as often as it is met; a slice's spare places count too). A statement '..UptoSaid' is the law's where the arguments, and the package variables that the reading takes, are together of bulk at most 1048576: NARROWER than '..Said'. Prove '..Said' where nothing that the law and all that it calls make is longer than what came in: it says more and counts as full. Else prove '..UptoSaid'. A law counts once. -/
mutual
def uptoBulk {H : Type} : DataW H → Nat
  | .lit (.string bytes) => bytes.length + 1
  | .lit _ => 1
  | .nil => 1
  | .ptr d => uptoBulk d + 1
  | .slice elems spare => uptoBulkAll elems + uptoBulkAll spare + 1
  | .agg parts => uptoBulkAll parts + 1
  | .iface _ d => uptoBulk d + 1
  | .map entries => uptoBulkEntries entries + 1
  | .held _ => 1
def uptoBulkAll {H : Type} : List (DataW H) → Nat
  | [] => 0
  | d :: r => uptoBulk d + uptoBulkAll r
def uptoBulkEntries {H : Type} : List (Lit × DataW H) → Nat
  | [] => 0
  | x :: r => uptoBulkEntry x + uptoBulkEntries r
def uptoBulkEntry {H : Type} : Lit × DataW H → Nat
  | (.string bytes, d) => bytes.length + uptoBulk d + 1
  | (_, d) => uptoBulk d + 1
 end
def uptoSmall : (H : Type) → List (DataW H) → Bool := fun _ ds => decide (uptoBulkAll ds ≤ 1048576)
def OpenSpec.upto (s : _root_.Go.ChangeSpec) : _root_.Go.OpenSpec := { _root_.Go.OpenSpec.ofChange s with cond := some uptoSmall }

/-- 'bourselaw09.RulesDoes', WHERE WHAT IT READS IS OF BULK AT MOST 1048576: true; the input reads as it did. -/
def rulesDoesUptoRow : OpenClaim := { program := "ytalgndgoedlpoaa", sum := "8e61eb4f58dcdbe1b7f03b39452f2aec4577a8cafd2816b174ffe449e7af2953", func := "bourse/bourselaw09.RulesDoes", spec := "rulesDoes", inPlace := ["slices.overlaps[*bourse/api.Resting]"], unfollowed := true, recurses := true, apart := false, narrowed := true }
def RulesDoesUptoSaid : Prop := rulesDoesUptoRow.holds Try.pinned (OpenSpec.upto rulesDoesSpec)

/-- 'bourselaw09.RulesQuantity', WHERE WHAT IT READS IS OF BULK AT MOST 1048576: true; the input reads as it did. -/
def rulesQuantityUptoRow : OpenClaim := { program := "ytalgndgoedlpoaa", sum := "8e61eb4f58dcdbe1b7f03b39452f2aec4577a8cafd2816b174ffe449e7af2953", func := "bourse/bourselaw09.RulesQuantity", spec := "rulesQuantity", inPlace := ["slices.overlaps[*bourse/api.Resting]"], unfollowed := true, recurses := true, apart := false, narrowed := true }
def RulesQuantityUptoSaid : Prop := rulesQuantityUptoRow.holds Try.pinned (OpenSpec.upto rulesQuantitySpec)

/-- 'bourselaw09.RulesKinds', WHERE WHAT IT READS IS OF BULK AT MOST 1048576: true; the input reads as it did. -/
def rulesKindsUptoRow : OpenClaim := { program := "ytalgndgoedlpoaa", sum := "8e61eb4f58dcdbe1b7f03b39452f2aec4577a8cafd2816b174ffe449e7af2953", func := "bourse/bourselaw09.RulesKinds", spec := "rulesKinds", inPlace := ["slices.overlaps[*bourse/api.Resting]"], unfollowed := true, recurses := true, apart := false, narrowed := true }
def RulesKindsUptoSaid : Prop := rulesKindsUptoRow.holds Try.pinned (OpenSpec.upto rulesKindsSpec)

/-- 'bourselaw09.RulesNumbers', WHERE WHAT IT READS IS OF BULK AT MOST 1048576: true; the input reads as it did. -/
def rulesNumbersUptoRow : OpenClaim := { program := "ytalgndgoedlpoaa", sum := "8e61eb4f58dcdbe1b7f03b39452f2aec4577a8cafd2816b174ffe449e7af2953", func := "bourse/bourselaw09.RulesNumbers", spec := "rulesNumbers", inPlace := ["slices.overlaps[*bourse/api.Resting]"], unfollowed := true, recurses := true, apart := false, narrowed := true }
def RulesNumbersUptoSaid : Prop := rulesNumbersUptoRow.holds Try.pinned (OpenSpec.upto rulesNumbersSpec)

/-- 'bourselaw09.RulesPriority', WHERE WHAT IT READS IS OF BULK AT MOST 1048576: true; the input reads as it did. -/
def rulesPriorityUptoRow : OpenClaim := { program := "ytalgndgoedlpoaa", sum := "8e61eb4f58dcdbe1b7f03b39452f2aec4577a8cafd2816b174ffe449e7af2953", func := "bourse/bourselaw09.RulesPriority", spec := "rulesPriority", inPlace := ["slices.overlaps[*bourse/api.Resting]"], unfollowed := true, recurses := true, apart := false, narrowed := true }
def RulesPriorityUptoSaid : Prop := rulesPriorityUptoRow.holds Try.pinned (OpenSpec.upto rulesPrioritySpec)

end Rows
end Go.Proofs.Ytalgndgoedlpoaa
