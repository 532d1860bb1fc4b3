/-
  SrK
-/
import Derived.Test.YtegdhffejmbakaaSrA
import Derived.Test.YtegdhffejmbakaaSrI
namespace Go.Proofs.Ytegdhffejmbakaa.Sr
open Go.RowKit Go.Deep
set_option linter.unusedVariables false
set_option linter.unusedSimpArgs false
set_option maxHeartbeats 8000000
set_option maxRecDepth 100000
attribute [local go_sem ↓] Go.wp_at_zero Go.wp_at_succ
/-- a call that only puts them in another order, from any order on. -/
theorem Sz.call {f : Nat} {args : Array Value} {w0 U : World} {g n : Nat} {l0 : List Int} (hS : Sz w0 U g n l0) {R : Ending → Prop} (h : ∀ l, Uz U g n l → Calls Try.prog f args U fun e w' => R e ∧ Sz U w' g n l) : Calls Try.prog f args U fun e w' => R e ∧ Hid (Sz w0 w' g n l0) := by
  obtain ⟨l, q1, q2, q3⟩ := hS
  exact (h l q2).mono (fun e w' hh => ⟨hh.1, hid (hh.2.trans q1 q3)⟩)
end Go.Proofs.Ytegdhffejmbakaa.Sr
