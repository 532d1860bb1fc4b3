/-
  Ha
-/
import Derived.Test.YtegaphjbepcgfaaPart
namespace Go.Proofs.Ytegaphjbepcgfaa
open Go.RowKit
end Go.Proofs.Ytegaphjbepcgfaa
namespace Go.Proofs.Ytegaphjbepcgfaa
open Go.RowKit
theorem mul_split (a b : Int) : mulH a b * 18446744073709551616 + mulL a b = a * b := by unfold mulH mulL; omega
theorem divQ_mul (a b c : Int) : divQ (mulH a b) (mulL a b) c = a * b / c := by unfold divQ; rw [mul_split]
theorem divR_mul (a b c : Int) : divR (mulH a b) (mulL a b) c = a * b % c := by unfold divR; rw [mul_split]
end Go.Proofs.Ytegaphjbepcgfaa
