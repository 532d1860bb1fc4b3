/-
  num.divisible, num.goesUp, num.Part.
-/
import Derived.Test.YtkmlhchkidddmaaDiv
namespace Go.Proofs.Ytkmlhchkidddmaa
open Go.RowKit

/-- is it rounded up? -/
def upB (whole rest c round : Int) : Bool := (round == 1 && decide (0 < rest)) || (round == 2 && (decide (c - rest < rest) || (rest == c - rest && whole % 2 == 1)))
def okRound (round : Int) : Prop := round = 0 ∨ round = 1 ∨ round = 2

end Go.Proofs.Ytkmlhchkidddmaa
namespace Go.Proofs.Ytkmlhchkidddmaa
open Go.RowKit

theorem mul_split (a b : Int) : mulH a b * 18446744073709551616 + mulL a b = a * b := by unfold mulH mulL; omega
theorem divQ_mul (a b c : Int) : divQ (mulH a b) (mulL a b) c = a * b / c := by unfold divQ; rw [mul_split]
theorem divR_mul (a b c : Int) : divR (mulH a b) (mulL a b) c = a * b % c := by unfold divR; rw [mul_split]

/-- a part, where there is a divisor and a way of rounding. -/
def partV (a b c round : Int) : Int :=
  if c * 18446744073709551616 ≤ a * b then 0 else if upB (a * b / c) (a * b % c) c round then addV (a * b / c) 1 else a * b / c
def partE (a b c round : Int) : Int :=
  if c * 18446744073709551616 ≤ a * b then 10 else if upB (a * b / c) (a * b % c) c round then addE (a * b / c) 1 else 0

end Go.Proofs.Ytkmlhchkidddmaa
