/-
  A portion, plain.
-/
import Derived.Test.YthikjpccmplbiaaBigI
import Derived.Test.YthikjpccmplbiaaMonG
namespace Go.Proofs.Ythikjpccmplbiaa
open Go.RowKit BigM MonM
/-- a portion's size. -/
def pX (m a b round : Int) : Int := absI m * a / b + b2i (upB (absI m * a / b) (absI m * a % b) b round)
def pE (m a b round : Int) : Int := if ¬ (round = 0 ∨ round = 1 ∨ round = 2) then 1 else if b = 0 then 11 else if pX m a b round ≤ 170141183460469231731687303715884105727 then 0 else 10
def pV (m a b round : Int) : Int := if ¬ (round = 0 ∨ round = 1 ∨ round = 2) then 0 else if b = 0 then 0 else if pX m a b round ≤ 170141183460469231731687303715884105727 then (if m < 0 then -(pX m a b round) else pX m a b round) else 0
theorem pX_nonneg (m a b round : Int) (ha : 0 ≤ a) (hb : 0 < b) : 0 ≤ pX m a b round := by
  have h0 : 0 ≤ absI m := by unfold absI; split <;> omega
  have h1 := Int.ediv_nonneg (Int.mul_nonneg h0 ha) (show 0 ≤ b by omega)
  have h2 := (b2i_bounds (upB (absI m * a / b) (absI m * a % b) b round)).1
  unfold pX
  omega
theorem pV_amt (m a b round : Int) (ha : 0 ≤ a) (hb : 0 ≤ b) : Amt (pV m a b round) := by
  unfold pV Amt
  split
  · omega
  · split
    · omega
    · have := pX_nonneg m a b round ha (by omega)
      split
      · split <;> omega
      · omega
theorem upB_lo (q r b round : Int) : upB (loW q) r b round = upB q r b round := by
  unfold upB loW
  rw [show q % 18446744073709551616 % 2 = q % 2 from by omega]
end Go.Proofs.Ythikjpccmplbiaa
