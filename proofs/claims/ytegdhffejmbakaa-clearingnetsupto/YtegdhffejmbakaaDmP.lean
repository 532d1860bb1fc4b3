/-
  DmP
-/
import Derived.Test.YtegdhffejmbakaaTexB
import Derived.Test.YtegdhffejmbakaaParA
import Derived.Laws.BytesArg
namespace Go.Proofs.Ytegdhffejmbakaa.Dm
open Go.RowKit MonM TexM ParM
set_option linter.unusedVariables false
/-- the lowest k digits, the highest first. -/
def dg (n : Int) : Nat → List Int
  | 0 => []
  | k + 1 => (48 + n / p10 k % 10) :: dg n k
theorem dg_len (n : Int) (k : Nat) : (dg n k).length = k := by
  induction k with
  | zero => rfl
  | succ k ih => simp only [dg, List.length_cons, ih]
theorem suf_dg (n : Int) (k : Nat) : suf n (k + 3) = (dg n (k + 3)).take (k + 1) ++ 46 :: (dg n (k + 3)).drop (k + 1) := by
  induction k with
  | zero => rfl
  | succ k ih =>
    obtain ⟨j, hj⟩ : ∃ j, k + 3 = j := ⟨_, rfl⟩
    rw [show k + 1 + 3 = (k + 3) + 1 from rfl, suf, if_neg (by omega), ih]
    rw [hj]
    rfl
theorem str_app (xs ys : List Int) : strOfNums xs ++ strOfNums ys = strOfNums (xs ++ ys) := by
  apply ByteArray.ext
  simp [strOfNums, ByteArray.data_append]
end Go.Proofs.Ytegdhffejmbakaa.Dm
