/-
  ParA
-/
import Derived.Test.YtegdhffejmbakaaTexM
import Derived.Laws.BytesArg
namespace Go.Proofs.Ytegdhffejmbakaa.ParM
open TexM
set_option linter.unusedVariables false
/-- digits and points are read, as long as it fits. -/
def rd : List Int → Int → Option Int
  | [], v => some v
  | x :: r, v => if x = 46 then rd r v else if 48 ≤ x ∧ x ≤ 57 ∧ v * 10 + (x - 48) ≤ 170141183460469231731687303715884105727 then rd r (v * 10 + (x - 48)) else none
/-- the bytes as numbers. -/
def nums (s : ByteArray) : List Int := s.data.toList.map (fun b => (b.toNat : Int))
theorem strOfNums_nums (s : ByteArray) : strOfNums (nums s) = s := by
  cases s with
  | mk d => simp [strOfNums, nums, List.map_map, Function.comp_def]
end Go.Proofs.Ytegdhffejmbakaa.ParM
