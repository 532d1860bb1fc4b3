/-
  TextDecimals' walk.
-/
import Derived.Test.YtolabllgnfpfaaaDoorTxB
namespace Go.Proofs.YtolabllgnfpfaaaDoor
open Go.RowKit Go.Deep Go.Lib Go.Shelf Go.Sort
set_option linter.unusedVariables false

theorem numOf_one (t : Int) (v : List UInt8) : numOf [(t, v)] t = numEnd (num v) := by
  have : val? [(t, v)] t = some v := by unfold val?; simp
  unfold numOf; simp only [this]
theorem ts_one {w : World} {b : Nat} {t : Int} {v : List UInt8} (h0 : w.cell? ⟨b, 0, none⟩ = some (.int .i64 t)) (h1 : w.cell? ⟨b, 1, none⟩ = some (.string ⟨v.toArray⟩)) : Ts w (some ⟨b, 0, none⟩) [(t, v)] := by
  intro i hi
  obtain rfl : i = 0 := by simpa using hi
  exact ⟨b, 0, rfl, by simpa using h0, by simpa using h1⟩
end Go.Proofs.YtolabllgnfpfaaaDoor
