/-
  A position behind a purchase or a sale, whatever it was.
-/
import Derived.Test.YtphhllppgelceaaAcE
namespace Go.Proofs.Ytphhllppgelceaa.Ac
open Go.RowKit Go.Deep Go.Proofs.Ytphhllppgelceaa.MonM
set_option linter.unusedVariables false
set_option linter.unusedSimpArgs false
/-- the position behind d, which brought that money. -/
def bhp (p : Po) (d money : Int) : Po :=
  if p.qt = 0 ∨ decide (0 < p.qt) = decide (0 < d) then ⟨p.qt + d, maddV p.co (-money), p.ga⟩
  else if absI d ≤ absI p.qt then clo p d money else clv p d money
theorem bhp_qt (p : Po) (d money : Int) (hd : d ≠ 0) : (bhp p d money).qt = p.qt + d := by
  unfold bhp
  split
  · rfl
  · rename_i h
    split
    · rename_i h2
      unfold clo
      show p.qt + (if d < 0 then -(min (absI d) (absI p.qt)) else min (absI d) (absI p.qt)) = p.qt + d
      rw [Int.min_eq_left h2]
      unfold absI
      split <;> omega
    · unfold clv
      show d + p.qt = p.qt + d
      omega
theorem bhp_ok (p : Po) (d money : Int) (hp : PoOk p) : PoOk (bhp p d money) := by
  unfold bhp
  split
  · exact ⟨maddV_amt _ _, hp.ga⟩
  · split
    · exact ⟨maddV_amt _ _, maddV_amt _ _⟩
    · exact ⟨maddV_amt _ _, maddV_amt _ _⟩
theorem behind_any (p : Po) (d money : Int) (w : World) (hp : PoOk p) (hm : Amt money) (hd : d ≠ 0) (hq1 : absI p.qt < 4294967296) (hd1 : absI d < 4294967296) :
    Calls Try.prog 29 #[.agg p.row, .int .i64 d, mv money] w fun e w' => e = .returned (.agg (bhp p d money).row) ∧ Below w.heap.size w w' := by
  have b1 : -4294967296 < p.qt ∧ p.qt < 4294967296 := by unfold absI at hq1; split at hq1 <;> omega
  have b2 : -4294967296 < d ∧ d < 4294967296 := by unfold absI at hd1; split at hd1 <;> omega
  unfold bhp
  split
  · rename_i h
    exact behind_open p d money w hp hm h (by omega) (by omega)
  · rename_i h
    have hq : p.qt ≠ 0 := fun e => h (.inl e)
    have hs : decide (0 < p.qt) ≠ decide (0 < d) := fun e => h (.inr e)
    split
    · rename_i h2
      exact behind_close p d money w hp hm hq hd hs hq1 hd1 h2
    · rename_i h2
      exact behind_over p d money w hp hm hq hd hs hq1 hd1 (by omega)
end Go.Proofs.Ytphhllppgelceaa.Ac
