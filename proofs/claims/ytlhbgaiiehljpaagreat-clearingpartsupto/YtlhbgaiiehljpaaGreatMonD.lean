/-
  MonD
-/
import Derived.Test.YtlhbgaiiehljpaaGreatMonC
import Derived.Test.YtlhbgaiiehljpaaGreatGn
namespace Go.Proofs.YtlhbgaiiehljpaaGreat
open Go.RowKit MonM
set_option linter.unusedVariables false
theorem amt_neg (n : Int) (h : Amt n) : Amt (-n) := by unfold Amt at *; omega
set_option maxHeartbeats 1000000 in
theorem lastDigit_walk (H L q r h1 : Int) (w : World) (hh0 : 0 ≤ H) (hh1 : H < 18446744073709551616) (r0 : 0 ≤ r) (r1 : r < 10) (hq : H / 10 = h1)
    (D : Hid (∀ w : World, Calls Tryz.prog 74 #[.int .u64 (H % 10), .int .u64 L, .int .u64 10] w fun e w' => e = .returned (.tuple #[.int .u64 q, .int .u64 r]) ∧ ∃ n, w' = w.drewN n)) :
    Calls Tryz.prog 46 #[.agg #[.int .u64 H, .int .u64 L]] w fun e w' => e = .returned (.tuple #[.agg #[.int .u64 h1, .int .u64 q], .int .u8 (48 + r)]) ∧ Below w.heap.size w w' := by
  go_enter Tryz.func46, Tryz.ntmps46
  go_wp2_with fail
  refine (D.out _).mono ?_
  rintro e w1 ⟨rfl, n, rfl⟩
  go_wp2
  exact bodyPost_ret (v := .tuple #[.agg #[.int .u64 h1, .int .u64 q], .int .u8 (48 + r)]) (by simp [results, Tryz.results46, go_sem]) rfl ⟨rfl, ((below_drewN (bal (bal (b0 w) _) _) _).setCell (by dsimp only; omega) _).setCell (by dsimp only; omega) _⟩
theorem lastDigit_any (m : Int) (w : World) (h0 : 0 ≤ m) (h1 : m ≤ 170141183460469231731687303715884105727) :
    Calls Tryz.prog 46 #[mv m] w fun e w' => e = .returned (.tuple #[mv (m / 10), .int .u8 (48 + m % 10)]) ∧ Below w.heap.size w w' := by
  have wm := words m (by omega) h1
  have wq := words (m / 10) (by omega) (by omega)
  have am := hiW_word m
  have lm := loW_word m
  have aq := hiW_word (m / 10)
  have lq := loW_word (m / 10)
  have D := fun w => div64_any (hiW m % 10) (loW m) 10 w (by omega) lm (by omega) (by decide)
  have e1 : divQ (hiW m % 10) (loW m) 10 = loW (m / 10) := by unfold divQ; omega
  have e2 : divR (hiW m % 10) (loW m) 10 = m % 10 := by unfold divR; omega
  rw [e1, e2] at D
  exact lastDigit_walk (hiW m) (loW m) (loW (m / 10)) (m % 10) (hiW (m / 10)) w am.1 am.2 (by omega) (by omega) (by omega) D
end Go.Proofs.YtlhbgaiiehljpaaGreat
