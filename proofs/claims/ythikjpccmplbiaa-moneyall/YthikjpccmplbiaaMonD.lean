/-
  Amounts: Sub, lastDigit.
-/
import Derived.Test.YthikjpccmplbiaaMonC
import Derived.Test.YthikjpccmplbiaaDiv
namespace Go.Proofs.Ythikjpccmplbiaa
open Go.RowKit MonM
set_option linter.unusedVariables false

set_option maxHeartbeats 1000000 in
theorem msub_walk (H1 L1 H2 L2 H3 L3 H4 L4 E : Int) (w : World)
    (N : Hid (∀ w : World, Calls Try.prog 26 #[.agg #[.int .u64 H2, .int .u64 L2]] w fun e w' => e = .returned (.agg #[.int .u64 H3, .int .u64 L3]) ∧ Below w.heap.size w w'))
    (A : Hid (∀ w : World, Calls Try.prog 22 #[.agg #[.int .u64 H1, .int .u64 L1], .agg #[.int .u64 H3, .int .u64 L3]] w fun e w' => e = .returned (.tuple #[.agg #[.int .u64 H4, .int .u64 L4], .int .i64 E]) ∧ Below w.heap.size w w')) :
    Calls Try.prog 24 #[.agg #[.int .u64 H1, .int .u64 L1], .agg #[.int .u64 H2, .int .u64 L2]] w fun e w' => e = .returned (.tuple #[.agg #[.int .u64 H4, .int .u64 L4], .int .i64 E]) ∧ Below w.heap.size w w' := by
  go_enter Try.func24, Try.ntmps24
  go_wp2
  go_region_with (first
    | (go_at_call 26; refine (N.out _).mono ?_; rintro e w1 ⟨rfl, hb1⟩; obtain ⟨hc1, hf1⟩ := bcell hb1; have hz1 := hb1.size; simp at hz1; have HB1 := hid hb1; clear hb1; have k1 : w.heap.size + 1 + 1 < w1.heap.size := by omega)
    | (go_at_call 22; refine (A.out _).mono ?_; rintro e w2 ⟨rfl, hb2⟩; obtain ⟨hc2, hf2⟩ := bcell hb2; have hz2 := hb2.size; have HB2 := hid hb2; clear hb2))
  all_goals
    go_wp2
    exact bodyPost_ret (v := .tuple #[.agg #[.int .u64 H4, .int .u64 L4], .int .i64 E]) (by simp [results, Try.results24, go_sem, hc1, hc2, k1]) rfl ⟨rfl, ((btr (btr (Below.drew (bal (bal (bal (b0 w) _) _) _)) HB1.out) HB2.out).setCell (by dsimp only; omega) _).setCell (by dsimp only; omega) _⟩

theorem amt_neg (n : Int) (h : Amt n) : Amt (-n) := by unfold Amt at *; omega
theorem msub_any (m n : Int) (w : World) (hm : Amt m) (hn : Amt n) :
    Calls Try.prog 24 #[mv m, mv n] w fun e w' => e = .returned (.tuple #[mv (maddV m (-n)), .int .i64 (maddE m (-n))]) ∧ Below w.heap.size w w' :=
  msub_walk _ _ _ _ _ _ _ _ _ w (fun w => neg_any n w) (fun w => madd_any m (-n) w hm (amt_neg n hn))

/-! ### the last digit -/
set_option maxHeartbeats 1000000 in
theorem lastDigit_walk (H L q r h1 : Int) (w : World) (hh0 : 0 ≤ H) (hh1 : H < 18446744073709551616) (r0 : 0 ≤ r) (r1 : r < 10) (hq : H / 10 = h1)
    (D : Hid (∀ w : World, Calls Try.prog 51 #[.int .u64 (H % 10), .int .u64 L, .int .u64 10] w fun e w' => e = .returned (.tuple #[.int .u64 q, .int .u64 r]) ∧ ∃ n, w' = w.drewN n)) :
    Calls Try.prog 31 #[.agg #[.int .u64 H, .int .u64 L]] w fun e w' => e = .returned (.tuple #[.agg #[.int .u64 h1, .int .u64 q], .int .u8 (48 + r)]) ∧ Below w.heap.size w w' := by
  go_enter Try.func31, Try.ntmps31
  go_wp2_with fail
  refine (D.out _).mono ?_
  rintro e w1 ⟨rfl, n, rfl⟩
  go_wp2
  exact bodyPost_ret (v := .tuple #[.agg #[.int .u64 h1, .int .u64 q], .int .u8 (48 + r)]) (by simp [results, Try.results31, go_sem]) rfl ⟨rfl, ((below_drewN (bal (bal (b0 w) _) _) _).setCell (by dsimp only; omega) _).setCell (by dsimp only; omega) _⟩

theorem lastDigit_any (m : Int) (w : World) (h0 : 0 ≤ m) (h1 : m ≤ 170141183460469231731687303715884105727) :
    Calls Try.prog 31 #[mv m] w fun e w' => e = .returned (.tuple #[mv (m / 10), .int .u8 (48 + m % 10)]) ∧ Below w.heap.size w w' := by
  have wm := words m (by omega) h1
  have wq := words (m / 10) (by omega) (by omega)
  have am := hiW_word m
  have lm := loW_word m
  have aq := hiW_word (m / 10)
  have lq := loW_word (m / 10)
  have D := fun w => div64_any (hiW m % 10) (loW m) 10 w (by omega) lm (by omega) (by decide)
  have e1 : divQ (hiW m % 10) (loW m) 10 = loW (m / 10) := by unfold divQ; omega
  have e2 : divR (hiW m % 10) (loW m) 10 = m % 10 := by unfold divR; omega
  rw [e1, e2] at D
  exact lastDigit_walk (hiW m) (loW m) (loW (m / 10)) (m % 10) (hiW (m / 10)) w am.1 am.2 (by omega) (by omega) (by omega) D
end Go.Proofs.Ythikjpccmplbiaa
