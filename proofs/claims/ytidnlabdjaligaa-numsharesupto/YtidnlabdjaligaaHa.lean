/-
  num.divisible, num.goesUp, num.Part.
-/
import Derived.Test.YtidnlabdjaligaaDiv
namespace Go.Proofs.Ytidnlabdjaligaa
open Go.RowKit

/-- is it rounded up? -/
def upB (whole rest c round : Int) : Bool := (round == 1 && decide (0 < rest)) || (round == 2 && (decide (c - rest < rest) || (rest == c - rest && whole % 2 == 1)))
def okRound (round : Int) : Prop := round = 0 ∨ round = 1 ∨ round = 2

set_option maxHeartbeats 400000 in
theorem divisible_arg (c round : Int) (w : World) (hr : ¬ okRound round) :
    Calls Try.prog 14 #[.int .u64 c, .int .i64 round] w fun e w' => e = .returned (.int .i64 1) ∧ w' = w := by
  unfold okRound at hr
  have k0 : (round != 0) = true := by simp; omega
  have k1 : (round != 1) = true := by simp; omega
  have k2 : (round != 2) = true := by simp; omega
  clear hr
  go_enter Try.func14, Try.ntmps14
  go_wp2
  go_ret
  exact ⟨rfl, rfl⟩

set_option maxHeartbeats 400000 in
theorem divisible_zero (round : Int) (w : World) (hr : okRound round) :
    Calls Try.prog 14 #[.int .u64 0, .int .i64 round] w fun e w' => e = .returned (.int .i64 11) ∧ w' = w := by
  rcases hr with rfl | rfl | rfl
  all_goals
    go_enter Try.func14, Try.ntmps14
    go_wp2
    go_ret
    exact ⟨rfl, rfl⟩

set_option maxHeartbeats 400000 in
theorem divisible_ok (c round : Int) (w : World) (hr : okRound round) (hc : (c == 0) = false) :
    Calls Try.prog 14 #[.int .u64 c, .int .i64 round] w fun e w' => e = .returned (.int .i64 0) ∧ w' = w := by
  rcases hr with rfl | rfl | rfl
  all_goals
    go_enter Try.func14, Try.ntmps14
    go_wp2
    go_ret
    exact ⟨rfl, rfl⟩

set_option maxHeartbeats 400000 in
theorem goesUp_any (whole rest c round : Int) (w : World) (hr : okRound round) (hw : Word whole) (h0 : 0 ≤ rest) (h1 : rest < c) (h2 : c < 18446744073709551616) :
    Calls Try.prog 17 #[.int .u64 whole, .int .u64 rest, .int .u64 c, .int .i64 round] w fun e w' => e = .returned (.bool (upB whole rest c round)) ∧ w' = w := by
  obtain ⟨w1, w2⟩ := hw
  rcases hr with rfl | rfl | rfl
  · have e : upB whole rest c 0 = false := by simp [upB]
    rw [e]; clear e
    go_enter Try.func17, Try.ntmps17
    go_wp2
    go_ret
    exact ⟨rfl, rfl⟩
  · have e : upB whole rest c 1 = decide (0 < rest) := by simp [upB]
    rw [e]; clear e
    go_enter Try.func17, Try.ntmps17
    go_wp2
    go_ret
    exact ⟨rfl, rfl⟩
  · by_cases k1 : c - rest < rest
    · have e : upB whole rest c 2 = true := by simp [upB, k1]
      rw [e]; clear e
      go_enter Try.func17, Try.ntmps17
      go_wp2
      go_ret
      exact ⟨rfl, rfl⟩
    · have kd : decide (c - rest < rest) = false := by simpa using k1
      by_cases k2 : rest = c - rest
      · have kb : (rest == c - rest) = true := by simpa using k2
        have e : upB whole rest c 2 = (whole % 2 == 1) := by simp [upB, kd, kb]
        rw [e]; clear e k2
        go_enter Try.func17, Try.ntmps17
        go_wp2
        go_ret
        exact ⟨rfl, rfl⟩
      · have kb : (rest == c - rest) = false := by simpa using k2
        have e : upB whole rest c 2 = false := by simp [upB, kd, kb]
        rw [e]; clear e k2
        go_enter Try.func17, Try.ntmps17
        go_wp2
        go_ret
        exact ⟨rfl, rfl⟩
end Go.Proofs.Ytidnlabdjaligaa
namespace Go.Proofs.Ytidnlabdjaligaa
open Go.RowKit

theorem mul_split (a b : Int) : mulH a b * 18446744073709551616 + mulL a b = a * b := by unfold mulH mulL; omega
theorem divQ_mul (a b c : Int) : divQ (mulH a b) (mulL a b) c = a * b / c := by unfold divQ; rw [mul_split]
theorem divR_mul (a b c : Int) : divR (mulH a b) (mulL a b) c = a * b % c := by unfold divR; rw [mul_split]

set_option maxHeartbeats 400000 in
theorem part_arg (a b c round : Int) (w : World) (hr : ¬ okRound round) :
    Calls Try.prog 7 #[.int .u64 a, .int .u64 b, .int .u64 c, .int .i64 round] w fun e w' => e = .returned (.tuple #[.int .u64 0, .int .i64 1]) ∧ ∃ n, w' = w.drewN n := by
  have HR : Hid (¬ okRound round) := hr
  clear hr
  go_enter Try.func7, Try.ntmps7
  go_wp2_with fail
  refine (divisible_arg c round _ HR.out).mono ?_; rintro e w1 ⟨rfl, rfl⟩
  go_wp2
  go_ret2
  exact ⟨rfl, 0, rfl⟩

set_option maxHeartbeats 400000 in
theorem part_zero (a b round : Int) (w : World) (hr : okRound round) :
    Calls Try.prog 7 #[.int .u64 a, .int .u64 b, .int .u64 0, .int .i64 round] w fun e w' => e = .returned (.tuple #[.int .u64 0, .int .i64 11]) ∧ ∃ n, w' = w.drewN n := by
  have HR : Hid (okRound round) := hr
  clear hr
  go_enter Try.func7, Try.ntmps7
  go_wp2_with fail
  refine (divisible_zero round _ HR.out).mono ?_; rintro e w1 ⟨rfl, rfl⟩
  go_wp2
  go_ret2
  exact ⟨rfl, 0, rfl⟩

set_option maxHeartbeats 400000 in
theorem part_over (a b c H L round : Int) (w : World) (hr : okRound round) (hc : (c == 0) = false) (h : c ≤ H)
    (c1 : Hid (∀ w : World, Calls Try.prog 15 #[.int .u64 a, .int .u64 b] w fun e w' => e = .returned (.tuple #[.int .u64 H, .int .u64 L]) ∧ w' = w)) :
    Calls Try.prog 7 #[.int .u64 a, .int .u64 b, .int .u64 c, .int .i64 round] w fun e w' => e = .returned (.tuple #[.int .u64 0, .int .i64 10]) ∧ ∃ n, w' = w.drewN n := by
  have HR : Hid (okRound round) := hr
  clear hr
  go_enter Try.func7, Try.ntmps7
  go_wp2_with fail
  refine (divisible_ok c round _ HR.out hc).mono ?_; rintro e w1 ⟨rfl, rfl⟩
  go_wp2_with fail
  refine (c1.out _).mono ?_; rintro e w1 ⟨rfl, rfl⟩
  go_wp2
  go_ret2
  exact ⟨rfl, 0, rfl⟩

set_option maxHeartbeats 800000 in
theorem part_in (a b c H L q r round v f : Int) (up : Bool) (w : World) (hr : okRound round) (hc : (c == 0) = false) (h : H < c)
    (c1 : Hid (∀ w : World, Calls Try.prog 15 #[.int .u64 a, .int .u64 b] w fun e w' => e = .returned (.tuple #[.int .u64 H, .int .u64 L]) ∧ w' = w))
    (c2 : Hid (∀ w : World, Calls Try.prog 16 #[.int .u64 H, .int .u64 L, .int .u64 c] w fun e w' => e = .returned (.tuple #[.int .u64 q, .int .u64 r]) ∧ ∃ n, w' = w.drewN n))
    (c3 : Hid (∀ w : World, Calls Try.prog 17 #[.int .u64 q, .int .u64 r, .int .u64 c, .int .i64 round] w fun e w' => e = .returned (.bool up) ∧ w' = w))
    (c4 : Hid (∀ w : World, Calls Try.prog 13 #[.int .u64 q, .int .u64 1] w fun e w' => e = .returned (.tuple #[.int .u64 v, .int .i64 f]) ∧ w' = w)) :
    Calls Try.prog 7 #[.int .u64 a, .int .u64 b, .int .u64 c, .int .i64 round] w fun e w' =>
      e = .returned (.tuple #[.int .u64 (if up then v else q), .int .i64 (if up then f else 0)]) ∧ ∃ n, w' = w.drewN n := by
  have HR : Hid (okRound round) := hr
  clear hr
  cases up with
  | true =>
    simp only [if_true]
    go_enter Try.func7, Try.ntmps7
    go_wp2_with fail
    refine (divisible_ok c round _ HR.out hc).mono ?_; rintro e w1 ⟨rfl, rfl⟩
    go_wp2_with fail
    refine (c1.out _).mono ?_; rintro e w1 ⟨rfl, rfl⟩
    go_wp2_with fail
    refine (c2.out _).mono ?_; rintro e w2 ⟨rfl, n, rfl⟩
    go_wp2_with fail
    refine (c3.out _).mono ?_; rintro e w3 ⟨rfl, rfl⟩
    go_wp2_with fail
    refine (c4.out _).mono ?_; rintro e w4 ⟨rfl, rfl⟩
    go_wp2
    go_ret2
    exact ⟨rfl, n, rfl⟩
  | false =>
    go_enter Try.func7, Try.ntmps7
    go_wp2_with fail
    refine (divisible_ok c round _ HR.out hc).mono ?_; rintro e w1 ⟨rfl, rfl⟩
    go_wp2_with fail
    refine (c1.out _).mono ?_; rintro e w1 ⟨rfl, rfl⟩
    go_wp2_with fail
    refine (c2.out _).mono ?_; rintro e w2 ⟨rfl, n, rfl⟩
    go_wp2_with fail
    refine (c3.out _).mono ?_; rintro e w3 ⟨rfl, rfl⟩
    go_wp2
    go_ret2
    exact ⟨rfl, n, rfl⟩

/-- a part, where there is a divisor and a way of rounding. -/
def partV (a b c round : Int) : Int :=
  if c * 18446744073709551616 ≤ a * b then 0 else if upB (a * b / c) (a * b % c) c round then addV (a * b / c) 1 else a * b / c
def partE (a b c round : Int) : Int :=
  if c * 18446744073709551616 ≤ a * b then 10 else if upB (a * b / c) (a * b % c) c round then addE (a * b / c) 1 else 0

theorem part_any (a b c round : Int) (w : World) (hr : okRound round) (ha : Word a) (hb : Word b) (hc0 : 0 < c) (hc1 : c < 18446744073709551616) :
    Calls Try.prog 7 #[.int .u64 a, .int .u64 b, .int .u64 c, .int .i64 round] w fun e w' => e = .returned (.tuple #[.int .u64 (partV a b c round), .int .i64 (partE a b c round)]) ∧ ∃ n, w' = w.drewN n := by
  have hc : (c == 0) = false := by simp; omega
  have c1 := fun w => mul64_any a b w ha hb
  have hH := mulH_word a b ha hb
  have hL := mulL_word a b
  have hm := mul_word a b ha hb
  by_cases h : c * 18446744073709551616 ≤ a * b
  · have e1 : partV a b c round = 0 := if_pos h
    have e2 : partE a b c round = 10 := if_pos h
    rw [e1, e2]
    exact part_over a b c (mulH a b) (mulL a b) round w hr hc (by unfold mulH; omega) c1
  · have hlt : mulH a b < c := by unfold mulH; omega
    have c2 := fun w => div64_any (mulH a b) (mulL a b) c w hH.1 hL hlt hc1
    rw [divQ_mul, divR_mul] at c2
    have q0 : 0 ≤ a * b / c := Int.ediv_nonneg hm.1 (by omega)
    have q1 : a * b / c < 18446744073709551616 := by rw [Int.ediv_lt_iff_lt_mul hc0]; omega
    have r0 : 0 ≤ a * b % c := Int.emod_nonneg _ (by omega)
    have r1 : a * b % c < c := Int.emod_lt_of_pos _ hc0
    have c3 := fun w => goesUp_any (a * b / c) (a * b % c) c round w hr ⟨q0, q1⟩ r0 r1 hc1
    have c4 := fun w => add_any (a * b / c) 1 w ⟨q0, q1⟩ ⟨by decide, by decide⟩
    have e1 : partV a b c round = if upB (a * b / c) (a * b % c) c round then addV (a * b / c) 1 else a * b / c := if_neg h
    have e2 : partE a b c round = if upB (a * b / c) (a * b % c) c round then addE (a * b / c) 1 else 0 := if_neg h
    rw [e1, e2]
    exact part_in a b c (mulH a b) (mulL a b) (a * b / c) (a * b % c) round _ _ _ w hr hc hlt c1 c2 c3 c4
end Go.Proofs.Ytidnlabdjaligaa
