/-
  Part
-/
import Derived.Test.YtlhbgaiiehljpaaGreatGn
namespace Go.Proofs.YtlhbgaiiehljpaaGreat
open Go.RowKit
/-- is it rounded up? -/
def upB (whole rest c round : Int) : Bool := (round == 1 && decide (0 < rest)) || (round == 2 && (decide (c - rest < rest) || (rest == c - rest && whole % 2 == 1)))
def okRound (round : Int) : Prop := round = 0 ∨ round = 1 ∨ round = 2
set_option maxHeartbeats 400000 in
theorem divisible_ok (c round : Int) (w : World) (hr : okRound round) (hc : (c == 0) = false) :
    Calls Tryz.prog 85 #[.int .u64 c, .int .i64 round] w fun e w' => e = .returned (.int .i64 0) ∧ w' = w := by
  rcases hr with rfl | rfl | rfl
  all_goals
    go_enter Tryz.func85, Tryz.ntmps85
    go_wp2
    go_ret
    exact ⟨rfl, rfl⟩
set_option maxHeartbeats 400000 in
theorem goesUp_any (whole rest c round : Int) (w : World) (hr : okRound round) (hw : Word whole) (h0 : 0 ≤ rest) (h1 : rest < c) (h2 : c < 18446744073709551616) :
    Calls Tryz.prog 87 #[.int .u64 whole, .int .u64 rest, .int .u64 c, .int .i64 round] w fun e w' => e = .returned (.bool (upB whole rest c round)) ∧ w' = w := by
  obtain ⟨w1, w2⟩ := hw
  rcases hr with rfl | rfl | rfl
  · have e : upB whole rest c 0 = false := by simp [upB]
    rw [e]; clear e
    go_enter Tryz.func87, Tryz.ntmps87
    go_wp2
    go_ret
    exact ⟨rfl, rfl⟩
  · have e : upB whole rest c 1 = decide (0 < rest) := by simp [upB]
    rw [e]; clear e
    go_enter Tryz.func87, Tryz.ntmps87
    go_wp2
    go_ret
    exact ⟨rfl, rfl⟩
  · by_cases k1 : c - rest < rest
    · have e : upB whole rest c 2 = true := by simp [upB, k1]
      rw [e]; clear e
      go_enter Tryz.func87, Tryz.ntmps87
      go_wp2
      go_ret
      exact ⟨rfl, rfl⟩
    · have kd : decide (c - rest < rest) = false := by simpa using k1
      by_cases k2 : rest = c - rest
      · have kb : (rest == c - rest) = true := by simpa using k2
        have e : upB whole rest c 2 = (whole % 2 == 1) := by simp [upB, kd, kb]
        rw [e]; clear e k2
        go_enter Tryz.func87, Tryz.ntmps87
        go_wp2
        go_ret
        exact ⟨rfl, rfl⟩
      · have kb : (rest == c - rest) = false := by simpa using k2
        have e : upB whole rest c 2 = false := by simp [upB, kd, kb]
        rw [e]; clear e k2
        go_enter Tryz.func87, Tryz.ntmps87
        go_wp2
        go_ret
        exact ⟨rfl, rfl⟩
end Go.Proofs.YtlhbgaiiehljpaaGreat
namespace Go.Proofs.YtlhbgaiiehljpaaGreat
open Go.RowKit
end Go.Proofs.YtlhbgaiiehljpaaGreat
namespace Go.Proofs.YtlhbgaiiehljpaaGreat
open Go.RowKit
theorem mul_split (a b : Int) : mulH a b * 18446744073709551616 + mulL a b = a * b := by unfold mulH mulL; omega
theorem divQ_mul (a b c : Int) : divQ (mulH a b) (mulL a b) c = a * b / c := by unfold divQ; rw [mul_split]
theorem divR_mul (a b c : Int) : divR (mulH a b) (mulL a b) c = a * b % c := by unfold divR; rw [mul_split]
end Go.Proofs.YtlhbgaiiehljpaaGreat
