/-
  Messages that can be; their frames.
-/
import Derived.Test.YtiphgfghdbmlcaaFeB
namespace Go.Proofs.Ytiphgfghdbmlcaa
open Go.RowKit Go.Deep
set_option linter.unusedVariables false
set_option linter.unusedSimpArgs false
set_option maxHeartbeats 1000000
set_option maxRecDepth 100000
theorem message_any (d : Dm) (w : World) : Calls Try.prog 31 #[.agg #[.int .u64 d.sq, .int .i64 d.kd, .int .i64 d.sd, .int .i64 d.pr, .int .u64 d.qt, .int .i64 d.ct]] w fun e w' => e = .returned (.bool (dOk d)) ∧ Below w.heap.size w w' := by
  have T := hid (fun U => rtick_any d.pr U)
  by_cases h1 : d.sq < 1
  · have e : dOk d = false := by simp only [dOk, decide_eq_false_iff_not]; omega
    rw [e]
    go_enter Try.func31, Try.ntmps31
    go_wp2
    go_ret
    exact ⟨rfl, ball _ _⟩
  by_cases h2 : ¬ (d.sd = 1 ∨ d.sd = 2)
  · have e : dOk d = false := by simp only [dOk, decide_eq_false_iff_not]; omega
    have q1 : (d.sd != 1) = true := by simp; omega
    have q2 : (d.sd != 2) = true := by simp; omega
    have g1 : decide (d.sq < 1) = false := by simpa using h1
    rw [e]
    clear h2 e h1
    go_enter Try.func31, Try.ntmps31
    go_wp2
    go_ret
    exact ⟨rfl, ball _ _⟩
  have h2' : d.sd = 1 ∨ d.sd = 2 := Decidable.not_not.1 h2
  clear h2
  have q12 : ((d.sd != 1) = false) ∨ ((d.sd != 1) = true ∧ (d.sd != 2) = false) := by
    rcases h2' with h | h
    · left; simp [h]
    · right; simp [h]
  have g1 : decide (d.sq < 1) = false := by simpa using h1
  by_cases h3 : ¬ (0 ≤ d.pr ∧ d.pr < 262144)
  · have e : dOk d = false := by simp only [dOk, decide_eq_false_iff_not]; omega
    have t : tk d.pr = false := by simp only [tk, decide_eq_false_iff_not]; exact h3
    rw [t] at T
    rw [e]
    clear h3 e h1 h2' t
    rcases q12 with q1 | ⟨q1, q2⟩
    all_goals
      go_enter Try.func31, Try.ntmps31
      go_wp2_with (go_at_call 52; with_reducible refine (T.out _).mono ?_; rintro e w1 ⟨rfl, rfl⟩)
      go_ret
      exact ⟨rfl, ball _ _⟩
  have h3' := Decidable.not_not.1 h3
  have t : tk d.pr = true := by simp only [tk, decide_eq_true_eq]; exact h3'
  rw [t] at T
  clear h3 t
  by_cases k1 : d.kd = 1
  · have E := hid (show dOk d = ((decide (1 ≤ d.qt) && decide (1 ≤ d.ct)) || ((d.qt == 0) && (d.ct == 0))) by
      rw [Bool.eq_iff_iff]; simp only [dOk, Bool.or_eq_true, Bool.and_eq_true, decide_eq_true_eq, beq_iff_eq]; omega)
    have c1 : (d.kd == 1) = true := by simpa using k1
    have c2 : (d.kd == 2) = false := by simp; omega
    clear k1 h3' h1 h2'
    cases g2 : decide (1 ≤ d.qt) <;> cases g3 : decide (1 ≤ d.ct) <;> cases g4 : (d.qt == 0) <;> cases g5 : (d.ct == 0)
    all_goals
      rw [g2, g3, g4, g5] at E
      rcases q12 with q1 | ⟨q1, q2⟩
    all_goals
      go_enter Try.func31, Try.ntmps31
      go_wp2_with (go_at_call 52; with_reducible refine (T.out _).mono ?_; rintro e w1 ⟨rfl, rfl⟩)
      go_ret
      exact ⟨by rw [E.out]; rfl, ball _ _⟩
  · have c1 : (d.kd == 1) = false := by simpa using k1
    by_cases k2 : d.kd = 2
    · have E := hid (show dOk d = (decide (1 ≤ d.qt) && (d.ct == 0)) by
        rw [Bool.eq_iff_iff]; simp only [dOk, Bool.or_eq_true, Bool.and_eq_true, decide_eq_true_eq, beq_iff_eq]; omega)
      have c2 : (d.kd == 2) = true := by simpa using k2
      clear k1 k2 h3' h1 h2'
      cases g2 : decide (1 ≤ d.qt) <;> cases g3 : (d.ct == 0)
      all_goals
        rw [g2, g3] at E
        rcases q12 with q1 | ⟨q1, q2⟩
      all_goals
        go_enter Try.func31, Try.ntmps31
        go_wp2_with (go_at_call 52; with_reducible refine (T.out _).mono ?_; rintro e w1 ⟨rfl, rfl⟩)
        go_ret
        exact ⟨by rw [E.out]; rfl, ball _ _⟩
    · have E := hid (show dOk d = false by simp only [dOk, decide_eq_false_iff_not]; omega)
      have c2 : (d.kd == 2) = false := by simpa using k2
      clear k1 k2 h3' h1 h2'
      rcases q12 with q1 | ⟨q1, q2⟩
      all_goals
        go_enter Try.func31, Try.ntmps31
        go_wp2_with (go_at_call 52; with_reducible refine (T.out _).mono ?_; rintro e w1 ⟨rfl, rfl⟩)
        go_ret
        exact ⟨by rw [E.out]; rfl, ball _ _⟩
theorem dOk_iff (d : Dm) : dOk d = true ↔ (1 ≤ d.sq ∧ (d.sd = 1 ∨ d.sd = 2) ∧ (0 ≤ d.pr ∧ d.pr < 262144) ∧ ((d.kd = 1 ∧ ((d.qt = 0 ∧ d.ct = 0) ∨ (1 ≤ d.qt ∧ 1 ≤ d.ct))) ∨ (d.kd = 2 ∧ 1 ≤ d.qt ∧ d.ct = 0))) := by simp only [dOk, decide_eq_true_eq]
end Go.Proofs.Ytiphgfghdbmlcaa
