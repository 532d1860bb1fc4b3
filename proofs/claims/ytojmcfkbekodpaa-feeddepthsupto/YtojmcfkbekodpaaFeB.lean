/-
  The small calls.
-/
import Derived.Test.YtojmcfkbekodpaaKj
namespace Go.Proofs.Ytojmcfkbekodpaa.Fd
open Go.RowKit Go.Deep
set_option linter.unusedVariables false
set_option linter.unusedSimpArgs false
set_option maxHeartbeats 1000000
set_option maxRecDepth 100000
theorem isTick_any (p : Int) (w : World) : Calls Try.prog 64 #[.int .i64 p] w fun e w' => e = .returned (.bool (tk p)) ∧ w' = w := by
  by_cases h1 : 0 ≤ p
  · go_enter Try.func64, Try.ntmps64
    go_wp2
    go_ret
    exact ⟨by simp [tk, h1], rfl⟩
  · have hf : tk p = false := by simp only [tk, decide_eq_false_iff_not]; omega
    rw [hf]
    go_enter Try.func64, Try.ntmps64
    go_wp2
    go_ret
    exact ⟨rfl, rfl⟩
theorem worse_any (s p q : Int) (w : World) : Calls Try.prog 83 #[.int .i64 s, .int .i64 p, .int .i64 q] w fun e w' => e = .returned (.bool (bt s q p)) ∧ w' = w := by
  by_cases h1 : s = 1
  · subst h1
    go_enter Try.func83, Try.ntmps83
    go_wp2
    go_ret
    exact ⟨by simp [bt], rfl⟩
  · have h2 : (s == 1) = false := by simpa using h1
    rw [bt_not h1]
    clear h1
    go_enter Try.func83, Try.ntmps83
    go_wp2
    go_ret
    exact ⟨by simp, rfl⟩
/-- a level's message says that it is shown no more. -/
def dgn (d : Dm) : Bool := decide (d.qt = 0 ∧ d.ct = 0)
theorem isGone_any (d : Dm) (w : World) : Calls Try.prog 65 #[.agg #[.int .u64 d.sq, .int .i64 d.kd, .int .i64 d.sd, .int .i64 d.pr, .int .u64 d.qt, .int .i64 d.ct]] w fun e w' => e = .returned (.bool (dgn d)) ∧ Below w.heap.size w w' := by
  by_cases h1 : d.qt = 0
  · have q1 : (d.qt == 0) = true := by simpa using h1
    have H := hid (show dgn d = (d.ct == 0) by simp [dgn, h1]; rfl)
    clear h1
    go_enter Try.func65, Try.ntmps65
    go_wp2
    go_ret
    exact ⟨by rw [H.out]; rfl, ball _ _⟩
  · have q1 : (d.qt == 0) = false := by simpa using h1
    have H := hid (show dgn d = false by simp [dgn, h1])
    clear h1
    go_enter Try.func65, Try.ntmps65
    go_wp2
    go_ret
    exact ⟨by rw [H.out]; rfl, ball _ _⟩
/-- a message can be. -/
def dOk (d : Dm) : Bool := decide (1 ≤ d.sq ∧ (d.sd = 1 ∨ d.sd = 2) ∧ (0 ≤ d.pr ∧ d.pr < 262144) ∧ ((d.kd = 1 ∧ ((d.qt = 0 ∧ d.ct = 0) ∨ (1 ≤ d.qt ∧ 1 ≤ d.ct))) ∨ (d.kd = 2 ∧ 1 ≤ d.qt ∧ d.ct = 0)))
theorem canBe_any (d : Dm) (w : World) : Calls Try.prog 39 #[.agg #[.int .u64 d.sq, .int .i64 d.kd, .int .i64 d.sd, .int .i64 d.pr, .int .u64 d.qt, .int .i64 d.ct]] w fun e w' => e = .returned (.bool (dOk d)) ∧ Below w.heap.size w w' := by
  have T := hid (fun U => isTick_any d.pr U)
  have G := hid (fun U => isGone_any d U)
  by_cases h1 : d.sq < 1
  · have e : dOk d = false := by simp only [dOk, decide_eq_false_iff_not]; omega
    rw [e]
    go_enter Try.func39, Try.ntmps39
    go_wp2
    go_ret
    exact ⟨rfl, ball _ _⟩
  by_cases h2 : ¬ (d.sd = 1 ∨ d.sd = 2)
  · have e : dOk d = false := by simp only [dOk, decide_eq_false_iff_not]; omega
    have q1 : (d.sd != 1) = true := by simp; omega
    have q2 : (d.sd != 2) = true := by simp; omega
    have g1 : decide (d.sq < 1) = false := by simpa using h1
    rw [e]
    clear h2 e h1
    go_enter Try.func39, Try.ntmps39
    go_wp2
    go_ret
    exact ⟨rfl, ball _ _⟩
  have h2' : d.sd = 1 ∨ d.sd = 2 := Decidable.not_not.1 h2
  clear h2
  have q12 : ((d.sd != 1) = false) ∨ ((d.sd != 1) = true ∧ (d.sd != 2) = false) := by
    rcases h2' with h | h
    · left; simp [h]
    · right; simp [h]
  have g1 : decide (d.sq < 1) = false := by simpa using h1
  by_cases h3 : ¬ (0 ≤ d.pr ∧ d.pr < 262144)
  · have e : dOk d = false := by simp only [dOk, decide_eq_false_iff_not]; omega
    have t : tk d.pr = false := by simp only [tk, decide_eq_false_iff_not]; exact h3
    rw [t] at T
    rw [e]
    clear h3 e h1 h2' t
    rcases q12 with q1 | ⟨q1, q2⟩
    all_goals
      go_enter Try.func39, Try.ntmps39
      go_wp2_with (go_at_call 64; with_reducible refine (T.out _).mono ?_; rintro e w1 ⟨rfl, rfl⟩)
      go_ret
      exact ⟨rfl, ball _ _⟩
  have h3' := Decidable.not_not.1 h3
  have t : tk d.pr = true := by simp only [tk, decide_eq_true_eq]; exact h3'
  rw [t] at T
  clear h3 t
  by_cases k1 : d.kd = 1
  · have E := hid (show dOk d = (dgn d || (decide (1 ≤ d.qt) && decide (1 ≤ d.ct))) by
      rw [Bool.eq_iff_iff]; simp only [dOk, dgn, Bool.or_eq_true, Bool.and_eq_true, decide_eq_true_eq]; omega)
    have c1 : (d.kd == 1) = true := by simpa using k1
    obtain ⟨W0, hW0⟩ : ∃ W0 : World, W0 = w.alloc (.cells #[.int .u64 d.sq, .int .i64 d.kd, .int .i64 d.sd, .int .i64 d.pr, .int .u64 d.qt, .int .i64 d.ct] 47) := ⟨_, rfl⟩
    have HW := hid hW0
    clear hW0 k1 h3' h1 h2'
    by_cases g : dgn d = true
    · rw [g] at G E
      rcases q12 with q1 | ⟨q1, q2⟩
      all_goals
        go_enter Try.func39, Try.ntmps39
        go_wp2_with (first | (go_at_call 64; with_reducible refine (T.out _).mono ?_; rintro e w1 ⟨rfl, rfl⟩) | (go_at_call 65; with_reducible refine (G.out _).mono ?_; rintro e w1 ⟨rfl, hb⟩; have HB := hid hb; clear hb))
        go_ret
        exact ⟨by rw [E.out]; rfl, btr (ball _ _) HB.out⟩
    · have g' : dgn d = false := by simpa using g
      rw [g'] at G E
      clear g
      by_cases g2 : 1 ≤ d.qt
      · have E2 := hid (show dOk d = decide (1 ≤ d.ct) by rw [E.out]; simp [g2])
        rcases q12 with q1 | ⟨q1, q2⟩
        all_goals
          go_enter Try.func39, Try.ntmps39
          go_wp2_with (first | (go_at_call 64; with_reducible refine (T.out _).mono ?_; rintro e w1 ⟨rfl, rfl⟩) | (go_at_call 65; with_reducible refine (G.out _).mono ?_; rintro e w1 ⟨rfl, hb⟩; obtain ⟨cc, cf⟩ := bcell hb; have HB := hid hb; clear hb))
          go_ret
          exact ⟨by rw [E2.out]; rfl, btr (ball _ _) HB.out⟩
      · have E2 := hid (show dOk d = false by rw [E.out]; simp [g2])
        have g2' : decide (1 ≤ d.qt) = false := by simpa using g2
        rcases q12 with q1 | ⟨q1, q2⟩
        all_goals
          go_enter Try.func39, Try.ntmps39
          go_wp2_with (first | (go_at_call 64; with_reducible refine (T.out _).mono ?_; rintro e w1 ⟨rfl, rfl⟩) | (go_at_call 65; with_reducible refine (G.out _).mono ?_; rintro e w1 ⟨rfl, hb⟩; obtain ⟨cc, cf⟩ := bcell hb; have HB := hid hb; clear hb))
          go_ret
          exact ⟨by rw [E2.out]; rfl, btr (ball _ _) HB.out⟩
  · have c1 : (d.kd == 1) = false := by simpa using k1
    by_cases k2 : d.kd = 2
    · have E := hid (show dOk d = (decide (1 ≤ d.qt) && (d.ct == 0)) by
        rw [Bool.eq_iff_iff]; simp only [dOk, Bool.or_eq_true, Bool.and_eq_true, decide_eq_true_eq, beq_iff_eq]; omega)
      have c2 : (d.kd == 2) = true := by simpa using k2
      clear k1 k2 h3' h1 h2'
      by_cases g2 : 1 ≤ d.qt
      · have E2 := hid (show dOk d = (d.ct == 0) by rw [E.out]; simp [g2])
        rcases q12 with q1 | ⟨q1, q2⟩
        all_goals
          go_enter Try.func39, Try.ntmps39
          go_wp2_with (go_at_call 64; with_reducible refine (T.out _).mono ?_; rintro e w1 ⟨rfl, rfl⟩)
          go_ret
          exact ⟨by rw [E2.out]; rfl, ball _ _⟩
      · have E2 := hid (show dOk d = false by rw [E.out]; simp [g2])
        have g2' : decide (1 ≤ d.qt) = false := by simpa using g2
        rcases q12 with q1 | ⟨q1, q2⟩
        all_goals
          go_enter Try.func39, Try.ntmps39
          go_wp2_with (go_at_call 64; with_reducible refine (T.out _).mono ?_; rintro e w1 ⟨rfl, rfl⟩)
          go_ret
          exact ⟨by rw [E2.out]; rfl, ball _ _⟩
    · have E := hid (show dOk d = false by simp only [dOk, decide_eq_false_iff_not]; omega)
      have c2 : (d.kd == 2) = false := by simpa using k2
      clear k1 k2 h3' h1 h2'
      rcases q12 with q1 | ⟨q1, q2⟩
      all_goals
        go_enter Try.func39, Try.ntmps39
        go_wp2_with (go_at_call 64; with_reducible refine (T.out _).mono ?_; rintro e w1 ⟨rfl, rfl⟩)
        go_ret
        exact ⟨by rw [E.out]; rfl, ball _ _⟩
end Go.Proofs.Ytojmcfkbekodpaa.Fd
