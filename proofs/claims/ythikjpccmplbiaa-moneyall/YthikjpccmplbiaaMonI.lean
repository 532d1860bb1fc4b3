/-
  The program's Portion of any amount, its contract.
-/
import Derived.Test.YthikjpccmplbiaaMonH
namespace Go.Proofs.Ythikjpccmplbiaa
open Go.RowKit Go.Deep BigM MonM
set_option linter.unusedVariables false
theorem blw {P : Program} {fn : Nat} {args : Array Value} {w : World} {v : Value} (h : Calls P fn args w fun e w' => e = .returned v ∧ w' = w) : Calls P fn args w fun e w' => e = .returned v ∧ Below w.heap.size w w' :=
  h.mono (fun e w' ⟨h1, h2⟩ => ⟨h1, by rw [h2]; exact Below.refl _ _⟩)
theorem portion_any (m a b round : Int) (w : World) (hm : Amt m) (a0 : 0 ≤ a) (a1 : a < 4294967296) (b0' : 0 ≤ b) (b1 : b < 4294967296) :
    Calls Try.prog 28 #[mv m, .int .u32 a, .int .u32 b, .int .i64 round] w fun e w' => e = .returned (.tuple #[mv (pV m a b round), .int .i64 (pE m a b round)]) ∧ Below w.heap.size w w' := by
  by_cases ho : round = 0 ∨ round = 1 ∨ round = 2
  · have ho' : ¬ ¬ (round = 0 ∨ round = 1 ∨ round = 2) := fun h => h ho
    by_cases hb : b = 0
    · have e1 : pE m a b round = 11 := by unfold pE; rw [if_neg ho', if_pos hb]
      have e2 : pV m a b round = 0 := by unfold pV; rw [if_neg ho', if_pos hb]
      rw [e1, e2]
      subst hb
      exact portion_why _ _ a 0 round 11 w rfl (by decide) (by decide) (fun w => divisible_zero round w ho)
    · have hbp : 0 < b := by omega
      have hab := Dm.abs_lim hm
      have D := fun w => divisible_ok b round w ho (by simp [hb])
      have S := fun w => msize_any m w hm
      have C := fun w => scaled_any (absI m) a b w hab.2 hab.1 a0 a1 hbp b1
      have hx0 : 0 ≤ absI m * a := Int.mul_nonneg hab.2 a0
      have hq0 : 0 ≤ absI m * a / b := Int.ediv_nonneg hx0 (by omega)
      have hr0 := Int.emod_nonneg (absI m * a) (show b ≠ 0 by omega)
      have hr1 := Int.emod_lt_of_pos (absI m * a) hbp
      have hu2 := upB_lo (absI m * a / b) (absI m * a % b) b round
      have eX : pX m a b round = absI m * a / b + b2i (upB (absI m * a / b) (absI m * a % b) b round) := rfl
      have eE : pE m a b round = if pX m a b round ≤ 170141183460469231731687303715884105727 then 0 else 10 := by unfold pE; rw [if_neg ho', if_neg hb]
      have eV : pV m a b round = if pX m a b round ≤ 170141183460469231731687303715884105727 then (if m < 0 then -(pX m a b round) else pX m a b round) else 0 := by unfold pV; rw [if_neg ho', if_neg hb]
      have G0 := fun w (hw : Word (loW (absI m * a / b))) => goesUp_any (loW (absI m * a / b)) (absI m * a % b) b round w ho hw hr0 hr1 (by omega)
      rw [hu2] at G0
      have lq := loW_word (absI m * a / b)
      have G := fun w => G0 w lq
      generalize absI m * a / b = q at *
      generalize absI m * a % b = r at *
      generalize upB q r b round = up at *
      clear hu2 G0
      have N := fun w => sign_any m w hm
      by_cases hq : q ≤ 170141183460469231731687303715884105727
      · have C' : ∀ w : World, Calls Try.prog 48 #[mv (absI m), .int .u64 a, .int .u64 b] w fun e w' => e = .returned (.tuple #[mv q, .int .u64 r, .bool true]) ∧ Below w.heap.size w w' := fun w => (C w).mono (fun e w' ⟨h, hb⟩ => ⟨by
          rcases h with h | h
          · exact h.2
          · omega, hb⟩)
        have C1 := fun w => cents_any 1 w (by decide) (by decide)
        cases up with
        | true =>
          have e1 : pX m a b round = q + 1 := by rw [eX]; simp [b2i]
          rw [e1] at eE eV
          have A := fun w => madd_any q 1 w (by unfold Amt; omega) (by unfold Amt; omega)
          by_cases hf : q + 1 ≤ 170141183460469231731687303715884105727
          · rw [if_pos hf] at eE eV
            rw [eE, eV]
            have e2 : maddV q 1 = q + 1 := if_pos ⟨by omega, hf⟩
            have e3 : maddE q 1 = 0 := if_pos ⟨by omega, hf⟩
            rw [e2, e3] at A
            by_cases hs : m < 0
            · rw [if_pos hs]
              have hs2 : decide (Go.Proofs.Ythikjpccmplbiaa.sgn m < 0) = true := by rw [decide_eq_true_iff]; unfold Go.Proofs.Ythikjpccmplbiaa.sgn; rw [if_pos hs]; decide
              exact portion_upn _ _ a b round _ _ _ _ r _ _ 0 _ _ _ w b0' b1 a0 a1 hs2 (fun w => blw (D w)) S C' (fun w => blw (G w)) N C1 A (fun w => neg_any (q + 1) w)
            · rw [if_neg hs]
              have hs2 : decide (Go.Proofs.Ythikjpccmplbiaa.sgn m < 0) = false := by rw [decide_eq_false_iff_not]; unfold Go.Proofs.Ythikjpccmplbiaa.sgn; rw [if_neg hs]; split <;> decide
              exact portion_up _ _ a b round _ _ _ _ r _ _ 0 _ _ _ w b0' b1 a0 a1 hs2 (fun w => blw (D w)) S C' (fun w => blw (G w)) N C1 A (fun w => neg_any (q + 1) w)
          · rw [if_neg hf] at eE eV
            rw [eE, eV]
            have e3 : maddE q 1 = 10 := if_neg (fun h => hf h.2)
            rw [e3] at A
            exact portion_over _ _ a b round _ _ _ _ r _ _ 10 _ _ _ w b0' b1 a0 a1 rfl (fun w => blw (D w)) S C' (fun w => blw (G w)) N C1 A (fun w => neg_any (maddV q 1) w)
        | false =>
          have e1 : pX m a b round = q := by rw [eX]; simp [b2i]
          rw [e1] at eE eV
          rw [if_pos hq] at eE eV
          rw [eE, eV]
          have A := fun w => madd_any q 1 w (by unfold Amt; omega) (by unfold Amt; omega)
          by_cases hs : m < 0
          · rw [if_pos hs]
            have hs2 : decide (Go.Proofs.Ythikjpccmplbiaa.sgn m < 0) = true := by rw [decide_eq_true_iff]; unfold Go.Proofs.Ythikjpccmplbiaa.sgn; rw [if_pos hs]; decide
            exact portion_down _ _ a b round _ _ _ _ r 0 0 0 _ _ _ w b0' b1 a0 a1 hs2 (fun w => blw (D w)) S C' (fun w => blw (G w)) N (fun w => neg_any q w)
          · rw [if_neg hs]
            have hs2 : 0 ≤ Go.Proofs.Ythikjpccmplbiaa.sgn m := by unfold Go.Proofs.Ythikjpccmplbiaa.sgn; rw [if_neg hs]; split <;> decide
            exact portion_plain _ _ a b round _ _ _ _ r _ w b0' b1 a0 a1 hs2 D S C' G N
      · have hXq : ¬ pX m a b round ≤ 170141183460469231731687303715884105727 := by rw [eX]; have := (b2i_bounds up).1; omega
        rw [if_neg hXq] at eE eV
        rw [eE, eV]
        refine portion_not _ _ a b round _ _ w b0' b1 a0 a1 D S (fun w => (C w).mono (fun e w' ⟨h, hb⟩ => ⟨?_, hb⟩))
        rcases h with h | h
        · omega
        · exact h.2
  · have e1 : pE m a b round = 1 := by unfold pE; rw [if_pos ho]
    have e2 : pV m a b round = 0 := by unfold pV; rw [if_pos ho]
    rw [e1, e2]
    exact portion_why _ _ a b round 1 w rfl b0' b1 (fun w => divisible_arg b round w ho)
end Go.Proofs.Ythikjpccmplbiaa
