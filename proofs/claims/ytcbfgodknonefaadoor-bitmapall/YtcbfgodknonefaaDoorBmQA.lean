/-
  BitmapNear: what stands ahead of its walk.
-/
import Derived.Test.YtcbfgodknonefaaDoorBmP
namespace Go.Proofs.YtcbfgodknonefaaDoor
open Go.RowKit Go.Deep Bt
set_option linter.unusedVariables false
set_option maxRecDepth 100000
set_option maxHeartbeats 2000000

theorem abv_ex (S : Nat → Bool) (t : Int) : ∃ r, Abv S t r := by
  by_cases h : ∃ x : Nat, x < 262144 ∧ t ≤ x ∧ S x = true
  · obtain ⟨x, h1, h2, h3⟩ := h
    obtain ⟨j, hj, hm⟩ := least_bit (fun x => decide (x < 262144) && decide (t ≤ (x : Int)) && S x) x (by simp [h1, h2, h3])
    simp only [Bool.and_eq_true, decide_eq_true_eq] at hj
    refine ⟨some j, hj.1.1, hj.2, hj.1.2, fun y hy hlt => ?_⟩
    have := hm y hlt
    have e : y < 262144 := by omega
    simpa [hy, e] using this
  · refine ⟨none, fun x h1 h2 => ?_⟩
    cases hS : S x with
    | false => rfl
    | true => exact absurd ⟨x, h2, h1, hS⟩ h
theorem blw_ex (S : Nat → Bool) (t : Int) : ∃ r, Blw S t r := by
  by_cases h : ∃ x : Nat, x < 262144 ∧ (x : Int) ≤ t ∧ S x = true
  · obtain ⟨x, h1, h2, h3⟩ := h
    obtain ⟨j, hj, hm⟩ := least_bit (fun i => decide (i < 262144) && decide (((262143 - i : Nat) : Int) ≤ t) && S (262143 - i)) (262143 - x) (by
      have e : 262143 - (262143 - x) = x := by omega
      have e2 : 262143 - x < 262144 := by omega
      rw [e]; simp only [e2, h2, h3, decide_true, Bool.and_self])
    simp only [Bool.and_eq_true, decide_eq_true_eq] at hj
    refine ⟨some (262143 - j), by omega, hj.2, hj.1.2, fun y hy hle hlt => ?_⟩
    have := hm (262143 - y) (by omega)
    rw [show 262143 - (262143 - y) = y by omega] at this
    have e : 262143 - y < 262144 := by omega
    simpa [hle, e] using this
  · refine ⟨none, fun x h1 h2 => ?_⟩
    cases hS : S x with
    | false => rfl
    | true => exact absurd ⟨x, h2, h1, hS⟩ h
theorem above_at (b : Nat) (S : Nat → Bool) (t : Int) (r : Option Nat) (hr : Abv S t r) (w : World) (hB : Bm w b S) (hL : Laid w) :
    Calls Tryd.prog 24 #[.pointer (some ⟨b, 0, none⟩), .int .i64 t] w fun e w' => e = .returned (.tuple #[.int .i64 ((r.getD 0 : Nat) : Int), .bool r.isSome]) ∧ w' = w :=
  (above_any b S t w hB hL).mono (fun e w' ⟨r', h1, h2, h3⟩ => by rw [hr.one h2]; exact ⟨h1, h3⟩)
theorem below_at (b : Nat) (S : Nat → Bool) (t : Int) (r : Option Nat) (hr : Blw S t r) (w : World) (hB : Bm w b S) :
    Calls Tryd.prog 25 #[.pointer (some ⟨b, 0, none⟩), .int .i64 t] w fun e w' => e = .returned (.tuple #[.int .i64 ((r.getD 0 : Nat) : Int), .bool r.isSome]) ∧ w' = w :=
  (below_any b S t w hB).mono (fun e w' ⟨r', h1, h2, h3⟩ => by rw [hr.one h2]; exact ⟨h1, h3⟩)
theorem insI_keep {S : Nat → Bool} {n : Nat} (h : S n = true) (x : Int) : insI S x n = true := by
  unfold insI; split
  · unfold ins; simp [h]
  · exact h
theorem foldl_keep (xs : List Int) (S : Nat → Bool) (n : Nat) (h : S n = true) : xs.foldl insI S n = true := by
  induction xs generalizing S with
  | nil => exact h
  | cons x xs ih => exact ih _ (insI_keep h x)
theorem foldl_mem (xs : List Int) (S : Nat → Bool) (n : Nat) (h : (n : Int) ∈ xs) (hn : n < 262144) : xs.foldl insI S n = true := by
  induction xs generalizing S with
  | nil => cases h
  | cons x xs ih =>
    rw [List.foldl_cons]
    rcases List.mem_cons.1 h with e | e
    · refine foldl_keep _ _ _ ?_
      subst e
      unfold insI
      rw [if_pos (by omega), Int.toNat_natCast]
      unfold ins; simp
    · exact ih _ e
theorem fill_mem (xs : List Int) (n : Nat) (h : (n : Int) ∈ xs) (hn : n < 262144) : fill xs n = true := foldl_mem xs emp n h hn
end Go.Proofs.YtcbfgodknonefaaDoor
