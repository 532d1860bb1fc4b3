/-
  partition, partitionEqual exactly: plain.
-/
import Derived.Test.YtjpkodllemoniaaDoorSsC
namespace Go.Proofs.YtjpkodllemoniaaDoor.Sr
open Go.RowKit Go.Deep
set_option linter.unusedVariables false
set_option linter.unusedSimpArgs false
set_option maxHeartbeats 8000000
set_option maxRecDepth 100000
attribute [local go_sem ↓] Go.wp_at_zero Go.wp_at_succ
theorem reg_any3 {P : Program} {id : Nat} {ops : Array Oper} {b : Bool} {Q : Exit → Act → World → Prop} {a : Act} {w : World} (ds : List Nat) (T : (Nat → Value) → World → Prop)
    (h1 : (Code.region id ops b).wp P (fun e a' w' => match e with | .normal => a' = puts a ds (fun d => a'.tmps.getD d undef) ∧ T (fun d => a'.tmps.getD d undef) w' | _ => False) a w)
    (h2 : ∀ t w', T t w' → Q .normal (puts a ds t) w') : (Code.region id ops b).wp P Q a w :=
  wp_mono h1 (fun e a' w' h => by
    cases e with
    | normal => obtain ⟨h3, ht⟩ := h; rw [h3]; exact h2 _ w' ht
    | _ => exact h.elim)
theorem scanUp_go {p : Int → Bool} {d : Array Int} {j i : Nat} (h : i ≤ j) (hp : p d[i]! = true) : Go.Sort.scanUp p d j i = Go.Sort.scanUp p d j (i + 1) := by
  conv => lhs; unfold Go.Sort.scanUp
  rw [if_pos (by simp [h, hp])]
theorem scanUp_no {p : Int → Bool} {d : Array Int} {j i : Nat} (h : ¬ i ≤ j ∨ p d[i]! = false) : Go.Sort.scanUp p d j i = i := by
  unfold Go.Sort.scanUp
  rw [if_neg]
  rcases h with h | h
  · simp [h]
  · rw [h]; simp
theorem scanDown_go {p : Int → Bool} {d : Array Int} {j i : Nat} (h : i ≤ j) (hi : 0 < i) (hp : p d[j]! = true) : Go.Sort.scanDown p d i j = Go.Sort.scanDown p d i (j - 1) := by
  cases j with
  | zero => omega
  | succ k =>
    conv => lhs; unfold Go.Sort.scanDown
    rw [if_pos (by simp [h, hp])]
    rfl
theorem scanDown_no {p : Int → Bool} {d : Array Int} {j i : Nat} (h : ¬ i ≤ j ∨ p d[j]! = false) : Go.Sort.scanDown p d i j = j := by
  cases j with
  | zero => rfl
  | succ k =>
    unfold Go.Sort.scanDown
    rw [if_neg]
    rcases h with h | h
    · simp [h]
    · rw [h]; simp
def ptD (a i j : Nat) (d : Array Int) : Nat × Array Int := if i > Go.Sort.scanDown (fun x => !lt x d[a]!) d i j then (Go.Sort.scanDown (fun x => !lt x d[a]!) d i j, d) else Go.Sort.partLoop lt a (i + 1) (Go.Sort.scanDown (fun x => !lt x d[a]!) d i j - 1) (Go.Sort.swp d i (Go.Sort.scanDown (fun x => !lt x d[a]!) d i j))
def ptE (a i j : Nat) (d : Array Int) : Nat × Array Int := if i > j then (j, d) else Go.Sort.partLoop lt a (i + 1) (j - 1) (Go.Sort.swp d i j)
theorem pt_u {a i j : Nat} {l : List Int} {RR : Nat × Array Int} (h : i ≤ j) (hl : Go.Sort.partLoop lt a i j l.toArray = RR) : (decide (gd l i < gd l a) = true → Go.Sort.partLoop lt a (i + 1) j l.toArray = RR) ∧ (decide (gd l i < gd l a) = false → ptD a i j l.toArray = RR) := by
  rw [Go.Sort.partLoop_eq] at hl
  refine ⟨fun e => ?_, fun e => ?_⟩
  · rw [Go.Sort.partLoop_eq]
    rw [scanUp_go h (by simp only [arr_get]; exact e)] at hl
    exact hl
  · rw [scanUp_no (.inr (by simp only [arr_get]; exact e))] at hl
    exact hl
theorem pt_un {a i j : Nat} {l : List Int} {RR : Nat × Array Int} (h : ¬ i ≤ j) (hl : Go.Sort.partLoop lt a i j l.toArray = RR) : ptD a i j l.toArray = RR := by
  rw [Go.Sort.partLoop_eq] at hl
  rw [scanUp_no (.inl h)] at hl
  exact hl
theorem pt_d {a i j : Nat} {l : List Int} {RR : Nat × Array Int} (h : i ≤ j) (hi : 0 < i) (hl : ptD a i j l.toArray = RR) : ((!decide (gd l j < gd l a)) = true → ptD a i (j - 1) l.toArray = RR) ∧ ((!decide (gd l j < gd l a)) = false → ptE a i j l.toArray = RR) := by
  unfold ptD at hl
  refine ⟨fun e => ?_, fun e => ?_⟩
  · rw [scanDown_go h hi (by simp only [arr_get]; exact e)] at hl
    exact hl
  · rw [scanDown_no (.inr (by simp only [arr_get]; exact e))] at hl
    exact hl
theorem pt_dn {a i j : Nat} {l : List Int} {RR : Nat × Array Int} (h : ¬ i ≤ j) (hl : ptD a i j l.toArray = RR) : ptE a i j l.toArray = RR := by
  unfold ptD at hl
  rw [scanDown_no (.inl h)] at hl
  exact hl
theorem pt_e {a i j : Nat} {l : List Int} {RR : Nat × Array Int} (h : ¬ j < i) (hl : ptE a i j l.toArray = RR) : Go.Sort.partLoop lt a (i + 1) (j - 1) (sw l i j).toArray = RR := by
  unfold ptE at hl
  rw [if_neg h] at hl
  rw [sw_arr]
  exact hl
theorem pt_f {a i j : Nat} {l : List Int} {RR : Nat × Array Int} (h : j < i) (hl : ptE a i j l.toArray = RR) : (j, l.toArray) = RR := by
  unfold ptE at hl
  rw [if_pos h] at hl
  exact hl
def pqD (a i j : Nat) (d : Array Int) : Nat × Array Int := if i > Go.Sort.scanDown (fun x => lt d[a]! x) d i j then (i, d) else Go.Sort.partEqLoop lt a (i + 1) (Go.Sort.scanDown (fun x => lt d[a]! x) d i j - 1) (Go.Sort.swp d i (Go.Sort.scanDown (fun x => lt d[a]! x) d i j))
def pqE (a i j : Nat) (d : Array Int) : Nat × Array Int := if i > j then (i, d) else Go.Sort.partEqLoop lt a (i + 1) (j - 1) (Go.Sort.swp d i j)
theorem pq_u {a i j : Nat} {l : List Int} {RR : Nat × Array Int} (h : i ≤ j) (hl : Go.Sort.partEqLoop lt a i j l.toArray = RR) : ((!decide (gd l a < gd l i)) = true → Go.Sort.partEqLoop lt a (i + 1) j l.toArray = RR) ∧ ((!decide (gd l a < gd l i)) = false → pqD a i j l.toArray = RR) := by
  rw [Go.Sort.partEqLoop_eq] at hl
  refine ⟨fun e => ?_, fun e => ?_⟩
  · rw [Go.Sort.partEqLoop_eq]
    rw [scanUp_go h (by simp only [arr_get]; exact e)] at hl
    exact hl
  · rw [scanUp_no (.inr (by simp only [arr_get]; exact e))] at hl
    exact hl
theorem pq_un {a i j : Nat} {l : List Int} {RR : Nat × Array Int} (h : ¬ i ≤ j) (hl : Go.Sort.partEqLoop lt a i j l.toArray = RR) : pqD a i j l.toArray = RR := by
  rw [Go.Sort.partEqLoop_eq] at hl
  rw [scanUp_no (.inl h)] at hl
  exact hl
theorem pq_d {a i j : Nat} {l : List Int} {RR : Nat × Array Int} (h : i ≤ j) (hi : 0 < i) (hl : pqD a i j l.toArray = RR) : (decide (gd l a < gd l j) = true → pqD a i (j - 1) l.toArray = RR) ∧ (decide (gd l a < gd l j) = false → pqE a i j l.toArray = RR) := by
  unfold pqD at hl
  refine ⟨fun e => ?_, fun e => ?_⟩
  · rw [scanDown_go h hi (by simp only [arr_get]; exact e)] at hl
    exact hl
  · rw [scanDown_no (.inr (by simp only [arr_get]; exact e))] at hl
    exact hl
theorem pq_dn {a i j : Nat} {l : List Int} {RR : Nat × Array Int} (h : ¬ i ≤ j) (hl : pqD a i j l.toArray = RR) : pqE a i j l.toArray = RR := by
  unfold pqD at hl
  rw [scanDown_no (.inl h)] at hl
  exact hl
theorem pq_e {a i j : Nat} {l : List Int} {RR : Nat × Array Int} (h : ¬ j < i) (hl : pqE a i j l.toArray = RR) : Go.Sort.partEqLoop lt a (i + 1) (j - 1) (sw l i j).toArray = RR := by
  unfold pqE at hl
  rw [if_neg h] at hl
  rw [sw_arr]
  exact hl
theorem pq_f {a i j : Nat} {l : List Int} {RR : Nat × Array Int} (h : j < i) (hl : pqE a i j l.toArray = RR) : (i, l.toArray) = RR := by
  unfold pqE at hl
  rw [if_pos h] at hl
  exact hl
end Go.Proofs.YtjpkodllemoniaaDoor.Sr
