/-
  partialInsertionSort exactly: plain.
-/
import Derived.Test.YtjpkodllemoniaaDoorSsD
namespace Go.Proofs.YtjpkodllemoniaaDoor.Sr
open Go.RowKit Go.Deep
set_option linter.unusedVariables false
set_option linter.unusedSimpArgs false
set_option maxHeartbeats 8000000
set_option maxRecDepth 100000
attribute [local go_sem ↓] Go.wp_at_zero Go.wp_at_succ
def siD (a b s i : Nat) (d : Array Int) : Array Int × Bool := Go.Sort.partialIns lt a b s i (if b - i ≥ 2 then Go.Sort.shiftUp lt b (i + 1) d else d)
def siC (a b s i : Nat) (d : Array Int) : Array Int × Bool := siD a b s i (if i - a ≥ 2 then Go.Sort.shiftDown lt (i - 1) d else d)
def siB (a b s i : Nat) (d : Array Int) : Array Int × Bool := if i = b then (d, true) else if b - a < 50 then (d, false) else siC a b s i (Go.Sort.swp d i (i - 1))
theorem si_eq (a b s i : Nat) (d : Array Int) : Go.Sort.partialIns lt a b (s + 1) i d = siB a b s (Go.Sort.scanSorted lt d b i) d := rfl
theorem sc_u {a b s i k : Nat} {l : List Int} {RR : Array Int × Bool} (hk : i = k + 1) (h : i < b) (hl : siB a b s (Go.Sort.scanSorted lt l.toArray b i) l.toArray = RR) : ((!decide (gd l i < gd l k)) = true → siB a b s (Go.Sort.scanSorted lt l.toArray b (i + 1)) l.toArray = RR) ∧ ((!decide (gd l i < gd l k)) = false → siB a b s i l.toArray = RR) := by
  subst hk
  refine ⟨fun e => ?_, fun e => ?_⟩
  · have e1 : Go.Sort.scanSorted lt l.toArray b (k + 1) = Go.Sort.scanSorted lt l.toArray b (k + 1 + 1) := by
      conv => lhs; unfold Go.Sort.scanSorted
      rw [if_pos]
      simp only [arr_get, Nat.add_sub_cancel, lt_def, e, Bool.and_true, decide_eq_true_eq]; exact h
    rw [e1] at hl; exact hl
  · have e1 : Go.Sort.scanSorted lt l.toArray b (k + 1) = k + 1 := by
      unfold Go.Sort.scanSorted
      rw [if_neg]
      simp only [arr_get, Nat.add_sub_cancel, lt_def, e, Bool.and_false]; simp
    rw [e1] at hl; exact hl
theorem sc_un {a b s i : Nat} {l : List Int} {RR : Array Int × Bool} (h : ¬ i < b) (hl : siB a b s (Go.Sort.scanSorted lt l.toArray b i) l.toArray = RR) : siB a b s i l.toArray = RR := by
  have e1 : Go.Sort.scanSorted lt l.toArray b i = i := by
    unfold Go.Sort.scanSorted
    rw [if_neg]
    simp [h]
  rw [e1] at hl; exact hl
theorem sb_t {a b s i : Nat} {d : Array Int} {RR : Array Int × Bool} (h : i = b) (hl : siB a b s i d = RR) : (d, true) = RR := by
  unfold siB at hl; rw [if_pos h] at hl; exact hl
theorem sb_f {a b s i : Nat} {d : Array Int} {RR : Array Int × Bool} (h : ¬ i = b) (h2 : b - a < 50) (hl : siB a b s i d = RR) : (d, false) = RR := by
  unfold siB at hl; rw [if_neg h, if_pos h2] at hl; exact hl
theorem sb_c {a b s i q : Nat} {l : List Int} {RR : Array Int × Bool} (hq : i = q + 1) (h : ¬ i = b) (h2 : ¬ b - a < 50) (hl : siB a b s i l.toArray = RR) : siC a b s i (sw l i q).toArray = RR := by
  unfold siB at hl; rw [if_neg h, if_neg h2] at hl
  rw [sw_arr]
  subst hq
  exact hl
theorem sc_d {a b s i q : Nat} {d : Array Int} {RR : Array Int × Bool} (hq : i = q + 1) (h : i - a ≥ 2) (hl : siC a b s i d = RR) : siD a b s i (Go.Sort.shiftDown lt q d) = RR := by
  unfold siC at hl; rw [if_pos h] at hl
  subst hq
  exact hl
theorem sc_n {a b s i : Nat} {d : Array Int} {RR : Array Int × Bool} (h : ¬ i - a ≥ 2) (hl : siC a b s i d = RR) : siD a b s i d = RR := by
  unfold siC at hl; rw [if_neg h] at hl; exact hl
theorem sd_u {a b s i : Nat} {d : Array Int} {RR : Array Int × Bool} (h : b - i ≥ 2) (hl : siD a b s i d = RR) : Go.Sort.partialIns lt a b s i (Go.Sort.shiftUp lt b (i + 1) d) = RR := by
  unfold siD at hl; rw [if_pos h] at hl; exact hl
theorem sd_n {a b s i : Nat} {d : Array Int} {RR : Array Int × Bool} (h : ¬ b - i ≥ 2) (hl : siD a b s i d = RR) : Go.Sort.partialIns lt a b s i d = RR := by
  unfold siD at hl; rw [if_neg h] at hl; exact hl
theorem dn_go {j k : Nat} {l : List Int} (hk : j = k + 1) (G : Array Int → Prop) (hl : G (Go.Sort.shiftDown lt j l.toArray)) : ((!decide (gd l j < gd l k)) = true → G l.toArray) ∧ ((!decide (gd l j < gd l k)) = false → G (Go.Sort.shiftDown lt k (sw l j k).toArray)) := by
  subst hk
  unfold Go.Sort.shiftDown at hl
  simp only [arr_get, lt_def] at hl
  refine ⟨fun e => ?_, fun e => ?_⟩
  · rw [if_pos e] at hl; exact hl
  · rw [if_neg (by rw [e]; decide)] at hl
    rw [sw_arr]; exact hl
theorem up_go {b j k : Nat} {l : List Int} (hk : j = k + 1) (h : j < b) (G : Array Int → Prop) (hl : G (Go.Sort.shiftUp lt b j l.toArray)) : ((!decide (gd l j < gd l k)) = true → G l.toArray) ∧ ((!decide (gd l j < gd l k)) = false → G (Go.Sort.shiftUp lt b (j + 1) (sw l j k).toArray)) := by
  subst hk
  unfold Go.Sort.shiftUp at hl
  rw [if_pos h] at hl
  simp only [arr_get, lt_def, Nat.add_sub_cancel] at hl
  refine ⟨fun e => ?_, fun e => ?_⟩
  · rw [if_pos e] at hl; exact hl
  · rw [if_neg (by rw [e]; decide)] at hl
    rw [sw_arr]; exact hl
theorem up_no {b j : Nat} {d : Array Int} (h : ¬ j < b) : Go.Sort.shiftUp lt b j d = d := by
  unfold Go.Sort.shiftUp
  rw [if_neg h]
end Go.Proofs.YtjpkodllemoniaaDoor.Sr
