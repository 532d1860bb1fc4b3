/-
  LwB
-/
import Derived.Test.YtegaphjbepcgfaaBrB
namespace Go.Proofs.Ytegaphjbepcgfaa.Ss
open Go.RowKit Go.Deep BigM
set_option linter.unusedVariables false
set_option linter.unusedSimpArgs false
set_option maxHeartbeats 4000000
theorem mul_div_le {x w S : Int} (hS : 0 < S) (hx : x ≤ S) (hw : 0 ≤ w) : x * w / S ≤ w := by
  have h1 : x * w ≤ S * w := Int.mul_le_mul_of_nonneg_right hx hw
  have h2 : x * w / S ≤ S * w / S := Int.ediv_le_ediv hS h1
  rwa [Int.mul_ediv_cancel_left _ (by omega)] at h2
theorem mul_div_lt {x w S : Int} (hS : 0 < S) (hx : x ≤ S) (hw : 0 ≤ w) (hr : 0 < x * w % S) : x * w / S + 1 ≤ w := by
  have h1 : x * w ≤ S * w := Int.mul_le_mul_of_nonneg_right hx hw
  have h2 := Int.mul_ediv_add_emod (x * w) S
  have h3 : S * (x * w / S) < S * w := by omega
  have h4 := Int.lt_of_mul_lt_mul_left h3 (by omega)
  omega
/-- shares of no more than all weights together. -/
theorem Shd.parts {x : Int} {ws l : List Int} (h : Shd x ws l) (h0 : 0 ≤ x) (h1 : x ≤ sumL ws) (hw : ∀ y ∈ ws, 0 ≤ y) : sumL l = x ∧ ∀ i, i < ws.length → 0 ≤ gd l i ∧ gd l i ≤ gd ws i := by
  have hg : ∀ i, i < ws.length → 0 ≤ gd ws i := fun i hi => hw _ (gd_mem hi)
  rcases h with ⟨hS, ⟨a1, a2, a3, a4, pl, k, ho, had, hsum⟩ | ⟨a1, a2, a3, rfl⟩ | ⟨a1, a2, rfl⟩⟩ | ⟨hS, rfl⟩
  · have hk : k ≤ ((ws.map fun w => x * w % sumL ws).filter fun q => decide (0 < q)).length := by
      have := (shr_of (A := x) hS).l1
      omega
    refine ⟨by rw [had.sum]; omega, fun i hi => ?_⟩
    have hat := had.at_ i (by rw [List.length_map]; exact hi)
    rw [gd_map (f := fun w => x * w / sumL ws) hi] at hat
    rw [hat]
    have hq0 : 0 ≤ x * gd ws i / sumL ws := Int.ediv_nonneg (Int.mul_nonneg h0 (hg i hi)) (by omega)
    by_cases c : (i : Int) ∈ pl.take k
    · rw [if_pos c]
      obtain ⟨s, s1, s2, e⟩ := mem_take.1 c
      have hp := ho.pos (fun q hq => (rests_bd hS q hq).1) (s := s) (by omega)
      rw [e] at hp
      unfold rr at hp
      rw [Int.toNat_natCast, gd_map (f := fun w => x * w % sumL ws) hi] at hp
      have := mul_div_lt hS h1 (hg i hi) hp
      omega
    · rw [if_neg c]
      have := mul_div_le hS h1 (hg i hi)
      omega
  · omega
  · simp at a1; subst a1; simp [sumL] at hS
  · have hx : x = 0 := by omega
    subst hx
    have hz : ∀ n, sumL (List.replicate n 0) = 0 := fun n => by
      induction n with
      | zero => rfl
      | succ n ih => rw [List.replicate_succ, sumL_cons, ih]; rfl
    refine ⟨hz _, fun i hi => ?_⟩
    rw [gd_get (by rw [List.length_replicate]; exact hi), List.getElem_replicate]
    exact ⟨Int.le_refl _, hg i hi⟩
theorem sumL_le {ws l : List Int} (hl : l.length = ws.length) (h : ∀ i, i < ws.length → gd l i ≤ gd ws i) : sumL l ≤ sumL ws ∧ (sumL l = sumL ws → l = ws) := by
  induction ws generalizing l with
  | nil =>
    cases l with
    | nil => exact ⟨Int.le_refl _, fun _ => rfl⟩
    | cons a r => simp at hl
  | cons b ws ih =>
    cases l with
    | nil => simp at hl
    | cons a r =>
      have h0 : a ≤ b := h 0 (by simp)
      obtain ⟨i1, i2⟩ := ih (l := r) (by simpa using hl) (fun i hi => h (i + 1) (by simp; omega))
      rw [sumL_cons, sumL_cons]
      refine ⟨by omega, fun e => ?_⟩
      have e1 : a = b := by omega
      rw [e1, i2 (by omega)]
/-- the first are together no more than all. -/
theorem sumL_take_le {l : List Int} (h : ∀ y ∈ l, 0 ≤ y) (i : Nat) : 0 ≤ sumL (l.take i) ∧ sumL (l.take i) ≤ sumL l := by
  induction l generalizing i with
  | nil => simp [sumL]
  | cons a r ih =>
    have h0 := h a (List.mem_cons_self ..)
    have hr := fun i => ih (fun y hy => h y (List.mem_cons_of_mem _ hy)) i
    cases i with
    | zero =>
      have := (hr r.length).1
      rw [List.take_length] at this
      rw [List.take_zero, sumL_cons]
      exact ⟨Int.le_refl _, by show (0 : Int) ≤ _; omega⟩
    | succ i =>
      obtain ⟨h1, h2⟩ := hr i
      rw [List.take_succ_cons, sumL_cons, sumL_cons]
      omega
theorem sumL_take_one {l : List Int} {i : Nat} (h : i < l.length) : sumL (l.take (i + 1)) = sumL (l.take i) + gd l i := by
  have := sumL_take_gd h (fun x => x)
  simpa using this
/-- what the law asks of what is borne. -/
structure Bn (A B H : Int) (ws : List Int) (o h : Int) (l : List Int) (lf : Int) : Prop where
  len : l.length = ws.length
  o0 : 0 ≤ o
  o1 : o ≤ B
  h0 : 0 ≤ h
  h1 : h ≤ H
  tn : 0 < h → o = B
  two : o + h ≤ A
  each : ∀ i, i < ws.length → 0 ≤ gd l i ∧ gd l i ≤ gd ws i ∧ gd l i ≤ A - o - h - sumL (l.take i) ∧ (0 < gd l i → h = H ∧ o = B)
  pre : ∀ i, 0 ≤ sumL (l.take i) ∧ sumL (l.take i) ≤ A - o - h
  left : lf = A - o - h - sumL l
  all : lf ≠ 0 → l = ws ∧ o = B ∧ h = H
theorem CvR.bn {A B H : Int} {ws : List Int} {o h : Int} {l : List Int} {lf : Int} (c : CvR A B H ws 0 o h l lf) (hA : 0 ≤ A) (hB : 0 ≤ B) (hH : 0 ≤ H) (hw : ∀ y ∈ ws, 0 ≤ y) : Bn A B H ws o h l lf := by
  rcases c with ⟨_, e, _⟩ | ⟨hS, _, rfl, rfl, hs, rfl⟩
  · cases e
  have hSn := sumL_nonneg ws hw
  obtain ⟨o0, o1, o2⟩ := mn_bd hA hB
  have eo : mn A B = A ∨ mn A B = B := by unfold mn; split <;> simp
  have eo2 : mn A B = A → A ≤ B := fun e => by omega
  obtain ⟨o, ho⟩ : ∃ o, mn A B = o := ⟨_, rfl⟩
  rw [ho] at o0 o1 o2 eo eo2 hs ⊢
  obtain ⟨h0, h1, h2⟩ := mn_bd (show 0 ≤ A - o by omega) hH
  have eh : mn (A - o) H = A - o ∨ mn (A - o) H = H := by unfold mn; split <;> simp
  obtain ⟨h, hh⟩ : ∃ h, mn (A - o) H = h := ⟨_, rfl⟩
  rw [hh] at h0 h1 h2 eh hs ⊢
  obtain ⟨x0, x1, x2⟩ := mn_bd (show 0 ≤ A - o - h by omega) hSn
  have ex : mn (A - o - h) (sumL ws) = A - o - h ∨ mn (A - o - h) (sumL ws) = sumL ws := by unfold mn; split <;> simp
  obtain ⟨x, hx⟩ : ∃ x, mn (A - o - h) (sumL ws) = x := ⟨_, rfl⟩
  rw [hx] at x0 x1 x2 ex hs ⊢
  obtain ⟨p1, p2⟩ := hs.parts x0 x2 hw
  have hl := hs.len
  have hn : ∀ y ∈ l, 0 ≤ y := fun y hy => by
    obtain ⟨i, hi, rfl⟩ := List.getElem_of_mem hy
    rw [← gd_get hi]
    exact (p2 i (by omega)).1
  have hpre := fun i => sumL_take_le hn i
  refine ⟨hl, o0, o2, h0, h2, fun c => by omega, by omega, fun i hi => ?_, fun i => ?_, by omega, fun c => ?_⟩
  · obtain ⟨q1, q2⟩ := p2 i hi
    have s1 := sumL_take_one (l := l) (i := i) (by omega)
    obtain ⟨_, s2⟩ := hpre (i + 1)
    refine ⟨q1, q2, by omega, fun c => ?_⟩
    obtain ⟨s3, _⟩ := hpre i
    have : 0 < A - o - h := by omega
    omega
  · obtain ⟨s1, s2⟩ := hpre i
    omega
  · have e1 : sumL l = sumL ws := by omega
    refine ⟨(sumL_le hl (fun i hi => (p2 i hi).2)).2 e1, by omega, by omega⟩
end Go.Proofs.Ytegaphjbepcgfaa.Ss
