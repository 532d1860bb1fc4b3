/-
  What a text's digits say: plain mathematics.
-/
import Derived.Test.YthikjpccmplbiaaDmC
import Derived.Test.YthikjpccmplbiaaParC
namespace Go.Proofs.Ythikjpccmplbiaa.Dm
open Go.RowKit MonM TexM ParM
set_option linter.unusedVariables false
def dstep (v x : Int) : Int := if 48 ≤ x ∧ x ≤ 57 then v * 10 + (x - 48) else v
def ds (l : List Int) (v : Int) : Int := l.foldl dstep v
theorem ds_snoc (l : List Int) (x v : Int) : ds (l ++ [x]) v = dstep (ds l v) x := by simp [ds]
theorem ds_app (a b : List Int) (v : Int) : ds (a ++ b) v = ds b (ds a v) := by simp [ds]
theorem dstep_bd {v x : Int} {k : Nat} (h0 : 0 ≤ v) (h1 : v < p10 k) : 0 ≤ dstep v x ∧ dstep v x < p10 (k + 1) := by
  have e := p10_succ k
  unfold dstep
  split <;> omega
theorem ds_bd (l : List Int) : 0 ≤ ds l 0 ∧ ds l 0 < p10 l.length := by
  suffices h : ∀ (l : List Int) (v : Int) (k : Nat), 0 ≤ v → v < p10 k → 0 ≤ ds l v ∧ ds l v < p10 (k + l.length) by
    have := h l 0 0 (by decide) (by simp [p10])
    rwa [Nat.zero_add] at this
  intro l
  induction l with
  | nil => intro v k h0 h1; exact ⟨h0, h1⟩
  | cons x r ih =>
    intro v k h0 h1
    obtain ⟨a, b⟩ := dstep_bd (x := x) h0 h1
    have := ih (dstep v x) (k + 1) a b
    rw [List.length_cons, show k + (r.length + 1) = k + 1 + r.length by omega]
    exact this
theorem ds_suf (n : Int) (hn : 0 ≤ n) (k : Nat) : ds (suf n k) (n / p10 k) = n := by
  induction k with
  | zero => simp [suf, ds, p10]
  | succ k ih =>
    have hm := mod_step n hn k
    have h1 : dstep (n / p10 (k + 1)) (48 + n / p10 k % 10) = n / p10 k := by
      unfold dstep
      rw [if_pos ⟨by omega, by omega⟩]
      omega
    simp only [suf]
    show ds _ (dstep _ _) = n
    rw [h1]
    by_cases h : k = 2
    · rw [if_pos h]
      show ds _ (dstep _ 46) = n
      rw [show dstep (n / p10 k) 46 = n / p10 k from by unfold dstep; rw [if_neg (by omega)]]
      exact ih
    · rw [if_neg h]; exact ih
theorem ds_text {m : Int} {l : List Int} (h : IsText m l) : ds l 0 = absI m ∧ (l.head? = some 45 ↔ m < 0) := by
  obtain ⟨K, hK, rfl⟩ := h
  have h3 := hK.1
  have hz := hK.2.1
  by_cases hm : m < 0
  · rw [if_pos hm] at hK hz ⊢
    rw [if_pos hm, ds_app]
    refine ⟨?_, by simp [hm]⟩
    rw [show ds [45] 0 = 0 from rfl]
    have := ds_suf (-m) (by omega) K
    rw [hz] at this
    rw [this]
    unfold absI
    rw [if_pos hm]
  · rw [if_neg hm] at hK hz ⊢
    rw [if_neg hm]
    have := ds_suf m (by omega) K
    rw [hz] at this
    refine ⟨?_, ?_⟩
    · rw [List.nil_append, this]
      unfold absI
      rw [if_neg hm]
    · obtain ⟨d, r, e, d0, _⟩ := suf_head m (by omega) K (by omega)
      rw [List.nil_append, e]
      simp
      omega
theorem back {m : Int} {l : List Int} (h : IsText m l) : m = if l.head? = some 45 then -(ds l 0) else ds l 0 := by
  obtain ⟨a, b⟩ := ds_text h
  rw [a]
  by_cases hm : m < 0
  · rw [if_pos (b.2 hm)]; unfold absI; rw [if_pos hm]; omega
  · rw [if_neg (fun e => hm (b.1 e))]; unfold absI; rw [if_neg hm]
theorem p60 : p10 60 = 1000000000000000000000000000000000000000000000000000000000000 := by decide
end Go.Proofs.Ythikjpccmplbiaa.Dm
