/-
  More bytes behind what is held, plain: an answer that is not 'wait' stays; a line may begin only at a foot.
-/
import Derived.Test.YtolabllgnfpfaaaDoorTrA
import Derived.Test.YtolabllgnfpfaaaDoorTyO
namespace Go.Proofs.YtolabllgnfpfaaaDoor
open Go.RowKit Go.Deep Go.Lib Go.Shelf Go.Sort
set_option linter.unusedVariables false

theorem begE_more (l b : List UInt8) : ∀ (k i : Nat), (begE l i k).2 ≠ 20 → begE (l ++ b) i k = begE l i k
  | 0, i, h => rfl
  | k + 1, i, h => by
    unfold begE at h ⊢
    cases hi : l[i]? with
    | none => rw [hi] at h; exact absurd rfl h
    | some c =>
      rw [hi] at h
      have hl : i < l.length := (List.getElem?_eq_some_iff.1 hi).1
      rw [List.getElem?_append_left hl, hi]
      simp only at h ⊢
      split
      · rename_i h1
        rw [if_pos h1] at h
        exact begE_more l b k (i + 1) h
      · rfl
theorem digN_more (l b : List UInt8) : ∀ (k i : Nat), digN l i k < l.length → digN (l ++ b) i k = digN l i k
  | 0, i, h => rfl
  | k + 1, i, h => by
    unfold digN at h ⊢
    cases hi : l[i]? with
    | none =>
      rw [hi] at h
      have := List.getElem?_eq_none_iff.1 hi
      simp only at h
      omega
    | some c =>
      rw [hi] at h
      have hl : i < l.length := (List.getElem?_eq_some_iff.1 hi).1
      rw [List.getElem?_append_left hl, hi]
      simp only at h ⊢
      split
      · rename_i h1
        rw [if_pos h1] at h
        exact digN_more l b k (i + 1) h
      · rfl
theorem lenE_more (l b : List UInt8) (h10 : 10 ≤ l.length) (h : (lenE l).2.2 ≠ 20) : lenE (l ++ b) = lenE l := by
  have hd := digN_le (l.drop 10) 5 0 (Nat.zero_le _)
  have hdl : (l.drop 10).length = l.length - 10 := by simp
  have he : ¬ 10 + digN (l.drop 10) 0 5 = l.length := by
    intro e
    unfold lenE at h
    rw [if_pos e] at h
    exact absurd rfl h
  have hlt : digN (l.drop 10) 0 5 < (l.drop 10).length := by omega
  have e1 : (l ++ b).drop 10 = l.drop 10 ++ b := List.drop_append_of_le_length h10
  have e2 := digN_more (l.drop 10) b 5 0 hlt
  unfold lenE
  rw [e1, e2, if_neg he, if_neg (by rw [List.length_append]; omega), List.take_append_of_le_length (by omega), List.getElem?_append_left (by omega)]
theorem outE_more (l b : List UInt8) (h : (outE l).2.2 ≠ 20) : outE (l ++ b) = outE l := by
  unfold outE at h ⊢
  by_cases h0 : (begE l 0 10).2 = 0
  · have hb := begE_more l b 10 0 (by rw [h0]; simp)
    have h10 := (begE_ok l 10 0 h0 (Nat.zero_le _)).1
    rw [hb]
    have n0 : ¬ ((begE l 0 10).2 ≠ 0) := by simpa using h0
    rw [if_neg n0] at h
    rw [if_neg n0, if_neg n0]
    by_cases h1 : (lenE l).2.2 = 0
    · have hl := lenE_more l b (by omega) (by rw [h1]; simp)
      rw [hl]
      have n1 : ¬ ((lenE l).2.2 ≠ 0) := by simpa using h1
      rw [if_neg n1] at h
      rw [if_neg n1, if_neg n1]
      by_cases h2 : l.length < (lenE l).1.2 + 7
      · rw [if_pos h2] at h
        exact absurd rfl h
      · have n2 : ¬ ((l ++ b).length < (lenE l).1.2 + 7) := by rw [List.length_append]; omega
        rw [if_neg n2, if_neg h2]
        rw [List.drop_append_of_le_length (by omega), List.take_append_of_le_length (by simp; omega), List.take_append_of_le_length (by omega), List.getElem?_append_left (by omega)]
    · have hl := lenE_more l b (by omega) (by rw [if_pos h1] at h; exact h)
      rw [hl, if_pos h1, if_pos h1]
  · have hb := begE_more l b 10 0 (by rw [if_pos h0] at h; exact h)
    rw [hb, if_pos h0, if_pos h0]
/-- no line begins where no foot is. -/
theorem outE_nofoot (x : List UInt8) (hx : 0 < x.length) (h : ¬ (x[0]? = some 56 ∧ (1 = x.length ∨ x[1]? = some 61))) : (outE x).2.2 = 3 := by
  have hb : (begE x 0 10).2 = 3 := by
    unfold begE
    rw [List.getElem?_eq_getElem hx]
    simp only
    by_cases h0 : x[0] = 56
    · rw [if_pos (by rw [h0]; rfl)]
      unfold begE
      cases h1 : x[1]? with
      | none =>
        have := List.getElem?_eq_none_iff.1 h1
        exact absurd ⟨by rw [List.getElem?_eq_getElem hx, h0], Or.inl (by omega)⟩ h
      | some c =>
        simp only
        have hc : ¬ c = 61 := fun e => h ⟨by rw [List.getElem?_eq_getElem hx, h0], Or.inr (by rw [h1, e])⟩
        rw [if_neg (by intro e; exact hc (by simpa [beg] using e))]
    · rw [if_neg (by intro e; exact h0 (by simpa [beg] using e))]
  unfold outE
  rw [if_pos (by rw [hb]; simp)]
  exact hb
end Go.Proofs.YtolabllgnfpfaaaDoor
