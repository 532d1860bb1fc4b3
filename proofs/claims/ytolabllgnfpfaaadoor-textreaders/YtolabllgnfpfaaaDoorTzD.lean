/-
  The document's Read, plain.
-/
import Derived.Test.YtolabllgnfpfaaaDoorTzC
namespace Go.Proofs.YtolabllgnfpfaaaDoor
open Go.RowKit Go.Deep Go.Lib Go.Shelf Go.Sort
set_option linter.unusedVariables false

theorem headR_bad (l : List UInt8) (h : (headR l).2.2 ≠ 0) : outE l = ((0, 0), (headR l).2.1, (headR l).2.2) := by
  by_cases h0 : (begE l 0 10).2 = 0
  · have hO : ∀ p e, lenE l = ((0, 0), p, e) → e ≠ 0 → outE l = ((0, 0), p, e) := fun p e hl he => by
      unfold outE
      rw [if_neg (by simpa using h0), hl]
      simp only
      rw [if_pos he]
    by_cases h1 : 10 + digN (l.drop 10) 0 5 = l.length
    · have hH : headR l = ((0, 0), l.length, 20) := by unfold headR; rw [if_neg (by simpa using h0), if_pos h1]
      rw [hH]
      exact hO _ _ (by unfold lenE; rw [if_pos h1, h1]) (by simp)
    · cases hn : num ((l.drop 10).take (digN (l.drop 10) 0 5)) with
      | none =>
        have hH : headR l = ((0, 0), 10, 3) := by unfold headR; rw [if_neg (by simpa using h0), if_neg h1, hn]
        rw [hH]
        exact hO _ _ (by unfold lenE; rw [if_neg h1, hn]) (by decide)
      | some s =>
        by_cases h2 : digN (l.drop 10) 0 5 = 5 ∨ l[10 + digN (l.drop 10) 0 5]? ≠ some 1
        · have hH : headR l = ((0, 0), 10, 3) := by unfold headR; rw [if_neg (by simpa using h0), if_neg h1, hn]; simp only; rw [if_pos h2]
          rw [hH]
          exact hO _ _ (by unfold lenE; rw [if_neg h1, hn]; simp only; rw [if_pos h2]) (by decide)
        · exfalso
          apply h
          unfold headR
          rw [if_neg (by simpa using h0), if_neg h1, hn]
          simp only
          rw [if_neg h2]
  · have hH : headR l = ((0, 0), (begE l 0 10).1, (begE l 0 10).2) := by unfold headR; rw [if_pos (by simpa using h0)]
    rw [hH]
    unfold outE
    rw [if_pos (by simpa using h0)]
theorem headR_ok {l : List UInt8} {f s p : Nat} (h : headR l = ((f, s), p, 0)) : p = 0 ∧ (begE l 0 10).2 = 0 ∧ 11 ≤ f ∧ f ≤ 16 ∧ f ≤ l.length ∧ s < 100000 ∧ (2048 < f + s + 7 → outE l = ((0, 0), 10, 2)) ∧ (f + s + 7 ≤ 2048 → lenE l = ((f, f + s), 0, 0)) := by
  unfold headR at h
  by_cases h0 : (begE l 0 10).2 = 0
  · rw [if_neg (by simpa using h0)] at h
    by_cases h1 : 10 + digN (l.drop 10) 0 5 = l.length
    · rw [if_pos h1] at h
      simp at h
    · rw [if_neg h1] at h
      cases hn : num ((l.drop 10).take (digN (l.drop 10) 0 5)) with
      | none =>
        rw [hn] at h
        simp at h
      | some s' =>
        rw [hn] at h
        simp only at h
        by_cases h2 : digN (l.drop 10) 0 5 = 5 ∨ l[10 + digN (l.drop 10) 0 5]? ≠ some 1
        · rw [if_pos h2] at h
          simp at h
        · rw [if_neg h2] at h
          simp only [Prod.mk.injEq] at h
          obtain ⟨⟨hf, rfl⟩, rfl, _⟩ := h
          have h10 := (begE_ok l 10 0 h0 (Nat.zero_le _)).1
          have hd := digN_le (l.drop 10) 5 0 (by omega)
          have h3 : l[10 + digN (l.drop 10) 0 5]? = some 1 := by
            apply Classical.byContradiction
            intro hc
            exact h2 (Or.inr hc)
          have h4 := (List.getElem?_eq_some_iff.1 h3).1
          have hs := num_lt5 _ s' hn (by simp; omega)
          have hE : lenE l = if 2048 < 10 + digN (l.drop 10) 0 5 + 1 + s' + 7 then ((0, 0), 10, 2) else ((10 + digN (l.drop 10) 0 5 + 1, 10 + digN (l.drop 10) 0 5 + 1 + s'), 0, 0) := by
            unfold lenE
            rw [if_neg h1, hn]
            simp only
            rw [if_neg h2]
          rw [hf] at hE
          refine ⟨rfl, h0, by omega, by omega, by omega, hs, fun hb => ?_, fun hb => ?_⟩
          · unfold outE
            rw [if_neg (by simpa using h0), hE, if_pos hb]
            simp
          · rw [hE, if_neg (by omega)]
  · rw [if_pos (by simpa using h0)] at h
    simp only [Prod.mk.injEq] at h
    exact absurd h.2.2 h0
theorem outE_of {l : List UInt8} {f t : Nat} (h0 : (begE l 0 10).2 = 0) (h1 : lenE l = ((f, t), 0, 0)) : outE l = if l.length < t + 7 then ((0, 0), l.length, 20) else if ¬ TrailOk ((l.drop t).take 7) ∨ f = t ∨ l[t - 1]? ≠ some 1 then ((0, 0), t, 32) else if (l.drop t).take 7 ≠ trailB (l.take t) then ((0, 0), t, 33) else ((f, t), 0, 0) := by
  unfold outE
  rw [if_neg (by simpa using h0), h1]
  simp only [ne_eq, not_true_eq_false, if_false]
theorem trailOk_iff (c0 c1 c2 c3 c4 c5 c6 : UInt8) : TrailOk [c0, c1, c2, c3, c4, c5, c6] ↔ ([c0, c1, c2] = [49, 48, 61] ∧ (Dig c3 ∧ Dig c4 ∧ Dig c5) ∧ c6 = 1) := by
  constructor
  · intro h
    have e0 := h 0 (by simp)
    have e1 := h 1 (by simp)
    have e2 := h 2 (by simp)
    have e3 := h 3 (by simp)
    have e4 := h 4 (by simp)
    have e5 := h 5 (by simp)
    have e6 := h 6 (by simp)
    simp [TrAt, form] at e0 e1 e2 e3 e4 e5 e6
    have d : Dig 48 := by decide
    refine ⟨by rw [← e0, ← e1, ← e2], ⟨?_, ?_, ?_⟩, e6.symm⟩
    · rcases e3 with e | e
      · exact e
      · exact e ▸ d
    · rcases e4 with e | e
      · exact e
      · exact e ▸ d
    · rcases e5 with e | e
      · exact e
      · exact e ▸ d
  · rintro ⟨e, ⟨d3, d4, d5⟩, rfl⟩ i hi
    simp only [List.cons.injEq, and_true] at e
    obtain ⟨rfl, rfl, rfl⟩ := e
    simp at hi
    unfold TrAt form
    obtain rfl | rfl | rfl | rfl | rfl | rfl | rfl : i = 0 ∨ i = 1 ∨ i = 2 ∨ i = 3 ∨ i = 4 ∨ i = 5 ∨ i = 6 := by omega
    · simp
    · simp
    · simp
    · exact Or.inl ⟨by omega, by omega, d3⟩
    · exact Or.inl ⟨by omega, by omega, d4⟩
    · exact Or.inl ⟨by omega, by omega, d5⟩
    · simp
theorem trailB_iff (c3 c4 c5 : UInt8) (x : List UInt8) : [49, 48, 61, c3, c4, c5, 1] = trailB x ↔ [c3, c4, c5] = (decDigits (1000 + sumB x)).drop 1 := by
  have h3 : ((decDigits (1000 + sumB x)).drop 1).length = 3 := by
    rw [three_plain _ (sumB_lt x)]
    rfl
  unfold trailB
  obtain ⟨D, hD⟩ : ∃ D, (decDigits (1000 + sumB x)).drop 1 = D := ⟨_, rfl⟩
  rw [hD] at h3 ⊢
  match D, h3 with
  | [d0, d1, d2], _ => simp
theorem list7b {l : List UInt8} (h : l.length = 7) : ∃ c0 c1 c2 c3 c4 c5 c6, l = [c0, c1, c2, c3, c4, c5, c6] := by
  match l, h with
  | [c0, c1, c2, c3, c4, c5, c6], _ => exact ⟨c0, c1, c2, c3, c4, c5, c6, rfl⟩
end Go.Proofs.YtolabllgnfpfaaaDoor
