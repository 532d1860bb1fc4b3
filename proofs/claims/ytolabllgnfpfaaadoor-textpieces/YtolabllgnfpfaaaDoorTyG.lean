/-
  text.Decode.
-/
import Derived.Test.YtolabllgnfpfaaaDoorTyF
namespace Go.Proofs.YtolabllgnfpfaaaDoor
open Go.RowKit Go.Deep Go.Lib Go.Shelf Go.Sort
set_option linter.unusedVariables false

theorem OwnT.down {B B0 : Nat} {W1 W0 w : World} {v : Value} {l : List (Int × List UInt8)} (h : OwnT B W0 w v l) (hb : Below B0 W1 W0) (hB : B0 ≤ B) : OwnT B0 W1 w v l := by
  obtain ⟨⟨h1, h2⟩, h3, h4⟩ := h
  refine ⟨⟨h1, ?_⟩, hb.trans (h3.mono hB), Nat.le_trans hB h4⟩
  rcases h2 with h2 | ⟨g, cap, cur, e, hg, r⟩
  · exact Or.inl h2
  · exact Or.inr ⟨g, cap, cur, e, Nat.le_trans hB hg, r⟩
theorem outE_ok {l : List UInt8} {f t p : Nat} (h : outE l = ((f, t), p, 0)) : p = 0 ∧ 11 ≤ f ∧ f < t ∧ t + 7 ≤ 2048 ∧ t + 7 ≤ l.length := by
  unfold outE at h
  split at h
  · rename_i hn; simp only [Prod.mk.injEq] at h; exact absurd h.2.2 hn
  · rename_i hb
    split at h
    · rename_i hn; simp only [Prod.mk.injEq] at h; exact absurd h.2.2 hn
    · rename_i hl
      obtain ⟨h10, _⟩ := begE_ok l 10 0 (by simpa using hb) (Nat.zero_le _)
      obtain ⟨f', t', p', e', he⟩ : ∃ f t p e, lenE l = ((f, t), p, e) := ⟨_, _, _, _, rfl⟩
      rw [he] at h hl
      simp only [ne_eq, Decidable.not_not] at h hl
      subst hl
      obtain ⟨rfl, k1, k2, k3, k4⟩ := lenE_ok he (by omega)
      split at h
      · simp at h
      · rename_i hs
        split at h
        · simp at h
        · rename_i hT
          split at h
          · simp at h
          · simp only [Prod.mk.injEq] at h
            obtain ⟨⟨rfl, rfl⟩, rfl, _⟩ := h
            refine ⟨rfl, k1, ?_, k3, by omega⟩
            rcases Nat.lt_or_ge f' t' with h | h
            · exact h
            · exact absurd (Or.inr (Or.inl (by omega))) hT
theorem bodyR_place (body : List UInt8) : ∀ (r : List UInt8) (i g : Nat) (kind : List UInt8) (l : List (Int × List UInt8)), g ≤ i → (bodyR body r i g kind l).2.2.1 ≤ i + r.length
  | [], i, g, kind, l, h => by simp [bodyR]
  | c :: r, i, g, kind, l, h => by
    have h1 := bodyR_place body r (i + 1) g kind l (by omega)
    have h2 := fun k l => bodyR_place body r (i + 1) (i + 1) k l (by omega)
    have h3 : i + 1 + r.length = i + (c :: r).length := by simp; omega
    rw [h3] at h1 h2
    unfold bodyR
    repeat' split
    all_goals first | exact h1 | exact h2 _ _ | (simp; omega)

/-- what Decode tells. -/
noncomputable def decR (l : List UInt8) : List UInt8 × List (Int × List UInt8) × Nat × Int :=
  if (outE l).2.2 ≠ 0 then ([], [], (outE l).2.1, (outE l).2.2)
  else if (bodyR ((l.drop (outE l).1.1).take ((outE l).1.2 - (outE l).1.1)) ((l.drop (outE l).1.1).take ((outE l).1.2 - (outE l).1.1)) 0 0 [] []).2.2.2 ≠ 0 then
    ([], [], (outE l).1.1 + (bodyR ((l.drop (outE l).1.1).take ((outE l).1.2 - (outE l).1.1)) ((l.drop (outE l).1.1).take ((outE l).1.2 - (outE l).1.1)) 0 0 [] []).2.2.1, (bodyR ((l.drop (outE l).1.1).take ((outE l).1.2 - (outE l).1.1)) ((l.drop (outE l).1.1).take ((outE l).1.2 - (outE l).1.1)) 0 0 [] []).2.2.2)
  else ((bodyR ((l.drop (outE l).1.1).take ((outE l).1.2 - (outE l).1.1)) ((l.drop (outE l).1.1).take ((outE l).1.2 - (outE l).1.1)) 0 0 [] []).1, (bodyR ((l.drop (outE l).1.1).take ((outE l).1.2 - (outE l).1.1)) ((l.drop (outE l).1.1).take ((outE l).1.2 - (outE l).1.1)) 0 0 [] []).2.1, (outE l).1.2 + 7, 0)

end Go.Proofs.YtolabllgnfpfaaaDoor
