/-
  A reader of lines, plain: where the next line may begin, what the next answer is.
-/
import Derived.Test.YtolabllgnfpfaaaDoorTyG
namespace Go.Proofs.YtolabllgnfpfaaaDoor
open Go.RowKit Go.Deep Go.Lib Go.Shelf Go.Sort
set_option linter.unusedVariables false

/-- a line may begin here. -/
def FootAt (l : List UInt8) (i : Nat) : Prop := 1 ≤ i ∧ l[i]? = some 56 ∧ (i + 1 = l.length ∨ l[i + 1]? = some 61)
instance (l : List UInt8) (i : Nat) : Decidable (FootAt l i) := by unfold FootAt; infer_instance
/-- from place i on, r places at most. -/
def ftG (l : List UInt8) : Nat → Nat → Nat
  | 0, i => l.length
  | r + 1, i => if FootAt l i then i else ftG l r (i + 1)
def ftN (l : List UInt8) : Nat := ftG l l.length 0
theorem ftG_le (l : List UInt8) : ∀ (r i : Nat), i + r = l.length → ftG l r i ≤ l.length := by
  intro r
  induction r with
  | zero => intro i h; exact Nat.le_refl _
  | succ r ih =>
    intro i h
    unfold ftG
    split
    · omega
    · exact ih (i + 1) (by omega)
theorem ftN_le (l : List UInt8) : ftN l ≤ l.length := ftG_le l l.length 0 (by omega)
theorem ftG_from (l : List UInt8) (i : Nat) (hi : i ≤ l.length) (h : ∀ j, j < i → ¬ FootAt l j) : ftN l = ftG l (l.length - i) i := by
  induction i with
  | zero => unfold ftN; rfl
  | succ i ih =>
    rw [ih (by omega) (fun j hj => h j (by omega))]
    rw [show l.length - i = (l.length - (i + 1)) + 1 by omega]
    conv => lhs; unfold ftG
    rw [if_neg (h i (by omega))]
theorem ftN_at (l : List UInt8) (i : Nat) (hi : i < l.length) (h : ∀ j, j < i → ¬ FootAt l j) (hf : FootAt l i) : ftN l = i := by
  rw [ftG_from l i (by omega) h, show l.length - i = (l.length - (i + 1)) + 1 by omega]
  unfold ftG
  rw [if_pos hf]
theorem ftN_end (l : List UInt8) (h : ∀ j, j < l.length → ¬ FootAt l j) : ftN l = l.length := by
  rw [ftG_from l l.length (Nat.le_refl _) h, Nat.sub_self]
  rfl
/-- what Next tells: what is held behind it, the kind, the fields, is it one, the error. -/
noncomputable def nxR (l : List UInt8) : List UInt8 × List UInt8 × List (Int × List UInt8) × Bool × Int :=
  if (outE l).2.2 = 20 then (l, [], [], false, 0)
  else if (outE l).2.2 ≠ 0 then (l.drop (ftN l), [], [], false, (outE l).2.2)
  else (l.drop ((outE l).1.2 + 7), (decR l).1, (decR l).2.1, decide ((decR l).2.2.2 = 0), (decR l).2.2.2)
theorem bodyR_bad (body : List UInt8) : ∀ (r : List UInt8) (i g : Nat) (kind : List UInt8) (l : List (Int × List UInt8)), (bodyR body r i g kind l).2.2.2 ≠ 0 → (bodyR body r i g kind l).1 = [] ∧ (bodyR body r i g kind l).2.1 = [] ∧ (bodyR body r i g kind l).2.2.2 ≠ 20 := by
  intro r
  induction r with
  | nil => intro i g kind l h; simp [bodyR] at h
  | cons c r ih =>
    intro i g kind l h
    unfold bodyR at h ⊢
    split
    · rename_i h1
      rw [if_pos h1] at h
      exact ih _ _ _ _ h
    · rename_i h1
      rw [if_neg h1] at h
      split
      · exact ⟨rfl, rfl, by simp⟩
      · rename_i h2
        rw [if_neg h2] at h
        split
        · rename_i h3
          rw [if_pos h3] at h
          split
          · refine ⟨rfl, rfl, ?_⟩
            simp only
            unfold kindE
            split <;> simp
          · rename_i h4
            rw [if_neg h4] at h
            exact ih _ _ _ _ h
        · rename_i h3
          rw [if_neg h3] at h
          split
          · exact ⟨rfl, rfl, by simp⟩
          · rename_i h4
            rw [if_neg h4] at h
            split
            · refine ⟨rfl, rfl, ?_⟩
              simp only
              unfold fitsE
              split
              · simp
              · split
                · simp
                · split <;> simp
            · rename_i h5
              rw [if_neg h5] at h
              exact ih _ _ _ _ h
/-- a line whose end is sure: what Decode says of it is what its body says. -/
theorem decR_whole {l : List UInt8} {f t p : Nat} (h : outE l = ((f, t), p, 0)) : (decR l).1 = (bodyR ((l.drop f).take (t - f)) ((l.drop f).take (t - f)) 0 0 [] []).1 ∧ (decR l).2.1 = (bodyR ((l.drop f).take (t - f)) ((l.drop f).take (t - f)) 0 0 [] []).2.1 ∧ (decR l).2.2.2 = (bodyR ((l.drop f).take (t - f)) ((l.drop f).take (t - f)) 0 0 [] []).2.2.2 ∧ (decR l).2.2.2 ≠ 20 := by
  obtain ⟨B, hB⟩ : ∃ b, (l.drop f).take (t - f) = b := ⟨_, rfl⟩
  have hb := bodyR_bad B B 0 0 [] []
  unfold decR
  rw [h]
  simp only [ne_eq, not_true_eq_false, if_false]
  rw [hB]
  by_cases hz : (bodyR B B 0 0 [] []).2.2.2 = 0
  · rw [if_neg (by simpa using hz)]
    exact ⟨rfl, rfl, hz.symm, by simp⟩
  · rw [if_pos hz]
    obtain ⟨h1, h2, h3⟩ := hb hz
    exact ⟨h1.symm, h2.symm, rfl, h3⟩
end Go.Proofs.YtolabllgnfpfaaaDoor
