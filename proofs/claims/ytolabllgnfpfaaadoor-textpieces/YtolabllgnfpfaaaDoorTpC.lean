/-
  How far a reader has come with bytes that come in pieces, plain.
-/
import Derived.Test.YtolabllgnfpfaaaDoorTpB
namespace Go.Proofs.YtolabllgnfpfaaaDoor
open Go.RowKit Go.Deep Go.Lib Go.Shelf Go.Sort
set_option linter.unusedVariables false

/-- fed up to place f: acc is told, l is held. -/
structure Come (b : List UInt8) (f : Nat) (acc : List (List UInt8)) (l : List UInt8) : Prop where
  told : acc ++ (drain l).1 = (drain (b.take f)).1
  rest : (drain l).2 = (drain (b.take f)).2
  len : l.length ≤ f
theorem Come.start (b : List UInt8) : Come b 0 [] [] := ⟨by simp, by simp, by simp⟩
theorem Come.feed {b : List UInt8} {f t : Nat} {acc : List (List UInt8)} {l : List UInt8} (h : Come b f acc l) (hft : f ≤ t) (ht : t ≤ b.length) : Come b t acc (l ++ (b.drop f).take (t - f)) := by
  have e : b.take t = b.take f ++ (b.drop f).take (t - f) := by
    rw [← List.take_append_drop f (b.take t), List.take_take, List.drop_take, show min f t = f by omega]
  obtain ⟨S, hS⟩ : ∃ s, (b.drop f).take (t - f) = s := ⟨_, rfl⟩
  have hl : S.length = t - f := by rw [← hS]; simp; omega
  rw [hS] at e ⊢
  have h1 := drain_app l.length l S (Nat.le_refl _)
  have h2 := drain_app (b.take f).length (b.take f) S (Nat.le_refl _)
  refine ⟨?_, ?_, ?_⟩
  · rw [e, h1, h2, h.rest]
    simp only
    rw [← List.append_assoc, h.told]
  · rw [e, h1, h2, h.rest]
  · rw [List.length_append, hl]
    have := h.len
    omega
theorem Come.next {b : List UInt8} {f : Nat} {acc : List (List UInt8)} {l : List UInt8} (h : Come b f acc l) (hw : ¬ Waits l) : Come b f (acc ++ tl l) (nxR l).1 := by
  have hd := drain_step hw
  refine ⟨?_, ?_, ?_⟩
  · rw [← h.told, hd, List.append_assoc]
  · rw [← h.rest, hd]
  · have := nx_shrink hw
    have := h.len
    omega
theorem Come.done {b : List UInt8} {acc : List (List UInt8)} {l : List UInt8} (h : Come b b.length acc l) (hw : Waits l) : acc = (drain b).1 := by
  have := h.told
  rw [drain_wait hw, List.take_length] at this
  simpa using this
/-- a reader that waits tells nothing, and holds what it held. -/
theorem nx_wait {l : List UInt8} (hw : Waits l) : nxR l = (l, [], [], false, 0) := by
  unfold nxR
  rw [if_pos (show (outE l).2.2 = 20 from hw)]
/-- an answer that tells no line and no error: it waits. -/
theorem wait_iff (l : List UInt8) : ((nxR l).2.2.2.1 = false ∧ (nxR l).2.2.2.2 = 0) ↔ Waits l := by
  constructor
  · rintro ⟨h1, h2⟩
    by_cases hw : Waits l
    · exact hw
    · unfold nxR at h1 h2
      rw [if_neg (show ¬ (outE l).2.2 = 20 from hw)] at h1 h2
      by_cases h0 : (outE l).2.2 = 0
      · rw [if_neg (by simpa using h0)] at h1 h2
        simp only at h1 h2
        rw [h2] at h1
        simp at h1
      · rw [if_pos h0] at h2
        exact absurd h2 h0
  · intro hw
    rw [nx_wait hw]
    exact ⟨rfl, rfl⟩
end Go.Proofs.YtolabllgnfpfaaaDoor
