/-
  What is packed is unpacked: plain.
-/
import Derived.Test.YtniofmaefonkdaaDoorUnpA
namespace Go.Proofs.YtniofmaefonkdaaDoor
open Go.RowKit Go.Deep Crc
set_option linter.unusedVariables false

theorem word_frame (k : Nat) (ws : List Nat) (i : Nat) (h : ws.length = 7) (hi : i < 7) (hw : ∀ x ∈ ws, x < 18446744073709551616) : wordOf (frame k ws) i = ws[i]'(by omega) := by
  match ws, h with
  | [w0, w1, w2, w3, w4, w5, w6], _ =>
    have e : frame k [w0, w1, w2, w3, w4, w5, w6] = [66, 70, k, 0] ++ (le 8 w0 ++ (le 8 w1 ++ (le 8 w2 ++ (le 8 w3 ++ (le 8 w4 ++ (le 8 w5 ++ (le 8 w6 ++ le 4 (crc (body k [w0, w1, w2, w3, w4, w5, w6]))))))))) := by
      unfold frame body; simp [List.append_assoc]
    unfold wordOf
    rw [e]
    have go : ∀ (x : Nat) (R : List Nat), x < 18446744073709551616 → num ((le 8 x ++ R).take 8) = x := by
      intro x R hx
      rw [List.take_left' (le_len 8 x)]
      exact num_le 8 x (by simpa using hx)
    have st : ∀ (x n : Nat) (R : List Nat), ((le 8 x ++ R).drop (8 + n)) = R.drop n := by
      intro x n R
      rw [List.drop_append]
      simp [le_len]
    have hd : ∀ (n : Nat) (R : List Nat), (([66, 70, k, 0] ++ R).drop (4 + n)) = R.drop n := by
      intro n R
      rw [List.drop_append]
      simp
    rw [hd]
    have : i = 0 ∨ i = 1 ∨ i = 2 ∨ i = 3 ∨ i = 4 ∨ i = 5 ∨ i = 6 := by omega
    rcases this with rfl | rfl | rfl | rfl | rfl | rfl | rfl
    · exact go _ _ (hw _ (by simp))
    · rw [show 8 * 1 = 8 + 0 by omega, st]; exact go _ _ (hw _ (by simp))
    · rw [show 8 * 2 = 8 + (8 + 0) by omega, st, st]; exact go _ _ (hw _ (by simp))
    · rw [show 8 * 3 = 8 + (8 + (8 + 0)) by omega, st, st, st]; exact go _ _ (hw _ (by simp))
    · rw [show 8 * 4 = 8 + (8 + (8 + (8 + 0))) by omega, st, st, st, st]; exact go _ _ (hw _ (by simp))
    · rw [show 8 * 5 = 8 + (8 + (8 + (8 + (8 + 0)))) by omega, st, st, st, st, st]; exact go _ _ (hw _ (by simp))
    · rw [show 8 * 6 = 8 + (8 + (8 + (8 + (8 + (8 + 0))))) by omega, st, st, st, st, st, st]; exact go _ _ (hw _ (by simp))
theorem frame_getD (k : Nat) (ws : List Nat) : (frame k ws).getD 0 0 = 66 ∧ (frame k ws).getD 1 0 = 70 ∧ (frame k ws).getD 2 0 = k ∧ (frame k ws).getD 3 0 = 0 := by
  unfold frame body
  simp
theorem frame_headed (k : Nat) (ws : List Nat) : headed (frame k ws) := ⟨(frame_getD k ws).1, (frame_getD k ws).2.1, (frame_getD k ws).2.2.2⟩
theorem frame_again (k w0 w1 w2 w3 w4 w5 w6 : Nat) (hw : ∀ x ∈ [w0, w1, w2, w3, w4, w5, w6], x < 18446744073709551616) :
    again (frame k [w0, w1, w2, w3, w4, w5, w6]) = frame k [w0, w1, w2, w3, w4, w5, w6] ∧ readV (frame k [w0, w1, w2, w3, w4, w5, w6]) = fv k w0 w1 w2 w3 w4 w5 w6 := by
  have f := fun i hi => word_frame k [w0, w1, w2, w3, w4, w5, w6] i rfl hi hw
  unfold again readV
  rw [(frame_getD k _).2.2.1, f 0 (by decide), f 1 (by decide), f 2 (by decide), f 3 (by decide), f 4 (by decide), f 5 (by decide), f 6 (by decide)]
  exact ⟨rfl, rfl⟩
/-- Unpack of a frame's bytes. -/
theorem unpack_frame (k w0 w1 w2 w3 w4 w5 w6 : Nat) (b o cap : Nat) (w : World) (hk : k < 256) (hw : ∀ x ∈ [w0, w1, w2, w3, w4, w5, w6], x < 18446744073709551616) (hB : Bs w b o (frame k [w0, w1, w2, w3, w4, w5, w6])) (hL : Laid w) :
    Calls Tryd.prog 15 #[.slice (some ⟨b, o, none⟩) 64 cap] w fun e w' => e = .returned (.tuple #[fv k w0 w1 w2 w3 w4 w5 w6, .int .i64 0]) ∧ Below w.heap.size w w' := by
  refine (unpack_whole _ b o cap w (frame_len k _ rfl) (frame_oct k _ hk) hB hL).mono ?_
  rintro e w' ⟨h, hb⟩
  have ha := frame_again k w0 w1 w2 w3 w4 w5 w6 hw
  rcases h with ⟨h, _⟩ | ⟨_, h, _⟩ | ⟨_, _, h⟩
  · exact absurd (frame_headed k _) h
  · exact absurd ha.1.symm h
  · rw [ha.2] at h
    exact ⟨h, hb⟩
end Go.Proofs.YtniofmaefonkdaaDoor
