/-
  Sort sorts.
-/
import Derived.Test.YtjpkodllemoniaaDoorXu
namespace Go.Proofs.YtjpkodllemoniaaDoor.Sr
open Go.RowKit Go.Deep
set_option linter.unusedVariables false
set_option linter.unusedSimpArgs false
set_option maxHeartbeats 8000000
set_option maxRecDepth 100000
theorem bl_le64s (n : Nat) (h : n ≤ 1152921504606846976) : Lib.bitLen n ≤ 64 := by
  by_cases h0 : n = 0
  · subst h0; decide
  · have := bl_bounds 64 n (by omega) h0
    change 1 ≤ Lib.bitLen n ∧ 2 ^ (Lib.bitLen n - 1) ≤ n ∧ n < 2 ^ Lib.bitLen n at this
    rcases Nat.lt_or_ge 64 (Lib.bitLen n) with hh | hh
    · have h3 := Nat.pow_le_pow_right (n := 2) (by omega) (show 64 ≤ Lib.bitLen n - 1 by omega)
      have h4 := this.2.1
      have : (2 : Nat) ^ 64 = 18446744073709551616 := by decide
      omega
    · exact hh
theorem dn_all {n : Nat} {l l' : List Int} (hl : l.length = n) (hl' : l'.length = n) (h : Dn 0 n l l') : l'.Perm l ∧ l'.Pairwise (· ≤ ·) := by
  obtain ⟨h1, h2⟩ := h
  refine ⟨?_, List.pairwise_iff_getElem.2 (fun i j hi hj hij => ?_)⟩
  · have h3 := h1.2.2
    simp only [List.extract_toArray, List.toList_toArray, List.extract_eq_take_drop, List.drop_zero, Nat.sub_zero] at h3
    rw [List.take_of_length_le (by omega), List.take_of_length_le (by omega)] at h3
    exact h3
  · have h3 := h2 i j (Nat.zero_le _) hij (by omega)
    rw [arr_get, arr_get, lt_def] at h3
    have e1 : gd l' i = l'[i] := by unfold gd; rw [List.getD_eq_getElem?_getD, List.getElem?_eq_getElem hi]; rfl
    have e2 : gd l' j = l'[j] := by unfold gd; rw [List.getD_eq_getElem?_getD, List.getElem?_eq_getElem hj]; rfl
    rw [e1, e2] at h3
    have := of_decide_eq_false h3
    omega
theorem sort_so (g cap n : Nat) (l : List Int) (w : World) (h : Uz w g n l) (hn : n ≤ 1152921504606846976) :
    Calls Tryd.prog 51 #[.slice (some ⟨g, 0, none⟩) n cap] w fun e w' => e = .returned (.tuple #[]) ∧ Sp w w' g n (fun l' => l'.Perm l ∧ l'.Pairwise (· ≤ ·)) := by
  have hL := hid (Tryd.bits_Len (n : Int) w (by omega) (by omega))
  have wn : IntKind.u64.wrap (n : Int) = (n : Int) := by rw [IntKind.wrap_u64]; omega
  obtain ⟨k, hk⟩ : ∃ k, Lib.bitLen (n : Int).toNat = k := ⟨_, rfl⟩
  have k64 : k ≤ 64 := by
    have e : (n : Int).toNat = n := by omega
    rw [← hk, e]
    exact bl_le64s n hn
  rw [hk] at hL
  have CP := hid (show Calls Tryd.prog 55 #[.slice (some ⟨g, 0, none⟩) n cap, .int .i64 0, .int .i64 n, .int .i64 k] w fun e w' => e = .returned (.tuple #[]) ∧ Hid (Sp w w' g n (fun l' => l'.Perm l ∧ l'.Pairwise (· ≤ ·))) from (pdq_so g cap n hn n l 0 n k w (by omega) h (by omega) (Nat.le_refl _) (.inl rfl) (by omega) (by omega)).mono (fun e w' hh => ⟨hh.1, hid (hh.2.mono (fun l' hl hd => dn_all h.len hl hd))⟩))
  clear h hk
  go_enter Tryd.func51, Tryd.ntmps51
  go_wp2_with (first | (go_at_call 56; with_reducible refine (hL.out).mono ?_; rintro e w9 ⟨rfl, h9⟩; subst w9) | (go_at_call 55; with_reducible refine (CP.out).mono ?_; rintro e v1 ⟨rfl, HS⟩))
  go_end0
  exact ⟨rfl, HS.out⟩
end Go.Proofs.YtjpkodllemoniaaDoor.Sr
