/-
  Contracts of Set and Clear, of any number.
-/
import Derived.Test.YtcbfgodknonefaaDoorBmC
namespace Go.Proofs.YtcbfgodknonefaaDoor
open Go.RowKit Go.Deep Bt
set_option linter.unusedVariables false
set_option maxRecDepth 100000
set_option maxHeartbeats 1000000

theorem ins_there (S : Nat → Bool) (k : Nat) (h : S k = true) : ins S k = S := by
  funext x; unfold ins
  by_cases e : x = k
  · subst e; simp [h]
  · simp [e]
theorem del_none (S : Nat → Bool) (k : Nat) (h : S k = false) : del S k = S := by
  funext x; unfold del
  by_cases e : x = k
  · subst e; simp [h]
  · simp [e]
/-- Set of any number. -/
theorem set_any (b : Nat) (S : Nat → Bool) (t : Int) (w : World) (hB : Bm w b S) :
    Calls Tryd.prog 11 #[.pointer (some ⟨b, 0, none⟩), .int .i64 t] w fun e w' => e = .returned (.bool (setI S t)) ∧ Ko b w w' ∧ Bm w' b (insI S t) := by
  by_cases h : 0 ≤ t ∧ t < 262144
  · obtain ⟨k, rfl⟩ : ∃ k : Nat, t = k := ⟨t.toNat, by omega⟩
    have hk : k < 262144 := by omega
    have e1 : insI S (k : Int) = ins S k := by unfold insI; rw [if_pos h, Int.toNat_natCast]
    have e2 : setI S (k : Int) = !S k := by unfold setI; rw [decide_eq_true h, hasI_nat S k hk]; rfl
    rw [e1, e2]
    cases hS : S k with
    | false => exact set_new b S k w hB hk hS
    | true =>
      rw [ins_there S k hS]
      have C1 := hid (fun w => isTick_yes k hk w)
      have CH := hid (fun (w : World) (hB : Bm w b S) => has_any b S (k : Int) w hB)
      rw [hasI_nat S k hk, hS] at CH
      have HB := hid hB
      clear hB h e1 e2 hS
      go_enter Tryd.func11, Tryd.ntmps11
      go_wp2_with (first | (go_at_call 30; refine (C1.out _).mono ?_; rintro e w1 ⟨rfl, rfl⟩) | (go_at_call 26; refine (CH.out _ HB.out).mono ?_; rintro e w2 ⟨rfl, hb⟩; have HK := hid (And.intro (Ko.of (b := b) hb) (HB.out.on hb)); clear hb))
      go_ret
      exact ⟨rfl, HK.out⟩
  · have e1 : insI S t = S := by unfold insI; rw [if_neg h]
    have e2 : setI S t = false := by unfold setI; rw [decide_eq_false h]; rfl
    rw [e1, e2]
    have C1 := hid (fun w => isTick_no t h w)
    have HB := hid hB
    clear hB h e1 e2
    go_enter Tryd.func11, Tryd.ntmps11
    go_wp2_with (first | (go_at_call 30; refine (C1.out _).mono ?_; rintro e w1 ⟨rfl, rfl⟩))
    go_ret
    exact ⟨rfl, Ko.refl _ _, HB.out⟩

/-- the rows behind Clear. -/
theorem del_row1 (S : Nat → Bool) (t : Nat) (ht : t < 262144) (hS : S t = true) (h1 : lo S (t / 64) &&& nb (t % 64) ≠ 0) : ∀ i, i < 4161 → up (cellv S) (65 + t / 64) (lo S (t / 64) &&& nb (t % 64)) i = cellv (del S t) i := by
  intro i hi
  rw [← lo_del] at h1
  have hm := mi_del_keep S t hS h1
  have ht := tp_del_keep S t hS (by rw [hm]; exact mi_ne S _ (lo_ne S t hS))
  unfold up
  by_cases c : i = 65 + t / 64
  · subst c
    rw [if_pos rfl]; unfold cellv
    rw [if_neg (by omega), if_neg (by omega), Nat.add_sub_cancel_left, lo_del]
  · rw [if_neg c]; unfold cellv
    by_cases a : i = 0
    · rw [if_pos a, if_pos a, ht]
    · rw [if_neg a, if_neg a]
      by_cases d : i < 65
      · rw [if_pos d, if_pos d]
        by_cases e : i - 1 = t / 64 / 64
        · rw [e, hm]
        · rw [mi_del_ne S t _ e]
      · rw [if_neg d, if_neg d, lo_del_ne S t _ (by omega)]
theorem del_row2 (S : Nat → Bool) (t : Nat) (ht : t < 262144) (hS : S t = true) (h1 : lo S (t / 64) &&& nb (t % 64) = 0) (h2 : mi S (t / 64 / 64) &&& nb (t / 64 % 64) ≠ 0) : ∀ i, i < 4161 → up (up (cellv S) (65 + t / 64) (lo S (t / 64) &&& nb (t % 64))) (1 + t / 64 / 64) (mi S (t / 64 / 64) &&& nb (t / 64 % 64)) i = cellv (del S t) i := by
  intro i hi
  have h1' := h1
  rw [← lo_del] at h1'
  have hm := mi_del S t h1'
  have ht := tp_del_keep S t hS (by rw [hm]; exact h2)
  unfold up
  by_cases b : i = 1 + t / 64 / 64
  · subst b
    rw [if_pos rfl]; unfold cellv
    rw [if_neg (by omega), if_pos (by omega), Nat.add_sub_cancel_left, hm]
  · rw [if_neg b]
    by_cases c : i = 65 + t / 64
    · subst c
      rw [if_pos rfl]; unfold cellv
      rw [if_neg (by omega), if_neg (by omega), Nat.add_sub_cancel_left, lo_del]
    · rw [if_neg c]; unfold cellv
      by_cases a : i = 0
      · rw [if_pos a, if_pos a, ht]
      · rw [if_neg a, if_neg a]
        by_cases d : i < 65
        · rw [if_pos d, if_pos d, mi_del_ne S t _ (by omega)]
        · rw [if_neg d, if_neg d, lo_del_ne S t _ (by omega)]
theorem del_row3 (S : Nat → Bool) (t : Nat) (ht : t < 262144) (hS : S t = true) (h1 : lo S (t / 64) &&& nb (t % 64) = 0) (h2 : mi S (t / 64 / 64) &&& nb (t / 64 % 64) = 0) : ∀ i, i < 4161 → up (up (up (cellv S) (65 + t / 64) (lo S (t / 64) &&& nb (t % 64))) (1 + t / 64 / 64) (mi S (t / 64 / 64) &&& nb (t / 64 % 64))) 0 (tp S &&& nb (t / 64 / 64)) i = cellv (del S t) i := by
  intro i hi
  have h1' := h1
  rw [← lo_del] at h1'
  have hm := mi_del S t h1'
  have ht := tp_del S t ht (by rw [hm]; exact h2)
  unfold up
  by_cases a : i = 0
  · subst a
    rw [if_pos rfl]; unfold cellv; rw [if_pos rfl, ht]
  · rw [if_neg a]
    by_cases b : i = 1 + t / 64 / 64
    · subst b
      rw [if_pos rfl]; unfold cellv
      rw [if_neg (by omega), if_pos (by omega), Nat.add_sub_cancel_left, hm]
    · rw [if_neg b]
      by_cases c : i = 65 + t / 64
      · subst c
        rw [if_pos rfl]; unfold cellv
        rw [if_neg (by omega), if_neg (by omega), Nat.add_sub_cancel_left, lo_del]
      · rw [if_neg c]; unfold cellv
        rw [if_neg a, if_neg a]
        by_cases d : i < 65
        · rw [if_pos d, if_pos d, mi_del_ne S t _ (by omega)]
        · rw [if_neg d, if_neg d, lo_del_ne S t _ (by omega)]
end Go.Proofs.YtcbfgodknonefaaDoor
