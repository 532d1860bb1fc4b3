/-
  Contracts of highest, Has, Set, Clear.
-/
import Derived.Test.YtcbfgodknonefaaDoorBmA
import Derived.Test.YtcbfgodknonefaaDoorShelf
import Derived.BigQuiet
namespace Go.Proofs.YtcbfgodknonefaaDoor
open Go.RowKit Go.Deep Bt
set_option linter.unusedVariables false
set_option maxRecDepth 100000
set_option maxHeartbeats 1000000

theorem highest_any (x k : Nat) (w : World) (hx : x < 18446744073709551616) (h : Msb x k) :
    Calls Tryd.prog 45 #[.int .u64 x] w fun e w' => e = .returned (.int .i64 k) ∧ w' = w := by
  have h0 : x ≠ 0 := by rintro rfl; have := h.1; simp at this
  obtain ⟨a, m⟩ := msb_len x h0 hx
  have hk := msb_one m h
  have C := Tryd.bits_Len64 (x : Int) w (by omega) (by omega)
  rw [Int.toNat_natCast, show Lib.bitLen x = k + 1 by omega] at C
  have kl : k < 64 := bit_small (n := 64) hx h.1
  have HC := hid C
  clear C h m a hk
  go_enter Tryd.func45, Tryd.ntmps45
  go_wp2_with (go_at_call 54; refine (HC.out).mono ?_; rintro e w' ⟨rfl, rfl⟩)
  go_ret
  exact ⟨rfl, rfl⟩
/-- only one block may have changed. -/
structure Ko (b : Nat) (w w' : World) : Prop where
  os : w'.os = w.os
  tape : w'.tape = w.tape
  output : w'.output = w.output
  size : w.heap.size ≤ w'.heap.size
  obj : ∀ j, j < w.heap.size → j ≠ b → w'.heap[j]? = w.heap[j]?
theorem Ko.of {b : Nat} {w w' : World} (h : Below w.heap.size w w') : Ko b w w' := ⟨h.os, h.tape, h.output, h.size, fun j hj _ => h.block j hj⟩
theorem Ko.trans {b : Nat} {u v w : World} (h : Ko b u v) (k : Ko b v w) : Ko b u w := ⟨k.os.trans h.os, k.tape.trans h.tape, k.output.trans h.output, Nat.le_trans h.size k.size, fun j hj hb => (k.obj j (Nat.lt_of_lt_of_le hj h.size) hb).trans (h.obj j hj hb)⟩
theorem Ko.below {b n : Nat} {w w' : World} (h : Ko b w w') (hn : n ≤ b) (hs : n ≤ w.heap.size) : Below n w w' := ⟨h.os, h.tape, h.output, h.size, fun j hj => h.obj j (by omega) (by omega)⟩
theorem Bm.lt {w : World} {b : Nat} {S : Nat → Bool} (h : Bm w b S) : b < w.heap.size := by
  obtain ⟨row, h1, _⟩ := h
  exact (Array.getElem?_eq_some_iff.1 h1).1
theorem Bm.same {w w' : World} {b : Nat} {S : Nat → Bool} (h : Bm w b S) (e : w'.heap[b]? = w.heap[b]?) : Bm w' b S := by
  obtain ⟨row, h1, h2⟩ := h
  exact ⟨row, e.trans h1, h2⟩
theorem Bm.on {w w' : World} {b : Nat} {S : Nat → Bool} (h : Bm w b S) (k : Below w.heap.size w w') : Bm w' b S := h.same (k.block b h.lt)
theorem Bm.off {w w' : World} {b c : Nat} {S : Nat → Bool} (h : Bm w b S) (k : Ko c w w') (hc : b ≠ c) : Bm w' b S := h.same (k.obj b h.lt hc)
theorem below_drews {a b : World} (h : b.heap = a.heap) (h1 : b.os = a.os) (h2 : b.tape = a.tape) (h3 : b.output = a.output) : Below a.heap.size a b := ⟨h1, h2, h3, by rw [h]; exact Nat.le_refl _, fun _ _ => by rw [h]⟩
theorem hasI_nat (S : Nat → Bool) (k : Nat) (h : k < 262144) : hasI S (k : Int) = S k := by
  unfold hasI
  rw [decide_eq_true (by omega), decide_eq_true (by omega)]; rfl
theorem hasI_out (S : Nat → Bool) (t : Int) (h : ¬ (0 ≤ t ∧ t < 262144)) : hasI S t = false := by
  unfold hasI
  by_cases h0 : 0 ≤ t
  · rw [decide_eq_true h0, decide_eq_false (p := t < 262144) (by omega)]; rfl
  · rw [decide_eq_false h0]; rfl
theorem isTick_yes (k : Nat) (h : k < 262144) (w : World) :
    Calls Tryd.prog 30 #[.int .i64 k] w fun e w' => e = .returned (.bool true) ∧ w' = w := by
  have C1 := isTick_any (k : Int) w
  rw [decide_eq_true (by omega), decide_eq_true (by omega)] at C1
  exact C1
theorem isTick_no (t : Int) (h : ¬ (0 ≤ t ∧ t < 262144)) (w : World) :
    Calls Tryd.prog 30 #[.int .i64 t] w fun e w' => e = .returned (.bool false) ∧ w' = w := by
  have C1 := isTick_any t w
  rw [show (decide (0 ≤ t) && decide (t < 262144)) = false by
    by_cases h0 : 0 ≤ t
    · rw [decide_eq_true h0, decide_eq_false (p := t < 262144) (by omega)]; rfl
    · rw [decide_eq_false h0]; rfl] at C1
  exact C1
theorem and_bit (x b : Nat) (hx : x < 18446744073709551616) (hb : b < 64) : bits .and .u64 (x : Int) ((2 ^ b : Nat) : Int) = if x.testBit b then ((2 ^ b : Nat) : Int) else 0 := by
  rw [u64_and_nat x (2 ^ b) hx (pow_lt64 b hb)]
  have : x &&& 2 ^ b = if x.testBit b then 2 ^ b else 0 := by
    apply Nat.eq_of_testBit_eq
    intro i
    rw [Nat.testBit_and, Nat.testBit_two_pow]
    by_cases e : b = i
    · subst e
      cases h : x.testBit b <;> simp
    · cases h : x.testBit b <;> simp [e]
  rw [this]
  cases x.testBit b <;> rfl
theorem has_any (b : Nat) (S : Nat → Bool) (t : Int) (w : World) (hB : Bm w b S) :
    Calls Tryd.prog 26 #[.pointer (some ⟨b, 0, none⟩), .int .i64 t] w fun e w' => e = .returned (.bool (hasI S t)) ∧ Below w.heap.size w w' := by
  by_cases h : 0 ≤ t ∧ t < 262144
  · obtain ⟨k, rfl⟩ : ∃ k : Nat, t = k := ⟨t.toNat, by omega⟩
    have h2 : (k : Int) < 262144 := h.2
    obtain ⟨x, hx⟩ : ∃ x, lo S (k / 64) = x := ⟨_, rfl⟩
    have h1 := hB.low (k / 64) (by omega)
    rw [hx] at h1
    have x1 : x < 18446744073709551616 := by rw [← hx]; exact lo_lt _ _
    have C1 := hid (fun w => isTick_yes k (by omega) w)
    have C2 := hid (fun w => bit_any k w (by omega))
    rw [hasI_nat S k (by omega)]
    have e0 := lo_bit S (k / 64) (k % 64) (by omega)
    rw [show 64 * (k / 64) + k % 64 = k by omega, hx] at e0
    have e1 := and_bit x (k % 64) x1 (by omega)
    rw [e0] at e1
    obtain ⟨p, hp⟩ : ∃ p, 2 ^ (k % 64) = p := ⟨_, rfl⟩
    have p1 : 0 < p := by rw [← hp]; exact Nat.two_pow_pos _
    have p2 : p < 18446744073709551616 := by rw [← hp]; exact pow_lt64 _ (by omega)
    rw [hp] at e1 C2
    cases hS : S k with
    | true =>
      rw [hS, if_pos rfl] at e1
      have p3 : ((p : Int) != 0) = true := by simp; omega
      clear hp e0 hS hx h
      go_enter Tryd.func26, Tryd.ntmps26
      go_wp2_with (fail)
      go_quiet (first | (go_at_call 30; refine Calls.quiet_of_same (C1.out _)) | (go_at_call 31; refine Calls.quiet_of_same (C2.out _)))
      go_wp2_with fail
      go_ret
      exact ⟨rfl, below_drews rfl rfl rfl rfl⟩
    | false =>
      rw [hS] at e1
      simp only [Bool.false_eq_true, if_false] at e1
      clear hp e0 hS hx h
      go_enter Tryd.func26, Tryd.ntmps26
      go_wp2_with (fail)
      go_quiet (first | (go_at_call 30; refine Calls.quiet_of_same (C1.out _)) | (go_at_call 31; refine Calls.quiet_of_same (C2.out _)))
      go_wp2_with fail
      go_ret
      exact ⟨rfl, below_drews rfl rfl rfl rfl⟩
  · have C1 := hid (fun w => isTick_no t h w)
    rw [hasI_out S t h]
    clear hB h
    go_enter Tryd.func26, Tryd.ntmps26
    go_wp2_with (fail)
    go_quiet (first | (go_at_call 30; refine Calls.quiet_of_same (C1.out _)))
    go_wp2_with fail
    go_ret
    exact ⟨rfl, below_drews rfl rfl rfl rfl⟩
end Go.Proofs.YtcbfgodknonefaaDoor
