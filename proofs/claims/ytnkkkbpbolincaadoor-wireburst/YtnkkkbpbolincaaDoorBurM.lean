/-
  Bursts: plain mathematics.
-/
import Derived.Test.YtnkkkbpbolincaaDoorBack
namespace Go.Proofs.YtnkkkbpbolincaaDoor
open Go.RowKit Go.Deep Crc
set_option linter.unusedVariables false

theorem bits8_xor (n a b : Nat) : bits8 n (a ^^^ b) = bits8 n a ^^^ bits8 n b := by
  induction n with
  | zero => rfl
  | succ n ih => simp only [bits8]; rw [ih, bit_xor]
theorem bits8_add (n m a : Nat) : bits8 (n + m) a = bits8 n (bits8 m a) := by
  induction n with
  | zero => simp [bits8]
  | succ n ih => rw [Nat.succ_add]; simp only [bits8]; rw [ih]
theorem bits8_shift (n a : Nat) : bits8 n (a * 2 ^ n) = a := by
  induction n generalizing a with
  | zero => simp [bits8]
  | succ n ih =>
    have : a * 2 ^ (n + 1) = (2 * a) * 2 ^ n := by rw [Nat.pow_succ, Nat.mul_comm 2 a, Nat.mul_assoc, Nat.mul_comm 2 (2 ^ n)]
    simp only [bits8]
    rw [this, ih, bit_even]
theorem byte_bits (c x : Nat) : byte c x = bits8 8 (c ^^^ x) := by
  unfold byte
  rw [← nib_bits, ← nib_bits]
  rfl
/-- a number and one far above it. -/
theorem add_xor (x m k : Nat) (h : x < 2 ^ k) : x + m * 2 ^ k = x ^^^ (m * 2 ^ k) := by
  have e := or_add x m k h
  rw [← e]
  apply Nat.eq_of_testBit_eq
  intro i
  rw [Nat.testBit_or, Nat.testBit_xor]
  by_cases hi : i < k
  · have : (m * 2 ^ k).testBit i = false := by rw [Nat.mul_comm, Nat.testBit_two_pow_mul]; simp; omega
    simp [this]
  · have : x.testBit i = false := Nat.testBit_lt_two_pow (Nat.lt_of_lt_of_le h (Nat.pow_le_pow_right (by decide) (by omega)))
    simp [this]
theorem num_cons (x : Nat) (l : List Nat) (h : x < 256) : num (x :: l) = x ^^^ (num l * 2 ^ 8) := by
  rw [← add_xor x (num l) 8 (by simpa using h)]
  simp only [num]
  omega
theorem run_num (l : List Nat) : ∀ c, Oct l → run l c = bits8 (8 * l.length) (c ^^^ num l) := by
  induction l with
  | nil => intro c h; simp [run, num, bits8]
  | cons x l ih =>
    intro c h
    have hx := h x (by simp)
    have e : run (x :: l) c = run l (byte c x) := rfl
    rw [e, ih _ (fun y hy => h y (by simp [hy])), num_cons x l hx, ← Nat.xor_assoc]
    rw [show 8 * (x :: l).length = 8 * l.length + 8 by simp; omega, bits8_add, bits8_xor 8, bits8_shift, byte_bits]
/-- what every frame's bytes leave. -/
theorem frame_left (k : Nat) (ws : List Nat) (hk : k < 256) : run (frame k ws) 4294967295 = bits8 32 4294967295 := by
  have hs := run_lt (body k ws) 4294967295 (by decide) (body_oct k ws hk)
  have ho : Oct (le 4 (crc (body k ws))) := le_oct _ _
  have e : run (frame k ws) 4294967295 = run (le 4 (crc (body k ws))) (run (body k ws) 4294967295) := by
    unfold frame run
    rw [List.foldl_append]
  rw [e, run_num _ _ ho, le_len, num_le 4 _ (by have := crc_lt (body k ws); simpa using this)]
  have e2 : crc (body k ws) = run (body k ws) 4294967295 ^^^ 4294967295 := by rw [not_xor _ hs]; rfl
  rw [e2, ← Nat.xor_assoc, Nat.xor_self, Nat.zero_xor]
theorem bit_zero (c : Nat) (h : c < 4294967296) (h0 : bit c = 0) : c = 0 := by
  unfold bit at h0
  split at h0
  · have : c / 2 = 3988292384 := by
      have h1 := congrArg (fun y => y ^^^ 3988292384) h0
      simp only [Nat.xor_assoc, Nat.xor_self, Nat.xor_zero, Nat.zero_xor] at h1
      exact h1
    omega
  · omega
theorem bits8_lt (n c : Nat) (h : c < 4294967296) : bits8 n c < 4294967296 := by
  induction n with
  | zero => exact h
  | succ n ih => exact bit_lt _ ih
theorem bits8_zero (n c : Nat) (h : c < 4294967296) (h0 : bits8 n c = 0) : c = 0 := by
  induction n with
  | zero => exact h0
  | succ n ih => exact ih (bit_zero _ (bits8_lt n c h) h0)
/-- two frames do not differ by a burst. -/
theorem no_burst (k k' : Nat) (ws ws' : List Nat) (hk : k < 256) (hk' : k' < 256) (hw : ws.length = 7) (hw' : ws'.length = 7) (T f : Nat) (hT : T < 4294967296) (hf : f ≤ 512)
    (h : num (frame k' ws') = num (frame k ws) ^^^ (T * 2 ^ f)) : T = 0 := by
  have e1 := run_num (frame k ws) 4294967295 (frame_oct k ws hk)
  have e2 := run_num (frame k' ws') 4294967295 (frame_oct k' ws' hk')
  rw [frame_left k ws hk, frame_len k ws hw] at e1
  rw [frame_left k' ws' hk', frame_len k' ws' hw', h, ← Nat.xor_assoc, bits8_xor, ← e1] at e2
  have e3 : bits8 (8 * 64) (T * 2 ^ f) = 0 := by
    have h1 := congrArg (fun y => bits8 32 4294967295 ^^^ y) e2
    simp only [Nat.xor_self, ← Nat.xor_assoc, Nat.zero_xor] at h1
    exact h1.symm
  rw [show 8 * 64 = (512 - f) + f by omega, bits8_add, bits8_shift] at e3
  exact bits8_zero _ T hT e3
/-- one bit turned. -/
theorem num_turn (l : List Nat) : ∀ (j r : Nat), r < 8 → (hj : j < l.length) → Oct l → num (l.set j (l[j] ^^^ 2 ^ r)) = num l ^^^ 2 ^ (8 * j + r) := by
  induction l with
  | nil => intro j r hr hj; simp at hj
  | cons x l ih =>
    intro j r hr hj ho
    have hx := ho x (by simp)
    have h2 : 2 ^ r < 256 := by
      have : 2 ^ r ≤ 2 ^ 7 := Nat.pow_le_pow_right (by decide) (by omega)
      omega
    cases j with
    | zero =>
      have hl : x ^^^ 2 ^ r < 256 := Nat.xor_lt_two_pow (n := 8) hx h2
      show num ((x ^^^ 2 ^ r) :: l) = _
      rw [num_cons _ l hl, num_cons x l hx]
      simp only [Nat.mul_zero, Nat.zero_add]
      rw [Nat.xor_assoc, Nat.xor_assoc, Nat.xor_comm (2 ^ r)]
    | succ j =>
      have hj' : j < l.length := by simpa using hj
      show num (x :: l.set j (l[j] ^^^ 2 ^ r)) = _
      rw [num_cons x _ hx, num_cons x l hx, ih j r hr hj' (fun y hy => ho y (by simp [hy]))]
      have e : (num l ^^^ 2 ^ (8 * j + r)) * 2 ^ 8 = (num l * 2 ^ 8) ^^^ (2 ^ (8 * (j + 1) + r)) := by
        rw [← Nat.shiftLeft_eq, Nat.shiftLeft_xor_distrib, Nat.shiftLeft_eq, Nat.shiftLeft_eq, ← Nat.pow_add]
        congr 2
        omega
      rw [e, Nat.xor_assoc]
theorem turn_up (T i f : Nat) (h : T < 2 ^ i) : (T ^^^ 2 ^ i) * 2 ^ f = (T * 2 ^ f) ^^^ 2 ^ (f + i) ∧ T ^^^ 2 ^ i < 2 ^ (i + 1) ∧ 0 < T ^^^ 2 ^ i := by
  have e : T ^^^ 2 ^ i = T + 2 ^ i := by
    have := add_xor T 1 i h
    simp at this
    exact this.symm
  refine ⟨?_, ?_, ?_⟩
  · rw [← Nat.shiftLeft_eq, Nat.shiftLeft_xor_distrib, Nat.shiftLeft_eq, Nat.shiftLeft_eq, ← Nat.pow_add, Nat.add_comm i f]
  · rw [e, Nat.pow_succ]; omega
  · rw [e]; have : 0 < 2 ^ i := Nat.pow_pos (by decide); omega
theorem num_inj (a b : List Nat) (ha : Oct a) (hb : Oct b) (hl : a.length = b.length) (h : num a = num b) : a = b := by
  rw [← le_num a ha, ← le_num b hb, h, hl]
end Go.Proofs.YtnkkkbpbolincaaDoor
