/-
  The check sum: plain mathematics.
-/
import Derived.Laws.BitsAllLaws
import Derived.WalkKit
namespace Go.Proofs.YtjpkodllemoniaaDoor.Crc
set_option linter.unusedVariables false

/-- one bit on. -/
def bit (c : Nat) : Nat := if c % 2 = 1 then (c / 2) ^^^ 3988292384 else c / 2
def tab (i : Nat) : Nat := [0, 498536548, 997073096, 651767980, 1994146192, 1802195444, 1303535960, 1342533948, 3988292384, 4027552580, 3604390888, 3412177804, 2607071920, 2262029012, 2685067896, 3183342108].getD i 0
def nib (c : Nat) : Nat := (c / 16) ^^^ tab (c % 16)

theorem bit_xor (a b : Nat) : bit (a ^^^ b) = bit a ^^^ bit b := by
  have h1 : (a ^^^ b) % 2 = (a + b) % 2 := by
    have e : ∀ n : Nat, n % 2 = (n.testBit 0).toNat := by intro n; rw [Nat.testBit_zero]; by_cases h : n % 2 = 1 <;> simp [h]; omega
    rw [e, Nat.testBit_xor, Nat.testBit_zero, Nat.testBit_zero]
    by_cases ha : a % 2 = 1 <;> by_cases hb : b % 2 = 1 <;> simp [ha, hb] <;> omega
  have h2 : (a ^^^ b) / 2 = a / 2 ^^^ b / 2 := Nat.xor_div_two
  unfold bit
  rw [h1, h2]
  by_cases ha : a % 2 = 1 <;> by_cases hb : b % 2 = 1
  · rw [if_neg (by omega), if_pos ha, if_pos hb]
    apply Nat.eq_of_testBit_eq; intro i; simp only [Nat.testBit_xor]
    cases (a / 2).testBit i <;> cases (b / 2).testBit i <;> cases Nat.testBit 3988292384 i <;> rfl
  · rw [if_pos (by omega), if_pos ha, if_neg hb]
    apply Nat.eq_of_testBit_eq; intro i; simp only [Nat.testBit_xor]
    cases (a / 2).testBit i <;> cases (b / 2).testBit i <;> cases Nat.testBit 3988292384 i <;> rfl
  · rw [if_pos (by omega), if_neg ha, if_pos hb]
    apply Nat.eq_of_testBit_eq; intro i; simp only [Nat.testBit_xor]
    cases (a / 2).testBit i <;> cases (b / 2).testBit i <;> cases Nat.testBit 3988292384 i <;> rfl
  · rw [if_neg (by omega), if_neg ha, if_neg hb]
theorem bit_even (x : Nat) : bit (2 * x) = x := by unfold bit; rw [if_neg (by omega)]; omega
theorem cut16 (q r : Nat) (h : r < 16) : 16 * q + r = (16 * q) ^^^ r := by
  apply Nat.eq_of_testBit_eq; intro j
  rw [Nat.testBit_xor]
  have e1 := Nat.testBit_two_pow_mul_add q (i := 4) (b := r) (by omega) j
  have e2 := Nat.testBit_two_pow_mul (a := q) (i := 4) (j := j)
  rw [show (2 ^ 4 * q) = 16 * q by omega] at e1 e2
  rw [e1, e2]
  by_cases hj : j < 4
  · have hn : ¬ (4 ≤ j) := by omega
    simp [hj, hn]
  · have hr : r.testBit j = false := Nat.testBit_lt_two_pow (Nat.lt_of_lt_of_le (show r < 2 ^ 4 by omega) (Nat.pow_le_pow_right (by decide) (by omega)))
    simp [hj, hr]
    omega
/-- so many bits on. -/
def bits8 : Nat → Nat → Nat
  | 0, c => c
  | j + 1, c => bit (bits8 j c)
theorem nib_small : ∀ r : Fin 16, bit (bit (bit (bit r.val))) = tab r.val := by decide
theorem nib_bits (c : Nat) : bit (bit (bit (bit c))) = nib c := by
  have e : c = (16 * (c / 16)) ^^^ (c % 16) := by rw [← cut16 _ _ (by omega)]; omega
  have h := nib_small ⟨c % 16, by omega⟩
  dsimp only at h
  unfold nib
  rw [← h]
  conv => lhs; rw [e]
  rw [bit_xor, bit_xor, bit_xor, bit_xor]
  rw [show 16 * (c / 16) = 2 * (2 * (2 * (2 * (c / 16)))) by omega, bit_even, bit_even, bit_even, bit_even]
theorem bit_lt (c : Nat) (h : c < 4294967296) : bit c < 4294967296 := by
  unfold bit
  split
  · exact Nat.xor_lt_two_pow (n := 32) (by omega) (by omega)
  · omega
theorem nib_lt (c : Nat) (h : c < 4294967296) : nib c < 4294967296 := by
  rw [← nib_bits]; exact bit_lt _ (bit_lt _ (bit_lt _ (bit_lt _ h)))
theorem tab_lt (i : Nat) (h : i < 16) : tab i < 4294967296 := by
  have : ∀ r : Fin 16, tab r.val < 4294967296 := by decide
  exact this ⟨i, h⟩
/-- one byte on. -/
def byte (c x : Nat) : Nat := nib (nib (c ^^^ x))
theorem xor_lt (c x : Nat) (h : c < 4294967296) (hx : x < 4294967296) : c ^^^ x < 4294967296 := Nat.xor_lt_two_pow (n := 32) h hx
theorem byte_lt (c x : Nat) (h : c < 4294967296) (hx : x < 256) : byte c x < 4294967296 := nib_lt _ (nib_lt _ (xor_lt c x h (by omega)))
def run (l : List Nat) (c : Nat) : Nat := l.foldl byte c
theorem run_lt (l : List Nat) : ∀ c, c < 4294967296 → (∀ x ∈ l, x < 256) → run l c < 4294967296 := by
  induction l with
  | nil => intro c h _; exact h
  | cons x l ih => intro c h hx; exact ih _ (byte_lt c x h (hx x (by simp))) (fun y hy => hx y (by simp [hy]))
theorem run_snoc (l : List Nat) (x c : Nat) : run (l ++ [x]) c = byte (run l c) x := by simp [run]
/-- the check sum. -/
def crc (l : List Nat) : Nat := 4294967295 - run l 4294967295
theorem not_xor (c : Nat) (h : c < 4294967296) : c ^^^ 4294967295 = 4294967295 - c := by
  have h1 : (4294967295 : Nat) = 2 ^ 32 - 1 := by decide
  apply Nat.eq_of_testBit_eq; intro i
  rw [Nat.testBit_xor]
  have e := Nat.testBit_two_pow_sub_succ (x := c) (n := 32) h i
  have e2 : 2 ^ 32 - (c + 1) = 4294967295 - c := by omega
  rw [e2] at e
  rw [e, h1, Nat.testBit_two_pow_sub_one]
  by_cases hi : i < 32
  · simp [hi]
  · have : c.testBit i = false := Nat.testBit_lt_two_pow (Nat.lt_of_lt_of_le (show c < 2 ^ 32 from h) (Nat.pow_le_pow_right (by decide) (by omega)))
    simp [hi, this]
theorem crc_lt (l : List Nat) : crc l < 4294967296 := by unfold crc; omega
end Go.Proofs.YtjpkodllemoniaaDoor.Crc
