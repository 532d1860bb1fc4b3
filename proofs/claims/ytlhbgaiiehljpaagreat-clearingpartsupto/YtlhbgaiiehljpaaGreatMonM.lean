/-
  MonM
-/
import Derived.Laws.Bits64
import Derived.Laws.Bits64b
import Derived.WalkKit
namespace Go.Proofs.YtlhbgaiiehljpaaGreat.MonM
set_option linter.unusedVariables false
def hiW (m : Int) : Int := m / 18446744073709551616 % 18446744073709551616
def loW (m : Int) : Int := m % 18446744073709551616
def Amt (m : Int) : Prop := -170141183460469231731687303715884105727 ≤ m ∧ m ≤ 170141183460469231731687303715884105727
theorem hiW_word (m : Int) : 0 ≤ hiW m ∧ hiW m < 18446744073709551616 := by unfold hiW; omega
theorem loW_word (m : Int) : 0 ≤ loW m ∧ loW m < 18446744073709551616 := by unfold loW; omega
/-- what the words say of an amount (or of -2^127). -/
theorem words (m : Int) (h0 : -170141183460469231731687303715884105728 ≤ m) (h1 : m ≤ 170141183460469231731687303715884105727) :
    (0 ≤ m ∧ m = hiW m * 18446744073709551616 + loW m ∧ hiW m < 9223372036854775808) ∨
    (m < 0 ∧ m + 340282366920938463463374607431768211456 = hiW m * 18446744073709551616 + loW m ∧ 9223372036854775808 ≤ hiW m) := by
  unfold hiW loW; omega
theorem words_zero : hiW 0 = 0 ∧ loW 0 = 0 := ⟨rfl, rfl⟩
/-- adding word by word. -/
theorem add_words (m n : Int) :
    hiW (m + n) = (hiW m + hiW n + (loW m + loW n) / 18446744073709551616) % 18446744073709551616 ∧ loW (m + n) = (loW m + loW n) % 18446744073709551616 := by
  unfold hiW loW; omega
theorem neg_words (m : Int) :
    hiW (-m) = (0 - hiW m - (if 0 < loW m then 1 else 0)) % 18446744073709551616 ∧ loW (-m) = (0 - loW m) % 18446744073709551616 := by
  unfold hiW loW; split <;> omega

/-! the top bit -/
theorem and_pow (x i : Nat) : x &&& 2 ^ i = (x.testBit i).toNat * 2 ^ i := by
  apply Nat.eq_of_testBit_eq
  intro j
  rw [Nat.testBit_and, Nat.testBit_two_pow]
  by_cases h : i = j
  · subst h
    cases hb : x.testBit i <;> simp
  · cases hb : x.testBit i <;> simp [h]
theorem and_top (a : Int) (h0 : 0 ≤ a) (h1 : a < 18446744073709551616) : bits .and .u64 a 9223372036854775808 = if 9223372036854775808 ≤ a then 9223372036854775808 else 0 := by
  obtain ⟨x, rfl⟩ := Int.eq_ofNat_of_zero_le h0
  have h := bits_and_u64_nat x 9223372036854775808 (by omega) (by omega)
  have e : x &&& 9223372036854775808 = (x.testBit 63).toNat * 2 ^ 63 := and_pow x 63
  have e2 : x.testBit 63 = decide (9223372036854775808 ≤ x) := by
    rw [Nat.testBit_eq_decide_div_mod_eq]
    congr 1
    have : (x / 2 ^ 63 % 2 = 1) = (9223372036854775808 ≤ x) := by
      apply propext; omega
    exact this
  rw [e, e2] at h
  refine h.trans ?_
  by_cases hx : 9223372036854775808 ≤ x
  · rw [if_pos (by omega)]; simp [hx]
  · rw [if_neg (by omega)]; simp [hx]
theorem top_nat (x : Nat) (h : x < 18446744073709551616) : x.testBit 63 = decide (9223372036854775808 ≤ x) := by
  rw [Nat.testBit_eq_decide_div_mod_eq]
  congr 1
  have : (x / 2 ^ 63 % 2 = 1) = (9223372036854775808 ≤ x) := by
    apply propext; omega
  exact this
/-- both other than a third, in the top bit. -/
theorem over_top (a b c : Int) (a0 : 0 ≤ a) (a1 : a < 18446744073709551616) (b0 : 0 ≤ b) (b1 : b < 18446744073709551616) (c0 : 0 ≤ c) (c1 : c < 18446744073709551616) :
    bits .and .u64 (bits .and .u64 (bits .xor .u64 a c) (bits .xor .u64 b c)) 9223372036854775808 =
      if (decide (9223372036854775808 ≤ a) != decide (9223372036854775808 ≤ c)) && (decide (9223372036854775808 ≤ b) != decide (9223372036854775808 ≤ c)) then 9223372036854775808 else 0 := by
  obtain ⟨x, rfl⟩ := Int.eq_ofNat_of_zero_le a0
  obtain ⟨y, rfl⟩ := Int.eq_ofNat_of_zero_le b0
  obtain ⟨z, rfl⟩ := Int.eq_ofNat_of_zero_le c0
  have hx : x ^^^ z < 2 ^ 64 := Nat.xor_lt_two_pow (by omega) (by omega)
  have hy : y ^^^ z < 2 ^ 64 := Nat.xor_lt_two_pow (by omega) (by omega)
  have hxy : (x ^^^ z) &&& (y ^^^ z) < 2 ^ 64 := Nat.and_lt_two_pow _ (by omega)
  rw [bits_xor_u64_nat x z (by omega) (by omega), bits_xor_u64_nat y z (by omega) (by omega), bits_and_u64_nat _ _ (by omega) (by omega)]
  have h := bits_and_u64_nat ((x ^^^ z) &&& (y ^^^ z)) 9223372036854775808 (by omega) (by omega)
  refine h.trans ?_
  have e : ((x ^^^ z) &&& (y ^^^ z)) &&& 9223372036854775808 = (((x ^^^ z) &&& (y ^^^ z)).testBit 63).toNat * 2 ^ 63 := and_pow _ 63
  rw [e, Nat.testBit_and, Nat.testBit_xor, Nat.testBit_xor, top_nat x (by omega), top_nat y (by omega), top_nat z (by omega)]
  have i1 : decide ((9223372036854775808 : Int) ≤ (x : Int)) = decide (9223372036854775808 ≤ x) := by congr 1; apply propext; omega
  have i2 : decide ((9223372036854775808 : Int) ≤ (y : Int)) = decide (9223372036854775808 ≤ y) := by congr 1; apply propext; omega
  have i3 : decide ((9223372036854775808 : Int) ≤ (z : Int)) = decide (9223372036854775808 ≤ z) := by congr 1; apply propext; omega
  rw [i1, i2, i3]
  cases decide (9223372036854775808 ≤ x) <;> cases decide (9223372036854775808 ≤ y) <;> cases decide (9223372036854775808 ≤ z) <;> rfl
end Go.Proofs.YtlhbgaiiehljpaaGreat.MonM
