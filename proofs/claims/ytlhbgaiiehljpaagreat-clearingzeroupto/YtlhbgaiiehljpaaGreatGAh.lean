/-
  DivInt
-/
import Derived.Lib.BitFns
import Derived.Laws.Bits64b
import Derived.Laws.Shifts
import Derived.WalkKit
import Derived.Test.YtlhbgaiiehljpaaGreatGAg
import Derived.WalkLawsBesides
import Derived.Deep.QuietTactic
import Derived.BigQuiet
namespace Go.Proofs.YtlhbgaiiehljpaaGreat.DivInt
set_option linter.unusedVariables false
theorem bitLen_bounds : ∀ (n x : Nat), x ≤ n → x ≠ 0 → x < 2 ^ 64 → 2 ^ (Lib.bitLen x) ≤ 2 * x ∧ x < 2 ^ (Lib.bitLen x)
 | 0, x, hn, h0, _ => by omega
 | n + 1, x, hn, h0, hx => by
  have e := Lib.bitLen_half x h0 hx
  by_cases h1 : x / 2 = 0
  ·have hx1 : x = 1 := by omega
   subst hx1
   decide
  ·have ih := bitLen_bounds n (x / 2) (by omega) h1 (by omega)
   rw [e, Nat.pow_add]
   generalize 2 ^ Lib.bitLen (x / 2) = p at ih
   omega
/-- the shift that lays the divisor's highest bit at the top. -/
theorem shift_top (y : Int) (h0 : 0 < y) (h1 : y < 18446744073709551616) :
  0 ≤ 64 - (Lib.bitLen y.toNat : Int) ∧ 64 - (Lib.bitLen y.toNat : Int) ≤ 63 ∧
   9223372036854775808 ≤ y * 2 ^ (64 - (Lib.bitLen y.toNat : Int)).toNat ∧ y * 2 ^ (64 - (Lib.bitLen y.toNat : Int)).toNat < 18446744073709551616 := by
 obtain ⟨x, rfl⟩ := Int.eq_ofNat_of_zero_le (Int.le_of_lt h0)
 have hx0 : x ≠ 0 := by omega
 have hx : x < 2 ^ 64 := by omega
 obtain ⟨b1, b2⟩ := bitLen_bounds x x (Nat.le_refl _) hx0 hx
 have b3 := Lib.bitLen_le x 64 (Nat.le_refl _) hx
 rw [Int.toNat_natCast]
 generalize Lib.bitLen x = L at *
 have hL : L ≠ 0 := by intro h; subst h; simp at b2; omega
 have e : (64 - (L : Int)).toNat = 64 - L := by omega
 rw [e]
 have ep : 2 ^ L * 2 ^ (64 - L) = 18446744073709551616 := by rw [← Nat.pow_add, show L + (64 - L) = 64 from by omega]
 have hp : 0 < 2 ^ (64 - L) := Nat.pow_pos (by decide)
 have m1 : 2 ^ L * 2 ^ (64 - L) ≤ 2 * x * 2 ^ (64 - L) := Nat.mul_le_mul_right _ b1
 have m2 : x * 2 ^ (64 - L) < 2 ^ L * 2 ^ (64 - L) := Nat.mul_lt_mul_of_pos_right b2 hp
 rw [ep] at m1 m2
 rw [Nat.mul_assoc] at m1
 have ec : ((x : Int) * 2 ^ (64 - L)) = ((x * 2 ^ (64 - L) : Nat) : Int) := by simp
 rw [ec]
 omega
theorem wrap_eq (n : Int) : IntKind.u64.wrap n = n % 18446744073709551616 := by rw [IntKind.wrap_u64]
theorem and_low (a : Int) (h0 : 0 ≤ a) (h1 : a < 18446744073709551616) : bits .and .u64 a 4294967295 = a % 4294967296 := by
 obtain ⟨x, rfl⟩ := Int.eq_ofNat_of_zero_le h0
 have h := bits_and_u64_nat x 4294967295 (by omega) (by omega)
 have e : x &&& 4294967295 = x % 4294967296 := Nat.and_two_pow_sub_one_eq_mod x 32
 rw [e] at h
 exact h
theorem or_add (p k a b : Nat) (hp : p = 2 ^ k) (hb : b < p) (h1 : a * p < 18446744073709551616) (h2 : b < 18446744073709551616) :
  bits .or .u64 ((a * p : Nat) : Int) (b : Int) = ((a * p + b : Nat) : Int) := by
 have h := bits_or_u64_nat (a * p) b h1 h2
 rw [h]
 subst hp
 congr 1
 rw [Nat.mul_comm, ← Nat.two_pow_add_eq_or_of_lt hb]
/-- what the shifts make of the dividend. -/
theorem shifted (hi lo y : Int) (k : Nat) (p : Int) (hk : k ≤ 63) (hp : p = 2 ^ k) (h0 : 0 ≤ hi) (hy : hi < y) (hY : y * p < 18446744073709551616) (l0 : 0 ≤ lo) (l1 : lo < 18446744073709551616) :
  ∃ U : Int, bits .or .u64 (IntKind.u64.wrap (hi * p)) (lo / 2 ^ (64 - k)) = U ∧ 0 ≤ U ∧ U < y * p ∧
   (hi * 18446744073709551616 + lo) * p = U * 18446744073709551616 + IntKind.u64.wrap (lo * p) := by
 obtain ⟨a, rfl⟩ := Int.eq_ofNat_of_zero_le h0
 obtain ⟨b, rfl⟩ := Int.eq_ofNat_of_zero_le l0
 have hP : p = ((2 ^ k : Nat) : Int) := by rw [hp]; simp
 have ep : (2 ^ k : Nat) * 2 ^ (64 - k) = 18446744073709551616 := by rw [← Nat.pow_add, show k + (64 - k) = 64 from by omega]
 have hpos : 0 < (2 ^ (64 - k) : Nat) := Nat.pow_pos (by decide)
 have hpos' : 0 < (2 ^ k : Nat) := Nat.pow_pos (by decide)
 have ed : ((b : Int) / 2 ^ (64 - k)) = ((b / 2 ^ (64 - k) : Nat) : Int) := by simp
 have hb : b / 2 ^ (64 - k) < 2 ^ k := by rw [Nat.div_lt_iff_lt_mul hpos, ep]; omega
 have hap : ((a + 1 : Nat) : Int) * p ≤ y * p := Int.mul_le_mul_of_nonneg_right (by omega) (by rw [hP]; omega)
 have e1 : ((a + 1 : Nat) : Int) * p = ((a * 2 ^ k + 2 ^ k : Nat) : Int) := by rw [hP, ← Int.natCast_mul, Nat.add_mul, Nat.one_mul]
 rw [e1] at hap
 have e2 : (a : Int) * p = ((a * 2 ^ k : Nat) : Int) := by rw [hP, ← Int.natCast_mul]
 have hk64 : (2 ^ k : Nat) ≤ 2 ^ 63 := Nat.pow_le_pow_right (by decide) hk
 have hw : IntKind.u64.wrap ((a : Int) * p) = ((a * 2 ^ k : Nat) : Int) := by rw [wrap_eq, e2]; omega
 have e3 : (b : Int) * p = ((b * 2 ^ k : Nat) : Int) := by rw [hP, ← Int.natCast_mul]
 have dm := Nat.div_add_mod b (2 ^ (64 - k))
 have key : b * 2 ^ k = (b / 2 ^ (64 - k)) * 18446744073709551616 + (b % 2 ^ (64 - k)) * 2 ^ k := by
  conv => lhs; rw [← dm]
  rw [Nat.add_mul, ← ep, Nat.mul_comm (2 ^ (64 - k)) (b / 2 ^ (64 - k)), Nat.mul_assoc, Nat.mul_comm (2 ^ (64 - k)) (2 ^ k)]
 have hlt : (b % 2 ^ (64 - k)) * 2 ^ k < 18446744073709551616 := by
  rw [← ep, Nat.mul_comm (2 ^ k)]
  exact Nat.mul_lt_mul_of_pos_right (Nat.mod_lt _ hpos) hpos'
 refine ⟨((a * 2 ^ k + b / 2 ^ (64 - k) : Nat) : Int), ?_, by omega, by omega, ?_⟩
 ·rw [hw, ed]
  exact or_add (2 ^ k) k a _ rfl hb (by omega) (by omega)
 ·rw [wrap_eq, Int.add_mul, e3, Int.mul_right_comm, e2, key]
  generalize (b % 2 ^ (64 - k)) * 2 ^ k = r at *
  generalize b / 2 ^ (64 - k) = t at *
  generalize a * 2 ^ k = v at *
  omega

/-! one digit -/
theorem digit_true (U d Y : Int) (h0 : 0 ≤ U) (hU : U < Y) (d0 : 0 ≤ d) (d1 : d < 4294967296) :
  ∃ T R : Int, U * 4294967296 + d = T * Y + R ∧ 0 ≤ R ∧ R < Y ∧ 0 ≤ T ∧ T < 4294967296 := by
 refine ⟨(U * 4294967296 + d) / Y, (U * 4294967296 + d) % Y, ?_, Int.emod_nonneg _ (by omega), Int.emod_lt_of_pos _ (by omega), Int.ediv_nonneg (by omega) (by omega), ?_⟩
 ·rw [Int.mul_comm ((U * 4294967296 + d) / Y)]; exact (Int.mul_ediv_add_emod _ _).symm
 ·rw [Int.ediv_lt_iff_lt_mul (by omega)]
  have h : (U + 1) * 4294967296 ≤ Y * 4294967296 := by omega
  rw [Int.mul_comm 4294967296 Y]; omega
/-- the estimate is not below the true digit at the start, and at most two above the base. -/
theorem digit_start (U d Y n1 n0 T R : Int) (hY : Y = n1 * 4294967296 + n0) (h1 : 2147483648 ≤ n1) (h0 : 0 ≤ n0) (h0' : n0 < 4294967296)
  (hU0 : 0 ≤ U) (hU : U < Y) (d0 : 0 ≤ d) (d1 : d < 4294967296) (e : U * 4294967296 + d = T * Y + R) (r0 : 0 ≤ R) (t0 : 0 ≤ T) :
  T ≤ U / n1 ∧ U / n1 ≤ 4294967297 ∧ 0 ≤ U / n1 ∧ U / n1 * n1 ≤ U ∧ U - U / n1 * n1 < n1 ∧ 0 ≤ U / n1 * n1 := by
 have hp : 0 < n1 := by omega
 have q0 : 0 ≤ U / n1 := Int.ediv_nonneg hU0 (by omega)
 have dm := Int.mul_ediv_add_emod U n1
 have m0 := Int.emod_nonneg U (show n1 ≠ 0 by omega)
 have m1 := Int.emod_lt_of_pos U hp
 rw [Int.mul_comm] at dm
 refine ⟨?_, ?_, q0, by omega, by omega, Int.mul_nonneg q0 (by omega)⟩
 ·rw [Int.le_ediv_iff_mul_le hp]
  have e1 : T * Y = T * n1 * 4294967296 + T * n0 := by rw [hY, Int.mul_add, Int.mul_assoc]
  have e2 : 0 ≤ T * n0 := Int.mul_nonneg t0 h0
  omega
 ·have : U / n1 < 4294967298 := by
   rw [Int.ediv_lt_iff_lt_mul hp]; omega
  omega
theorem digit_prod (U d Y n1 n0 q r : Int) (hY : Y = n1 * 4294967296 + n0) (hu : U = q * n1 + r) :
  q * Y = (U - r) * 4294967296 + q * n0 := by
 have e1 : q * Y = q * n1 * 4294967296 + q * n0 := by rw [hY, Int.mul_add, Int.mul_assoc]
 rw [e1]; have : q * n1 = U - r := by omega
 rw [this]
theorem le_of_prod (q T Y N R : Int) (hY : 0 < Y) (e : N = T * Y + R) (hR : R < Y) (h : q * Y ≤ N) : q ≤ T := by
 have h2 : q * Y < (T + 1) * Y := by rw [Int.add_mul, Int.one_mul]; omega
 have := Int.lt_of_mul_lt_mul_right h2 (Int.le_of_lt hY)
 omega
theorem lt_of_prod (q T Y N R : Int) (hY : 0 < Y) (e : N = T * Y + R) (hR : 0 ≤ R) (h : N < q * Y) : T < q := by
 have h2 : T * Y < q * Y := by omega
 exact Int.lt_of_mul_lt_mul_right h2 (Int.le_of_lt hY)
theorem digit_exit (U d Y n1 n0 T R q r : Int) (hY : Y = n1 * 4294967296 + n0) (hp : 0 < Y) (hu : U = q * n1 + r)
  (e : U * 4294967296 + d = T * Y + R) (hR : R < Y) (hge : T ≤ q) (hle : q * n0 ≤ 4294967296 * r + d) : q = T := by
 have hpr := digit_prod U d Y n1 n0 q r hY hu
 have := le_of_prod q T Y _ R hp e hR (by omega)
 omega
theorem digit_break (U d Y n1 n0 T R q r : Int) (hY : Y = n1 * 4294967296 + n0) (hp : 0 < Y) (hu : U = q * n1 + r) (d0 : 0 ≤ d)
  (e : U * 4294967296 + d = T * Y + R) (hR : R < Y) (hge : T ≤ q) (hq0 : 0 ≤ q) (hq : q ≤ 4294967296) (h0 : 0 ≤ n0) (h0' : n0 < 4294967296) (hr : 4294967296 ≤ r) : q = T := by
 refine digit_exit U d Y n1 n0 T R q r hY hp hu e hR hge ?_
 have := Int.mul_le_mul (a := q) (b := n0) (c := 4294967296) (d := 4294967296) hq (by omega) h0 (by omega)
 omega
theorem digit_more (U d Y n1 n0 T R q r : Int) (hY : Y = n1 * 4294967296 + n0) (hp : 0 < Y) (hu : U = q * n1 + r)
  (e : U * 4294967296 + d = T * Y + R) (hR : 0 ≤ R) (hlt : 4294967296 * r + d < q * n0) : T < q := by
 have hpr := digit_prod U d Y n1 n0 q r hY hu
 exact lt_of_prod q T Y _ R hp e hR (by omega)
/-- both digits, and back. -/
theorem both (hi lo y p U X d1 d0 Y T1 R1 T0 R0 : Int) (hp : 0 < p) (hYp : Y = y * p) (hy : 0 < y)
  (es : (hi * 18446744073709551616 + lo) * p = U * 18446744073709551616 + X) (hX : X = d1 * 4294967296 + d0)
  (e1 : U * 4294967296 + d1 = T1 * Y + R1) (e0 : R1 * 4294967296 + d0 = T0 * Y + R0) (r0 : 0 ≤ R0) (r1 : R0 < Y) :
  T1 * 4294967296 + T0 = (hi * 18446744073709551616 + lo) / y ∧ R0 / p = (hi * 18446744073709551616 + lo) % y := by
 generalize hi * 18446744073709551616 + lo = Z at *
 have a1 : Z * p = (T1 * 4294967296 + T0) * Y + R0 := by
  have : (T1 * 4294967296 + T0) * Y = T1 * Y * 4294967296 + T0 * Y := by rw [Int.add_mul, Int.mul_right_comm]
  rw [this]; omega
 generalize T1 * 4294967296 + T0 = Q at *
 have a2 : R0 = (Z - Q * y) * p := by rw [Int.sub_mul, a1, hYp, Int.mul_assoc]; omega
 have b1 : 0 ≤ Z - Q * y := by
  rw [a2] at r0
  by_cases h : 0 ≤ Z - Q * y
  ·exact h
  ·have := Int.mul_neg_of_neg_of_pos (show Z - Q * y < 0 by omega) hp
   omega
 have b2 : Z - Q * y < y := by
  rw [a2, hYp] at r1
  exact Int.lt_of_mul_lt_mul_right r1 (Int.le_of_lt hp)
 have c : Z = (Z - Q * y) + y * Q := by rw [Int.mul_comm y Q]; omega
 constructor
 ·rw [c, Int.add_mul_ediv_left _ _ (by omega), Int.ediv_eq_zero_of_lt b1 b2]; omega
 ·rw [a2, Int.mul_ediv_cancel _ (by omega)]
  conv => rhs; rw [c]
  rw [Int.add_mul_emod_self_left, Int.emod_eq_of_lt b1 b2]
end Go.Proofs.YtlhbgaiiehljpaaGreat.DivInt
namespace Go.Proofs.YtlhbgaiiehljpaaGreat
open Go.RowKit
set_option linter.unusedVariables false
/-- what can happen at the head of a round: on, on, out, out, out. -/
theorem five (U d Y n1 n0 T R q r : Int) (hY : Y = n1 * 4294967296 + n0) (hp : 0 < Y) (hu : U = q * n1 + r) (d0 : 0 ≤ d)
    (e : U * 4294967296 + d = T * Y + R) (hR0 : 0 ≤ R) (hR : R < Y) (t0 : 0 ≤ T) (t1 : T < 4294967296) (hge : T ≤ q) (hq : q ≤ 4294967297) (h0 : 0 ≤ n0) (h0' : n0 < 4294967296) :
    (4294967296 ≤ q ∧ r + n1 < 4294967296 ∧ T ≤ q - 1) ∨
    (∃ m, q < 4294967296 ∧ q * n0 = m ∧ 0 ≤ m ∧ m < 18446744073709551616 ∧ 4294967296 * r + d < m ∧ r + n1 < 4294967296 ∧ T ≤ q - 1) ∨
    (4294967296 ≤ q ∧ 4294967296 ≤ r + n1 ∧ q - 1 = T) ∨
    (∃ m, q < 4294967296 ∧ q * n0 = m ∧ 0 ≤ m ∧ m < 18446744073709551616 ∧ 4294967296 * r + d < m ∧ 4294967296 ≤ r + n1 ∧ q - 1 = T) ∨
    (∃ m, q < 4294967296 ∧ q * n0 = m ∧ 0 ≤ m ∧ m < 18446744073709551616 ∧ m ≤ 4294967296 * r + d ∧ T = q) := by
  have hu' : U = (q - 1) * n1 + (r + n1) := by rw [Int.sub_mul, Int.one_mul]; omega
  by_cases hA : 4294967296 ≤ q
  · by_cases hB : r + n1 < 4294967296
    · left; exact ⟨hA, hB, by omega⟩
    · right; right; left
      exact ⟨hA, by omega, DivInt.digit_break U d Y n1 n0 T R (q - 1) (r + n1) hY hp hu' d0 e hR (by omega) (by omega) (by omega) h0 h0' (by omega)⟩
  · have m0 : 0 ≤ q * n0 := Int.mul_nonneg (by omega) h0
    have m1 := Int.mul_le_mul (a := q) (b := n0) (c := 4294967295) (d := 4294967295) (by omega) (by omega) h0 (by omega)
    by_cases hM : 4294967296 * r + d < q * n0
    · have hlt := DivInt.digit_more U d Y n1 n0 T R q r hY hp hu e hR0 hM
      by_cases hB : r + n1 < 4294967296
      · right; left; exact ⟨_, by omega, rfl, m0, by omega, hM, hB, by omega⟩
      · right; right; right; left
        exact ⟨_, by omega, rfl, m0, by omega, hM, by omega, DivInt.digit_break U d Y n1 n0 T R (q - 1) (r + n1) hY hp hu' d0 e hR (by omega) (by omega) (by omega) h0 h0' (by omega)⟩
    · right; right; right; right
      exact ⟨_, by omega, rfl, m0, by omega, by omega, (DivInt.digit_exit U d Y n1 n0 T R q r hY hp hu e hR hge (by omega)).symm⟩
theorem next_eq (U q n1 r : Int) (hu : U = q * n1 + r) : U = (q - 1) * n1 + (r + n1) := by rw [Int.sub_mul, Int.one_mul]; omega
set_option maxHeartbeats 1000000 in
theorem div64_walk (hi lo y s H L Y U X n1 n0 d1 d0 q1 m1 T1 R1 A1 A2 A3 q0 m0 T0 R0 B1 B2 B3 : Int) (w : World) (h1 : 0 < hi) (l1 : 0 ≤ lo) (l2 : lo < 18446744073709551616) (hy : hi < y) (hy2 : y < 18446744073709551616) (hs0 : 0 ≤ s) (hs : s ≤ 63)
   (c1 : Hid (∀ w : World, Calls Tryz.prog 89 #[.int .u64 y] w fun e w' => e = .returned (.int .i64 s) ∧ w' = w))
   (e1 : IntKind.u64.wrap (y * 2 ^ s.toNat) = Y) (e2 : IntKind.u64.wrap (hi * 2 ^ s.toNat) = H) (e3 : lo / 2 ^ (64 - s).toNat = L)
   (e4 : bits .or .u64 H L = U) (e5 : IntKind.u64.wrap (lo * 2 ^ s.toNat) = X)
   (e6 : Y / 4294967296 = n1) (e7 : bits .and .u64 Y 4294967295 = n0) (e8 : X / 4294967296 = d1) (e9 : bits .and .u64 X 4294967295 = d0)
   (e10 : U / n1 = q1) (e11 : q1 * n1 = m1) (y1 : 0 ≤ Y) (y2 : Y < 18446744073709551616) (n1a : 2147483648 ≤ n1) (n1b : n1 < 4294967296) (n0a : 0 ≤ n0) (n0b : n0 < 4294967296)
   (d1a : 0 ≤ d1) (d1b : d1 < 4294967296) (d0a : 0 ≤ d0) (d0b : d0 < 4294967296) (ua : 0 ≤ U) (ub : U < Y) (qa : 0 ≤ q1) (qb : q1 ≤ 4294967297) (qc : T1 ≤ q1)
   (ma : 0 ≤ m1) (mb : m1 ≤ U) (mc : U - m1 < n1) (x1 : 0 ≤ X) (x2 : X < 18446744073709551616)
   (HY : Hid (Y = n1 * 4294967296 + n0)) (HT1 : Hid (U * 4294967296 + d1 = T1 * Y + R1)) (t1a : 0 ≤ T1) (t1b : T1 < 4294967296) (r1a : 0 ≤ R1) (r1b : R1 < Y)
   (f1 : IntKind.u64.wrap (U * 4294967296) = A1) (f2 : IntKind.u64.wrap (A1 + d1) = A2) (f3 : IntKind.u64.wrap (T1 * Y) = A3) (f4 : IntKind.u64.wrap (A2 - A3) = R1)
   (A1a : 0 ≤ A1) (A1b : A1 < 18446744073709551616) (A2a : 0 ≤ A2) (A2b : A2 < 18446744073709551616) (A3a : 0 ≤ A3) (A3b : A3 < 18446744073709551616)
   (f5 : R1 / n1 = q0) (f6 : q0 * n1 = m0) (q0a : 0 ≤ q0) (q0b : q0 ≤ 4294967297) (q0c : T0 ≤ q0) (m0a : 0 ≤ m0) (m0b : m0 ≤ R1) (m0c : R1 - m0 < n1)
   (HT0 : Hid (R1 * 4294967296 + d0 = T0 * Y + R0)) (t0a : 0 ≤ T0) (t0b : T0 < 4294967296) (r0a : 0 ≤ R0) (r0b : R0 < Y)
   (g1 : IntKind.u64.wrap (R1 * 4294967296) = B1) (g2 : IntKind.u64.wrap (B1 + d0) = B2) (g3 : IntKind.u64.wrap (T0 * Y) = B3) (g4 : IntKind.u64.wrap (B2 - B3) = R0)
   (B1a : 0 ≤ B1) (B1b : B1 < 18446744073709551616) (B2a : 0 ≤ B2) (B2b : B2 < 18446744073709551616) (B3a : 0 ≤ B3) (B3b : B3 < 18446744073709551616) :
    Calls Tryz.prog 74 #[.int .u64 hi, .int .u64 lo, .int .u64 y] w fun e w' => e = .returned (.tuple #[.int .u64 (T1 * 4294967296 + T0), .int .u64 (R0 / 2 ^ s.toNat)]) ∧ w' = w := by
  have HU1 : Hid (U = q1 * n1 + (U - m1)) := by show U = q1 * n1 + (U - m1); omega
  have HU0 : Hid (R1 = q0 * n1 + (R1 - m0)) := by show R1 = q0 * n1 + (R1 - m0); omega
  go_enter Tryz.func74, Tryz.ntmps74
  go_wp2_with fail
  refine (c1.out _).mono ?_; rintro e w1 ⟨rfl, rfl⟩
  go_wp2_with fail
  go_loop [15, 16] (fun a b => ∃ q r : Int, a = .int .u64 q ∧ b = .int .u64 r ∧ Hid (U = q * n1 + r) ∧ T1 ≤ q ∧ q ≤ 4294967297 ∧ 0 ≤ r ∧ r < 4294967296) (fun _ b => 4294967296 - (intOf b).toNat)
  case atStart => exact ⟨q1, U - m1, by rw [e10], rfl, HU1, qc, qb, by omega, by omega⟩
  case round =>
    obtain ⟨q, r, rfl, rfl, HU, hge, hq, hr0, hr⟩ := hrel
    have h5 := five U d1 Y n1 n0 T1 R1 q r HY.out (by omega) HU.out d1a HT1.out r1a r1b t1a t1b hge hq n0a n0b
    have HN : Hid (U = (q - 1) * n1 + (r + n1)) := next_eq U q n1 r HU.out
    clear e1 e2 e3 e4 e5 e6 e7 e8 e9 e10 e11
    rcases h5 with ⟨k1, k2, k3⟩ | ⟨m, k1, k2, k3, k4, k5, k6, k7⟩ | ⟨k1, k2, k3⟩ | ⟨m, k1, k2, k3, k4, k5, k6, k7⟩ | ⟨m, k1, k2, k3, k4, k5, k6⟩
    · go_wp2
      go_round
      case rel => exact ⟨q - 1, r + n1, rfl, rfl, HN, k3, by omega, by omega, by omega⟩
      case measure => simp [intOf]; omega
    · go_wp2
      go_round
      case rel => exact ⟨q - 1, r + n1, rfl, rfl, HN, k7, by omega, by omega, by omega⟩
      case measure => simp [intOf]; omega
    rotate_left 2
    subst k6
    all_goals
      go_wp2_with fail
      clear f1 f2 f3 f4 f6
      go_loop [18, 16] (fun a b => ∃ q r : Int, a = .int .u64 q ∧ b = .int .u64 r ∧ Hid (R1 = q * n1 + r) ∧ T0 ≤ q ∧ q ≤ 4294967297 ∧ 0 ≤ r ∧ r < 4294967296) (fun _ b => 4294967296 - (intOf b).toNat)
      case atStart => exact ⟨q0, R1 - m0, by first | rfl | rw [f5], rfl, HU0, q0c, q0b, by omega, by omega⟩
      case round =>
        clear f5
        obtain ⟨q', r', rfl, rfl, HU', hge', hq', hr0', hr'⟩ := hrel
        have h5 := five R1 d0 Y n1 n0 T0 R0 q' r' HY.out (by omega) HU'.out d0a HT0.out r0a r0b t0a t0b hge' hq' n0a n0b
        have HN' : Hid (R1 = (q' - 1) * n1 + (r' + n1)) := next_eq R1 q' n1 r' HU'.out
        rcases h5 with ⟨j1, j2, j3⟩ | ⟨m', j1, j2, j3, j4, j5, j6, j7⟩ | ⟨j1, j2, j3⟩ | ⟨m', j1, j2, j3, j4, j5, j6, j7⟩ | ⟨m', j1, j2, j3, j4, j5, j6⟩
        · go_wp2
          go_round
          case rel => exact ⟨q' - 1, r' + n1, rfl, rfl, HN', j3, by omega, by omega, by omega⟩
          case measure => simp [intOf]; omega
        · go_wp2
          go_round
          case rel => exact ⟨q' - 1, r' + n1, rfl, rfl, HN', j7, by omega, by omega, by omega⟩
          case measure => simp [intOf]; omega
        rotate_left 2
        subst j6
        all_goals
          go_wp2
          go_ret2
          exact ⟨rfl, rfl⟩
end Go.Proofs.YtlhbgaiiehljpaaGreat
namespace Go.Proofs.YtlhbgaiiehljpaaGreat
open Go.RowKit
def divQ (hi lo y : Int) : Int := (hi * 18446744073709551616 + lo) / y
def divR (hi lo y : Int) : Int := (hi * 18446744073709551616 + lo) % y
set_option maxHeartbeats 400000 in
theorem div64_small (lo y : Int) (w : World) (hl : Word lo) (h0 : 0 < y) (h1 : y < 18446744073709551616) :
  Calls Tryz.prog 74 #[.int .u64 0, .int .u64 lo, .int .u64 y] w fun e w' => e = .returned (.tuple #[.int .u64 (divQ 0 lo y), .int .u64 (divR 0 lo y)]) ∧ ∃ n, w' = w.drewN n := by
 obtain ⟨l1, l2⟩ := hl
 have eq : divQ 0 lo y = lo / y := by unfold divQ; simp
 have er : divR 0 lo y = lo % y := by unfold divR; simp
 rw [eq, er]
 have q0 : 0 ≤ lo / y := Int.ediv_nonneg l1 (by omega)
 have q1 : lo / y ≤ lo := Int.ediv_le_self y l1
 have r0 : 0 ≤ lo % y := Int.emod_nonneg lo (by omega)
 have r1 : lo % y < y := Int.emod_lt_of_pos lo h0
 clear eq er
 go_enter Tryz.func74, Tryz.ntmps74
 go_wp2
 go_quiet (fail)
 go_wp2
 go_ret2
 exact ⟨rfl, _, rfl⟩
theorem div64_big (hi lo y : Int) (w : World) (hl : Word lo) (h0 : 0 < hi) (hy : hi < y) (h1 : y < 18446744073709551616) :
  Calls Tryz.prog 74 #[.int .u64 hi, .int .u64 lo, .int .u64 y] w fun e w' => e = .returned (.tuple #[.int .u64 (divQ hi lo y), .int .u64 (divR hi lo y)]) ∧ ∃ n, w' = w.drewN n := by
 obtain ⟨l1, l2⟩ := hl
 obtain ⟨s0, s1, s2, s3⟩ := DivInt.shift_top y (by omega) h1
 have c1 := fun w => Tryz.bits_LeadingZeros64 y w (by omega) (by omega)
 generalize 64 - (Lib.bitLen y.toNat : Int) = s at *
 obtain ⟨k, hk⟩ : ∃ k : Nat, s = k := ⟨s.toNat, by omega⟩
 have ek : s.toNat = k := by omega
 have ek' : (64 - s).toNat = 64 - k := by omega
 obtain ⟨p, hp⟩ : ∃ p : Int, p = 2 ^ k := ⟨_, rfl⟩
 have pp : 0 < p := by rw [hp]; exact Int.pow_pos (by decide)
 rw [ek, ← hp] at s2 s3
 obtain ⟨U, u1, u2, u3, u4⟩ := DivInt.shifted hi lo y k p (by omega) hp (by omega) hy s3 l1 l2
 have eY : IntKind.u64.wrap (y * p) = y * p := by rw [DivInt.wrap_eq]; omega
 obtain ⟨Y, hY⟩ : ∃ Y : Int, Y = y * p := ⟨_, rfl⟩
 obtain ⟨X, hX⟩ : ∃ X : Int, X = IntKind.u64.wrap (lo * p) := ⟨_, rfl⟩
 have x0 : 0 ≤ X ∧ X < 18446744073709551616 := by rw [hX, DivInt.wrap_eq]; omega
 rw [← hY] at eY s2 s3 u3
 rw [← hX] at u4
 obtain ⟨T1, R1, t1, t2, t3, t4, t5⟩ := DivInt.digit_true U (X / 4294967296) Y u2 u3 (by omega) (by omega)
 obtain ⟨T0, R0, v1, v2, v3, v4, v5⟩ := DivInt.digit_true R1 (X % 4294967296) Y t2 t3 (by omega) (by omega)
 have hYn : Y = Y / 4294967296 * 4294967296 + Y % 4294967296 := by omega
 obtain ⟨a1, a2, a3, a4, a5, a6⟩ := DivInt.digit_start U (X / 4294967296) Y (Y / 4294967296) (Y % 4294967296) T1 R1 hYn (by omega) (by omega) (by omega) u2 u3 (by omega) (by omega) t1 t2 t4
 obtain ⟨b1, b2, b3, b4, b5, b6⟩ := DivInt.digit_start R1 (X % 4294967296) Y (Y / 4294967296) (Y % 4294967296) T0 R0 hYn (by omega) (by omega) (by omega) t2 t3 (by omega) (by omega) v1 v2 v4
 have fin := DivInt.both hi lo y p U X (X / 4294967296) (X % 4294967296) Y T1 R1 T0 R0 pp hY (by omega) u4 (by omega) t1 v1 v2 v3
 have wl := DivInt.wrap_eq (U * 4294967296)
 refine (div64_walk hi lo y s _ _ Y U X (Y / 4294967296) (Y % 4294967296) (X / 4294967296) (X % 4294967296) _ _ T1 R1 _ _ _ _ _ T0 R0 _ _ _ w h0 l1 l2 hy h1 s0 s1 c1
  (by rw [ek, ← hp, ← hY]; exact eY) rfl rfl (by rw [ek, ek', ← hp]; exact u1) (by rw [ek, ← hp]; exact hX.symm) rfl (DivInt.and_low Y (by omega) (by omega)) rfl (DivInt.and_low X x0.1 x0.2)
  rfl rfl (by omega) (by omega) (by omega) (by omega) (by omega) (by omega) (by omega) (by omega) (by omega) (by omega) u2 u3 a3 a2 a1 a6 a4 a5 x0.1 x0.2
  hYn t1 t4 t5 t2 t3 rfl rfl rfl ?_ ?_ ?_ ?_ ?_ ?_ ?_ rfl rfl b3 b2 b1 b6 b4 b5 v1 v4 v5 v2 v3 rfl rfl rfl ?_ ?_ ?_ ?_ ?_ ?_ ?_).mono ?_
 ·simp only [DivInt.wrap_eq]; generalize T1 * Y = P at *; omega
 ·simp only [DivInt.wrap_eq]; omega
 ·simp only [DivInt.wrap_eq]; omega
 ·simp only [DivInt.wrap_eq]; omega
 ·simp only [DivInt.wrap_eq]; omega
 ·simp only [DivInt.wrap_eq]; omega
 ·simp only [DivInt.wrap_eq]; omega
 ·simp only [DivInt.wrap_eq]; generalize T0 * Y = P at *; omega
 ·simp only [DivInt.wrap_eq]; omega
 ·simp only [DivInt.wrap_eq]; omega
 ·simp only [DivInt.wrap_eq]; omega
 ·simp only [DivInt.wrap_eq]; omega
 ·simp only [DivInt.wrap_eq]; omega
 ·simp only [DivInt.wrap_eq]; omega
 ·rintro e w' ⟨rfl, rfl⟩
  refine ⟨?_, 0, rfl⟩
  rw [fin.1, ek, ← hp, fin.2]
  rfl
theorem div64_any (hi lo y : Int) (w : World) (hh : 0 ≤ hi) (hl : Word lo) (hy : hi < y) (h1 : y < 18446744073709551616) :
  Calls Tryz.prog 74 #[.int .u64 hi, .int .u64 lo, .int .u64 y] w fun e w' => e = .returned (.tuple #[.int .u64 (divQ hi lo y), .int .u64 (divR hi lo y)]) ∧ ∃ n, w' = w.drewN n := by
 by_cases h : hi = 0
 ·subst h; exact div64_small lo y w hl hy h1
 ·exact div64_big hi lo y w hl (by omega) hy h1
end Go.Proofs.YtlhbgaiiehljpaaGreat
namespace Go.Proofs.YtlhbgaiiehljpaaGreat
open Go.RowKit
/-- is it rounded up? -/
def upB (whole rest c round : Int) : Bool := (round == 1 && decide (0 < rest)) || (round == 2 && (decide (c - rest < rest) || (rest == c - rest && whole % 2 == 1)))
def okRound (round : Int) : Prop := round = 0 ∨ round = 1 ∨ round = 2
set_option maxHeartbeats 400000 in
theorem divisible_ok (c round : Int) (w : World) (hr : okRound round) (hc : (c == 0) = false) :
  Calls Tryz.prog 85 #[.int .u64 c, .int .i64 round] w fun e w' => e = .returned (.int .i64 0) ∧ w' = w := by
 rcases hr with rfl | rfl | rfl
 all_goals
  go_enter Tryz.func85, Tryz.ntmps85
  go_wp2
  go_ret
  exact ⟨rfl, rfl⟩
set_option maxHeartbeats 400000 in
theorem goesUp_any (whole rest c round : Int) (w : World) (hr : okRound round) (hw : Word whole) (h0 : 0 ≤ rest) (h1 : rest < c) (h2 : c < 18446744073709551616) :
  Calls Tryz.prog 87 #[.int .u64 whole, .int .u64 rest, .int .u64 c, .int .i64 round] w fun e w' => e = .returned (.bool (upB whole rest c round)) ∧ w' = w := by
 obtain ⟨w1, w2⟩ := hw
 rcases hr with rfl | rfl | rfl
 ·have e : upB whole rest c 0 = false := by simp [upB]
  rw [e]; clear e
  go_enter Tryz.func87, Tryz.ntmps87
  go_wp2
  go_ret
  exact ⟨rfl, rfl⟩
 ·have e : upB whole rest c 1 = decide (0 < rest) := by simp [upB]
  rw [e]; clear e
  go_enter Tryz.func87, Tryz.ntmps87
  go_wp2
  go_ret
  exact ⟨rfl, rfl⟩
 ·by_cases k1 : c - rest < rest
  ·have e : upB whole rest c 2 = true := by simp [upB, k1]
   rw [e]; clear e
   go_enter Tryz.func87, Tryz.ntmps87
   go_wp2
   go_ret
   exact ⟨rfl, rfl⟩
  ·have kd : decide (c - rest < rest) = false := by simpa using k1
   by_cases k2 : rest = c - rest
   ·have kb : (rest == c - rest) = true := by simpa using k2
    have e : upB whole rest c 2 = (whole % 2 == 1) := by simp [upB, kd, kb]
    rw [e]; clear e k2
    go_enter Tryz.func87, Tryz.ntmps87
    go_wp2
    go_ret
    exact ⟨rfl, rfl⟩
   ·have kb : (rest == c - rest) = false := by simpa using k2
    have e : upB whole rest c 2 = false := by simp [upB, kd, kb]
    rw [e]; clear e k2
    go_enter Tryz.func87, Tryz.ntmps87
    go_wp2
    go_ret
    exact ⟨rfl, rfl⟩
end Go.Proofs.YtlhbgaiiehljpaaGreat
namespace Go.Proofs.YtlhbgaiiehljpaaGreat
open Go.RowKit
end Go.Proofs.YtlhbgaiiehljpaaGreat
namespace Go.Proofs.YtlhbgaiiehljpaaGreat
open Go.RowKit
theorem mul_split (a b : Int) : mulH a b * 18446744073709551616 + mulL a b = a * b := by unfold mulH mulL; omega
theorem divQ_mul (a b c : Int) : divQ (mulH a b) (mulL a b) c = a * b / c := by unfold divQ; rw [mul_split]
theorem divR_mul (a b c : Int) : divR (mulH a b) (mulL a b) c = a * b % c := by unfold divR; rw [mul_split]
end Go.Proofs.YtlhbgaiiehljpaaGreat
