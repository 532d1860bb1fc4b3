/-
  DivInt
-/
import Derived.Lib.BitFns
import Derived.Laws.Bits64b
import Derived.Laws.Shifts
import Derived.WalkKit
namespace Go.Proofs.YtlhbgaiiehljpaaGreat.DivInt
set_option linter.unusedVariables false
theorem bitLen_bounds : ∀ (n x : Nat), x ≤ n → x ≠ 0 → x < 2 ^ 64 → 2 ^ (Lib.bitLen x) ≤ 2 * x ∧ x < 2 ^ (Lib.bitLen x)
  | 0, x, hn, h0, _ => by omega
  | n + 1, x, hn, h0, hx => by
    have e := Lib.bitLen_half x h0 hx
    by_cases h1 : x / 2 = 0
    · have hx1 : x = 1 := by omega
      subst hx1
      decide
    · have ih := bitLen_bounds n (x / 2) (by omega) h1 (by omega)
      rw [e, Nat.pow_add]
      generalize 2 ^ Lib.bitLen (x / 2) = p at ih
      omega
/-- the shift that lays the divisor's highest bit at the top. -/
theorem shift_top (y : Int) (h0 : 0 < y) (h1 : y < 18446744073709551616) :
    0 ≤ 64 - (Lib.bitLen y.toNat : Int) ∧ 64 - (Lib.bitLen y.toNat : Int) ≤ 63 ∧
      9223372036854775808 ≤ y * 2 ^ (64 - (Lib.bitLen y.toNat : Int)).toNat ∧ y * 2 ^ (64 - (Lib.bitLen y.toNat : Int)).toNat < 18446744073709551616 := by
  obtain ⟨x, rfl⟩ := Int.eq_ofNat_of_zero_le (Int.le_of_lt h0)
  have hx0 : x ≠ 0 := by omega
  have hx : x < 2 ^ 64 := by omega
  obtain ⟨b1, b2⟩ := bitLen_bounds x x (Nat.le_refl _) hx0 hx
  have b3 := Lib.bitLen_le x 64 (Nat.le_refl _) hx
  rw [Int.toNat_natCast]
  generalize Lib.bitLen x = L at *
  have hL : L ≠ 0 := by intro h; subst h; simp at b2; omega
  have e : (64 - (L : Int)).toNat = 64 - L := by omega
  rw [e]
  have ep : 2 ^ L * 2 ^ (64 - L) = 18446744073709551616 := by rw [← Nat.pow_add, show L + (64 - L) = 64 from by omega]
  have hp : 0 < 2 ^ (64 - L) := Nat.pow_pos (by decide)
  have m1 : 2 ^ L * 2 ^ (64 - L) ≤ 2 * x * 2 ^ (64 - L) := Nat.mul_le_mul_right _ b1
  have m2 : x * 2 ^ (64 - L) < 2 ^ L * 2 ^ (64 - L) := Nat.mul_lt_mul_of_pos_right b2 hp
  rw [ep] at m1 m2
  rw [Nat.mul_assoc] at m1
  have ec : ((x : Int) * 2 ^ (64 - L)) = ((x * 2 ^ (64 - L) : Nat) : Int) := by simp
  rw [ec]
  omega
theorem wrap_eq (n : Int) : IntKind.u64.wrap n = n % 18446744073709551616 := by rw [IntKind.wrap_u64]
theorem and_low (a : Int) (h0 : 0 ≤ a) (h1 : a < 18446744073709551616) : bits .and .u64 a 4294967295 = a % 4294967296 := by
  obtain ⟨x, rfl⟩ := Int.eq_ofNat_of_zero_le h0
  have h := bits_and_u64_nat x 4294967295 (by omega) (by omega)
  have e : x &&& 4294967295 = x % 4294967296 := Nat.and_two_pow_sub_one_eq_mod x 32
  rw [e] at h
  exact h
theorem or_add (p k a b : Nat) (hp : p = 2 ^ k) (hb : b < p) (h1 : a * p < 18446744073709551616) (h2 : b < 18446744073709551616) :
    bits .or .u64 ((a * p : Nat) : Int) (b : Int) = ((a * p + b : Nat) : Int) := by
  have h := bits_or_u64_nat (a * p) b h1 h2
  rw [h]
  subst hp
  congr 1
  rw [Nat.mul_comm, ← Nat.two_pow_add_eq_or_of_lt hb]
/-- what the shifts make of the dividend. -/
theorem shifted (hi lo y : Int) (k : Nat) (p : Int) (hk : k ≤ 63) (hp : p = 2 ^ k) (h0 : 0 ≤ hi) (hy : hi < y) (hY : y * p < 18446744073709551616) (l0 : 0 ≤ lo) (l1 : lo < 18446744073709551616) :
    ∃ U : Int, bits .or .u64 (IntKind.u64.wrap (hi * p)) (lo / 2 ^ (64 - k)) = U ∧ 0 ≤ U ∧ U < y * p ∧
      (hi * 18446744073709551616 + lo) * p = U * 18446744073709551616 + IntKind.u64.wrap (lo * p) := by
  obtain ⟨a, rfl⟩ := Int.eq_ofNat_of_zero_le h0
  obtain ⟨b, rfl⟩ := Int.eq_ofNat_of_zero_le l0
  have hP : p = ((2 ^ k : Nat) : Int) := by rw [hp]; simp
  have ep : (2 ^ k : Nat) * 2 ^ (64 - k) = 18446744073709551616 := by rw [← Nat.pow_add, show k + (64 - k) = 64 from by omega]
  have hpos : 0 < (2 ^ (64 - k) : Nat) := Nat.pow_pos (by decide)
  have hpos' : 0 < (2 ^ k : Nat) := Nat.pow_pos (by decide)
  have ed : ((b : Int) / 2 ^ (64 - k)) = ((b / 2 ^ (64 - k) : Nat) : Int) := by simp
  have hb : b / 2 ^ (64 - k) < 2 ^ k := by rw [Nat.div_lt_iff_lt_mul hpos, ep]; omega
  have hap : ((a + 1 : Nat) : Int) * p ≤ y * p := Int.mul_le_mul_of_nonneg_right (by omega) (by rw [hP]; omega)
  have e1 : ((a + 1 : Nat) : Int) * p = ((a * 2 ^ k + 2 ^ k : Nat) : Int) := by rw [hP, ← Int.natCast_mul, Nat.add_mul, Nat.one_mul]
  rw [e1] at hap
  have e2 : (a : Int) * p = ((a * 2 ^ k : Nat) : Int) := by rw [hP, ← Int.natCast_mul]
  have hk64 : (2 ^ k : Nat) ≤ 2 ^ 63 := Nat.pow_le_pow_right (by decide) hk
  have hw : IntKind.u64.wrap ((a : Int) * p) = ((a * 2 ^ k : Nat) : Int) := by rw [wrap_eq, e2]; omega
  have e3 : (b : Int) * p = ((b * 2 ^ k : Nat) : Int) := by rw [hP, ← Int.natCast_mul]
  have dm := Nat.div_add_mod b (2 ^ (64 - k))
  have key : b * 2 ^ k = (b / 2 ^ (64 - k)) * 18446744073709551616 + (b % 2 ^ (64 - k)) * 2 ^ k := by
    conv => lhs; rw [← dm]
    rw [Nat.add_mul, ← ep, Nat.mul_comm (2 ^ (64 - k)) (b / 2 ^ (64 - k)), Nat.mul_assoc, Nat.mul_comm (2 ^ (64 - k)) (2 ^ k)]
  have hlt : (b % 2 ^ (64 - k)) * 2 ^ k < 18446744073709551616 := by
    rw [← ep, Nat.mul_comm (2 ^ k)]
    exact Nat.mul_lt_mul_of_pos_right (Nat.mod_lt _ hpos) hpos'
  refine ⟨((a * 2 ^ k + b / 2 ^ (64 - k) : Nat) : Int), ?_, by omega, by omega, ?_⟩
  · rw [hw, ed]
    exact or_add (2 ^ k) k a _ rfl hb (by omega) (by omega)
  · rw [wrap_eq, Int.add_mul, e3, Int.mul_right_comm, e2, key]
    generalize (b % 2 ^ (64 - k)) * 2 ^ k = r at *
    generalize b / 2 ^ (64 - k) = t at *
    generalize a * 2 ^ k = v at *
    omega

/-! one digit -/
theorem digit_true (U d Y : Int) (h0 : 0 ≤ U) (hU : U < Y) (d0 : 0 ≤ d) (d1 : d < 4294967296) :
    ∃ T R : Int, U * 4294967296 + d = T * Y + R ∧ 0 ≤ R ∧ R < Y ∧ 0 ≤ T ∧ T < 4294967296 := by
  refine ⟨(U * 4294967296 + d) / Y, (U * 4294967296 + d) % Y, ?_, Int.emod_nonneg _ (by omega), Int.emod_lt_of_pos _ (by omega), Int.ediv_nonneg (by omega) (by omega), ?_⟩
  · rw [Int.mul_comm ((U * 4294967296 + d) / Y)]; exact (Int.mul_ediv_add_emod _ _).symm
  · rw [Int.ediv_lt_iff_lt_mul (by omega)]
    have h : (U + 1) * 4294967296 ≤ Y * 4294967296 := by omega
    rw [Int.mul_comm 4294967296 Y]; omega
/-- the estimate is not below the true digit at the start, and at most two above the base. -/
theorem digit_start (U d Y n1 n0 T R : Int) (hY : Y = n1 * 4294967296 + n0) (h1 : 2147483648 ≤ n1) (h0 : 0 ≤ n0) (h0' : n0 < 4294967296)
    (hU0 : 0 ≤ U) (hU : U < Y) (d0 : 0 ≤ d) (d1 : d < 4294967296) (e : U * 4294967296 + d = T * Y + R) (r0 : 0 ≤ R) (t0 : 0 ≤ T) :
    T ≤ U / n1 ∧ U / n1 ≤ 4294967297 ∧ 0 ≤ U / n1 ∧ U / n1 * n1 ≤ U ∧ U - U / n1 * n1 < n1 ∧ 0 ≤ U / n1 * n1 := by
  have hp : 0 < n1 := by omega
  have q0 : 0 ≤ U / n1 := Int.ediv_nonneg hU0 (by omega)
  have dm := Int.mul_ediv_add_emod U n1
  have m0 := Int.emod_nonneg U (show n1 ≠ 0 by omega)
  have m1 := Int.emod_lt_of_pos U hp
  rw [Int.mul_comm] at dm
  refine ⟨?_, ?_, q0, by omega, by omega, Int.mul_nonneg q0 (by omega)⟩
  · rw [Int.le_ediv_iff_mul_le hp]
    have e1 : T * Y = T * n1 * 4294967296 + T * n0 := by rw [hY, Int.mul_add, Int.mul_assoc]
    have e2 : 0 ≤ T * n0 := Int.mul_nonneg t0 h0
    omega
  · have : U / n1 < 4294967298 := by
      rw [Int.ediv_lt_iff_lt_mul hp]; omega
    omega
theorem digit_prod (U d Y n1 n0 q r : Int) (hY : Y = n1 * 4294967296 + n0) (hu : U = q * n1 + r) :
    q * Y = (U - r) * 4294967296 + q * n0 := by
  have e1 : q * Y = q * n1 * 4294967296 + q * n0 := by rw [hY, Int.mul_add, Int.mul_assoc]
  rw [e1]; have : q * n1 = U - r := by omega
  rw [this]
theorem le_of_prod (q T Y N R : Int) (hY : 0 < Y) (e : N = T * Y + R) (hR : R < Y) (h : q * Y ≤ N) : q ≤ T := by
  have h2 : q * Y < (T + 1) * Y := by rw [Int.add_mul, Int.one_mul]; omega
  have := Int.lt_of_mul_lt_mul_right h2 (Int.le_of_lt hY)
  omega
theorem lt_of_prod (q T Y N R : Int) (hY : 0 < Y) (e : N = T * Y + R) (hR : 0 ≤ R) (h : N < q * Y) : T < q := by
  have h2 : T * Y < q * Y := by omega
  exact Int.lt_of_mul_lt_mul_right h2 (Int.le_of_lt hY)
theorem digit_exit (U d Y n1 n0 T R q r : Int) (hY : Y = n1 * 4294967296 + n0) (hp : 0 < Y) (hu : U = q * n1 + r)
    (e : U * 4294967296 + d = T * Y + R) (hR : R < Y) (hge : T ≤ q) (hle : q * n0 ≤ 4294967296 * r + d) : q = T := by
  have hpr := digit_prod U d Y n1 n0 q r hY hu
  have := le_of_prod q T Y _ R hp e hR (by omega)
  omega
theorem digit_break (U d Y n1 n0 T R q r : Int) (hY : Y = n1 * 4294967296 + n0) (hp : 0 < Y) (hu : U = q * n1 + r) (d0 : 0 ≤ d)
    (e : U * 4294967296 + d = T * Y + R) (hR : R < Y) (hge : T ≤ q) (hq0 : 0 ≤ q) (hq : q ≤ 4294967296) (h0 : 0 ≤ n0) (h0' : n0 < 4294967296) (hr : 4294967296 ≤ r) : q = T := by
  refine digit_exit U d Y n1 n0 T R q r hY hp hu e hR hge ?_
  have := Int.mul_le_mul (a := q) (b := n0) (c := 4294967296) (d := 4294967296) hq (by omega) h0 (by omega)
  omega
theorem digit_more (U d Y n1 n0 T R q r : Int) (hY : Y = n1 * 4294967296 + n0) (hp : 0 < Y) (hu : U = q * n1 + r)
    (e : U * 4294967296 + d = T * Y + R) (hR : 0 ≤ R) (hlt : 4294967296 * r + d < q * n0) : T < q := by
  have hpr := digit_prod U d Y n1 n0 q r hY hu
  exact lt_of_prod q T Y _ R hp e hR (by omega)
/-- both digits, and back. -/
theorem both (hi lo y p U X d1 d0 Y T1 R1 T0 R0 : Int) (hp : 0 < p) (hYp : Y = y * p) (hy : 0 < y)
    (es : (hi * 18446744073709551616 + lo) * p = U * 18446744073709551616 + X) (hX : X = d1 * 4294967296 + d0)
    (e1 : U * 4294967296 + d1 = T1 * Y + R1) (e0 : R1 * 4294967296 + d0 = T0 * Y + R0) (r0 : 0 ≤ R0) (r1 : R0 < Y) :
    T1 * 4294967296 + T0 = (hi * 18446744073709551616 + lo) / y ∧ R0 / p = (hi * 18446744073709551616 + lo) % y := by
  generalize hi * 18446744073709551616 + lo = Z at *
  have a1 : Z * p = (T1 * 4294967296 + T0) * Y + R0 := by
    have : (T1 * 4294967296 + T0) * Y = T1 * Y * 4294967296 + T0 * Y := by rw [Int.add_mul, Int.mul_right_comm]
    rw [this]; omega
  generalize T1 * 4294967296 + T0 = Q at *
  have a2 : R0 = (Z - Q * y) * p := by rw [Int.sub_mul, a1, hYp, Int.mul_assoc]; omega
  have b1 : 0 ≤ Z - Q * y := by
    rw [a2] at r0
    by_cases h : 0 ≤ Z - Q * y
    · exact h
    · have := Int.mul_neg_of_neg_of_pos (show Z - Q * y < 0 by omega) hp
      omega
  have b2 : Z - Q * y < y := by
    rw [a2, hYp] at r1
    exact Int.lt_of_mul_lt_mul_right r1 (Int.le_of_lt hp)
  have c : Z = (Z - Q * y) + y * Q := by rw [Int.mul_comm y Q]; omega
  constructor
  · rw [c, Int.add_mul_ediv_left _ _ (by omega), Int.ediv_eq_zero_of_lt b1 b2]; omega
  · rw [a2, Int.mul_ediv_cancel _ (by omega)]
    conv => rhs; rw [c]
    rw [Int.add_mul_emod_self_left, Int.emod_eq_of_lt b1 b2]
end Go.Proofs.YtlhbgaiiehljpaaGreat.DivInt
