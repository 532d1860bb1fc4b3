/-
  DivWalk
-/
import Derived.Test.YtlhbgaiiehljpaaGreatGt
import Derived.Test.YtlhbgaiiehljpaaGreatDivInt
import Derived.WalkLawsBesides
import Derived.Deep.QuietTactic
import Derived.BigQuiet
namespace Go.Proofs.YtlhbgaiiehljpaaGreat
open Go.RowKit
set_option linter.unusedVariables false
/-- what can happen at the head of a round: on, on, out, out, out. -/
theorem five (U d Y n1 n0 T R q r : Int) (hY : Y = n1 * 4294967296 + n0) (hp : 0 < Y) (hu : U = q * n1 + r) (d0 : 0 ≤ d)
    (e : U * 4294967296 + d = T * Y + R) (hR0 : 0 ≤ R) (hR : R < Y) (t0 : 0 ≤ T) (t1 : T < 4294967296) (hge : T ≤ q) (hq : q ≤ 4294967297) (h0 : 0 ≤ n0) (h0' : n0 < 4294967296) :
    (4294967296 ≤ q ∧ r + n1 < 4294967296 ∧ T ≤ q - 1) ∨
    (∃ m, q < 4294967296 ∧ q * n0 = m ∧ 0 ≤ m ∧ m < 18446744073709551616 ∧ 4294967296 * r + d < m ∧ r + n1 < 4294967296 ∧ T ≤ q - 1) ∨
    (4294967296 ≤ q ∧ 4294967296 ≤ r + n1 ∧ q - 1 = T) ∨
    (∃ m, q < 4294967296 ∧ q * n0 = m ∧ 0 ≤ m ∧ m < 18446744073709551616 ∧ 4294967296 * r + d < m ∧ 4294967296 ≤ r + n1 ∧ q - 1 = T) ∨
    (∃ m, q < 4294967296 ∧ q * n0 = m ∧ 0 ≤ m ∧ m < 18446744073709551616 ∧ m ≤ 4294967296 * r + d ∧ T = q) := by
  have hu' : U = (q - 1) * n1 + (r + n1) := by rw [Int.sub_mul, Int.one_mul]; omega
  by_cases hA : 4294967296 ≤ q
  · by_cases hB : r + n1 < 4294967296
    · left; exact ⟨hA, hB, by omega⟩
    · right; right; left
      exact ⟨hA, by omega, DivInt.digit_break U d Y n1 n0 T R (q - 1) (r + n1) hY hp hu' d0 e hR (by omega) (by omega) (by omega) h0 h0' (by omega)⟩
  · have m0 : 0 ≤ q * n0 := Int.mul_nonneg (by omega) h0
    have m1 := Int.mul_le_mul (a := q) (b := n0) (c := 4294967295) (d := 4294967295) (by omega) (by omega) h0 (by omega)
    by_cases hM : 4294967296 * r + d < q * n0
    · have hlt := DivInt.digit_more U d Y n1 n0 T R q r hY hp hu e hR0 hM
      by_cases hB : r + n1 < 4294967296
      · right; left; exact ⟨_, by omega, rfl, m0, by omega, hM, hB, by omega⟩
      · right; right; right; left
        exact ⟨_, by omega, rfl, m0, by omega, hM, by omega, DivInt.digit_break U d Y n1 n0 T R (q - 1) (r + n1) hY hp hu' d0 e hR (by omega) (by omega) (by omega) h0 h0' (by omega)⟩
    · right; right; right; right
      exact ⟨_, by omega, rfl, m0, by omega, by omega, (DivInt.digit_exit U d Y n1 n0 T R q r hY hp hu e hR hge (by omega)).symm⟩
theorem next_eq (U q n1 r : Int) (hu : U = q * n1 + r) : U = (q - 1) * n1 + (r + n1) := by rw [Int.sub_mul, Int.one_mul]; omega
set_option maxHeartbeats 1000000 in
theorem div64_walk (hi lo y s H L Y U X n1 n0 d1 d0 q1 m1 T1 R1 A1 A2 A3 q0 m0 T0 R0 B1 B2 B3 : Int) (w : World) (h1 : 0 < hi) (l1 : 0 ≤ lo) (l2 : lo < 18446744073709551616) (hy : hi < y) (hy2 : y < 18446744073709551616) (hs0 : 0 ≤ s) (hs : s ≤ 63)
   (c1 : Hid (∀ w : World, Calls Tryz.prog 89 #[.int .u64 y] w fun e w' => e = .returned (.int .i64 s) ∧ w' = w))
   (e1 : IntKind.u64.wrap (y * 2 ^ s.toNat) = Y) (e2 : IntKind.u64.wrap (hi * 2 ^ s.toNat) = H) (e3 : lo / 2 ^ (64 - s).toNat = L)
   (e4 : bits .or .u64 H L = U) (e5 : IntKind.u64.wrap (lo * 2 ^ s.toNat) = X)
   (e6 : Y / 4294967296 = n1) (e7 : bits .and .u64 Y 4294967295 = n0) (e8 : X / 4294967296 = d1) (e9 : bits .and .u64 X 4294967295 = d0)
   (e10 : U / n1 = q1) (e11 : q1 * n1 = m1) (y1 : 0 ≤ Y) (y2 : Y < 18446744073709551616) (n1a : 2147483648 ≤ n1) (n1b : n1 < 4294967296) (n0a : 0 ≤ n0) (n0b : n0 < 4294967296)
   (d1a : 0 ≤ d1) (d1b : d1 < 4294967296) (d0a : 0 ≤ d0) (d0b : d0 < 4294967296) (ua : 0 ≤ U) (ub : U < Y) (qa : 0 ≤ q1) (qb : q1 ≤ 4294967297) (qc : T1 ≤ q1)
   (ma : 0 ≤ m1) (mb : m1 ≤ U) (mc : U - m1 < n1) (x1 : 0 ≤ X) (x2 : X < 18446744073709551616)
   (HY : Hid (Y = n1 * 4294967296 + n0)) (HT1 : Hid (U * 4294967296 + d1 = T1 * Y + R1)) (t1a : 0 ≤ T1) (t1b : T1 < 4294967296) (r1a : 0 ≤ R1) (r1b : R1 < Y)
   (f1 : IntKind.u64.wrap (U * 4294967296) = A1) (f2 : IntKind.u64.wrap (A1 + d1) = A2) (f3 : IntKind.u64.wrap (T1 * Y) = A3) (f4 : IntKind.u64.wrap (A2 - A3) = R1)
   (A1a : 0 ≤ A1) (A1b : A1 < 18446744073709551616) (A2a : 0 ≤ A2) (A2b : A2 < 18446744073709551616) (A3a : 0 ≤ A3) (A3b : A3 < 18446744073709551616)
   (f5 : R1 / n1 = q0) (f6 : q0 * n1 = m0) (q0a : 0 ≤ q0) (q0b : q0 ≤ 4294967297) (q0c : T0 ≤ q0) (m0a : 0 ≤ m0) (m0b : m0 ≤ R1) (m0c : R1 - m0 < n1)
   (HT0 : Hid (R1 * 4294967296 + d0 = T0 * Y + R0)) (t0a : 0 ≤ T0) (t0b : T0 < 4294967296) (r0a : 0 ≤ R0) (r0b : R0 < Y)
   (g1 : IntKind.u64.wrap (R1 * 4294967296) = B1) (g2 : IntKind.u64.wrap (B1 + d0) = B2) (g3 : IntKind.u64.wrap (T0 * Y) = B3) (g4 : IntKind.u64.wrap (B2 - B3) = R0)
   (B1a : 0 ≤ B1) (B1b : B1 < 18446744073709551616) (B2a : 0 ≤ B2) (B2b : B2 < 18446744073709551616) (B3a : 0 ≤ B3) (B3b : B3 < 18446744073709551616) :
    Calls Tryz.prog 74 #[.int .u64 hi, .int .u64 lo, .int .u64 y] w fun e w' => e = .returned (.tuple #[.int .u64 (T1 * 4294967296 + T0), .int .u64 (R0 / 2 ^ s.toNat)]) ∧ w' = w := by
  have HU1 : Hid (U = q1 * n1 + (U - m1)) := by show U = q1 * n1 + (U - m1); omega
  have HU0 : Hid (R1 = q0 * n1 + (R1 - m0)) := by show R1 = q0 * n1 + (R1 - m0); omega
  go_enter Tryz.func74, Tryz.ntmps74
  go_wp2_with fail
  refine (c1.out _).mono ?_; rintro e w1 ⟨rfl, rfl⟩
  go_wp2_with fail
  go_loop [15, 16] (fun a b => ∃ q r : Int, a = .int .u64 q ∧ b = .int .u64 r ∧ Hid (U = q * n1 + r) ∧ T1 ≤ q ∧ q ≤ 4294967297 ∧ 0 ≤ r ∧ r < 4294967296) (fun _ b => 4294967296 - (intOf b).toNat)
  case atStart => exact ⟨q1, U - m1, by rw [e10], rfl, HU1, qc, qb, by omega, by omega⟩
  case round =>
    obtain ⟨q, r, rfl, rfl, HU, hge, hq, hr0, hr⟩ := hrel
    have h5 := five U d1 Y n1 n0 T1 R1 q r HY.out (by omega) HU.out d1a HT1.out r1a r1b t1a t1b hge hq n0a n0b
    have HN : Hid (U = (q - 1) * n1 + (r + n1)) := next_eq U q n1 r HU.out
    clear e1 e2 e3 e4 e5 e6 e7 e8 e9 e10 e11
    rcases h5 with ⟨k1, k2, k3⟩ | ⟨m, k1, k2, k3, k4, k5, k6, k7⟩ | ⟨k1, k2, k3⟩ | ⟨m, k1, k2, k3, k4, k5, k6, k7⟩ | ⟨m, k1, k2, k3, k4, k5, k6⟩
    · go_wp2
      go_round
      case rel => exact ⟨q - 1, r + n1, rfl, rfl, HN, k3, by omega, by omega, by omega⟩
      case measure => simp [intOf]; omega
    · go_wp2
      go_round
      case rel => exact ⟨q - 1, r + n1, rfl, rfl, HN, k7, by omega, by omega, by omega⟩
      case measure => simp [intOf]; omega
    rotate_left 2
    subst k6
    all_goals
      go_wp2_with fail
      clear f1 f2 f3 f4 f6
      go_loop [18, 16] (fun a b => ∃ q r : Int, a = .int .u64 q ∧ b = .int .u64 r ∧ Hid (R1 = q * n1 + r) ∧ T0 ≤ q ∧ q ≤ 4294967297 ∧ 0 ≤ r ∧ r < 4294967296) (fun _ b => 4294967296 - (intOf b).toNat)
      case atStart => exact ⟨q0, R1 - m0, by first | rfl | rw [f5], rfl, HU0, q0c, q0b, by omega, by omega⟩
      case round =>
        clear f5
        obtain ⟨q', r', rfl, rfl, HU', hge', hq', hr0', hr'⟩ := hrel
        have h5 := five R1 d0 Y n1 n0 T0 R0 q' r' HY.out (by omega) HU'.out d0a HT0.out r0a r0b t0a t0b hge' hq' n0a n0b
        have HN' : Hid (R1 = (q' - 1) * n1 + (r' + n1)) := next_eq R1 q' n1 r' HU'.out
        rcases h5 with ⟨j1, j2, j3⟩ | ⟨m', j1, j2, j3, j4, j5, j6, j7⟩ | ⟨j1, j2, j3⟩ | ⟨m', j1, j2, j3, j4, j5, j6, j7⟩ | ⟨m', j1, j2, j3, j4, j5, j6⟩
        · go_wp2
          go_round
          case rel => exact ⟨q' - 1, r' + n1, rfl, rfl, HN', j3, by omega, by omega, by omega⟩
          case measure => simp [intOf]; omega
        · go_wp2
          go_round
          case rel => exact ⟨q' - 1, r' + n1, rfl, rfl, HN', j7, by omega, by omega, by omega⟩
          case measure => simp [intOf]; omega
        rotate_left 2
        subst j6
        all_goals
          go_wp2
          go_ret2
          exact ⟨rfl, rfl⟩
end Go.Proofs.YtlhbgaiiehljpaaGreat
namespace Go.Proofs.YtlhbgaiiehljpaaGreat
open Go.RowKit
def divQ (hi lo y : Int) : Int := (hi * 18446744073709551616 + lo) / y
def divR (hi lo y : Int) : Int := (hi * 18446744073709551616 + lo) % y
set_option maxHeartbeats 400000 in
theorem div64_small (lo y : Int) (w : World) (hl : Word lo) (h0 : 0 < y) (h1 : y < 18446744073709551616) :
    Calls Tryz.prog 74 #[.int .u64 0, .int .u64 lo, .int .u64 y] w fun e w' => e = .returned (.tuple #[.int .u64 (divQ 0 lo y), .int .u64 (divR 0 lo y)]) ∧ ∃ n, w' = w.drewN n := by
  obtain ⟨l1, l2⟩ := hl
  have eq : divQ 0 lo y = lo / y := by unfold divQ; simp
  have er : divR 0 lo y = lo % y := by unfold divR; simp
  rw [eq, er]
  have q0 : 0 ≤ lo / y := Int.ediv_nonneg l1 (by omega)
  have q1 : lo / y ≤ lo := Int.ediv_le_self y l1
  have r0 : 0 ≤ lo % y := Int.emod_nonneg lo (by omega)
  have r1 : lo % y < y := Int.emod_lt_of_pos lo h0
  clear eq er
  go_enter Tryz.func74, Tryz.ntmps74
  go_wp2
  go_quiet (fail)
  go_wp2
  go_ret2
  exact ⟨rfl, _, rfl⟩
theorem div64_big (hi lo y : Int) (w : World) (hl : Word lo) (h0 : 0 < hi) (hy : hi < y) (h1 : y < 18446744073709551616) :
    Calls Tryz.prog 74 #[.int .u64 hi, .int .u64 lo, .int .u64 y] w fun e w' => e = .returned (.tuple #[.int .u64 (divQ hi lo y), .int .u64 (divR hi lo y)]) ∧ ∃ n, w' = w.drewN n := by
  obtain ⟨l1, l2⟩ := hl
  obtain ⟨s0, s1, s2, s3⟩ := DivInt.shift_top y (by omega) h1
  have c1 := fun w => Tryz.bits_LeadingZeros64 y w (by omega) (by omega)
  generalize 64 - (Lib.bitLen y.toNat : Int) = s at *
  obtain ⟨k, hk⟩ : ∃ k : Nat, s = k := ⟨s.toNat, by omega⟩
  have ek : s.toNat = k := by omega
  have ek' : (64 - s).toNat = 64 - k := by omega
  obtain ⟨p, hp⟩ : ∃ p : Int, p = 2 ^ k := ⟨_, rfl⟩
  have pp : 0 < p := by rw [hp]; exact Int.pow_pos (by decide)
  rw [ek, ← hp] at s2 s3
  obtain ⟨U, u1, u2, u3, u4⟩ := DivInt.shifted hi lo y k p (by omega) hp (by omega) hy s3 l1 l2
  have eY : IntKind.u64.wrap (y * p) = y * p := by rw [DivInt.wrap_eq]; omega
  obtain ⟨Y, hY⟩ : ∃ Y : Int, Y = y * p := ⟨_, rfl⟩
  obtain ⟨X, hX⟩ : ∃ X : Int, X = IntKind.u64.wrap (lo * p) := ⟨_, rfl⟩
  have x0 : 0 ≤ X ∧ X < 18446744073709551616 := by rw [hX, DivInt.wrap_eq]; omega
  rw [← hY] at eY s2 s3 u3
  rw [← hX] at u4
  obtain ⟨T1, R1, t1, t2, t3, t4, t5⟩ := DivInt.digit_true U (X / 4294967296) Y u2 u3 (by omega) (by omega)
  obtain ⟨T0, R0, v1, v2, v3, v4, v5⟩ := DivInt.digit_true R1 (X % 4294967296) Y t2 t3 (by omega) (by omega)
  have hYn : Y = Y / 4294967296 * 4294967296 + Y % 4294967296 := by omega
  obtain ⟨a1, a2, a3, a4, a5, a6⟩ := DivInt.digit_start U (X / 4294967296) Y (Y / 4294967296) (Y % 4294967296) T1 R1 hYn (by omega) (by omega) (by omega) u2 u3 (by omega) (by omega) t1 t2 t4
  obtain ⟨b1, b2, b3, b4, b5, b6⟩ := DivInt.digit_start R1 (X % 4294967296) Y (Y / 4294967296) (Y % 4294967296) T0 R0 hYn (by omega) (by omega) (by omega) t2 t3 (by omega) (by omega) v1 v2 v4
  have fin := DivInt.both hi lo y p U X (X / 4294967296) (X % 4294967296) Y T1 R1 T0 R0 pp hY (by omega) u4 (by omega) t1 v1 v2 v3
  have wl := DivInt.wrap_eq (U * 4294967296)
  refine (div64_walk hi lo y s _ _ Y U X (Y / 4294967296) (Y % 4294967296) (X / 4294967296) (X % 4294967296) _ _ T1 R1 _ _ _ _ _ T0 R0 _ _ _ w h0 l1 l2 hy h1 s0 s1 c1
    (by rw [ek, ← hp, ← hY]; exact eY) rfl rfl (by rw [ek, ek', ← hp]; exact u1) (by rw [ek, ← hp]; exact hX.symm) rfl (DivInt.and_low Y (by omega) (by omega)) rfl (DivInt.and_low X x0.1 x0.2)
    rfl rfl (by omega) (by omega) (by omega) (by omega) (by omega) (by omega) (by omega) (by omega) (by omega) (by omega) u2 u3 a3 a2 a1 a6 a4 a5 x0.1 x0.2
    hYn t1 t4 t5 t2 t3 rfl rfl rfl ?_ ?_ ?_ ?_ ?_ ?_ ?_ rfl rfl b3 b2 b1 b6 b4 b5 v1 v4 v5 v2 v3 rfl rfl rfl ?_ ?_ ?_ ?_ ?_ ?_ ?_).mono ?_
  · simp only [DivInt.wrap_eq]; generalize T1 * Y = P at *; omega
  · simp only [DivInt.wrap_eq]; omega
  · simp only [DivInt.wrap_eq]; omega
  · simp only [DivInt.wrap_eq]; omega
  · simp only [DivInt.wrap_eq]; omega
  · simp only [DivInt.wrap_eq]; omega
  · simp only [DivInt.wrap_eq]; omega
  · simp only [DivInt.wrap_eq]; generalize T0 * Y = P at *; omega
  · simp only [DivInt.wrap_eq]; omega
  · simp only [DivInt.wrap_eq]; omega
  · simp only [DivInt.wrap_eq]; omega
  · simp only [DivInt.wrap_eq]; omega
  · simp only [DivInt.wrap_eq]; omega
  · simp only [DivInt.wrap_eq]; omega
  · rintro e w' ⟨rfl, rfl⟩
    refine ⟨?_, 0, rfl⟩
    rw [fin.1, ek, ← hp, fin.2]
    rfl
theorem div64_any (hi lo y : Int) (w : World) (hh : 0 ≤ hi) (hl : Word lo) (hy : hi < y) (h1 : y < 18446744073709551616) :
    Calls Tryz.prog 74 #[.int .u64 hi, .int .u64 lo, .int .u64 y] w fun e w' => e = .returned (.tuple #[.int .u64 (divQ hi lo y), .int .u64 (divR hi lo y)]) ∧ ∃ n, w' = w.drewN n := by
  by_cases h : hi = 0
  · subst h; exact div64_small lo y w hl hy h1
  · exact div64_big hi lo y w hl (by omega) hy h1
end Go.Proofs.YtlhbgaiiehljpaaGreat
