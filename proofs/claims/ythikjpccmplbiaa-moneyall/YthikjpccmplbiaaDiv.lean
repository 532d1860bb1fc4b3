/-
  bits.Div64, whole.
-/
import Derived.Test.YthikjpccmplbiaaDivWalk
import Derived.Deep.QuietTactic
import Derived.BigQuiet
namespace Go.Proofs.Ythikjpccmplbiaa
open Go.RowKit

def divQ (hi lo y : Int) : Int := (hi * 18446744073709551616 + lo) / y
def divR (hi lo y : Int) : Int := (hi * 18446744073709551616 + lo) % y

set_option maxHeartbeats 400000 in
theorem div64_small (lo y : Int) (w : World) (hl : Word lo) (h0 : 0 < y) (h1 : y < 18446744073709551616) :
    Calls Try.prog 51 #[.int .u64 0, .int .u64 lo, .int .u64 y] w fun e w' => e = .returned (.tuple #[.int .u64 (divQ 0 lo y), .int .u64 (divR 0 lo y)]) ∧ ∃ n, w' = w.drewN n := by
  obtain ⟨l1, l2⟩ := hl
  have eq : divQ 0 lo y = lo / y := by unfold divQ; simp
  have er : divR 0 lo y = lo % y := by unfold divR; simp
  rw [eq, er]
  have q0 : 0 ≤ lo / y := Int.ediv_nonneg l1 (by omega)
  have q1 : lo / y ≤ lo := Int.ediv_le_self y l1
  have r0 : 0 ≤ lo % y := Int.emod_nonneg lo (by omega)
  have r1 : lo % y < y := Int.emod_lt_of_pos lo h0
  clear eq er
  go_enter Try.func51, Try.ntmps51
  go_wp2
  go_quiet (fail)
  go_wp2
  go_ret2
  exact ⟨rfl, _, rfl⟩

theorem div64_big (hi lo y : Int) (w : World) (hl : Word lo) (h0 : 0 < hi) (hy : hi < y) (h1 : y < 18446744073709551616) :
    Calls Try.prog 51 #[.int .u64 hi, .int .u64 lo, .int .u64 y] w fun e w' => e = .returned (.tuple #[.int .u64 (divQ hi lo y), .int .u64 (divR hi lo y)]) ∧ ∃ n, w' = w.drewN n := by
  obtain ⟨l1, l2⟩ := hl
  obtain ⟨s0, s1, s2, s3⟩ := DivInt.shift_top y (by omega) h1
  have c1 := fun w => Try.bits_LeadingZeros64 y w (by omega) (by omega)
  generalize 64 - (Lib.bitLen y.toNat : Int) = s at *
  obtain ⟨k, hk⟩ : ∃ k : Nat, s = k := ⟨s.toNat, by omega⟩
  have ek : s.toNat = k := by omega
  have ek' : (64 - s).toNat = 64 - k := by omega
  obtain ⟨p, hp⟩ : ∃ p : Int, p = 2 ^ k := ⟨_, rfl⟩
  have pp : 0 < p := by rw [hp]; exact Int.pow_pos (by decide)
  rw [ek, ← hp] at s2 s3
  obtain ⟨U, u1, u2, u3, u4⟩ := DivInt.shifted hi lo y k p (by omega) hp (by omega) hy s3 l1 l2
  have eY : IntKind.u64.wrap (y * p) = y * p := by rw [DivInt.wrap_eq]; omega
  obtain ⟨Y, hY⟩ : ∃ Y : Int, Y = y * p := ⟨_, rfl⟩
  obtain ⟨X, hX⟩ : ∃ X : Int, X = IntKind.u64.wrap (lo * p) := ⟨_, rfl⟩
  have x0 : 0 ≤ X ∧ X < 18446744073709551616 := by rw [hX, DivInt.wrap_eq]; omega
  rw [← hY] at eY s2 s3 u3
  rw [← hX] at u4
  obtain ⟨T1, R1, t1, t2, t3, t4, t5⟩ := DivInt.digit_true U (X / 4294967296) Y u2 u3 (by omega) (by omega)
  obtain ⟨T0, R0, v1, v2, v3, v4, v5⟩ := DivInt.digit_true R1 (X % 4294967296) Y t2 t3 (by omega) (by omega)
  have hYn : Y = Y / 4294967296 * 4294967296 + Y % 4294967296 := by omega
  obtain ⟨a1, a2, a3, a4, a5, a6⟩ := DivInt.digit_start U (X / 4294967296) Y (Y / 4294967296) (Y % 4294967296) T1 R1 hYn (by omega) (by omega) (by omega) u2 u3 (by omega) (by omega) t1 t2 t4
  obtain ⟨b1, b2, b3, b4, b5, b6⟩ := DivInt.digit_start R1 (X % 4294967296) Y (Y / 4294967296) (Y % 4294967296) T0 R0 hYn (by omega) (by omega) (by omega) t2 t3 (by omega) (by omega) v1 v2 v4
  have fin := DivInt.both hi lo y p U X (X / 4294967296) (X % 4294967296) Y T1 R1 T0 R0 pp hY (by omega) u4 (by omega) t1 v1 v2 v3
  have wl := DivInt.wrap_eq (U * 4294967296)
  refine (div64_walk hi lo y s _ _ Y U X (Y / 4294967296) (Y % 4294967296) (X / 4294967296) (X % 4294967296) _ _ T1 R1 _ _ _ _ _ T0 R0 _ _ _ w h0 l1 l2 hy h1 s0 s1 c1
    (by rw [ek, ← hp, ← hY]; exact eY) rfl rfl (by rw [ek, ek', ← hp]; exact u1) (by rw [ek, ← hp]; exact hX.symm) rfl (DivInt.and_low Y (by omega) (by omega)) rfl (DivInt.and_low X x0.1 x0.2)
    rfl rfl (by omega) (by omega) (by omega) (by omega) (by omega) (by omega) (by omega) (by omega) (by omega) (by omega) u2 u3 a3 a2 a1 a6 a4 a5 x0.1 x0.2
    hYn t1 t4 t5 t2 t3 rfl rfl rfl ?_ ?_ ?_ ?_ ?_ ?_ ?_ rfl rfl b3 b2 b1 b6 b4 b5 v1 v4 v5 v2 v3 rfl rfl rfl ?_ ?_ ?_ ?_ ?_ ?_ ?_).mono ?_
  · simp only [DivInt.wrap_eq]; generalize T1 * Y = P at *; omega
  · simp only [DivInt.wrap_eq]; omega
  · simp only [DivInt.wrap_eq]; omega
  · simp only [DivInt.wrap_eq]; omega
  · simp only [DivInt.wrap_eq]; omega
  · simp only [DivInt.wrap_eq]; omega
  · simp only [DivInt.wrap_eq]; omega
  · simp only [DivInt.wrap_eq]; generalize T0 * Y = P at *; omega
  · simp only [DivInt.wrap_eq]; omega
  · simp only [DivInt.wrap_eq]; omega
  · simp only [DivInt.wrap_eq]; omega
  · simp only [DivInt.wrap_eq]; omega
  · simp only [DivInt.wrap_eq]; omega
  · simp only [DivInt.wrap_eq]; omega
  · rintro e w' ⟨rfl, rfl⟩
    refine ⟨?_, 0, rfl⟩
    rw [fin.1, ek, ← hp, fin.2]
    rfl

theorem div64_any (hi lo y : Int) (w : World) (hh : 0 ≤ hi) (hl : Word lo) (hy : hi < y) (h1 : y < 18446744073709551616) :
    Calls Try.prog 51 #[.int .u64 hi, .int .u64 lo, .int .u64 y] w fun e w' => e = .returned (.tuple #[.int .u64 (divQ hi lo y), .int .u64 (divR hi lo y)]) ∧ ∃ n, w' = w.drewN n := by
  by_cases h : hi = 0
  · subst h; exact div64_small lo y w hl hy h1
  · exact div64_big hi lo y w hl (by omega) hy h1
end Go.Proofs.Ythikjpccmplbiaa
