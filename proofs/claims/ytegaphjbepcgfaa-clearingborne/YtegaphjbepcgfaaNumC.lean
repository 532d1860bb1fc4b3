/-
  NumC
-/
import Derived.Test.YtegaphjbepcgfaaNumA
import Derived.Test.YtegaphjbepcgfaaShelf
namespace Go.Proofs.Ytegaphjbepcgfaa
open Go.RowKit
def mulH (a b : Int) : Int := a * b / 18446744073709551616
def mulL (a b : Int) : Int := a * b % 18446744073709551616
theorem mul_word (a b : Int) (ha : Word a) (hb : Word b) : 0 ≤ a * b ∧ a * b ≤ 340282366920938463426481119284349108225 := by
  obtain ⟨a1, a2⟩ := ha; obtain ⟨b1, b2⟩ := hb
  refine ⟨Int.mul_nonneg a1 b1, ?_⟩
  have := Int.mul_le_mul (a := a) (b := b) (c := 18446744073709551615) (d := 18446744073709551615) (by omega) (by omega) b1 (by omega)
  exact this
theorem mulH_word (a b : Int) (ha : Word a) (hb : Word b) : Word (mulH a b) := by
  have := mul_word a b ha hb; unfold mulH Word; omega
theorem mulL_word (a b : Int) : Word (mulL a b) := by unfold mulL Word; omega
theorem mul64_any (a b : Int) (w : World) (ha : Word a) (hb : Word b) :
    Calls Try.prog 58 #[.int .u64 a, .int .u64 b] w fun e w' => e = .returned (.tuple #[.int .u64 (mulH a b), .int .u64 (mulL a b)]) ∧ w' = w := by
  obtain ⟨a1, a2⟩ := ha; obtain ⟨b1, b2⟩ := hb
  obtain ⟨x, rfl⟩ := Int.eq_ofNat_of_zero_le a1
  obtain ⟨y, rfl⟩ := Int.eq_ofNat_of_zero_le b1
  refine (Try.bits_Mul64 x y (by omega) (by omega) w).mono ?_
  rintro e w' ⟨rfl, rfl⟩
  refine ⟨?_, rfl⟩
  unfold mulH mulL
  simp only [Int.natCast_ediv, Int.natCast_emod, Int.natCast_mul]
  rfl
end Go.Proofs.Ytegaphjbepcgfaa
