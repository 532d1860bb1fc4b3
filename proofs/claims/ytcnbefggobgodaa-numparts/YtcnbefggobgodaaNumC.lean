/-
  Contracts of the counts: bits.Mul64 over Int, num.Mul.
-/
import Derived.Test.YtcnbefggobgodaaNumB
import Derived.Test.YtcnbefggobgodaaShelf
namespace Go.Proofs.Ytcnbefggobgodaa
open Go.RowKit

def mulH (a b : Int) : Int := a * b / 18446744073709551616
def mulL (a b : Int) : Int := a * b % 18446744073709551616
def mulV (a b : Int) : Int := if a * b < 18446744073709551616 then a * b else 0
def mulE (a b : Int) : Int := if a * b < 18446744073709551616 then 0 else 10

theorem mul_word (a b : Int) (ha : Word a) (hb : Word b) : 0 ≤ a * b ∧ a * b ≤ 340282366920938463426481119284349108225 := by
  obtain ⟨a1, a2⟩ := ha; obtain ⟨b1, b2⟩ := hb
  refine ⟨Int.mul_nonneg a1 b1, ?_⟩
  have := Int.mul_le_mul (a := a) (b := b) (c := 18446744073709551615) (d := 18446744073709551615) (by omega) (by omega) b1 (by omega)
  exact this
theorem mulH_word (a b : Int) (ha : Word a) (hb : Word b) : Word (mulH a b) := by
  have := mul_word a b ha hb; unfold mulH Word; omega
theorem mulL_word (a b : Int) : Word (mulL a b) := by unfold mulL Word; omega

theorem mul64_any (a b : Int) (w : World) (ha : Word a) (hb : Word b) :
    Calls Try.prog 41 #[.int .u64 a, .int .u64 b] w fun e w' => e = .returned (.tuple #[.int .u64 (mulH a b), .int .u64 (mulL a b)]) ∧ w' = w := by
  obtain ⟨a1, a2⟩ := ha; obtain ⟨b1, b2⟩ := hb
  obtain ⟨x, rfl⟩ := Int.eq_ofNat_of_zero_le a1
  obtain ⟨y, rfl⟩ := Int.eq_ofNat_of_zero_le b1
  refine (Try.bits_Mul64 x y (by omega) (by omega) w).mono ?_
  rintro e w' ⟨rfl, rfl⟩
  refine ⟨?_, rfl⟩
  unfold mulH mulL
  simp only [Int.natCast_ediv, Int.natCast_emod, Int.natCast_mul]
  rfl

set_option maxHeartbeats 400000 in
theorem mul_any (a b : Int) (w : World) (ha : Word a) (hb : Word b) :
    Calls Try.prog 13 #[.int .u64 a, .int .u64 b] w fun e w' => e = .returned (.tuple #[.int .u64 (mulV a b), .int .i64 (mulE a b)]) ∧ w' = w := by
  have hm := mul_word a b ha hb
  have hc := mul64_any a b
  by_cases h : a * b < 18446744073709551616
  · have e1 : mulH a b = 0 := by unfold mulH; omega
    have e2 : mulL a b = a * b := by unfold mulL; omega
    have e3 : mulV a b = a * b := if_pos h
    have e4 : mulE a b = 0 := if_pos h
    rw [e1, e2] at hc
    rw [e3, e4]
    clear e1 e2 e3 e4 h hm
    generalize a * b = p at *
    have HC : Hid (_) := hc
    clear hc
    go_enter Try.func13, Try.ntmps13
    go_wp2_with (go_at_call 41; refine (HC.out _ ha hb).mono ?_; rintro e w' ⟨rfl, rfl⟩)
    go_ret2
    exact ⟨rfl, rfl⟩
  · have e1 : 0 < mulH a b := by unfold mulH; omega
    have e3 : mulV a b = 0 := if_neg h
    have e4 : mulE a b = 10 := if_neg h
    rw [e3, e4]
    clear e3 e4 h hm
    generalize mulH a b = p at *
    generalize mulL a b = q at *
    have HC : Hid (_) := hc
    clear hc
    go_enter Try.func13, Try.ntmps13
    go_wp2_with (go_at_call 41; refine (HC.out _ ha hb).mono ?_; rintro e w' ⟨rfl, rfl⟩)
    go_ret2
    exact ⟨rfl, rfl⟩
end Go.Proofs.Ytcnbefggobgodaa
