/-
  Amounts: Cents, Times, none, Words, Sign, Neg, size.
-/
import Derived.Test.YthikjpccmplbiaaNumA
import Derived.WalkLawsBesides
import Derived.Test.YthikjpccmplbiaaNumC
import Derived.Test.YthikjpccmplbiaaMonM
import Derived.Shelf.Spec.BitsCarry
namespace Go.Proofs.Ythikjpccmplbiaa
open Go.RowKit MonM
set_option linter.unusedVariables false

/-- an amount as a value. -/
abbrev mv (m : Int) : Value := .agg #[.int .u64 (hiW m), .int .u64 (loW m)]
def sgn (m : Int) : Int := if m < 0 then -1 else if 0 < m then 1 else 0
def bor (x y : Int) : Int := if x < y then 1 else 0

theorem sub64 (x y b : Int) (hx : 0 ≤ x) (hy : 0 ≤ y) (hy' : y < 18446744073709551616) (hb0 : 0 ≤ b) (hb : b ≤ 1) (w : World) : (callFunc 46 #[.int .u64 x, .int .u64 y, .int .u64 b]).run Try.prog w =
    .ok (.value (.tuple #[.int .u64 ((x - y - b) % 18446744073709551616), .int .u64 (if x < y + b then 1 else 0)])) w := by
  obtain ⟨x, rfl⟩ := Int.eq_ofNat_of_zero_le hx
  obtain ⟨y, rfl⟩ := Int.eq_ofNat_of_zero_le hy
  obtain ⟨b, rfl⟩ := Int.eq_ofNat_of_zero_le hb0
  have e1 : (((x + 18446744073709551616 - y - b) % 18446744073709551616 : Nat) : Int) = ((x : Int) - y - b) % 18446744073709551616 := by omega
  have e2 : ((if x < y + b then 1 else 0 : Nat) : Int) = if (x : Int) < y + b then 1 else 0 := by split <;> split <;> omega
  rw [← e1, ← e2, run_callFunc_extern Try.func46 (by kernel_rfl) (by kernel_rfl) (by kernel_rfl) (e := sub64Entry) (by kernel_rfl), run_sub64 x y b (by omega)]
  rfl
theorem sub64_0 (x y : Int) (hx : 0 ≤ x) (hy : 0 ≤ y) (hy' : y < 18446744073709551616) (w : World) : (callFunc 46 #[.int .u64 x, .int .u64 y, .int .u64 0]).run Try.prog w =
    .ok (.value (.tuple #[.int .u64 ((x - y) % 18446744073709551616), .int .u64 (bor x y)])) w := by
  have h := sub64 x y 0 hx hy hy' (Int.le_refl 0) (by decide) w
  rw [show x - y - 0 = x - y from by omega, show y + 0 = y from by omega] at h
  exact h

set_option maxHeartbeats 400000 in
theorem cents_any (n : Int) (w : World) (h0 : -9223372036854775808 ≤ n) (h1 : n ≤ 9223372036854775807) :
    Calls Try.prog 14 #[.int .i64 n] w fun e w' => e = .returned (mv n) ∧ Below w.heap.size w w' := by
  have e1 : IntKind.u64.wrap (n / 9223372036854775808) = hiW n := by rw [IntKind.wrap_u64]; unfold hiW; omega
  have e2 : IntKind.u64.wrap n = loW n := by rw [IntKind.wrap_u64]; rfl
  have E1 := hid e1
  have E2 := hid e2
  clear e1 e2
  go_enter Try.func14, Try.ntmps14
  go_wp2
  rw [E1.out, E2.out]
  exact bodyPost_ret (v := mv n) (by simp [results, Try.results14, go_sem]) rfl ⟨rfl, (Below.refl _ _).alloc (Nat.le_refl _) _⟩

set_option maxHeartbeats 400000 in
theorem none_yes (w : World) :
    Calls Try.prog 42 #[.agg #[.int .u64 9223372036854775808, .int .u64 0]] w fun e w' => e = .returned (.bool true) ∧ Below w.heap.size w w' := by
  go_enter Try.func42, Try.ntmps42
  go_wp2
  go_ret
  exact ⟨rfl, (Below.refl _ _).alloc (Nat.le_refl _) _⟩
set_option maxHeartbeats 400000 in
theorem none_no (H L : Int) (w : World) (h : ¬ (H = 9223372036854775808 ∧ L = 0)) :
    Calls Try.prog 42 #[.agg #[.int .u64 H, .int .u64 L]] w fun e w' => e = .returned (.bool false) ∧ Below w.heap.size w w' := by
  by_cases h1 : H = 9223372036854775808
  · have h2 : ¬ L = 0 := fun e => h ⟨h1, e⟩
    clear h
    subst h1
    go_enter Try.func42, Try.ntmps42
    go_wp2
    go_ret
    exact ⟨rfl, (Below.refl _ _).alloc (Nat.le_refl _) _⟩
  · clear h
    go_enter Try.func42, Try.ntmps42
    go_wp2
    go_ret
    exact ⟨rfl, (Below.refl _ _).alloc (Nat.le_refl _) _⟩

set_option maxHeartbeats 400000 in
theorem words_any (H L : Int) (w : World) :
    Calls Try.prog 8 #[.agg #[.int .u64 H, .int .u64 L]] w fun e w' => e = .returned (.agg #[.int .u64 H, .int .u64 L]) ∧ Below w.heap.size w w' := by
  go_enter Try.func8, Try.ntmps8
  go_wp2
  exact bodyPost_ret (v := .agg #[.int .u64 H, .int .u64 L]) (by simp [results, Try.results8, go_sem]) rfl ⟨rfl, ((Below.refl _ _).alloc (Nat.le_refl _) _).alloc (by simp) _⟩

set_option maxHeartbeats 400000 in
theorem sign_any (m : Int) (w : World) (hm : Amt m) :
    Calls Try.prog 10 #[mv m] w fun e w' => e = .returned (.int .i64 (sgn m)) ∧ Below w.heap.size w w' := by
  obtain ⟨m0, m1⟩ := hm
  have hw := words m (by omega) m1
  have hh := hiW_word m
  have hl := loW_word m
  have ht := and_top (hiW m) hh.1 hh.2
  unfold mv
  by_cases h0 : m = 0
  · subst h0
    go_enter Try.func10, Try.ntmps10
    rw [show hiW 0 = 0 from rfl, show loW 0 = 0 from rfl]
    go_wp2
    go_ret
    exact ⟨rfl, (Below.refl _ _).alloc (Nat.le_refl _) _⟩
  · by_cases h1 : m < 0
    · have es : sgn m = -1 := if_pos h1
      rw [es]
      have g1 : ¬ hiW m = 0 := by omega
      rw [if_pos (by omega)] at ht
      generalize hiW m = H at *
      generalize loW m = L at *
      clear es hw hh hl h0 h1 m0 m1
      go_enter Try.func10, Try.ntmps10
      go_wp2
      go_ret
      exact ⟨rfl, (Below.refl _ _).alloc (Nat.le_refl _) _⟩
    · have es : sgn m = 1 := by unfold sgn; rw [if_neg h1, if_pos (by omega)]
      rw [es]
      rw [if_neg (by omega)] at ht
      have g1 : ¬ (hiW m = 0 ∧ loW m = 0) := by omega
      generalize hiW m = H at *
      generalize loW m = L at *
      clear es hw hh hl h0 h1 m0 m1
      by_cases g2 : H = 0
      · have g3 : ¬ L = 0 := fun e => g1 ⟨g2, e⟩
        clear g1
        subst g2
        go_enter Try.func10, Try.ntmps10
        go_wp2
        go_ret
        exact ⟨rfl, (Below.refl _ _).alloc (Nat.le_refl _) _⟩
      · clear g1
        go_enter Try.func10, Try.ntmps10
        go_wp2
        go_ret
        exact ⟨rfl, (Below.refl _ _).alloc (Nat.le_refl _) _⟩

set_option maxHeartbeats 800000 in
theorem neg_any (m : Int) (w : World) :
    Calls Try.prog 26 #[mv m] w fun e w' => e = .returned (mv (-m)) ∧ Below w.heap.size w w' := by
  have hn := neg_words m
  obtain ⟨hh0, hh1⟩ := hiW_word m
  obtain ⟨hl0, hl1⟩ := loW_word m
  unfold mv
  have eb : (if 0 < loW m then 1 else 0 : Int) = bor 0 (loW m) := rfl
  rw [eb] at hn
  have b0 : 0 ≤ bor 0 (loW m) := by unfold bor; split <;> decide
  have b1 : bor 0 (loW m) ≤ 1 := by unfold bor; split <;> decide
  have k1 := sub64_0 0 (loW m) (by decide) hl0 hl1
  have k2 := sub64 0 (hiW m) (bor 0 (loW m)) (by decide) hh0 hh1 b0 b1
  rw [← hn.2] at k1
  rw [← hn.1] at k2
  obtain ⟨t, ht⟩ : ∃ t : Int, (if 0 < hiW m + bor 0 (loW m) then 1 else 0 : Int) = t := ⟨_, rfl⟩
  rw [ht] at k2
  have W1 := hiW_word (-m)
  have W2 := loW_word (-m)
  generalize hiW (-m) = H' at *
  generalize loW (-m) = L' at *
  generalize bor 0 (loW m) = b at *
  generalize hiW m = H at *
  generalize loW m = L at *
  clear hn eb ht W1 W2
  go_enter Try.func26, Try.ntmps26
  go_wp2_with (first | simp only [k1] | simp only [k2])
  exact bodyPost_ret (v := .agg #[.int .u64 H', .int .u64 L']) (by simp [results, Try.results26, go_sem]) rfl ⟨rfl, ((Below.refl _ _).alloc (Nat.le_refl _) _).alloc (by simp) _⟩
set_option maxHeartbeats 400000 in
theorem numTimes_any (p q : Int) (w : World) (hp0 : 0 ≤ p) (hp1 : p < 4294967296) (hq : Word q) :
    Calls Try.prog 16 #[.int .u32 p, .int .u64 q] w fun e w' => e = .returned (mv (p * q)) ∧ Below w.heap.size w w' := by
  have hp : Word p := ⟨hp0, by omega⟩
  have hm := mul_word p q hp hq
  have e1 : mulH p q = hiW (p * q) := by unfold mulH hiW; omega
  have e2 : mulL p q = loW (p * q) := rfl
  have C := hid (fun w => mul64_any p q w hp hq)
  rw [e1, e2] at C
  clear e1 e2 hm hp hq
  go_enter Try.func16, Try.ntmps16
  go_wp2_with fail
  refine (C.out _).mono ?_; rintro e w1 ⟨rfl, rfl⟩
  go_wp2
  exact bodyPost_ret (v := mv (p * q)) (by simp [results, Try.results16, go_sem]) rfl ⟨rfl, (Below.refl _ _).alloc (Nat.le_refl _) _⟩
end Go.Proofs.Ythikjpccmplbiaa
