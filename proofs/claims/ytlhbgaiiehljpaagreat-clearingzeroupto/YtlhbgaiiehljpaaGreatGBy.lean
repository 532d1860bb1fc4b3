/-
  MonE
-/
import Derived.Test.YtlhbgaiiehljpaaGreatGAr
import Derived.Test.YtlhbgaiiehljpaaGreatGAh
import Derived.Deep.OwnRows
import Derived.Laws.BytesArg
namespace Go.Proofs.YtlhbgaiiehljpaaGreat
open Go.RowKit MonM
set_option linter.unusedVariables false
/-- a division of three words by one, word by word. -/
theorem two_div (Z1 low b : Int) (hb : 0 < b) (h0 : 0 ≤ Z1) (l0 : 0 ≤ low) (l1 : low < 18446744073709551616) :
    (Z1 * 18446744073709551616 + low) / b = Z1 / b * 18446744073709551616 + (Z1 % b * 18446744073709551616 + low) / b ∧
    (Z1 * 18446744073709551616 + low) % b = (Z1 % b * 18446744073709551616 + low) % b := by
  have dm := Int.mul_ediv_add_emod Z1 b
  have e : Z1 * 18446744073709551616 + low = (Z1 % b * 18446744073709551616 + low) + b * (Z1 / b * 18446744073709551616) := by
    have : b * (Z1 / b * 18446744073709551616) = b * (Z1 / b) * 18446744073709551616 := by rw [Int.mul_assoc]
    rw [this]; omega
  rw [e, Int.add_mul_ediv_left _ _ (by omega), Int.add_mul_emod_self_left]
  exact ⟨by omega, rfl⟩
set_option maxHeartbeats 1000000 in
theorem scaled_over (H L a b low carried high0 mid0 mid cr : Int) (w : World) (h : b ≤ high0 + cr) (g0 : 0 ≤ high0) (g1 : high0 < 4294967296) (c0 : 0 ≤ cr) (c1 : cr ≤ 1)
    (M1 : Hid (∀ w : World, Calls Tryz.prog 84 #[.int .u64 L, .int .u64 a] w fun e w' => e = .returned (.tuple #[.int .u64 carried, .int .u64 low]) ∧ w' = w))
    (M2 : Hid (∀ w : World, Calls Tryz.prog 84 #[.int .u64 H, .int .u64 a] w fun e w' => e = .returned (.tuple #[.int .u64 high0, .int .u64 mid0]) ∧ w' = w))
    (k1 : ∀ w, (callFunc 55 #[.int .u64 mid0, .int .u64 carried, .int .u64 0]).run Tryz.prog w = .ok (.value (.tuple #[.int .u64 mid, .int .u64 cr])) w) :
    Calls Tryz.prog 86 #[.agg #[.int .u64 H, .int .u64 L], .int .u64 a, .int .u64 b] w fun e w' => e = .returned (.tuple #[.agg #[.int .u64 0, .int .u64 0], .int .u64 0, .bool false]) ∧ Below w.heap.size w w' := by
  go_enter Tryz.func86, Tryz.ntmps86
  go_wp2_with fail
  refine (M1.out _).mono ?_; rintro e w1 ⟨rfl, rfl⟩
  go_wp2_with fail
  refine (M2.out _).mono ?_; rintro e w1 ⟨rfl, rfl⟩
  go_wp2
  exact bodyPost_ret (v := .tuple #[.agg #[.int .u64 0, .int .u64 0], .int .u64 0, .bool false]) (by simp [results, Tryz.results86, go_sem]) rfl ⟨rfl, bal (bal (b0 w) _) _⟩
theorem div64_below (hi lo y : Int) (w : World) (hh : 0 ≤ hi) (hl : Word lo) (hy : hi < y) (h1 : y < 18446744073709551616) :
    Calls Tryz.prog 74 #[.int .u64 hi, .int .u64 lo, .int .u64 y] w fun e w' => e = .returned (.tuple #[.int .u64 (divQ hi lo y), .int .u64 (divR hi lo y)]) ∧ Below w.heap.size w w' := by
  refine (div64_any hi lo y w hh hl hy h1).mono ?_
  rintro e w' ⟨rfl, n, rfl⟩
  exact ⟨rfl, below_drewN (Below.refl _ _) n⟩
set_option maxHeartbeats 2000000 in
theorem scaled_in (H L a b low carried high0 mid0 mid cr q1 r1 q0 r0 T : Int) (w : World) (h : high0 + cr < b) (g0 : 0 ≤ high0) (g1 : high0 < 4294967296) (c0 : 0 ≤ cr) (c1 : cr ≤ 1)
    (ht : bits .and .u64 q1 9223372036854775808 = T)
    (M1 : Hid (∀ w : World, Calls Tryz.prog 84 #[.int .u64 L, .int .u64 a] w fun e w' => e = .returned (.tuple #[.int .u64 carried, .int .u64 low]) ∧ w' = w))
    (M2 : Hid (∀ w : World, Calls Tryz.prog 84 #[.int .u64 H, .int .u64 a] w fun e w' => e = .returned (.tuple #[.int .u64 high0, .int .u64 mid0]) ∧ w' = w))
    (k1 : ∀ w, (callFunc 55 #[.int .u64 mid0, .int .u64 carried, .int .u64 0]).run Tryz.prog w = .ok (.value (.tuple #[.int .u64 mid, .int .u64 cr])) w)
    (D1 : Hid (∀ w : World, Calls Tryz.prog 74 #[.int .u64 (high0 + cr), .int .u64 mid, .int .u64 b] w fun e w' => e = .returned (.tuple #[.int .u64 q1, .int .u64 r1]) ∧ Below w.heap.size w w'))
    (D2 : Hid (∀ w : World, Calls Tryz.prog 74 #[.int .u64 r1, .int .u64 low, .int .u64 b] w fun e w' => e = .returned (.tuple #[.int .u64 q0, .int .u64 r0]) ∧ Below w.heap.size w w')) :
    Calls Tryz.prog 86 #[.agg #[.int .u64 H, .int .u64 L], .int .u64 a, .int .u64 b] w fun e w' => e = .returned (.tuple #[.agg #[.int .u64 q1, .int .u64 q0], .int .u64 r0, .bool (T == 0)]) ∧ Below w.heap.size w w' := by
  go_enter Tryz.func86, Tryz.ntmps86
  go_wp2_with fail
  refine (M1.out _).mono ?_; rintro e w1 ⟨rfl, rfl⟩
  go_wp2_with fail
  refine (M2.out _).mono ?_; rintro e w1 ⟨rfl, rfl⟩
  go_wp2_with fail
  refine (D1.out _).mono ?_
  rintro e w1 ⟨rfl, hb⟩
  have hz := hb.size
  simp at hz
  have f0 : w1.cell? ⟨w.heap.size + 1, 0, none⟩ = some (.int .u64 0) := by rw [(bcell hb).1 _ _ (by simp)]; simp [go_sem]
  have f1 : w1.cell? ⟨w.heap.size + 1, 1, none⟩ = some (.int .u64 0) := by rw [(bcell hb).1 _ _ (by simp)]; simp [go_sem]
  have g2 : w1.frozen? ⟨w.heap.size + 1, 0, none⟩ = false := by rw [(bcell hb).2 _ _ (by simp)]; simp [go_sem]
  have g3 : w1.frozen? ⟨w.heap.size + 1, 1, none⟩ = false := by rw [(bcell hb).2 _ _ (by simp)]; simp [go_sem]
  have HB := hid hb
  clear hb
  go_wp2_with fail
  refine (D2.out _).mono ?_
  rintro e w2 ⟨rfl, hb⟩
  have hz2 := hb.size
  simp [World.setCell] at hz2
  have f2 : w2.cell? ⟨w.heap.size + 1, 0, none⟩ = some (.int .u64 q1) := by rw [(bcell hb).1 _ _ (by simp [World.setCell]; omega), World.cell?_setCell_same _ _ _ f0]
  have f3 : w2.cell? ⟨w.heap.size + 1, 1, none⟩ = some (.int .u64 0) := by rw [(bcell hb).1 _ _ (by simp [World.setCell]; omega), World.cell?_setCell_other _ _ _ _ (by simp)]; exact f1
  have g4 : w2.frozen? ⟨w.heap.size + 1, 0, none⟩ = false := by rw [(bcell hb).2 _ _ (by simp [World.setCell]; omega), World.frozen?_setCell]; exact g2
  have g5 : w2.frozen? ⟨w.heap.size + 1, 1, none⟩ = false := by rw [(bcell hb).2 _ _ (by simp [World.setCell]; omega), World.frozen?_setCell]; exact g3
  have HB2 := hid hb
  clear hb f0 f1 g2 g3
  go_wp2
  refine bodyPost_ret (v := .tuple #[.agg #[.int .u64 q1, .int .u64 q0], .int .u64 r0, .bool (T == 0)]) (by simp [results, Tryz.results86, go_sem, f2, f3]) rfl ⟨rfl, ?_⟩
  refine Below.setCell (Below.setCell (Below.setCell (btr (Below.setCell (btr (bal (bal (b0 w) _) _) HB.out) ?_ _) HB2.out) ?_ _) ?_ _) ?_ _
  all_goals (dsimp only; omega)
theorem scaled_any (m a b : Int) (w : World) (h0 : 0 ≤ m) (h1 : m ≤ 170141183460469231731687303715884105727) (a0 : 0 ≤ a) (a1 : a < 4294967296) (b0' : 0 < b) (b1 : b < 4294967296) :
    Calls Tryz.prog 86 #[mv m, .int .u64 a, .int .u64 b] w fun e w' =>
      (m * a / b ≤ 170141183460469231731687303715884105727 ∧ e = .returned (.tuple #[mv (m * a / b), .int .u64 (m * a % b), .bool true]) ∨
       170141183460469231731687303715884105727 < m * a / b ∧ ∃ H L R : Int, e = .returned (.tuple #[.agg #[.int .u64 H, .int .u64 L], .int .u64 R, .bool false])) ∧ Below w.heap.size w w' := by
  have wm := words m (by omega) h1
  have am := hiW_word m
  have lm := loW_word m
  have ha : Word a := ⟨a0, by omega⟩
  have M1 := fun w => mul64_any (loW m) a w lm ha
  have M2 := fun w => mul64_any (hiW m) a w am ha
  have y0 := Int.mul_nonneg lm.1 a0
  have y1 := Int.mul_le_mul (a := loW m) (b := a) (c := 18446744073709551615) (d := 4294967295) (by omega) (by omega) a0 (by omega)
  have x0 := Int.mul_nonneg am.1 a0
  have x1 := Int.mul_le_mul (a := hiW m) (b := a) (c := 18446744073709551615) (d := 4294967295) (by omega) (by omega) a0 (by omega)
  have eP : m * a = hiW m * a * 18446744073709551616 + loW m * a := by
    have : m = hiW m * 18446744073709551616 + loW m := by omega
    conv => lhs; rw [this]
    rw [Int.add_mul, Int.mul_right_comm]
  unfold mulH mulL at M1 M2
  generalize hX : hiW m * a = X at *
  generalize hY : loW m * a = Y at *
  obtain ⟨carried, hca⟩ : ∃ c, Y / 18446744073709551616 = c := ⟨_, rfl⟩
  obtain ⟨low, hlo⟩ : ∃ c, Y % 18446744073709551616 = c := ⟨_, rfl⟩
  obtain ⟨high0, hhi⟩ : ∃ c, X / 18446744073709551616 = c := ⟨_, rfl⟩
  obtain ⟨mid0, hmi⟩ : ∃ c, X % 18446744073709551616 = c := ⟨_, rfl⟩
  rw [hca, hlo] at M1
  rw [hhi, hmi] at M2
  have k1 := fun w => add64_0 mid0 carried (by omega) (by omega) w
  obtain ⟨mid, hm2⟩ : ∃ c, (mid0 + carried) % 18446744073709551616 = c := ⟨_, rfl⟩
  obtain ⟨cr, hcr⟩ : ∃ c, (mid0 + carried) / 18446744073709551616 = c := ⟨_, rfl⟩
  rw [hm2, hcr] at k1
  have eZ : m * a = ((high0 + cr) * 18446744073709551616 + mid) * 18446744073709551616 + low := by omega
  by_cases h : high0 + cr < b
  · have D1 := fun w => div64_below (high0 + cr) mid b w (by omega) ⟨by omega, by omega⟩ h (by omega)
    unfold divQ divR at D1
    obtain ⟨Z1, hZ⟩ : ∃ z, (high0 + cr) * 18446744073709551616 + mid = z := ⟨_, rfl⟩
    rw [hZ] at D1 eZ
    have q1b : Z1 / b < 18446744073709551616 := by rw [Int.ediv_lt_iff_lt_mul b0']; omega
    have q1a : 0 ≤ Z1 / b := Int.ediv_nonneg (by omega) (by omega)
    have r1a := Int.emod_nonneg Z1 (show b ≠ 0 by omega)
    have r1b := Int.emod_lt_of_pos Z1 b0'
    have D2 := fun w => div64_below (Z1 % b) low b w r1a ⟨by omega, by omega⟩ r1b (by omega)
    unfold divQ divR at D2
    have td := two_div Z1 low b b0' (by omega) (by omega) (by omega)
    rw [← eZ] at td
    have q0a : 0 ≤ (Z1 % b * 18446744073709551616 + low) / b := Int.ediv_nonneg (by omega) (by omega)
    have q0b : (Z1 % b * 18446744073709551616 + low) / b < 18446744073709551616 := by rw [Int.ediv_lt_iff_lt_mul b0']; omega
    rw [← td.2] at D2
    have ht := and_top (Z1 / b) q1a q1b
    generalize hq0 : (Z1 % b * 18446744073709551616 + low) / b = q0 at *
    generalize hq1 : Z1 / b = q1 at *
    generalize m * a % b = R at *
    generalize hQ : m * a / b = Q at *
    refine (scaled_in (hiW m) (loW m) a b low carried high0 mid0 mid cr q1 (Z1 % b) q0 R _ w h (by omega) (by omega) (by omega) (by omega) ht M1 M2 k1 D1 D2).mono ?_
    rintro e w' ⟨rfl, hb⟩
    refine ⟨?_, hb⟩
    by_cases hq : Q ≤ 170141183460469231731687303715884105727
    · left
      have wq := words Q (by omega) hq
      have aq := hiW_word Q
      have lq := loW_word Q
      have g1 : hiW Q = q1 := by omega
      have g2 : loW Q = q0 := by omega
      refine ⟨hq, ?_⟩
      rw [if_neg (by omega)]
      unfold mv
      rw [g1, g2]
      rfl
    · right
      refine ⟨by omega, q1, q0, R, ?_⟩
      rw [if_pos (by omega)]
      rfl
  · refine (scaled_over (hiW m) (loW m) a b low carried high0 mid0 mid cr w (by omega) (by omega) (by omega) (by omega) (by omega) M1 M2 k1).mono ?_
    rintro e w' ⟨rfl, hb⟩
    refine ⟨Or.inr ⟨?_, 0, 0, 0, rfl⟩, hb⟩
    have : 340282366920938463463374607431768211456 ≤ m * a / b := by rw [Int.le_ediv_iff_mul_le b0']; omega
    omega
end Go.Proofs.YtlhbgaiiehljpaaGreat
namespace Go.Proofs.YtlhbgaiiehljpaaGreat
open Go.RowKit MonM
set_option linter.unusedVariables false
set_option maxHeartbeats 2000000 in
theorem portion_plain (H L a b round H1 L1 H2 L2 R s : Int) (w : World) (hb0 : 0 ≤ b) (hb1 : b < 4294967296) (ha0 : 0 ≤ a) (ha1 : a < 4294967296) (hs : 0 ≤ s)
  (D : Hid (∀ w : World, Calls Tryz.prog 85 #[.int .u64 b, .int .i64 round] w fun e w' => e = .returned (.int .i64 0) ∧ w' = w))
  (S : Hid (∀ w : World, Calls Tryz.prog 45 #[.agg #[.int .u64 H, .int .u64 L]] w fun e w' => e = .returned (.agg #[.int .u64 H1, .int .u64 L1]) ∧ Below w.heap.size w w'))
  (C : Hid (∀ w : World, Calls Tryz.prog 86 #[.agg #[.int .u64 H1, .int .u64 L1], .int .u64 a, .int .u64 b] w fun e w' => e = .returned (.tuple #[.agg #[.int .u64 H2, .int .u64 L2], .int .u64 R, .bool true]) ∧ Below w.heap.size w w'))
  (G : Hid (∀ w : World, Calls Tryz.prog 87 #[.int .u64 L2, .int .u64 R, .int .u64 b, .int .i64 round] w fun e w' => e = .returned (.bool false) ∧ w' = w))
  (N : Hid (∀ w : World, Calls Tryz.prog 11 #[.agg #[.int .u64 H, .int .u64 L]] w fun e w' => e = .returned (.int .i64 s) ∧ Below w.heap.size w w')) :
  Calls Tryz.prog 71 #[.agg #[.int .u64 H, .int .u64 L], .int .u32 a, .int .u32 b, .int .i64 round] w fun e w' => e = .returned (.tuple #[.agg #[.int .u64 H2, .int .u64 L2], .int .i64 0]) ∧ Below w.heap.size w w' := by
 go_enter Tryz.func71, Tryz.ntmps71
 go_wp2_with fail
 refine (D.out _).mono ?_; rintro e w1 ⟨rfl, rfl⟩
 go_wp2_with fail
 refine (S.out _).mono ?_
 rintro e w2 ⟨rfl, hb⟩
 obtain ⟨hc2, hf2⟩ := bcell hb
 have hz2 := hb.size
 simp at hz2
 have HB2 := hid hb
 clear hb
 have j2 : w.heap.size < w2.heap.size := by omega
 have j2' : w.heap.size + 1 < w2.heap.size := by omega
 go_wp2_with fail
 refine (C.out _).mono ?_
 rintro e w3 ⟨rfl, hb⟩
 obtain ⟨hc3, hf3⟩ := bcell hb
 have hz3 := hb.size
 have HB3 := hid hb
 clear hb
 have j3 : w.heap.size < w3.heap.size := by omega
 have j3' : w.heap.size + 1 < w3.heap.size := by omega
 go_wp2_with fail
 refine (G.out _).mono ?_; rintro e w4 ⟨rfl, rfl⟩
 go_wp2_with fail
 refine (N.out _).mono ?_
 rintro e w5 ⟨rfl, hb⟩
 have hz5 := hb.size
 simp at hz5
 have f0 : w5.cell? ⟨w3.heap.size, 0, none⟩ = some (.int .u64 H2) := by rw [(bcell hb).1 _ _ (by simp)]; simp [go_sem]
 have f1 : w5.cell? ⟨w3.heap.size, 1, none⟩ = some (.int .u64 L2) := by rw [(bcell hb).1 _ _ (by simp)]; simp [go_sem]
 have f2 : w5.cell? ⟨w.heap.size + 1, 0, none⟩ = some (.int .u64 0) := by rw [(bcell hb).1 _ _ (by simp; omega)]; simp [go_sem, hc2, hc3, j2', j3']
 have f3 : w5.cell? ⟨w.heap.size + 1, 1, none⟩ = some (.int .u64 0) := by rw [(bcell hb).1 _ _ (by simp; omega)]; simp [go_sem, hc2, hc3, j2', j3']
 have g2 : w5.frozen? ⟨w.heap.size + 1, 0, none⟩ = false := by rw [(bcell hb).2 _ _ (by simp; omega)]; simp [go_sem, hf2, hf3, j2', j3']
 have g3 : w5.frozen? ⟨w.heap.size + 1, 1, none⟩ = false := by rw [(bcell hb).2 _ _ (by simp; omega)]; simp [go_sem, hf2, hf3, j2', j3']
 have HB5 := hid hb
 clear hb hc2 hf2 hc3 hf3
 go_wp2
 refine bodyPost_ret (v := .tuple #[.agg #[.int .u64 H2, .int .u64 L2], .int .i64 0]) (by simp [results, Tryz.results71, go_sem, f2, f3]) rfl ⟨rfl, ?_⟩
 exact ((btr (bal (btr (btr (bal (bal (b0 w) _) _) HB2.out) HB3.out) _) HB5.out).setCell (by dsimp only; omega) _).setCell (by dsimp only; omega) _
end Go.Proofs.YtlhbgaiiehljpaaGreat

namespace Go.Proofs.YtlhbgaiiehljpaaGreat.TexM
set_option linter.unusedVariables false
def p10 (k : Nat) : Int := 10 ^ k
theorem p10_pos (k : Nat) : 0 < p10 k := Int.pow_pos (by decide)
theorem p10_succ (k : Nat) : p10 (k + 1) = 10 * p10 k := by unfold p10; rw [Int.pow_succ, Int.mul_comm]
theorem p10_add (a b : Nat) : p10 (a + b) = p10 a * p10 b := Int.pow_add _ _ _
theorem p10_le (a b : Nat) (h : a ≤ b) : p10 a ≤ p10 b := by
 obtain ⟨c, rfl⟩ := Nat.le.dest h
 rw [p10_add]
 have := Int.mul_le_mul_of_nonneg_left (show 1 ≤ p10 c by have := p10_pos c; omega) (Int.le_of_lt (p10_pos a))
 omega
/-- the lowest k digits and the point, the highest first. -/
def suf (n : Int) : Nat → List Int
 | 0 => []
 | k + 1 => (48 + n / p10 k % 10) :: (if k = 2 then 46 :: suf n k else suf n k)
theorem suf_len (n : Int) (k : Nat) : (suf n k).length = if k < 3 then k else k + 1 := by
 induction k with
 | zero => rfl
 | succ k ih =>
  simp only [suf]
  by_cases h : k = 2
  ·subst h; rw [if_pos rfl]; simp only [List.length_cons, ih]; rfl
  ·rw [if_neg h, List.length_cons, ih]
   by_cases h2 : k < 3
   ·rw [if_pos h2, if_pos (by omega)]
   ·rw [if_neg h2, if_neg (by omega)]
theorem div_step (n : Int) (k : Nat) : n / p10 k / 10 = n / p10 (k + 1) := by
 rw [p10_succ, Int.mul_comm, Int.ediv_ediv_of_nonneg (Int.le_of_lt (p10_pos k))]
/-- how many digits there are. -/
def Fin10 (n : Int) (K : Nat) : Prop := 3 ≤ K ∧ n / p10 K = 0 ∧ (K = 3 ∨ n / p10 (K - 1) ≠ 0)
theorem div_zero_iff (n : Int) (hn : 0 ≤ n) (k : Nat) : n / p10 k = 0 ↔ n < p10 k := by
 constructor
 ·intro h
  by_cases hlt : n < p10 k
  ·exact hlt
  ·have : 1 ≤ n / p10 k := by rw [Int.le_ediv_iff_mul_le (p10_pos k)]; omega
   omega
 ·intro h; exact Int.ediv_eq_zero_of_lt hn h
theorem fin10_unique (n : Int) (hn : 0 ≤ n) (K J : Nat) (hK : Fin10 n K) (hJ : Fin10 n J) : K = J := by
 obtain ⟨k1, k2, k3⟩ := hK
 obtain ⟨j1, j2, j3⟩ := hJ
 rw [div_zero_iff n hn] at k2 j2
 have key : ∀ A B : Nat, n < p10 A → (B = 3 ∨ n / p10 (B - 1) ≠ 0) → 3 ≤ A → B ≤ A := by
  intro A B h1 h2 h3
  rcases h2 with h2 | h2
  ·omega
  ·by_cases h : B ≤ A
   ·exact h
   ·have h4 := p10_le A (B - 1) (by omega)
    exact absurd ((div_zero_iff n hn (B - 1)).2 (by omega)) h2
 have a := key K J k2 j3 k1
 have b := key J K j2 k3 j1
 omega
/-- an amount's text. -/
def IsText (m : Int) (xs : List Int) : Prop := ∃ K, Fin10 (if m < 0 then -m else m) K ∧ xs = (if m < 0 then [45] else []) ++ suf (if m < 0 then -m else m) K
theorem isText_unique (m : Int) (xs ys : List Int) (hx : IsText m xs) (hy : IsText m ys) : xs = ys := by
 obtain ⟨K, h1, rfl⟩ := hx
 obtain ⟨J, h2, rfl⟩ := hy
 have := fin10_unique _ (by split <;> omega) K J h1 h2
 rw [this]
end Go.Proofs.YtlhbgaiiehljpaaGreat.TexM
namespace Go.Proofs.YtlhbgaiiehljpaaGreat
open Go.RowKit Go.Deep MonM TexM
set_option linter.unusedVariables false
theorem rowIs_below {w w' : World} {b : Nat} {t : TypeId} {n : Nat} {f : Nat → Value} (h : w.rowIs b t n f) (hb : Below w.heap.size w w') : w'.rowIs b t n f :=
 h.of_block (hb.block b h.lt)
/-- two words in a box. -/
def Two (wr : World) (b : Nat) (v : Int) : Prop := wr.rowIs b 33 2 (fun j => .int .u64 (if j = 0 then hiW v else loW v))
theorem Two.c0 {wr : World} {b : Nat} {v : Int} (h : Two wr b v) : wr.cell? ⟨b, 0, none⟩ = some (.int .u64 (hiW v)) := h.cell (i := 0) (by decide)
theorem Two.c1 {wr : World} {b : Nat} {v : Int} (h : Two wr b v) : wr.cell? ⟨b, 1, none⟩ = some (.int .u64 (loW v)) := h.cell (i := 1) (by decide)
theorem Two.f0 {wr : World} {b : Nat} {v : Int} (h : Two wr b v) : wr.frozen? ⟨b, 0, none⟩ = false := h.frozen 0
theorem Two.f1 {wr : World} {b : Nat} {v : Int} (h : Two wr b v) : wr.frozen? ⟨b, 1, none⟩ = false := h.frozen 1
theorem two_new (w : World) (v : Int) : Two (w.alloc (.cells #[.int .u64 (hiW v), .int .u64 (loW v)] 33)) w.heap.size v := by
 refine (World.rowIs_alloc w #[.int .u64 (hiW v), .int .u64 (loW v)] 33 (fun j => .int .u64 (if j = 0 then hiW v else loW v)) ?_)
 intro i hi
 have hi' : i < 2 := hi
 have : i = 0 ∨ i = 1 := by omega
 rcases this with rfl | rfl <;> rfl
theorem Two.set {wr : World} {b : Nat} {v : Int} (h : Two wr b v) (u : Int) : Two ((wr.setCell ⟨b, 0, none⟩ (.int .u64 (hiW u))).setCell ⟨b, 1, none⟩ (.int .u64 (loW u))) b u := by
 refine ((World.rowIs.set h 0 (.int .u64 (hiW u))).set 1 (.int .u64 (loW u))).congr ?_
 intro i hi
 have : i = 0 ∨ i = 1 := by omega
 rcases this with rfl | rfl <;> simp
/-- the state: the bytes xs stand from a on, v is what is left of the digits, m the amount. -/
def St (w : World) (Rb : Nat) (m v : Int) (xs : List Int) (a : Nat) (wr : World) : Prop :=
 (∃ g : Nat → Int, wr.rowIs (w.heap.size + 1) 121 41 (fun j => .int .u8 (g j)) ∧ (∀ i, i < xs.length → g (a + i) = xs[i]?.getD 0)) ∧ a + xs.length = 41 ∧
 Two wr Rb v ∧ Two wr w.heap.size m ∧ Below w.heap.size w wr ∧ w.heap.size + 1 < Rb
theorem St.to {w wr w' : World} {Rb a : Nat} {m v : Int} {xs : List Int} (h : St w Rb m v xs a wr) (hb : Below wr.heap.size wr w') : St w Rb m v xs a w' := by
 obtain ⟨⟨g, g1, g2⟩, h1, h2, h3, h4, h5⟩ := h
 exact ⟨⟨g, rowIs_below g1 hb, g2⟩, h1, rowIs_below h2 hb, rowIs_below h3 hb, btr h4 hb, h5⟩
theorem St.put {w wr : World} {Rb a : Nat} {m v : Int} {xs : List Int} (h : St w Rb m v xs (a + 1) wr) (x : Int) : St w Rb m v (x :: xs) a (wr.setCell ⟨w.heap.size + 1, a, none⟩ (.int .u8 x)) := by
 obtain ⟨⟨g, g1, g2⟩, h1, h2, h3, h4, h5⟩ := h
 refine ⟨⟨fun j => if j = a then x else g j, (g1.set a (.int .u8 x)).congr ?_, ?_⟩, by simp; omega, ?_, ?_, h4.setCell (by dsimp only; omega) _, h5⟩
 ·intro i hi; by_cases h : i = a <;> simp [h]
 ·intro i hi
  cases i with
  | zero => simp
  | succ i =>
   have := g2 i (by simpa using hi)
   show (if a + (i + 1) = a then x else g (a + (i + 1))) = _
   rw [if_neg (by omega)]
   simp only [List.getElem?_cons_succ]
   rw [← this, show a + (i + 1) = a + 1 + i from by omega]
 ·exact World.rowIs.setOther h2 (by dsimp only; omega) _
 ·exact World.rowIs.setOther h3 (by dsimp only; omega) _
theorem St.setR {w wr : World} {Rb a : Nat} {m v : Int} {xs : List Int} (h : St w Rb m v xs a wr) (u : Int) :
  St w Rb m u xs a ((wr.setCell ⟨Rb, 0, none⟩ (.int .u64 (hiW u))).setCell ⟨Rb, 1, none⟩ (.int .u64 (loW u))) := by
 obtain ⟨⟨g, g1, g2⟩, h1, h2, h3, h4, h5⟩ := h
 exact ⟨⟨g, (g1.setOther (by dsimp only; omega) _).setOther (by dsimp only; omega) _, g2⟩, h1, h2.set u, World.rowIs.setOther (World.rowIs.setOther h3 (by dsimp only; omega) _) (by dsimp only; omega) _, (h4.setCell (by dsimp only; omega) _).setCell (by dsimp only; omega) _, h5⟩
/-- what the walk asks of a state. -/
theorem St.ask {w wr : World} {Rb a : Nat} {m v : Int} {xs : List Int} (h : St w Rb m v xs a wr) (j : Nat) (hj : j < 41) :
  ∃ y : Int, wr.cell? ⟨w.heap.size + 1, j, none⟩ = some (.int .u8 y) ∧ wr.frozen? ⟨w.heap.size + 1, j, none⟩ = false := by
 obtain ⟨⟨g, g1, g2⟩, h1, h2, h3, h4, h5⟩ := h
 exact ⟨g j, g1.cell hj, g1.frozen j⟩
theorem St.conv {w wr : World} {Rb a : Nat} {m v : Int} {xs : List Int} (h : St w Rb m v xs a wr) (n c : Nat) (hn : xs.length = n) :
  (convert 124 9 (.slice (some ⟨w.heap.size + 1, a, none⟩) n c)).run Tryz.prog wr = .ok (.string (strOfNums xs)) wr := by
 obtain ⟨⟨g, g1, g2⟩, h1, h2, h3, h4, h5⟩ := h
 refine run_convert_bytes_arg wr 124 5 Tryz.underlying124 Tryz.underlying5 (w.heap.size + 1) a n c xs hn ?_ 9 Tryz.underlying9
 intro i hi
 rw [g1.cell (by omega), g2 i (by omega)]
 simp [List.getD]
theorem st_start (w w1 : World) (m v : Int) (cs : Array Value) (hrep : cs = Array.replicate 41 (.int .u8 0))
  (hb : Below ((w.alloc (.cells #[.int .u64 (hiW m), .int .u64 (loW m)] 33)).alloc (.cells cs 121)).heap.size ((w.alloc (.cells #[.int .u64 (hiW m), .int .u64 (loW m)] 33)).alloc (.cells cs 121)) w1) :
  St w w1.heap.size m v [] 41 (w1.alloc (.cells #[.int .u64 (hiW v), .int .u64 (loW v)] 33)) := by
 have hcs : cs.size = 41 := by rw [hrep]; simp
 have hz : ∀ i, i < 41 → cs[i]? = some (.int .u8 0) := by intro i hi; rw [hrep]; simp [hi]
 have hsz := hb.size
 simp at hsz
 refine ⟨⟨fun _ => 0, ?_, fun i hi => by simp at hi⟩, rfl, two_new w1 v, ?_, bal (btr (bal (bal (b0 w) _) _) hb) _, by omega⟩
 ·have h0 := World.rowIs_alloc (w.alloc (.cells #[.int .u64 (hiW m), .int .u64 (loW m)] 33)) cs 121 (fun _ => .int .u8 0) (by rw [hcs]; exact hz)
  rw [hcs] at h0
  have h1 := rowIs_below h0 hb
  have h2 := h1.alloc (.cells #[.int .u64 (hiW v), .int .u64 (loW v)] 33)
  simpa using h2
 ·have h0 := World.rowIs.alloc (two_new w m) (.cells cs 121)
  exact World.rowIs.alloc (rowIs_below h0 hb) _
end Go.Proofs.YtlhbgaiiehljpaaGreat
