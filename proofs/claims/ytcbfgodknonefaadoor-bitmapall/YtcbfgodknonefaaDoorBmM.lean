/-
  Words of bits: plain mathematics.
-/
import Derived.Laws.BitsAllLaws
import Derived.Lib.BitFns
import Derived.WalkKit
namespace Go.Proofs.YtcbfgodknonefaaDoor.Bt
set_option linter.unusedVariables false

/-- the word of the first n bits that a function says. -/
def wdn (f : Nat → Bool) : Nat → Nat
  | 0 => 0
  | n + 1 => wdn f n + if f n then 2 ^ n else 0
theorem wdn_lt (f : Nat → Bool) (n : Nat) : wdn f n < 2 ^ n := by
  induction n with
  | zero => simp [wdn]
  | succ n ih => unfold wdn; rw [Nat.pow_succ]; split <;> omega
theorem wdn_bit (f : Nat → Bool) (n i : Nat) : (wdn f n).testBit i = (decide (i < n) && f i) := by
  induction n with
  | zero => simp [wdn]
  | succ n ih =>
    unfold wdn
    have hl := wdn_lt f n
    by_cases hf : f n = true
    · rw [if_pos hf, Nat.add_comm]
      by_cases hi : i = n
      · subst hi
        rw [Nat.testBit_two_pow_add_eq, Nat.testBit_lt_two_pow hl]
        simp [hf]
      · by_cases hlt : i < n
        · rw [Nat.testBit_two_pow_add_gt hlt, ih]
          simp [hlt, Nat.lt_succ_of_lt hlt]
        · have hn : n + 1 ≤ i := by omega
          have : 2 ^ (n + 1) ≤ 2 ^ i := Nat.pow_le_pow_right (by decide) hn
          rw [Nat.testBit_lt_two_pow (by rw [Nat.pow_succ] at this; omega)]
          have : ¬ i < n + 1 := by omega
          simp [this]
    · rw [if_neg hf, Nat.add_zero, ih]
      by_cases hi : i = n
      · subst hi; simp at hf; simp [hf]
      · have : (i < n + 1) ↔ (i < n) := by omega
        simp [this]
theorem wdn_ext {f g : Nat → Bool} {n : Nat} (h : ∀ i, i < n → f i = g i) : wdn f n = wdn g n := by
  induction n with
  | zero => rfl
  | succ n ih => unfold wdn; rw [ih (fun i hi => h i (by omega)), h n (by omega)]
/-- a number below 2^64 is told by its bits. -/
theorem eq_of_bits {a b : Nat} (n : Nat) (ha : a < 2 ^ n) (hb : b < 2 ^ n) (h : ∀ i, i < n → a.testBit i = b.testBit i) : a = b := by
  apply Nat.eq_of_testBit_eq
  intro i
  by_cases hi : i < n
  · exact h i hi
  · have : 2 ^ n ≤ 2 ^ i := Nat.pow_le_pow_right (by decide) (by omega)
    rw [Nat.testBit_lt_two_pow (by omega), Nat.testBit_lt_two_pow (by omega)]
theorem wdn_of (a n : Nat) (h : a < 2 ^ n) : wdn (fun i => a.testBit i) n = a :=
  eq_of_bits n (wdn_lt _ _) h (fun i hi => by rw [wdn_bit]; simp [hi])
theorem wdn_zero (f : Nat → Bool) (n : Nat) : wdn f n = 0 ↔ ∀ i, i < n → f i = false := by
  constructor
  · intro h i hi
    have := wdn_bit f n i
    rw [h, Nat.zero_testBit] at this
    simpa [hi] using this.symm
  · intro h
    rw [wdn_ext (g := fun _ => false) h]
    apply Nat.eq_of_testBit_eq; intro i; rw [wdn_bit]; simp
theorem wdn_none (n : Nat) : wdn (fun _ => false) n = 0 := (wdn_zero _ _).2 (fun _ _ => rfl)
theorem zero_bits {a n : Nat} (h : a < 2 ^ n) (hz : ∀ i, i < n → a.testBit i = false) : a = 0 :=
  eq_of_bits n h (Nat.two_pow_pos n) (fun i hi => by rw [hz i hi, Nat.zero_testBit])

/-- how many of the first n bits are set. -/
def popn (x : Nat) : Nat → Nat
  | 0 => 0
  | n + 1 => popn x n + (x.testBit n).toNat
def pop (x : Nat) : Nat := popn x 64
theorem popn_le (x n : Nat) : popn x n ≤ n := by
  induction n with
  | zero => exact Nat.le_refl _
  | succ n ih => unfold popn; have : (x.testBit n).toNat ≤ 1 := Bool.toNat_le _; omega
theorem popn_ext {x y n : Nat} (h : ∀ i, i < n → x.testBit i = y.testBit i) : popn x n = popn y n := by
  induction n with
  | zero => rfl
  | succ n ih => unfold popn; rw [ih (fun i hi => h i (by omega)), h n (by omega)]
theorem popn_zero (n : Nat) : popn 0 n = 0 := by
  induction n with
  | zero => rfl
  | succ n ih => unfold popn; rw [ih]; simp
theorem popn_pos {x n i : Nat} (hi : i < n) (h : x.testBit i = true) : 0 < popn x n := by
  induction n with
  | zero => omega
  | succ n ih =>
    unfold popn
    by_cases hn : i = n
    · subst hn; rw [h]; simp
    · have := ih (by omega); omega
theorem popn_add (d y : Nat) (hd : d < 256) (n : Nat) : popn (d + 256 * y) (n + 8) = popn d 8 + popn y n := by
  have hb : ∀ j, (d + 256 * y).testBit j = if j < 8 then d.testBit j else y.testBit (j - 8) := by
    intro j
    have := Nat.testBit_two_pow_mul_add y (i := 8) (b := d) hd j
    rw [← this]; congr 1; omega
  induction n with
  | zero =>
    simp only [popn, Nat.zero_add, Nat.add_zero]
    simp only [hb]
    simp
  | succ n ih =>
    rw [show n + 1 + 8 = (n + 8) + 1 from by omega, popn, ih, hb, if_neg (by omega), Nat.add_sub_cancel]
    show _ = popn d 8 + (popn y n + (y.testBit n).toNat)
    omega
theorem and_cut (a b c d : Nat) (ha : a < 256) (hc : c < 256) : (a + 256 * b) &&& (c + 256 * d) = (a &&& c) + 256 * (b &&& d) := by
  have h1 : ((a + 256 * b) &&& (c + 256 * d)) % 2 ^ 8 = (a &&& c) := by
    rw [Nat.and_mod_two_pow, show (a + 256 * b) % 2 ^ 8 = a by omega, show (c + 256 * d) % 2 ^ 8 = c by omega]
  have h2 : ((a + 256 * b) &&& (c + 256 * d)) / 2 ^ 8 = (b &&& d) := by
    rw [Nat.and_div_two_pow, show (a + 256 * b) / 2 ^ 8 = b by omega, show (c + 256 * d) / 2 ^ 8 = d by omega]
  omega

/-- the three steps of counting, on a word with its masks. -/
def s1 (m x : Nat) : Nat := (x / 2 &&& m) + (x &&& m)
def s2 (m x : Nat) : Nat := (x / 4 &&& m) + (x &&& m)
def s3 (m x : Nat) : Nat := (x / 16 + x) &&& m
theorem b1 : ∀ d : Fin 256, ∀ b : Fin 2, ((d.val / 2 + 128 * b.val) &&& 85) = (d.val / 2 &&& 85) := by decide +kernel
theorem b2 : ∀ d : Fin 256, ∀ b : Fin 4, ((d.val / 4 + 64 * b.val) &&& 51) = (d.val / 4 &&& 51) := by decide +kernel
theorem b3 : ∀ d : Fin 256, s3 15 (s2 51 (s1 85 d.val)) = popn d.val 8 ∧ s1 85 d.val < 256 ∧ s2 51 (s1 85 d.val) < 256 ∧ s2 51 (s1 85 d.val) % 16 ≤ 4 ∧ s2 51 (s1 85 d.val) / 16 ≤ 4 := by decide +kernel
theorem b4 : ∀ d : Fin 256, ∀ b : Fin 5, d.val % 16 ≤ 4 → d.val / 16 ≤ 4 → ((d.val / 16 + d.val + 16 * b.val) &&& 15) = s3 15 d.val := by decide +kernel
theorem s1_cut (d y m : Nat) (hd : d < 256) : s1 (85 + 256 * m) (d + 256 * y) = s1 85 d + 256 * s1 m y := by
  unfold s1
  have e : (d + 256 * y) / 2 = (d / 2 + 128 * (y % 2)) + 256 * (y / 2) := by omega
  rw [e, and_cut _ _ _ _ (by omega) (by decide), and_cut _ _ _ _ hd (by decide)]
  have := b1 ⟨d, hd⟩ ⟨y % 2, by omega⟩
  dsimp only at this
  rw [this]
  omega
theorem s2_cut (d y m : Nat) (hd : d < 256) : s2 (51 + 256 * m) (d + 256 * y) = s2 51 d + 256 * s2 m y := by
  unfold s2
  have e : (d + 256 * y) / 4 = (d / 4 + 64 * (y % 4)) + 256 * (y / 4) := by omega
  rw [e, and_cut _ _ _ _ (by omega) (by decide), and_cut _ _ _ _ hd (by decide)]
  have := b2 ⟨d, hd⟩ ⟨y % 4, by omega⟩
  dsimp only at this
  rw [this]
  omega
theorem s3_cut (d y m : Nat) (hd : d < 256) (h1 : d % 16 ≤ 4) (h2 : d / 16 ≤ 4) (h3 : y % 16 ≤ 4) : s3 (15 + 256 * m) (d + 256 * y) = s3 15 d + 256 * s3 m y := by
  unfold s3
  have e : (d + 256 * y) / 16 + (d + 256 * y) = (d / 16 + d + 16 * (y % 16)) + 256 * (y / 16 + y) := by omega
  rw [e, and_cut _ _ _ _ (by omega) (by decide)]
  have := b4 ⟨d, hd⟩ ⟨y % 16, by omega⟩ h1 h2
  dsimp only at this
  rw [this]; rfl
/-- a word of so many bytes: its bytes' counts stand in its bytes. -/
theorem steps_cut (d y m1 m2 m3 : Nat) (hd : d < 256) (hy : s2 m2 (s1 m1 y) % 16 ≤ 4) :
    s3 (15 + 256 * m3) (s2 (51 + 256 * m2) (s1 (85 + 256 * m1) (d + 256 * y))) = popn d 8 + 256 * s3 m3 (s2 m2 (s1 m1 y))
    ∧ s2 (51 + 256 * m2) (s1 (85 + 256 * m1) (d + 256 * y)) % 16 ≤ 4 := by
  obtain ⟨h0, h1, h2, h3, h4⟩ := b3 ⟨d, hd⟩
  dsimp only at h0 h1 h2 h3 h4
  rw [s1_cut d y m1 hd, s2_cut _ _ m2 h1]
  constructor
  · rw [s3_cut _ _ m3 h2 h3 h4 hy, h0]
  · omega
/-- all of it. -/
def ones (x : Nat) : Nat :=
  let c := s3 1085102592571150095 (s2 3689348814741910323 (s1 6148914691236517205 x))
  let c1 := c + c / 256
  let c2 := c1 + c1 / 65536
  let c3 := c2 + c2 / 4294967296
  c3 % 128
theorem steps8 (x : Nat) (hx : x < 2 ^ 64) : ∃ p0 p1 p2 p3 p4 p5 p6 p7 : Nat, p0 ≤ 8 ∧ p1 ≤ 8 ∧ p2 ≤ 8 ∧ p3 ≤ 8 ∧ p4 ≤ 8 ∧ p5 ≤ 8 ∧ p6 ≤ 8 ∧ p7 ≤ 8 ∧
    s3 1085102592571150095 (s2 3689348814741910323 (s1 6148914691236517205 x)) = p0 + 256 * (p1 + 256 * (p2 + 256 * (p3 + 256 * (p4 + 256 * (p5 + 256 * (p6 + 256 * p7)))))) ∧
    pop x = p0 + p1 + p2 + p3 + p4 + p5 + p6 + p7 := by
  obtain ⟨d0, y0, e0, g0⟩ : ∃ d y, x = d + 256 * y ∧ d < 256 := ⟨x % 256, x / 256, by omega, by omega⟩
  obtain ⟨d1, y1, e1, g1⟩ : ∃ d y, y0 = d + 256 * y ∧ d < 256 := ⟨y0 % 256, y0 / 256, by omega, by omega⟩
  obtain ⟨d2, y2, e2, g2⟩ : ∃ d y, y1 = d + 256 * y ∧ d < 256 := ⟨y1 % 256, y1 / 256, by omega, by omega⟩
  obtain ⟨d3, y3, e3, g3⟩ : ∃ d y, y2 = d + 256 * y ∧ d < 256 := ⟨y2 % 256, y2 / 256, by omega, by omega⟩
  obtain ⟨d4, y4, e4, g4⟩ : ∃ d y, y3 = d + 256 * y ∧ d < 256 := ⟨y3 % 256, y3 / 256, by omega, by omega⟩
  obtain ⟨d5, y5, e5, g5⟩ : ∃ d y, y4 = d + 256 * y ∧ d < 256 := ⟨y4 % 256, y4 / 256, by omega, by omega⟩
  obtain ⟨d6, y6, e6, g6⟩ : ∃ d y, y5 = d + 256 * y ∧ d < 256 := ⟨y5 % 256, y5 / 256, by omega, by omega⟩
  have g7 : y6 < 256 := by omega
  refine ⟨popn d0 8, popn d1 8, popn d2 8, popn d3 8, popn d4 8, popn d5 8, popn d6 8, popn y6 8, popn_le _ _, popn_le _ _, popn_le _ _, popn_le _ _, popn_le _ _, popn_le _ _, popn_le _ _, popn_le _ _, ?_, ?_⟩
  · obtain ⟨h0, h1, h2, h3, h4⟩ := b3 ⟨y6, g7⟩
    dsimp only at h0 h1 h2 h3 h4
    obtain ⟨a6, c6⟩ := steps_cut d6 y6 85 51 15 g6 h3
    obtain ⟨a5, c5⟩ := steps_cut d5 (d6 + 256 * y6) _ _ (15 + 256 * 15) g5 c6
    obtain ⟨a4, c4⟩ := steps_cut d4 (d5 + 256 * (d6 + 256 * y6)) _ _ (15 + 256 * (15 + 256 * 15)) g4 c5
    obtain ⟨a3, c3⟩ := steps_cut d3 (d4 + 256 * (d5 + 256 * (d6 + 256 * y6))) _ _ (15 + 256 * (15 + 256 * (15 + 256 * 15))) g3 c4
    obtain ⟨a2, c2⟩ := steps_cut d2 (d3 + 256 * (d4 + 256 * (d5 + 256 * (d6 + 256 * y6)))) _ _ (15 + 256 * (15 + 256 * (15 + 256 * (15 + 256 * 15)))) g2 c3
    obtain ⟨a1, c1⟩ := steps_cut d1 (d2 + 256 * (d3 + 256 * (d4 + 256 * (d5 + 256 * (d6 + 256 * y6))))) _ _ (15 + 256 * (15 + 256 * (15 + 256 * (15 + 256 * (15 + 256 * 15))))) g1 c2
    obtain ⟨a0, _⟩ := steps_cut d0 (d1 + 256 * (d2 + 256 * (d3 + 256 * (d4 + 256 * (d5 + 256 * (d6 + 256 * y6)))))) _ _ (15 + 256 * (15 + 256 * (15 + 256 * (15 + 256 * (15 + 256 * (15 + 256 * 15)))))) g0 c1
    subst e6 e5 e4 e3 e2 e1 e0
    rw [a1, a2, a3, a4, a5, a6, h0] at a0
    simpa using a0
  · subst e6 e5 e4 e3 e2 e1 e0
    unfold pop
    rw [popn_add d0 _ g0 56, popn_add d1 _ g1 48, popn_add d2 _ g2 40, popn_add d3 _ g3 32, popn_add d4 _ g4 24, popn_add d5 _ g5 16, popn_add d6 _ g6 8]
    omega
theorem ones_pop (x : Nat) (hx : x < 2 ^ 64) : ones x = pop x ∧ pop x ≤ 64 := by
  obtain ⟨p0, p1, p2, p3, p4, p5, p6, p7, h0, h1, h2, h3, h4, h5, h6, h7, e, ep⟩ := steps8 x hx
  refine ⟨?_, popn_le _ _⟩
  unfold ones
  rw [e, ep]
  dsimp only
  have dv : ∀ a m q : Nat, a < m → (a + m * q) / m = q := by
    intro a m q h
    rw [Nat.add_mul_div_left _ _ (by omega), Nat.div_eq_of_lt h, Nat.zero_add]
  rw [dv p0 256 _ (by omega)]
  have e2 : p0 + 256 * (p1 + 256 * (p2 + 256 * (p3 + 256 * (p4 + 256 * (p5 + 256 * (p6 + 256 * p7)))))) + (p1 + 256 * (p2 + 256 * (p3 + 256 * (p4 + 256 * (p5 + 256 * (p6 + 256 * p7))))))
    = ((p0 + p1) + 256 * (p1 + p2)) + 65536 * ((p2 + p3) + 256 * ((p3 + p4) + 256 * ((p4 + p5) + 256 * ((p5 + p6) + 256 * ((p6 + p7) + 256 * p7))))) := by omega
  rw [e2, dv _ 65536 _ (by omega)]
  have e3 : ((p0 + p1) + 256 * (p1 + p2)) + 65536 * ((p2 + p3) + 256 * ((p3 + p4) + 256 * ((p4 + p5) + 256 * ((p5 + p6) + 256 * ((p6 + p7) + 256 * p7))))) + ((p2 + p3) + 256 * ((p3 + p4) + 256 * ((p4 + p5) + 256 * ((p5 + p6) + 256 * ((p6 + p7) + 256 * p7)))))
    = ((p0 + p1 + p2 + p3) + 256 * ((p1 + p2 + p3 + p4) + 256 * ((p2 + p3 + p4 + p5) + 256 * (p3 + p4 + p5 + p6)))) + 4294967296 * ((p4 + p5 + p6 + p7) + 256 * ((p5 + p6 + p7) + 256 * ((p6 + p7) + 256 * p7))) := by omega
  rw [e3, dv _ 4294967296 _ (by omega)]
  have md : ∀ a q : Nat, a < 128 → (a + 128 * q) % 128 = a := by intro a q h; omega
  have e4 : ((p0 + p1 + p2 + p3) + 256 * ((p1 + p2 + p3 + p4) + 256 * ((p2 + p3 + p4 + p5) + 256 * (p3 + p4 + p5 + p6)))) + 4294967296 * ((p4 + p5 + p6 + p7) + 256 * ((p5 + p6 + p7) + 256 * ((p6 + p7) + 256 * p7))) + ((p4 + p5 + p6 + p7) + 256 * ((p5 + p6 + p7) + 256 * ((p6 + p7) + 256 * p7)))
    = (p0 + p1 + p2 + p3 + p4 + p5 + p6 + p7) + 128 * (2 * ((p1 + p2 + p3 + p4) + 256 * ((p2 + p3 + p4 + p5) + 256 * (p3 + p4 + p5 + p6))) + 33554432 * ((p4 + p5 + p6 + p7) + 256 * ((p5 + p6 + p7) + 256 * ((p6 + p7) + 256 * p7))) + 2 * ((p5 + p6 + p7) + 256 * ((p6 + p7) + 256 * p7))) := by omega
  rw [e4, md _ _ (by omega)]
/-- what stands on the way, and its bounds. -/
theorem ones_way (x : Nat) (hx : x < 2 ^ 64) : ∃ y1 y2 c c1 c2 c3 : Nat,
    s1 6148914691236517205 x = y1 ∧ s2 3689348814741910323 y1 = y2 ∧ s3 1085102592571150095 y2 = c ∧ c + c / 256 = c1 ∧ c1 + c1 / 65536 = c2 ∧ c2 + c2 / 4294967296 = c3 ∧ c3 % 128 = pop x
    ∧ y1 < 18446744073709551616 ∧ y2 < 17293822569102704640 ∧ c < 1152921504606846976 ∧ c1 < 2305843009213693952 ∧ c2 < 4611686018427387904 ∧ c3 < 9223372036854775808 := by
  have h := (ones_pop x hx).1
  obtain ⟨p0, p1, p2, p3, p4, p5, p6, p7, h0, h1, h2, h3, h4, h5, h6, h7, e, ep⟩ := steps8 x hx
  refine ⟨_, _, _, _, _, _, rfl, rfl, rfl, rfl, rfl, rfl, h, ?_, ?_, ?_, ?_, ?_, ?_⟩
  · unfold s1
    have a1 : x / 2 &&& 6148914691236517205 ≤ 6148914691236517205 := Nat.and_le_right
    have a2 : x &&& 6148914691236517205 ≤ 6148914691236517205 := Nat.and_le_right
    omega
  · unfold s2
    have a1 : s1 6148914691236517205 x / 4 &&& 3689348814741910323 ≤ 3689348814741910323 := Nat.and_le_right
    have a2 : s1 6148914691236517205 x &&& 3689348814741910323 ≤ 3689348814741910323 := Nat.and_le_right
    omega
  all_goals
    obtain ⟨c, hc⟩ : ∃ c, s3 1085102592571150095 (s2 3689348814741910323 (s1 6148914691236517205 x)) = c := ⟨_, rfl⟩
    rw [hc]
    have a1 : c ≤ 1085102592571150095 := by rw [← hc]; exact Nat.and_le_right
    clear hc e ep h
    omega
end Go.Proofs.YtcbfgodknonefaaDoor.Bt
