/-
  Neighbours: plain; Above.
-/
import Derived.Test.YtcbfgodknonefaaDoorBmJ
namespace Go.Proofs.YtcbfgodknonefaaDoor
open Go.RowKit Go.Deep Bt
set_option linter.unusedVariables false
set_option maxRecDepth 100000
set_option maxHeartbeats 1000000

theorem nbel_bit (x b i : Nat) : (x / 2 ^ b * 2 ^ b).testBit i = (x.testBit i && decide (b ≤ i)) := by
  rw [Nat.testBit_mul_two_pow]
  by_cases h : b ≤ i
  · rw [Nat.testBit_div_two_pow, show i - b + b = i by omega]
    simp [h]
  · simp [h]
/-- the least tick at or above a number; the greatest at or below it. -/
def Abv (S : Nat → Bool) (t : Int) : Option Nat → Prop
  | some u => u < 262144 ∧ S u = true ∧ t ≤ u ∧ ∀ x : Nat, t ≤ x → x < u → S x = false
  | none => ∀ x : Nat, t ≤ x → x < 262144 → S x = false
def Blw (S : Nat → Bool) (t : Int) : Option Nat → Prop
  | some u => u < 262144 ∧ S u = true ∧ (u : Int) ≤ t ∧ ∀ x : Nat, u < x → (x : Int) ≤ t → x < 262144 → S x = false
  | none => ∀ x : Nat, (x : Int) ≤ t → x < 262144 → S x = false
theorem Abv.one {S : Nat → Bool} {t : Int} : ∀ {a b : Option Nat}, Abv S t a → Abv S t b → a = b
  | some a, some b, ha, hb => by
    obtain ⟨a1, a2, a3, a4⟩ := ha
    obtain ⟨b1, b2, b3, b4⟩ := hb
    rcases Nat.lt_trichotomy a b with h | h | h
    · have := b4 a a3 h; rw [a2] at this; cases this
    · rw [h]
    · have := a4 b b3 h; rw [b2] at this; cases this
  | some a, none, ha, hb => by have := hb a ha.2.2.1 ha.1; rw [ha.2.1] at this; cases this
  | none, some b, ha, hb => by have := ha b hb.2.2.1 hb.1; rw [hb.2.1] at this; cases this
  | none, none, _, _ => rfl
/-- where a word is the first with a bit behind T's. -/
theorem abv_found {S : Nat → Bool} {t : Int} {T q p k : Nat} (hT : T = t.toNat) (hq : T / 64 = q) (hp : p < 4096) (hqp : q < p) (hX : ∀ x, T ≤ x → x / 64 = q → S x = false) (hz : ∀ i, q < i → i < p → lo S i = 0) (hk : Lsb (lo S p) k) : Abv S t (some (64 * p + k)) := by
  have k64 : k < 64 := bit_small (n := 64) (lo_lt S p) hk.1
  have h1 := hk.1
  rw [lo_bit S p k k64] at h1
  refine ⟨by omega, h1, by omega, fun x h2 h3 => ?_⟩
  by_cases a : x / 64 = q
  · exact hX x (by omega) a
  · by_cases b : x / 64 = p
    · have := hk.2 (x % 64) (by omega)
      rw [lo_bit S p _ (by omega), show 64 * p + x % 64 = x by omega] at this
      exact this
    · have := (lo_zero S _).1 (hz (x / 64) (by omega) (by omega)) (x % 64) (by omega)
      rwa [show 64 * (x / 64) + x % 64 = x by omega] at this
theorem abv_here {S : Nat → Bool} {t : Int} {T q r k : Nat} (hT : T = t.toNat) (hT2 : T < 262144) (hq : T / 64 = q) (hr : T % 64 = r) (hk : Lsb (lo S q / 2 ^ r * 2 ^ r) k) : Abv S t (some (64 * q + k)) ∧ k < 64 := by
  have k64 : k < 64 := bit_small (n := 64) (Nat.lt_of_le_of_lt (Nat.div_mul_le_self _ _) (lo_lt S q)) hk.1
  have h1 := hk.1
  rw [nbel_bit, lo_bit S q k k64] at h1
  simp only [Bool.and_eq_true, decide_eq_true_eq] at h1
  refine ⟨⟨by omega, h1.1, by omega, fun x h2 h3 => ?_⟩, k64⟩
  have := hk.2 (x % 64) (by omega)
  rw [nbel_bit, lo_bit S q _ (by omega), show 64 * q + x % 64 = x by omega] at this
  have e : r ≤ x % 64 := by omega
  simpa [e] using this
theorem abv_none {S : Nat → Bool} {t : Int} {T q : Nat} (hT : T = t.toNat) (hq : T / 64 = q) (hX : ∀ x, T ≤ x → x / 64 = q → S x = false) (hz : ∀ i, q < i → i < 4096 → lo S i = 0) : Abv S t none := by
  intro x h2 h3
  by_cases a : x / 64 = q
  · exact hX x (by omega) a
  · have := (lo_zero S _).1 (hz (x / 64) (by omega) (by omega)) (x % 64) (by omega)
    rwa [show 64 * (x / 64) + x % 64 = x by omega] at this
theorem nb_zero {x b : Nat} (h : x / 2 ^ b * 2 ^ b = 0) : ∀ i, b ≤ i → x.testBit i = false := by
  intro i hi
  have := nbel_bit x b i
  rw [h, Nat.zero_testBit] at this
  simpa [hi] using this.symm
theorem lo_in {S : Nat → Bool} {T q r : Nat} (hq : T / 64 = q) (hr : T % 64 = r) (h : lo S q / 2 ^ r * 2 ^ r = 0) : ∀ x, T ≤ x → x / 64 = q → S x = false := by
  intro x h1 h2
  have := nb_zero h (x % 64) (by omega)
  rw [lo_bit S q _ (by omega), show 64 * q + x % 64 = x by omega] at this
  exact this
theorem mi_in {S : Nat → Bool} {q G s : Nat} (hG : q / 64 = G) (hs : q % 64 + 1 = s) (j : Nat) (h : ∀ i, i < j → (mi S G / 2 ^ s * 2 ^ s).testBit i = false) : ∀ i, q < i → i / 64 = G → i % 64 < j → lo S i = 0 := by
  intro i h1 h2 h3
  have := h (i % 64) h3
  rw [nbel_bit, mi_bit S G _ (by omega), show 64 * G + i % 64 = i by omega] at this
  have e : s ≤ i % 64 := by omega
  simpa [e] using this
theorem tp_in {S : Nat → Bool} {G : Nat} (g : Nat) (h : ∀ i, i < g → (tp S / 2 ^ (G + 1) * 2 ^ (G + 1)).testBit i = false) : ∀ i, G < i → i < g → i < 64 → mi S i = 0 := by
  intro i h1 h2 h3
  have := h i h2
  rw [nbel_bit, tp_bit S i h3] at this
  have e : G + 1 ≤ i := h1
  simpa [e] using this
theorem word_of {S : Nat → Bool} {i : Nat} (h : mi S (i / 64) = 0) : lo S i = 0 := by
  have := (mi_zero S _).1 h (i % 64) (by omega)
  rwa [show 64 * (i / 64) + i % 64 = i by omega] at this

theorem above_any (b : Nat) (S : Nat → Bool) (t : Int) (w : World) (hB : Bm w b S) (hL : Laid w) :
    Calls Tryd.prog 24 #[.pointer (some ⟨b, 0, none⟩), .int .i64 t] w fun e w' => ∃ r : Option Nat, e = .returned (.tuple #[.int .i64 ((r.getD 0 : Nat) : Int), .bool r.isSome]) ∧ Abv S t r ∧ w' = w := by
  by_cases ht : 262144 ≤ t
  · have HE := hid (show Abv S t none from fun x h1 h2 => by omega)
    clear hB hL
    go_enter Tryd.func24, Tryd.ntmps24
    go_wp2_with fail
    go_ret2
    exact ⟨none, rfl, HE.out, rfl⟩
  · obtain ⟨T, hT⟩ : ∃ T, T = t.toNat := ⟨_, rfl⟩
    have hT2 : T < 262144 := by omega
    have tm : max t 0 = (T : Int) := by omega
    obtain ⟨q, hq⟩ : ∃ q, T / 64 = q := ⟨_, rfl⟩
    obtain ⟨r, hr⟩ : ∃ r, T % 64 = r := ⟨_, rfl⟩
    obtain ⟨G, hG⟩ : ∃ G, q / 64 = G := ⟨_, rfl⟩
    obtain ⟨s, hs⟩ : ∃ s, q % 64 = s := ⟨_, rfl⟩
    have e1 : (T : Int) / 64 = (q : Int) := by omega
    have e2 : (T : Int) % 64 = (r : Int) := by omega
    have e3 : (q : Int) / 64 = (G : Int) := by omega
    have e4 : (q : Int) % 64 = (s : Int) := by omega
    have r64 : r < 64 := by omega
    have s64 : s < 64 := by omega
    have q1 : q < 4096 := by omega
    have G1 : G < 64 := by omega
    have q2 : (q : Int) < 4096 := by omega
    have q0 : (0 : Int) ≤ (q : Int) := by omega
    have G2 : (G : Int) < 64 := by omega
    have G0 : (0 : Int) ≤ (G : Int) := by omega
    have ht' : t < 262144 := by omega
    have c1 := hB.low q q1
    have c2 := hB.mid G G1
    have c3 := hB.top
    have C1 := hid (fun w => notBelow_any (lo S q) r w (lo_lt S q) (by omega))
    have C2 := hid (fun w => notBelow_any (mi S G) (s + 1) w (mi_lt S G) (by omega))
    have C3 := hid (fun w => notBelow_any (tp S) (G + 1) w (tp_lt S) (by omega))
    obtain ⟨X, hX⟩ : ∃ X, lo S q / 2 ^ r * 2 ^ r = X := ⟨_, rfl⟩
    obtain ⟨Y, hY⟩ : ∃ Y, mi S G / 2 ^ (s + 1) * 2 ^ (s + 1) = Y := ⟨_, rfl⟩
    obtain ⟨Z, hZ⟩ : ∃ Z, tp S / 2 ^ (G + 1) * 2 ^ (G + 1) = Z := ⟨_, rfl⟩
    have X1 : X < 18446744073709551616 := by rw [← hX]; exact Nat.lt_of_le_of_lt (Nat.div_mul_le_self _ _) (lo_lt S q)
    have Y1 : Y < 18446744073709551616 := by rw [← hY]; exact Nat.lt_of_le_of_lt (Nat.div_mul_le_self _ _) (mi_lt S G)
    have Z1 : Z < 18446744073709551616 := by rw [← hZ]; exact Nat.lt_of_le_of_lt (Nat.div_mul_le_self _ _) (tp_lt S)
    rw [hX] at C1
    rw [hY, show ((s + 1 : Nat) : Int) = (s : Int) + 1 by omega] at C2
    rw [hZ, show ((G + 1 : Nat) : Int) = (G : Int) + 1 by omega] at C3
    by_cases x0 : X = 0
    · have hx := lo_in hq hr (hX.trans x0)
      subst x0
      by_cases y0 : Y = 0
      · by_cases z0 : Z = 0
        · -- nothing
          have HE := hid (show Abv S t none from abv_none hT hq hx (fun i h1 h2 => by
            by_cases a : i / 64 = G
            · exact mi_in hG (by rw [hs]) 64 (fun j hj => by rw [hY, y0, Nat.zero_testBit]) i h1 a (by omega)
            · exact word_of (tp_in 64 (fun j hj => by rw [hZ, z0, Nat.zero_testBit]) (i / 64) (by omega) (by omega) (by omega))))
          subst y0
          subst z0
          clear hT hB hL hX hY hZ hx hq hr hG hs
          go_enter Tryd.func24, Tryd.ntmps24
          go_wp2_with (first | (go_at_call 42; refine (C1.out _).mono ?_; clear C1; rintro e w' ⟨rfl, rfl⟩) | (go_at_call 42; refine (C2.out _).mono ?_; clear C2; rintro e w' ⟨rfl, rfl⟩) | (go_at_call 42; refine (C3.out _).mono ?_; clear C3; rintro e w' ⟨rfl, rfl⟩))
          go_ret2
          exact ⟨none, rfl, HE.out, rfl⟩
        · obtain ⟨g, hg⟩ := lsb_ex z0
          have g64 : g < 64 := bit_small (n := 64) Z1 hg.1
          have hgt := hg.1
          rw [← hZ, nbel_bit, tp_bit S g g64] at hgt
          simp only [Bool.and_eq_true, decide_eq_true_eq, bne_iff_ne] at hgt
          obtain ⟨j, hj⟩ := lsb_ex hgt.1
          have j64 : j < 64 := bit_small (n := 64) (mi_lt S g) hj.1
          have hjt := hj.1
          rw [mi_bit S g j j64] at hjt
          have hjt' : lo S (64 * g + j) ≠ 0 := by simpa using hjt
          obtain ⟨k, hk⟩ := lsb_ex hjt'
          have k64 : k < 64 := bit_small (n := 64) (lo_lt S _) hk.1
          have HE := hid (show Abv S t (some (64 * (64 * g + j) + k)) from abv_found hT hq (by omega) (by omega) hx (fun i h1 h2 => by
            by_cases a : i / 64 = G
            · exact mi_in hG (by rw [hs]) 64 (fun j hj => by rw [hY, y0, Nat.zero_testBit]) i h1 a (by omega)
            · by_cases a2 : i / 64 = g
              · have := hj.2 (i % 64) (by omega)
                rw [mi_bit S g _ (by omega), show 64 * g + i % 64 = i by omega] at this
                simpa using this
              · exact word_of (tp_in g (fun j hj => by rw [hZ]; exact hg.2 j hj) (i / 64) (by omega) (by omega) (by omega))) hk)
          have cg := hB.mid g g64
          have cl := hB.low (64 * g + j) (by omega)
          have D1 := hid (lowest_any Z g w Z1 hg hL)
          have D2 := hid (lowest_any (mi S g) j w (mi_lt S g) hj hL)
          have D3 := hid (lowest_any (lo S (64 * g + j)) k w (lo_lt S _) hk hL)
          obtain ⟨P, hP⟩ : ∃ P, 64 * g + j = P := ⟨_, rfl⟩
          rw [hP] at cl HE D3
          have P1 : (g : Int) * 64 + (j : Int) = (P : Int) := by omega
          have P2 : (P : Int) < 4096 := by omega
          have P0 : (0 : Int) ≤ (P : Int) := by omega
          obtain ⟨U, hU⟩ : ∃ U, 64 * P + k = U := ⟨_, rfl⟩
          rw [hU] at HE
          have U1 : (P : Int) * 64 + (k : Int) = (U : Int) := by omega
          have U2 : U < 262144 := by omega
          have g2 : (g : Int) < 64 := by omega
          have g0 : (0 : Int) ≤ (g : Int) := by omega
          have z1 : ((Z : Int) == 0) = false := by simp [z0]
          subst y0
          clear hT hB hL hX hY hZ hx hq hr hG hs hg hgt hj hjt hjt' hk hP hU
          go_enter Tryd.func24, Tryd.ntmps24
          go_wp2_with (first | (go_at_call 42; refine (C1.out _).mono ?_; clear C1; rintro e w' ⟨rfl, rfl⟩) | (go_at_call 42; refine (C2.out _).mono ?_; clear C2; rintro e w' ⟨rfl, rfl⟩) | (go_at_call 42; refine (C3.out _).mono ?_; clear C3; rintro e w' ⟨rfl, rfl⟩) | (go_at_call 43; refine (D1.out).mono ?_; clear D1; rintro e w' ⟨rfl, rfl⟩) | (go_at_call 43; refine (D2.out).mono ?_; clear D2; rintro e w' ⟨rfl, rfl⟩) | (go_at_call 43; refine (D3.out).mono ?_; clear D3; rintro e w' ⟨rfl, rfl⟩))
          go_ret2
          exact ⟨some U, rfl, HE.out, rfl⟩
      · obtain ⟨j, hj⟩ := lsb_ex y0
        have j64 : j < 64 := bit_small (n := 64) Y1 hj.1
        have hjt := hj.1
        rw [← hY, nbel_bit, mi_bit S G j j64] at hjt
        simp only [Bool.and_eq_true, decide_eq_true_eq, bne_iff_ne] at hjt
        obtain ⟨k, hk⟩ := lsb_ex hjt.1
        have k64 : k < 64 := bit_small (n := 64) (lo_lt S _) hk.1
        have HE := hid (show Abv S t (some (64 * (64 * G + j) + k)) from abv_found hT hq (by omega) (by omega) hx (fun i h1 h2 =>
          mi_in hG (by rw [hs]) j (fun i hi => by rw [hY]; exact hj.2 i hi) i h1 (by omega) (by omega)) hk)
        have cl := hB.low (64 * G + j) (by omega)
        have D2 := hid (lowest_any Y j w Y1 hj hL)
        have D3 := hid (lowest_any (lo S (64 * G + j)) k w (lo_lt S _) hk hL)
        obtain ⟨P, hP⟩ : ∃ P, 64 * G + j = P := ⟨_, rfl⟩
        rw [hP] at cl HE D3
        have P1 : (G : Int) * 64 + (j : Int) = (P : Int) := by omega
        have P2 : (P : Int) < 4096 := by omega
        have P0 : (0 : Int) ≤ (P : Int) := by omega
        obtain ⟨U, hU⟩ : ∃ U, 64 * P + k = U := ⟨_, rfl⟩
        rw [hU] at HE
        have U1 : (P : Int) * 64 + (k : Int) = (U : Int) := by omega
        have U2 : U < 262144 := by omega
        have z1 : ((Y : Int) == 0) = false := by simp [y0]
        clear hT hB hL hX hY hZ hx hq hr hG hs hj hjt hk hP hU
        go_enter Tryd.func24, Tryd.ntmps24
        go_wp2_with (first | (go_at_call 42; refine (C1.out _).mono ?_; clear C1; rintro e w' ⟨rfl, rfl⟩) | (go_at_call 42; refine (C2.out _).mono ?_; clear C2; rintro e w' ⟨rfl, rfl⟩) | (go_at_call 43; refine (D2.out).mono ?_; clear D2; rintro e w' ⟨rfl, rfl⟩) | (go_at_call 43; refine (D3.out).mono ?_; clear D3; rintro e w' ⟨rfl, rfl⟩))
        go_ret2
        exact ⟨some U, rfl, HE.out, rfl⟩
    · obtain ⟨k, hk⟩ := lsb_ex x0
      obtain ⟨hE, k64⟩ := abv_here (S := S) (t := t) hT hT2 hq hr (by rw [hX]; exact hk)
      have HE := hid hE
      have D3 := hid (lowest_any X k w X1 hk hL)
      obtain ⟨U, hU⟩ : ∃ U, 64 * q + k = U := ⟨_, rfl⟩
      rw [hU] at HE
      have U1 : (q : Int) * 64 + (k : Int) = (U : Int) := by omega
      have U2 : U < 262144 := by omega
      have z1 : ((X : Int) != 0) = true := by simp [x0]
      clear hT hB hL hX hY hZ hq hr hG hs hk hE hU
      go_enter Tryd.func24, Tryd.ntmps24
      go_wp2_with (first | (go_at_call 42; refine (C1.out _).mono ?_; clear C1; rintro e w' ⟨rfl, rfl⟩) | (go_at_call 43; refine (D3.out).mono ?_; clear D3; rintro e w' ⟨rfl, rfl⟩))
      go_ret2
      exact ⟨some U, rfl, HE.out, rfl⟩
end Go.Proofs.YtcbfgodknonefaaDoor
