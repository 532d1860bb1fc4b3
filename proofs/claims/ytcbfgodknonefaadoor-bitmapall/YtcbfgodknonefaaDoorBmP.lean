/-
  Below.
-/
import Derived.Test.YtcbfgodknonefaaDoorBmO
namespace Go.Proofs.YtcbfgodknonefaaDoor
open Go.RowKit Go.Deep Bt
set_option linter.unusedVariables false
set_option maxRecDepth 100000
set_option maxHeartbeats 1000000

theorem msb_ex {x : Nat} (h : x ≠ 0) (hx : x < 18446744073709551616) : ∃ k, Msb x k := ⟨_, (msb_len x h hx).2⟩
theorem Blw.one {S : Nat → Bool} {t : Int} : ∀ {a b : Option Nat}, Blw S t a → Blw S t b → a = b
  | some a, some b, ha, hb => by
    obtain ⟨a1, a2, a3, a4⟩ := ha
    obtain ⟨b1, b2, b3, b4⟩ := hb
    rcases Nat.lt_trichotomy a b with h | h | h
    · have := a4 b h b3 b1; rw [b2] at this; cases this
    · rw [h]
    · have := b4 a h a3 a1; rw [a2] at this; cases this
  | some a, none, ha, hb => by have := hb a ha.2.2.1 ha.1; rw [ha.2.1] at this; cases this
  | none, some b, ha, hb => by have := ha b hb.2.2.1 hb.1; rw [hb.2.1] at this; cases this
  | none, none, _, _ => rfl
theorem blw_found {S : Nat → Bool} {t : Int} {T q p k : Nat} (h0 : 0 ≤ t) (hT : T = min t.toNat 262143) (hq : T / 64 = q) (hqp : p < q) (hX : ∀ x, x ≤ T → x / 64 = q → S x = false) (hz : ∀ i, p < i → i < q → lo S i = 0) (hk : Msb (lo S p) k) : Blw S t (some (64 * p + k)) := by
  have k64 : k < 64 := bit_small (n := 64) (lo_lt S p) hk.1
  have h1 := hk.1
  rw [lo_bit S p k k64] at h1
  refine ⟨by omega, h1, by omega, fun x h2 h3 h4 => ?_⟩
  by_cases a : x / 64 = q
  · exact hX x (by omega) a
  · by_cases b : x / 64 = p
    · have := hk.2 (x % 64) (by omega)
      rw [lo_bit S p _ (by omega), show 64 * p + x % 64 = x by omega] at this
      exact this
    · have := (lo_zero S _).1 (hz (x / 64) (by omega) (by omega)) (x % 64) (by omega)
      rwa [show 64 * (x / 64) + x % 64 = x by omega] at this
theorem blw_here {S : Nat → Bool} {t : Int} {T q r k : Nat} (h0 : 0 ≤ t) (hT : T = min t.toNat 262143) (hq : T / 64 = q) (hr : T % 64 = r) (hk : Msb (lo S q % 2 ^ (r + 1)) k) : Blw S t (some (64 * q + k)) ∧ k < 64 := by
  have k64 : k < 64 := bit_small (n := 64) (Nat.lt_of_le_of_lt (Nat.mod_le _ _) (lo_lt S q)) hk.1
  have h1 := hk.1
  rw [Nat.testBit_mod_two_pow, lo_bit S q k k64] at h1
  simp only [Bool.and_eq_true, decide_eq_true_eq] at h1
  refine ⟨⟨by omega, h1.2, by omega, fun x h2 h3 h4 => ?_⟩, k64⟩
  have := hk.2 (x % 64) (by omega)
  rw [Nat.testBit_mod_two_pow, lo_bit S q _ (by omega), show 64 * q + x % 64 = x by omega] at this
  have e : x % 64 < r + 1 := by omega
  simpa [e] using this
theorem blw_none {S : Nat → Bool} {t : Int} {T q : Nat} (h0 : 0 ≤ t) (hT : T = min t.toNat 262143) (hq : T / 64 = q) (hX : ∀ x, x ≤ T → x / 64 = q → S x = false) (hz : ∀ i, i < q → lo S i = 0) : Blw S t none := by
  intro x h2 h3
  by_cases a : x / 64 = q
  · exact hX x (by omega) a
  · have := (lo_zero S _).1 (hz (x / 64) (by omega)) (x % 64) (by omega)
    rwa [show 64 * (x / 64) + x % 64 = x by omega] at this
theorem md_zero {x b : Nat} (h : x % 2 ^ b = 0) : ∀ i, i < b → x.testBit i = false := by
  intro i hi
  have := Nat.testBit_mod_two_pow x b i
  rw [h, Nat.zero_testBit] at this
  simpa [hi] using this.symm
theorem lo_inB {S : Nat → Bool} {T q r : Nat} (hq : T / 64 = q) (hr : T % 64 = r) (h : lo S q % 2 ^ (r + 1) = 0) : ∀ x, x ≤ T → x / 64 = q → S x = false := by
  intro x h1 h2
  have := md_zero h (x % 64) (by omega)
  rw [lo_bit S q _ (by omega), show 64 * q + x % 64 = x by omega] at this
  exact this
theorem mi_inB {S : Nat → Bool} {q G s : Nat} (hG : q / 64 = G) (hs : q % 64 = s) (P : Nat → Prop) (h : ∀ i, P i → i < s → (mi S G % 2 ^ s).testBit i = false) : ∀ i, i < q → i / 64 = G → P (i % 64) → lo S i = 0 := by
  intro i h1 h2 h3
  have := h (i % 64) h3 (by omega)
  rw [Nat.testBit_mod_two_pow, mi_bit S G _ (by omega), show 64 * G + i % 64 = i by omega] at this
  have e : i % 64 < s := by omega
  simpa [e] using this
theorem tp_inB {S : Nat → Bool} {G : Nat} (P : Nat → Prop) (h : ∀ i, P i → (tp S % 2 ^ G).testBit i = false) : ∀ i, i < G → P i → i < 64 → mi S i = 0 := by
  intro i h1 h2 h3
  have := h i h2
  rw [Nat.testBit_mod_two_pow, tp_bit S i h3] at this
  simpa [h1] using this

theorem below_any (b : Nat) (S : Nat → Bool) (t : Int) (w : World) (hB : Bm w b S) :
    Calls Tryd.prog 25 #[.pointer (some ⟨b, 0, none⟩), .int .i64 t] w fun e w' => ∃ r : Option Nat, e = .returned (.tuple #[.int .i64 ((r.getD 0 : Nat) : Int), .bool r.isSome]) ∧ Blw S t r ∧ w' = w := by
  by_cases ht : t < 0
  · have HE := hid (show Blw S t none from fun x h1 h2 => by omega)
    clear hB
    go_enter Tryd.func25, Tryd.ntmps25
    go_wp2_with fail
    go_ret2
    exact ⟨none, rfl, HE.out, rfl⟩
  · have h0 : 0 ≤ t := by omega
    obtain ⟨T, hT⟩ : ∃ T, T = min t.toNat 262143 := ⟨_, rfl⟩
    have hT2 : T < 262144 := by omega
    have tm : min t 262143 = (T : Int) := by omega
    obtain ⟨q, hq⟩ : ∃ q, T / 64 = q := ⟨_, rfl⟩
    obtain ⟨r, hr⟩ : ∃ r, T % 64 = r := ⟨_, rfl⟩
    obtain ⟨G, hG⟩ : ∃ G, q / 64 = G := ⟨_, rfl⟩
    obtain ⟨s, hs⟩ : ∃ s, q % 64 = s := ⟨_, rfl⟩
    have e1 : (T : Int) / 64 = (q : Int) := by omega
    have e2 : (T : Int) % 64 = (r : Int) := by omega
    have e3 : (q : Int) / 64 = (G : Int) := by omega
    have e4 : (q : Int) % 64 = (s : Int) := by omega
    have r64 : r < 64 := by omega
    have s64 : s < 64 := by omega
    have q1 : q < 4096 := by omega
    have G1 : G < 64 := by omega
    have q2 : (q : Int) < 4096 := by omega
    have q0 : (0 : Int) ≤ (q : Int) := by omega
    have G2 : (G : Int) < 64 := by omega
    have G0 : (0 : Int) ≤ (G : Int) := by omega
    have c1 := hB.low q q1
    have c2 := hB.mid G G1
    have c3 := hB.top
    have C1 := hid (fun w => notAbove_any (lo S q) (r + 1) w (lo_lt S q) (by omega))
    have C2 := hid (fun w => notAbove_any (mi S G) s w (mi_lt S G) (by omega))
    have C3 := hid (fun w => notAbove_any (tp S) G w (tp_lt S) (by omega))
    obtain ⟨X, hX⟩ : ∃ X, lo S q % 2 ^ (r + 1) = X := ⟨_, rfl⟩
    obtain ⟨Y, hY⟩ : ∃ Y, mi S G % 2 ^ s = Y := ⟨_, rfl⟩
    obtain ⟨Z, hZ⟩ : ∃ Z, tp S % 2 ^ G = Z := ⟨_, rfl⟩
    have X1 : X < 18446744073709551616 := by rw [← hX]; exact Nat.lt_of_le_of_lt (Nat.mod_le _ _) (lo_lt S q)
    have Y1 : Y < 18446744073709551616 := by rw [← hY]; exact Nat.lt_of_le_of_lt (Nat.mod_le _ _) (mi_lt S G)
    have Z1 : Z < 18446744073709551616 := by rw [← hZ]; exact Nat.lt_of_le_of_lt (Nat.mod_le _ _) (tp_lt S)
    rw [hX, show ((r + 1 : Nat) : Int) - 1 = (r : Int) by omega] at C1
    rw [hY] at C2
    rw [hZ] at C3
    by_cases x0 : X = 0
    · have hx := lo_inB hq hr (hX.trans x0)
      subst x0
      by_cases y0 : Y = 0
      · by_cases z0 : Z = 0
        · -- nothing
          have HE := hid (show Blw S t none from blw_none h0 hT hq hx (fun i h1 => by
            by_cases a : i / 64 = G
            · exact mi_inB hG hs (fun _ => True) (fun j _ hj => by rw [hY, y0, Nat.zero_testBit]) i h1 a trivial
            · exact word_of (tp_inB (fun _ => True) (fun j hj => by rw [hZ, z0, Nat.zero_testBit]) (i / 64) (by omega) trivial (by omega))))
          subst y0
          subst z0
          clear hT hB hX hY hZ hx hq hr hG hs
          go_enter Tryd.func25, Tryd.ntmps25
          go_wp2_with (first | (go_at_call 44; refine (C1.out _).mono ?_; clear C1; rintro e w' ⟨rfl, rfl⟩) | (go_at_call 44; refine (C2.out _).mono ?_; clear C2; rintro e w' ⟨rfl, rfl⟩) | (go_at_call 44; refine (C3.out _).mono ?_; clear C3; rintro e w' ⟨rfl, rfl⟩))
          go_ret2
          exact ⟨none, rfl, HE.out, rfl⟩
        · obtain ⟨g, hg⟩ := msb_ex z0 Z1
          have g64 : g < 64 := bit_small (n := 64) Z1 hg.1
          have hgt := hg.1
          rw [← hZ, Nat.testBit_mod_two_pow, tp_bit S g g64] at hgt
          simp only [Bool.and_eq_true, decide_eq_true_eq, bne_iff_ne] at hgt
          obtain ⟨j, hj⟩ := msb_ex hgt.2 (mi_lt S g)
          have j64 : j < 64 := bit_small (n := 64) (mi_lt S g) hj.1
          have hjt := hj.1
          rw [mi_bit S g j j64] at hjt
          have hjt' : lo S (64 * g + j) ≠ 0 := by simpa using hjt
          obtain ⟨k, hk⟩ := msb_ex hjt' (lo_lt S _)
          have k64 : k < 64 := bit_small (n := 64) (lo_lt S _) hk.1
          have HE := hid (show Blw S t (some (64 * (64 * g + j) + k)) from blw_found h0 hT hq (by omega) hx (fun i h1 h2 => by
            by_cases a : i / 64 = G
            · exact mi_inB hG hs (fun _ => True) (fun j _ hj => by rw [hY, y0, Nat.zero_testBit]) i h2 a trivial
            · by_cases a2 : i / 64 = g
              · have := hj.2 (i % 64) (by omega)
                rw [mi_bit S g _ (by omega), show 64 * g + i % 64 = i by omega] at this
                simpa using this
              · exact word_of (tp_inB (fun i => g < i) (fun j hj => by rw [hZ]; exact hg.2 j hj) (i / 64) (by omega) (by omega) (by omega))) hk)
          have cg := hB.mid g g64
          have cl := hB.low (64 * g + j) (by omega)
          have D1 := hid (highest_any Z g w Z1 hg)
          have D2 := hid (highest_any (mi S g) j w (mi_lt S g) hj)
          have D3 := hid (highest_any (lo S (64 * g + j)) k w (lo_lt S _) hk)
          obtain ⟨P, hP⟩ : ∃ P, 64 * g + j = P := ⟨_, rfl⟩
          rw [hP] at cl HE D3
          have P1 : (g : Int) * 64 + (j : Int) = (P : Int) := by omega
          have P2 : (P : Int) < 4096 := by omega
          have P0 : (0 : Int) ≤ (P : Int) := by omega
          obtain ⟨U, hU⟩ : ∃ U, 64 * P + k = U := ⟨_, rfl⟩
          rw [hU] at HE
          have U1 : (P : Int) * 64 + (k : Int) = (U : Int) := by omega
          have U2 : U < 262144 := by omega
          have g2 : (g : Int) < 64 := by omega
          have g0 : (0 : Int) ≤ (g : Int) := by omega
          have z1 : ((Z : Int) == 0) = false := by simp [z0]
          subst y0
          clear hT hB hX hY hZ hx hq hr hG hs hg hgt hj hjt hjt' hk hP hU
          go_enter Tryd.func25, Tryd.ntmps25
          go_wp2_with (first | (go_at_call 44; refine (C1.out _).mono ?_; clear C1; rintro e w' ⟨rfl, rfl⟩) | (go_at_call 44; refine (C2.out _).mono ?_; clear C2; rintro e w' ⟨rfl, rfl⟩) | (go_at_call 44; refine (C3.out _).mono ?_; clear C3; rintro e w' ⟨rfl, rfl⟩) | (go_at_call 45; refine (D1.out).mono ?_; clear D1; rintro e w' ⟨rfl, rfl⟩) | (go_at_call 45; refine (D2.out).mono ?_; clear D2; rintro e w' ⟨rfl, rfl⟩) | (go_at_call 45; refine (D3.out).mono ?_; clear D3; rintro e w' ⟨rfl, rfl⟩))
          go_ret2
          exact ⟨some U, rfl, HE.out, rfl⟩
      · obtain ⟨j, hj⟩ := msb_ex y0 Y1
        have j64 : j < 64 := bit_small (n := 64) Y1 hj.1
        have hjt := hj.1
        rw [← hY, Nat.testBit_mod_two_pow, mi_bit S G j j64] at hjt
        simp only [Bool.and_eq_true, decide_eq_true_eq, bne_iff_ne] at hjt
        obtain ⟨k, hk⟩ := msb_ex hjt.2 (lo_lt S _)
        have k64 : k < 64 := bit_small (n := 64) (lo_lt S _) hk.1
        have HE := hid (show Blw S t (some (64 * (64 * G + j) + k)) from blw_found h0 hT hq (by omega) hx (fun i h1 h2 =>
          mi_inB hG hs (fun i => j < i) (fun i hi _ => by rw [hY]; exact hj.2 i hi) i h2 (by omega) (by omega)) hk)
        have cl := hB.low (64 * G + j) (by omega)
        have D2 := hid (highest_any Y j w Y1 hj)
        have D3 := hid (highest_any (lo S (64 * G + j)) k w (lo_lt S _) hk)
        obtain ⟨P, hP⟩ : ∃ P, 64 * G + j = P := ⟨_, rfl⟩
        rw [hP] at cl HE D3
        have P1 : (G : Int) * 64 + (j : Int) = (P : Int) := by omega
        have P2 : (P : Int) < 4096 := by omega
        have P0 : (0 : Int) ≤ (P : Int) := by omega
        obtain ⟨U, hU⟩ : ∃ U, 64 * P + k = U := ⟨_, rfl⟩
        rw [hU] at HE
        have U1 : (P : Int) * 64 + (k : Int) = (U : Int) := by omega
        have U2 : U < 262144 := by omega
        have z1 : ((Y : Int) == 0) = false := by simp [y0]
        clear hT hB hX hY hZ hx hq hr hG hs hj hjt hk hP hU
        go_enter Tryd.func25, Tryd.ntmps25
        go_wp2_with (first | (go_at_call 44; refine (C1.out _).mono ?_; clear C1; rintro e w' ⟨rfl, rfl⟩) | (go_at_call 44; refine (C2.out _).mono ?_; clear C2; rintro e w' ⟨rfl, rfl⟩) | (go_at_call 45; refine (D2.out).mono ?_; clear D2; rintro e w' ⟨rfl, rfl⟩) | (go_at_call 45; refine (D3.out).mono ?_; clear D3; rintro e w' ⟨rfl, rfl⟩))
        go_ret2
        exact ⟨some U, rfl, HE.out, rfl⟩
    · obtain ⟨k, hk⟩ := msb_ex x0 X1
      obtain ⟨hE, k64⟩ := blw_here (S := S) (t := t) h0 hT hq hr (by rw [hX]; exact hk)
      have HE := hid hE
      have D3 := hid (highest_any X k w X1 hk)
      obtain ⟨U, hU⟩ : ∃ U, 64 * q + k = U := ⟨_, rfl⟩
      rw [hU] at HE
      have U1 : (q : Int) * 64 + (k : Int) = (U : Int) := by omega
      have U2 : U < 262144 := by omega
      have z1 : ((X : Int) != 0) = true := by simp [x0]
      clear hT hB hX hY hZ hq hr hG hs hk hE hU
      go_enter Tryd.func25, Tryd.ntmps25
      go_wp2_with (first | (go_at_call 44; refine (C1.out _).mono ?_; clear C1; rintro e w' ⟨rfl, rfl⟩) | (go_at_call 45; refine (D3.out).mono ?_; clear D3; rintro e w' ⟨rfl, rfl⟩))
      go_ret2
      exact ⟨some U, rfl, HE.out, rfl⟩
end Go.Proofs.YtcbfgodknonefaaDoor
