/-
  The document's words.
-/
import Derived.Test.YtcbfgodknonefaaDoorBnB
namespace Go.Proofs.YtcbfgodknonefaaDoor
open Go.RowKit Go.Deep Bt
set_option linter.unusedVariables false
set_option maxRecDepth 100000
set_option maxHeartbeats 1000000

/-- what the document's word asks of a bit. -/
def wf (S : Nat → Bool) (i e b : Nat) : Bool := decide (0 < cntI S (((64 * i + b) * e : Nat) : Int) (((64 * i + b) * e + e : Nat) : Int))
theorem dword_any (p : Option Addr) (cap : Nat) (S : Nat → Bool) (l : List Int) (hS : Tl S l) (i e : Nat) (w : World) (hc : Lr w p l) (hi : i < 4096) (he : (64 * i + 64) * e ≤ 262144) :
    Calls Tryd.prog 49 #[.slice p l.length cap, .int .i64 i, .int .i64 e] w fun x w' => x = .returned (.int .u64 (wdn (wf S i e) 64 : Nat)) ∧ w' = w := by
  have CN := hid (fun (a b : Int) => dcount_any p cap S l hS a b w hc)
  obtain ⟨L, hLL⟩ : ∃ L, l.length = L := ⟨_, rfl⟩
  rw [hLL] at CN ⊢
  have HE := hid he
  clear hc hS hLL he
  have i1 : (i : Int) < 4096 := by omega
  go_enter Tryd.func49, Tryd.ntmps49
  go_wp2_with fail
  go_loopw [7, 8, 9] (fun wv bv _ wr => ∃ b X : Nat, b ≤ 64 ∧ bv = .int .i64 b ∧ wv = .int .u64 X ∧ Hid (wdn (wf S i e) b = X) ∧ X < 18446744073709551616 ∧ wr = w) (fun _ bv _ _ => 64 - (intOf bv).toNat)
  case atStart => exact ⟨0, 0, by omega, rfl, rfl, rfl, by omega, rfl⟩
  case round =>
    obtain ⟨b, X, hb, rfl, rfl, HX, X1, rfl⟩ := hrel
    by_cases hl : b < 64
    · have b0 : (0 : Int) ≤ (b : Int) := by omega
      have b1 : (b : Int) < 64 := by omega
      have b2 : (b : Int) ≤ 64 := by omega
      have b4 : ((b : Int)).toNat = b := by omega
      obtain ⟨F, hF⟩ : ∃ F, (64 * i + b) * e = F := ⟨_, rfl⟩
      have F1 : F + e ≤ 262144 := by
        rw [← hF]
        have h1 : (64 * i + b + 1) * e ≤ (64 * i + 64) * e := Nat.mul_le_mul_right e (by omega)
        have h2 : (64 * i + b + 1) * e = (64 * i + b) * e + e := Nat.succ_mul _ _
        have := HE.out
        omega
      have eF : (64 * (i : Int) + (b : Int)) * (e : Int) = (F : Int) := by rw [← hF]; simp
      have wF : IntKind.i64.wrap ((64 * (i : Int) + (b : Int)) * (e : Int)) = (F : Int) := by rw [eF]; simp [IntKind.wrap, IntKind.bits, IntKind.signed]; omega
      have F0 : (F : Int) ≤ 262144 := by omega
      have C := hid (CN.out (F : Int) ((F + e : Nat) : Int))
      obtain ⟨G, hG⟩ : ∃ G, F + e = G := ⟨_, rfl⟩
      have eG : (F : Int) + (e : Int) = (G : Int) := by omega
      have G0 : (G : Int) ≤ 262144 := by omega
      rw [hG] at C
      have hw : wf S i e b = decide (0 < cntI S (F : Int) (G : Int)) := by unfold wf; rw [hF, hG]
      obtain ⟨c, hcc⟩ : ∃ c, cntI S (F : Int) (G : Int) = c := ⟨_, rfl⟩
      rw [hcc] at C hw
      have lt := wdn_lt (wf S i e) b
      have X2 : X < 2 ^ b := by rw [← HX.out]; exact lt
      have p1 : 2 ^ b < 18446744073709551616 := pow_lt64 b hl
      obtain ⟨P, hP⟩ : ∃ P, 2 ^ b = P := ⟨_, rfl⟩
      have wP : IntKind.u64.wrap (2 ^ b) = (P : Int) := by
        have := wrapn P (by rw [← hP]; exact p1)
        rw [← this, ← hP]; congr 1
      have P2 : P ≤ 9223372036854775808 := by rw [← hP]; exact (Nat.pow_le_pow_right (by decide) (show b ≤ 63 by omega) : 2 ^ b ≤ 2 ^ 63)
      by_cases h0 : 0 < c
      · have HX2 := hid (show wdn (wf S i e) (b + 1) = X + P by rw [wdn, HX.out, hw, decide_eq_true h0, if_pos rfl, hP])
        rw [hP] at X2
        obtain ⟨Y, hY⟩ : ∃ Y, X + P = Y := ⟨_, rfl⟩
        rw [hY] at HX2
        have eY : (X : Int) + (P : Int) = (Y : Int) := by omega
        have Y1 : Y < 18446744073709551616 := by omega
        clear hF hG hw hcc lt p1 hP hY F1
        go_wp2_with (go_at_call 35; refine (C.out).mono ?_; rintro ee w' ⟨rfl, rfl⟩)
        go_roundw
        case rel => exact ⟨b + 1, Y, by omega, by go_num, rfl, HX2, Y1, trivial⟩
        case measure => simp [intOf]; omega
      · have HX2 := hid (show wdn (wf S i e) (b + 1) = X by rw [wdn, HX.out, hw, decide_eq_false h0]; rfl)
        have d1 : decide (0 < c) = false := decide_eq_false h0
        clear hF hG hw hcc lt p1 hP h0 F1 X2 P2 wP
        go_wp2_with (go_at_call 35; refine (C.out).mono ?_; rintro ee w' ⟨rfl, rfl⟩)
        go_roundw
        case rel => exact ⟨b + 1, X, by omega, by go_num, rfl, HX2, X1, trivial⟩
        case measure => simp [intOf]; omega
    · have b1 : ¬ ((b : Int) < 64) := by omega
      have eb : b = 64 := by omega
      subst eb
      have hX := HX.out
      subst hX
      go_wp2_with fail
      go_ret
      exact ⟨rfl, rfl⟩
/-- some tick in a stretch. -/
theorem cnt_pos (S : Nat → Bool) (a e : Nat) (h : a + e ≤ 262144) : 0 < cntI S (a : Int) ((a + e : Nat) : Int) ↔ ∃ x, a ≤ x ∧ x < a + e ∧ S x = true := by
  rw [cntI_le S _ _ (by omega)]
  have e1 : ahd S (a : Int) = cn S a := by unfold ahd; rw [Int.toNat_natCast, Nat.min_eq_left (by omega)]
  have e2 : ahd S ((a + e : Nat) : Int) = cn S (a + e) := by unfold ahd; rw [Int.toNat_natCast, Nat.min_eq_left (by omega)]
  rw [e1, e2]
  constructor
  · intro hp
    refine Classical.byContradiction (fun hn => ?_)
    have : cn S (a + e) = cn S a := cn_gap S (by omega) (fun x h1 h2 => by
      cases hx : S x with
      | false => rfl
      | true => exact absurd ⟨x, h1, h2, hx⟩ hn)
    omega
  · rintro ⟨x, h1, h2, h3⟩
    have := cn_lt (u := x) (v := a + e) h2 h3
    have := cn_mono S h1
    omega
theorem wf_low (S : Nat → Bool) (i b : Nat) (hi : i < 4096) (hb : b < 64) : wf S i 1 b = S (64 * i + b) := by
  unfold wf
  have h := cnt_pos S (64 * i + b) 1 (by omega)
  rw [Nat.mul_one]
  cases hS : S (64 * i + b) with
  | true => exact decide_eq_true (h.2 ⟨_, Nat.le_refl _, by omega, hS⟩)
  | false =>
    refine decide_eq_false (fun hp => ?_)
    obtain ⟨x, h1, h2, h3⟩ := h.1 hp
    have : x = 64 * i + b := by omega
    rw [this, hS] at h3; cases h3
theorem wf_mid (S : Nat → Bool) (i b : Nat) (hi : i < 64) (hb : b < 64) : wf S i 64 b = (lo S (64 * i + b) != 0) := by
  unfold wf
  have h := cnt_pos S ((64 * i + b) * 64) 64 (by omega)
  by_cases hz : lo S (64 * i + b) = 0
  · rw [hz]
    refine decide_eq_false (fun hp => ?_)
    obtain ⟨x, h1, h2, h3⟩ := h.1 hp
    have := (lo_zero S _).1 hz (x % 64) (by omega)
    rw [show 64 * (64 * i + b) + x % 64 = x by omega, h3] at this; cases this
  · rw [show (lo S (64 * i + b) != 0) = true by simp [hz]]
    refine decide_eq_true (h.2 ?_)
    refine Classical.byContradiction (fun hn => hz ((lo_zero S _).2 (fun c hc => ?_)))
    cases hx : S (64 * (64 * i + b) + c) with
    | false => rfl
    | true => exact absurd ⟨_, by omega, by omega, hx⟩ hn
theorem wf_top (S : Nat → Bool) (b : Nat) (hb : b < 64) : wf S 0 4096 b = (mi S b != 0) := by
  unfold wf
  have h := cnt_pos S ((64 * 0 + b) * 4096) 4096 (by omega)
  by_cases hz : mi S b = 0
  · rw [hz]
    refine decide_eq_false (fun hp => ?_)
    obtain ⟨x, h1, h2, h3⟩ := h.1 hp
    have h4 := (mi_zero S b).1 hz (x / 64 % 64) (by omega)
    rw [show 64 * b + x / 64 % 64 = x / 64 by omega] at h4
    exact lo_ne S x h3 h4
  · rw [show (mi S b != 0) = true by simp [hz]]
    refine decide_eq_true (h.2 ?_)
    refine Classical.byContradiction (fun hn => hz ((mi_zero S b).2 (fun c hc => (lo_zero S _).2 (fun d hd => ?_))))
    cases hx : S (64 * (64 * b + c) + d) with
    | false => rfl
    | true => exact absurd ⟨_, by omega, by omega, hx⟩ hn
theorem dtop_any (p : Option Addr) (cap : Nat) (S : Nat → Bool) (l : List Int) (hS : Tl S l) (w : World) (hc : Lr w p l) :
    Calls Tryd.prog 37 #[.slice p l.length cap] w fun x w' => x = .returned (.int .u64 (tp S : Nat)) ∧ w' = w := by
  have C := dword_any p cap S l hS 0 4096 w hc (by omega) (by omega)
  rw [show wdn (wf S 0 4096) 64 = tp S from wdn_ext (fun b hb => wf_top S b hb)] at C
  have HC := hid C
  clear C hc hS
  go_enter Tryd.func37, Tryd.ntmps37
  go_wp2_with (go_at_call 49; refine (HC.out).mono ?_; rintro e w' ⟨rfl, rfl⟩)
  go_ret
  exact ⟨rfl, rfl⟩
theorem dmid_any (p : Option Addr) (cap : Nat) (S : Nat → Bool) (l : List Int) (hS : Tl S l) (i : Int) (w : World) (hc : Lr w p l) :
    Calls Tryd.prog 38 #[.slice p l.length cap, .int .i64 i] w fun x w' => x = .returned (.int .u64 (miI S i : Nat)) ∧ w' = w := by
  by_cases h : 0 ≤ i ∧ i < 64
  · obtain ⟨k, rfl⟩ : ∃ k : Nat, i = k := ⟨i.toNat, by omega⟩
    have C := dword_any p cap S l hS k 64 w hc (by omega) (by omega)
    rw [show wdn (wf S k 64) 64 = miI S (k : Int) by unfold miI; rw [if_pos h, Int.toNat_natCast]; exact wdn_ext (fun b hb => wf_mid S k b (by omega) hb)] at C
    have HC := hid C
    have h1 := h.1
    have h2 := h.2
    clear C hc hS h
    go_enter Tryd.func38, Tryd.ntmps38
    go_wp2_with (go_at_call 49; refine (HC.out).mono ?_; rintro e w' ⟨rfl, rfl⟩)
    go_ret
    exact ⟨rfl, rfl⟩
  · have HE := hid (show miI S i = 0 by unfold miI; rw [if_neg h])
    by_cases h0 : i < 0
    · clear h hc hS
      go_enter Tryd.func38, Tryd.ntmps38
      go_wp2_with fail
      go_ret
      exact ⟨by rw [HE.out]; rfl, rfl⟩
    · have h1 : 0 ≤ i := by omega
      have h2 : 64 ≤ i := by omega
      clear h hc hS h0
      go_enter Tryd.func38, Tryd.ntmps38
      go_wp2_with fail
      go_ret
      exact ⟨by rw [HE.out]; rfl, rfl⟩
theorem dlow_any (p : Option Addr) (cap : Nat) (S : Nat → Bool) (l : List Int) (hS : Tl S l) (i : Int) (w : World) (hc : Lr w p l) :
    Calls Tryd.prog 39 #[.slice p l.length cap, .int .i64 i] w fun x w' => x = .returned (.int .u64 (loI S i : Nat)) ∧ w' = w := by
  by_cases h : 0 ≤ i ∧ i < 4096
  · obtain ⟨k, rfl⟩ : ∃ k : Nat, i = k := ⟨i.toNat, by omega⟩
    have C := dword_any p cap S l hS k 1 w hc (by omega) (by omega)
    rw [show wdn (wf S k 1) 64 = loI S (k : Int) by unfold loI; rw [if_pos h, Int.toNat_natCast]; exact wdn_ext (fun b hb => wf_low S k b (by omega) hb)] at C
    have HC := hid C
    have h1 := h.1
    have h2 := h.2
    clear C hc hS h
    go_enter Tryd.func39, Tryd.ntmps39
    go_wp2_with (go_at_call 49; refine (HC.out).mono ?_; rintro e w' ⟨rfl, rfl⟩)
    go_ret
    exact ⟨rfl, rfl⟩
  · have HE := hid (show loI S i = 0 by unfold loI; rw [if_neg h])
    by_cases h0 : i < 0
    · clear h hc hS
      go_enter Tryd.func39, Tryd.ntmps39
      go_wp2_with fail
      go_ret
      exact ⟨by rw [HE.out]; rfl, rfl⟩
    · have h1 : 0 ≤ i := by omega
      have h2 : 4096 ≤ i := by omega
      clear h hc hS h0
      go_enter Tryd.func39, Tryd.ntmps39
      go_wp2_with fail
      go_ret
      exact ⟨by rw [HE.out]; rfl, rfl⟩
end Go.Proofs.YtcbfgodknonefaaDoor
