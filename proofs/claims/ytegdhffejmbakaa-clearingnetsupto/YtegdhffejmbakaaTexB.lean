/-
  TexB
-/
import Derived.Test.YtegdhffejmbakaaTexA
namespace Go.Proofs.Ytegdhffejmbakaa
open Go.RowKit Go.Deep MonM TexM
set_option linter.unusedVariables false
theorem p39 : p10 39 = 1000000000000000000000000000000000000000 := by decide
theorem k_le (n : Int) (h0 : 0 ≤ n) (h1 : n ≤ 170141183460469231731687303715884105727) (k : Nat) (h : n / p10 k ≠ 0) : k ≤ 38 := by
  by_cases hk : k ≤ 38
  · exact hk
  · have h2 := p10_le 39 k (by omega)
    rw [p39] at h2
    exact absurd ((div_zero_iff n h0 k).2 (by omega)) h
set_option maxHeartbeats 4000000 in
set_option maxRecDepth 100000 in
theorem text_walk (m : Int) (w : World) (hm : Amt m) :
    Calls Try.prog 13 #[mv m] w fun e w' => (∃ xs, IsText m xs ∧ e = .returned (.string (strOfNums xs))) ∧ Below w.heap.size w w' := by
  obtain ⟨n, hn⟩ : ∃ n, absI m = n := ⟨_, rfl⟩
  have n0 : 0 ≤ n := by rw [← hn]; unfold absI; split <;> omega
  have n1 : n ≤ 170141183460469231731687303715884105727 := by rw [← hn]; obtain ⟨a, b⟩ := hm; unfold absI; split <;> omega
  have S := hid (fun w => msize_any m w hm)
  rw [hn] at S
  have N := hid (fun w => sign_any m w hm)
  have HN := hid hn
  have HM := hid hm
  clear hn hm
  unfold mv at *
  go_enter Try.func13, Try.ntmps13
  go_wp2_with fail
  refine (S.out _).mono ?_
  rintro e w1 ⟨rfl, hb⟩
  have ST := hid (st_start w w1 m n _ rfl hb)
  clear hb
  obtain ⟨Rb, hRb⟩ : ∃ Rb, w1.heap.size = Rb := ⟨_, rfl⟩
  rw [hRb] at ST
  go_wp2_with fail
  clear hRb
  go_loopw [4, 6, 7] (fun av kv _ wr => ∃ (a k : Nat), av = .int .i64 a ∧ kv = .int .i64 k ∧ k ≤ 39 ∧ (k ≤ 3 ∨ n / p10 (k - 1) ≠ 0) ∧ Hid (St w Rb m (n / p10 k) (suf n k) a wr)) (fun _ kv _ _ => 40 - (intOf kv).toNat)
  case atStart => exact ⟨41, 0, rfl, rfl, by decide, Or.inl (by decide), by rw [show n / p10 0 = n from by simp [p10]]; exact ST⟩
  case round =>
    clear ST S
    obtain ⟨a, k, rfl, rfl, hk, hk2, HS⟩ := hrel
    have hlen := HS.out.2.1
    rw [suf_len] at hlen
    have v0 : 0 ≤ n / p10 k := Int.ediv_nonneg n0 (Int.le_of_lt (p10_pos k))
    have v1 : n / p10 k ≤ n := Int.ediv_le_self _ n0
    have hst := div_step n k
    obtain ⟨v, hv⟩ : ∃ v, n / p10 k = v := ⟨_, rfl⟩
    have HK := hid hk2
    have HV := hid hv
    rw [hv] at HS v0 v1 hst
    have HT := hid hst
    have HL := hid hlen
    clear hlen hv hst hk2
    have ne1 : ¬ (Rb = w.heap.size + 1) := by have := HS.out.2.2.2.2.2; omega
    have ne2 : ¬ (w.heap.size + 1 = Rb) := by omega
    have r0 := HS.out.2.2.1.c0
    have r1 := HS.out.2.2.1.c1
    have D := hid (fun w => lastDigit_any v w v0 (by omega))
    by_cases h2 : k < 2
    · obtain ⟨b, rfl⟩ : ∃ b, a = b + 1 := ⟨a - 1, by have := HL.out; rw [if_pos (by omega)] at this; omega⟩
      have hb41 : b < 41 := by have := HL.out; rw [if_pos (by omega)] at this; omega
      have z2 : ((k : Int) == 2) = false := by simp; omega
      have z3 : (k : Int) < 3 := by omega
      go_wp2_with fail
      refine (D.out _).mono ?_
      rintro e w2 ⟨rfl, hb⟩
      have HS2 := hid (HS.out.to hb)
      clear hb r0 r1
      obtain ⟨y, cy, fy⟩ := HS2.out.ask b hb41
      have r0 := HS2.out.2.2.1.c0
      have r1 := HS2.out.2.2.1.c1
      have g0 := HS2.out.2.2.1.f0
      have g1 := HS2.out.2.2.1.f1
      have HF := hid ((HS2.out.setR (v / 10)).put (48 + v % 10))
      go_wp2
      go_roundw
      case rel => exact ⟨b, k + 1, rfl, by go_num, by omega, Or.inl (by omega), by
        show St w Rb m (n / p10 (k + 1)) (suf n (k + 1)) b _
        rw [← HT.out]
        simp only [suf]
        rw [if_neg (by omega), HV.out]
        exact HF.out⟩
      case measure => simp [intOf]; omega
    · by_cases h3 : k = 2
      · subst h3
        obtain ⟨b, rfl⟩ : ∃ b, a = b + 1 + 1 := ⟨a - 2, by have := HL.out; rw [if_pos (by omega)] at this; omega⟩
        have hb41 : b < 41 := by have := HL.out; rw [if_pos (by omega)] at this; omega
        have hb42 : b + 1 < 41 := by have := HL.out; rw [if_pos (by omega)] at this; omega
        obtain ⟨y1, cy1, fy1⟩ := HS.out.ask (b + 1) hb42
        have HS1 := hid (HS.out.put 46)
        have HR0 := hid HS1.out.2.2.1.c0
        have HR1 := hid HS1.out.2.2.1.c1
        go_wp2_with fail
        refine (D.out _).mono ?_
        rintro e w2 ⟨rfl, hb⟩
        have HS2 := hid (HS1.out.to hb)
        clear hb r0 r1
        obtain ⟨y, cy, fy⟩ := HS2.out.ask b hb41
        have r0 := HS2.out.2.2.1.c0
        have r1 := HS2.out.2.2.1.c1
        have g0 := HS2.out.2.2.1.f0
        have g1 := HS2.out.2.2.1.f1
        have HF := hid ((HS2.out.setR (v / 10)).put (48 + v % 10))
        go_wp2
        go_roundw
        case rel => exact ⟨b, 2 + 1, rfl, by go_num, by omega, Or.inl (by omega), by
          show St w Rb m (n / p10 (2 + 1)) ((48 + n / p10 2 % 10) :: (46 :: suf n 2)) b _
          rw [← HT.out, HV.out]
          exact HF.out⟩
        case measure => simp [intOf]
      · have z2 : ((k : Int) == 2) = false := by simp; omega
        have z3 : decide ((k : Int) < 3) = false := by simp; omega
        have hl := HL.out
        rw [if_neg (by omega)] at hl
        by_cases hv0 : v = 0
        · have C := hid (fun w => sign_any 0 w (by unfold Amt; omega))
          have es : sgn 0 = 0 := rfl
          rw [es] at C
          subst hv0
          clear es D
          go_wp2_with fail
          refine (C.out _).mono ?_
          rintro e w3 ⟨rfl, hb⟩
          have HS3 := hid (HS.out.to hb)
          clear hb r0 r1
          have r0 := HS3.out.2.2.2.1.c0
          have r1 := HS3.out.2.2.2.1.c1
          have HF := hid (show Fin10 n k from ⟨by omega, HV.out, by rcases HK.out with h | h; left; omega; right; exact h⟩)
          go_wp2_with fail
          refine (N.out _).mono ?_
          rintro e w4 ⟨rfl, hb⟩
          have HS4 := hid (HS3.out.to hb)
          clear hb r0 r1
          by_cases hm0 : m < 0
          · have es : sgn m = -1 := if_pos hm0
            rw [es]
            obtain ⟨b, rfl⟩ : ∃ b, a = b + 1 := ⟨a - 1, by omega⟩
            obtain ⟨y, cy, fy⟩ := HS4.out.ask b (by omega)
            have HS5 := hid (HS4.out.put 45)
            have hcv := HS5.out.conv (41 - b) (41 - b) (by have := HS5.out.2.1; omega)
            have HT2 := hid (show IsText m (45 :: suf n k) from ⟨k, by rw [if_pos hm0]; have h := HN.out; unfold absI at h; rw [if_pos hm0] at h; rw [h]; exact HF.out, by rw [if_pos hm0, if_pos hm0]; have h := HN.out; unfold absI at h; rw [if_pos hm0] at h; rw [h]; rfl⟩)
            clear es
            have b1 : (b : Int) ≤ 41 := by omega
            go_wp2
            go_ret
            exact ⟨⟨_, HT2.out, rfl⟩, HS5.out.2.2.2.2.1⟩
          · have es : 0 ≤ sgn m := by unfold sgn; rw [if_neg hm0]; split <;> decide
            generalize sgn m = s at *
            have hcv := HS4.out.conv (41 - a) (41 - a) (by have := HS4.out.2.1; omega)
            have HT2 := hid (show IsText m (suf n k) from ⟨k, by rw [if_neg hm0]; have h := HN.out; unfold absI at h; rw [if_neg hm0] at h; rw [h]; exact HF.out, by rw [if_neg hm0, if_neg hm0]; have h := HN.out; unfold absI at h; rw [if_neg hm0] at h; rw [h]; rfl⟩)
            have b1 : (a : Int) ≤ 41 := by omega
            go_wp2
            go_ret
            exact ⟨⟨_, HT2.out, rfl⟩, HS4.out.2.2.2.2.1⟩
        · have hk38 := k_le n n0 n1 k (by rw [HV.out]; exact hv0)
          obtain ⟨b, rfl⟩ : ∃ b, a = b + 1 := ⟨a - 1, by omega⟩
          have hb41 : b < 41 := by omega
          have C := hid (fun w => sign_any v w (by unfold Amt; omega))
          have es : sgn v = 1 := by unfold sgn; rw [if_neg (by omega), if_pos (by omega)]
          rw [es] at C
          clear es hl
          go_wp2_with fail
          refine (C.out _).mono ?_
          rintro e w3 ⟨rfl, hb⟩
          have HS1 := hid (HS.out.to hb)
          clear hb r0 r1
          have r0 := HS1.out.2.2.1.c0
          have r1 := HS1.out.2.2.1.c1
          go_wp2_with fail
          refine (D.out _).mono ?_
          rintro e w2 ⟨rfl, hb⟩
          have HS2 := hid (HS1.out.to hb)
          clear hb r0 r1
          obtain ⟨y, cy, fy⟩ := HS2.out.ask b hb41
          have r0 := HS2.out.2.2.1.c0
          have r1 := HS2.out.2.2.1.c1
          have g0 := HS2.out.2.2.1.f0
          have g1 := HS2.out.2.2.1.f1
          have HF := hid ((HS2.out.setR (v / 10)).put (48 + v % 10))
          go_wp2
          go_roundw
          case rel => exact ⟨b, k + 1, rfl, by go_num, by omega, Or.inr (by rw [Nat.add_sub_cancel, HV.out]; exact hv0), by
            show St w Rb m (n / p10 (k + 1)) (suf n (k + 1)) b _
            rw [← HT.out]
            simp only [suf]
            rw [if_neg h3, HV.out]
            exact HF.out⟩
          case measure => simp [intOf]; omega
end Go.Proofs.Ytegdhffejmbakaa
