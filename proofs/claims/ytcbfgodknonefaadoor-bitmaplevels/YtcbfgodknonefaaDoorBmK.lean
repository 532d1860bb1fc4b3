/-
  BitmapLevels' walk.
-/
import Derived.Test.YtcbfgodknonefaaDoorBmJ
namespace Go.Proofs.YtcbfgodknonefaaDoor
open Go.RowKit Go.Deep Bt
set_option linter.unusedVariables false
set_option maxRecDepth 100000
set_option maxHeartbeats 2000000

theorem Bm.drewN {w : World} {b : Nat} {S : Nat → Bool} (h : Bm w b S) (n : Nat) : Bm (w.drewN n) b S := h
theorem belowN {B : Nat} {a w : World} (h : Below B a w) (n : Nat) : Below B a (w.drewN n) := ⟨h.os, h.tape, h.output, h.size, h.block⟩
theorem cn_zero (S : Nat → Bool) (n : Nat) : cn S n = 0 ↔ ∀ x, x < n → S x = false := by
  induction n with
  | zero => constructor
            · intro _ x hx; omega
            · intro _; rfl
  | succ n ih =>
    unfold cn
    constructor
    · intro h x hx
      have h1 : cn S n = 0 := by omega
      have h2 : (S n).toNat = 0 := by omega
      by_cases e : x = n
      · subst e; cases hS : S x with
        | false => rfl
        | true => rw [hS] at h2; simp at h2
      · exact ih.1 h1 x (by omega)
    · intro h
      rw [ih.2 (fun x hx => h x (by omega)), h n (by omega)]; rfl
theorem tp_len (S : Nat → Bool) : tp S = 0 ↔ len S = 0 := by
  unfold len
  rw [cn_zero, tp_zero]
  constructor
  · intro h x hx
    have h1 := (mi_zero S _).1 (h (x / 64 / 64) (by omega)) (x / 64 % 64) (by omega)
    rw [show 64 * (x / 64 / 64) + x / 64 % 64 = x / 64 by omega] at h1
    have h2 := (lo_zero S _).1 h1 (x % 64) (by omega)
    rwa [show 64 * (x / 64) + x % 64 = x by omega] at h2
  · intro h i hi
    rw [mi_zero]
    intro j hj
    rw [lo_zero]
    intro k hk
    exact h _ (by omega)

theorem shr_bit (x i : Nat) (hx : x < 18446744073709551616) (b : Bool) (h : x.testBit i = b) : ∃ q : Nat, (x : Int) / 2 ^ i = (q : Int) ∧ q < 18446744073709551616 ∧ (q : Int) % 2 = (b.toNat : Int) ∧ (q : Int).tmod 2 = (b.toNat : Int) := by
  refine ⟨x / 2 ^ i, by simp, Nat.lt_of_le_of_lt (Nat.div_le_self _ _) hx, ?_⟩
  rw [Nat.testBit_eq_decide_div_mod_eq] at h
  have : x / 2 ^ i % 2 = b.toNat := by
    subst h
    by_cases e : x / 2 ^ i % 2 = 1
    · rw [e]; rfl
    · rw [show x / 2 ^ i % 2 = 0 by omega]; rfl
  obtain ⟨q, hq⟩ : ∃ q, x / 2 ^ i = q := ⟨_, rfl⟩
  rw [hq] at this ⊢
  constructor
  · omega
  · rw [Int.tmod_eq_emod_of_nonneg (by omega)]; omega
theorem levels (v1 v2 : Value) (xs ys : List Int) (w : World) (h1 : Is w w.heap.size v1 xs) (h2 : Is w w.heap.size v2 ys) (hL : Laid w) (h0 : 0 < w.heap.size) (hl1 : xs.length < 9223372036854775807) (hl2 : ys.length < 9223372036854775807) :
    Calls Tryd.prog 5 #[v1, v2] w fun e w' => e = .returned (.bool true) ∧ Below w.heap.size w w' := by
  obtain ⟨p2, cap2, rfl⟩ := h2.form
  have CF := hid (filled_any v1 xs w h1 hL h0 hl1)
  obtain ⟨N, hN⟩ : ∃ N, w.heap.size = N := ⟨_, rfl⟩
  rw [hN] at CF h0 h2 ⊢
  have hNs : N ≤ w.heap.size := by omega
  have HI := hid (fun (w' : World) (k : Below N w w') => h2.on k (Nat.le_refl _))
  have HL := hid (fun (w' : World) (k : Below N w w') => hL.on k h0)
  clear h1 h2 hL hN
  go_enter Tryd.func5, Tryd.ntmps5
  go_wp2_with (go_at_call 21; refine (CF.out).mono ?_; clear CF; rintro e w1 ⟨rfl, hb, hm⟩; have HN1 := hid hb; have HB1 := hid hm; clear hb hm)
  go_loopw [7] (fun iv wr => ∃ (k : Nat) (S : Nat → Bool), k ≤ ys.length ∧ iv = .int .i64 k ∧ Hid (Below N w wr) ∧ Hid (Bm wr N S)) (fun iv _ => ys.length - (intOf iv).toNat)
  case atStart => exact ⟨0, _, Nat.zero_le _, rfl, HN1, HB1⟩
  case round =>
    obtain ⟨k, S, hk, rfl, HN2, HB2⟩ := hrel
    by_cases hlt : k < ys.length
    · obtain ⟨b, o, rfl, hb, hc⟩ := (HI.out _ HN2.out).at k hlt
      obtain ⟨x, hx⟩ : ∃ x, ys[k] = x := ⟨_, rfl⟩
      rw [hx] at hc
      have i0 : (0 : Int) ≤ (k : Int) := by omega
      have i1 : (k : Int) < (ys.length : Int) := by omega
      have CS := hid (fun (w : World) (hB : Bm w N S) => clear_any N S x w hB)
      clear hx
      go_wp2_with (go_at_call 13; refine (CS.out _ HB2.out).mono ?_; rintro e w9 ⟨rfl, hk2, hm⟩; have HN9 := hid (chain HN2.out hNs hk2); have HB9 := hid hm; clear hk2 hm)
      go_roundw
      case rel => exact ⟨k + 1, _, by omega, by go_num, HN9, HB9⟩
      case measure => simp [intOf]; omega
    · have i1 : ¬ ((k : Int) < (ys.length : Int)) := by omega
      go_wp2_with fail
      go_loopw [8] (fun iv w3 => ∃ (i : Nat), i ≤ 64 ∧ iv = .int .i64 i ∧ Hid (Below N w w3) ∧ Hid (Bm w3 N S)) (fun iv _ => 64 - (intOf iv).toNat)
      case atStart => exact ⟨0, by omega, rfl, HN2, HB2⟩
      case round =>
        clear HN2 HB2
        obtain ⟨i, hi, rfl, HN3, HB3⟩ := hrel
        by_cases hlt2 : i < 64
        · have i0 : (0 : Int) ≤ (i : Int) := by omega
          have i2 : (i : Int) < 64 := by omega
          have i3 : (i : Int) ≤ 64 := by omega
          have i4 : ((i : Int)).toNat = i := by omega
          have CT := hid (fun n => top_any N S (wr.drewN n) (HB3.out.drewN n))
          have CM := hid (fun n => mid_any N S (i : Int) (wr.drewN n) (HB3.out.drewN n))
          rw [show miI S (i : Int) = mi S i by unfold miI; rw [if_pos (by omega), Int.toNat_natCast]] at CM
          have hbit := tp_bit S i hlt2
          obtain ⟨T, hT⟩ : ∃ T, tp S = T := ⟨_, rfl⟩
          have T1 : T < 18446744073709551616 := by rw [← hT]; exact tp_lt S
          have M1 : mi S i < 18446744073709551616 := mi_lt S i
          rw [hT] at CT hbit
          obtain ⟨M, hM⟩ : ∃ M, mi S i = M := ⟨_, rfl⟩
          rw [hM] at CM hbit M1
          have HM := hid hM
          clear hM hT
          by_cases hz : M = 0
          · subst hz
            obtain ⟨q, q1, q2, q3, q4⟩ := shr_bit T i T1 false hbit
            simp only [Bool.toNat_false, Int.ofNat_zero] at q3 q4
            clear hbit
            go_wp2_with fail
            go_quiet (first | (go_at_call 19; refine Calls.quiet_of_same (CT.out _)) | (go_at_call 22; refine Calls.quiet_of_same (CM.out _)))
            go_wp2_with (go_at_call 22; refine (CM.out _).mono ?_; rintro e w' ⟨rfl, rfl⟩)
            go_roundw
            case rel => exact ⟨i + 1, by omega, by go_num, belowN HN3.out _, HB3.out.drewN _⟩
            case measure => simp [intOf]; omega
          · have hbit2 : T.testBit i = true := by rw [hbit]; simp [hz]
            obtain ⟨q, q1, q2, q3, q4⟩ := shr_bit T i T1 true hbit2
            simp only [Bool.toNat_true, Int.ofNat_one] at q3 q4
            have z1 : ((M : Int) != 0) = true := by simp [hz]
            have z2 : ((M : Int) == 0) = false := by simp [hz]
            clear hbit hbit2
            go_wp2_with fail
            go_quiet (first | (go_at_call 19; refine Calls.quiet_of_same (CT.out _)) | (go_at_call 22; refine Calls.quiet_of_same (CM.out _)))
            go_wp2_with (go_at_call 22; refine (CM.out _).mono ?_; rintro e w' ⟨rfl, rfl⟩)
            have HN4 := hid (belowN HN3.out nq)
            have HB4 := hid (HB3.out.drewN nq)
            clear CT CM HN3 HB3 q1 q2 q3 q4
            obtain ⟨w4, hw4⟩ : ∃ w4, wr.drewN nq = w4 := ⟨_, rfl⟩
            rw [hw4] at HN4 HB4 ⊢
            clear hw4
            go_loopw [9] (fun iv w3 => ∃ (j : Nat), j ≤ 64 ∧ iv = .int .i64 j ∧ Hid (Below N w w3) ∧ Hid (Bm w3 N S)) (fun iv _ => 64 - (intOf iv).toNat)
            case atStart => exact ⟨0, by omega, rfl, HN4, HB4⟩
            case round =>
              clear HN4 HB4
              obtain ⟨j, hj, rfl, HN5, HB5⟩ := hrel
              by_cases hlt3 : j < 64
              · have j0 : (0 : Int) ≤ (j : Int) := by omega
                have j2 : (j : Int) < 64 := by omega
                have j3 : (j : Int) ≤ 64 := by omega
                have j4 : ((j : Int)).toNat = j := by omega
                have CM := hid (fun n => mid_any N S (i : Int) (wr.drewN n) (HB5.out.drewN n))
                rw [show miI S (i : Int) = mi S i by unfold miI; rw [if_pos (by omega), Int.toNat_natCast], HM.out] at CM
                have CW := hid (fun n => low_any N S (64 * (i : Int) + (j : Int)) (wr.drewN n) (HB5.out.drewN n))
                rw [show loI S (64 * (i : Int) + (j : Int)) = lo S (64 * i + j) by unfold loI; rw [if_pos (by omega), show (64 * (i : Int) + (j : Int)).toNat = 64 * i + j by omega]] at CW
                have hbit := mi_bit S i j hlt3
                rw [HM.out] at hbit
                obtain ⟨X, hX⟩ : ∃ X, lo S (64 * i + j) = X := ⟨_, rfl⟩
                rw [hX] at hbit CW
                have X1 : X < 18446744073709551616 := by rw [← hX]; exact lo_lt S _
                clear hX
                by_cases hz3 : X = 0
                · subst hz3
                  obtain ⟨q, q1, q2, q3, q4⟩ := shr_bit M j M1 false hbit
                  simp only [Bool.toNat_false, Int.ofNat_zero] at q3 q4
                  clear hbit
                  go_wp2_with fail
                  go_quiet (first | (go_at_call 22; refine Calls.quiet_of_same (CM.out _)) | (go_at_call 20; refine Calls.quiet_of_same (CW.out _)))
                  go_wp2_with fail
                  go_roundw
                  case rel => exact ⟨j + 1, by omega, by go_num, belowN HN5.out _, HB5.out.drewN _⟩
                  case measure => simp [intOf]; omega
                · have hbit2 : M.testBit j = true := by rw [hbit]; simp [hz3]
                  obtain ⟨q, q1, q2, q3, q4⟩ := shr_bit M j M1 true hbit2
                  simp only [Bool.toNat_true, Int.ofNat_one] at q3 q4
                  have z1 : ((X : Int) != 0) = true := by simp [hz3]
                  clear hbit hbit2
                  go_wp2_with fail
                  go_quiet (first | (go_at_call 22; refine Calls.quiet_of_same (CM.out _)) | (go_at_call 20; refine Calls.quiet_of_same (CW.out _)))
                  go_wp2_with fail
                  go_roundw
                  case rel => exact ⟨j + 1, by omega, by go_num, belowN HN5.out _, HB5.out.drewN _⟩
                  case measure => simp [intOf]; omega
              · have j2 : ¬ ((j : Int) < 64) := by omega
                go_wp2_with fail
                go_roundw
                case rel => exact ⟨i + 1, by omega, by go_num, HN5, HB5⟩
                case measure => simp [intOf]; omega
        · have i2 : ¬ ((i : Int) < 64) := by omega
          have CT := hid (top_any N S wr HB3.out)
          have CL := hid (len_any N S wr HB3.out (HL.out _ HN3.out))
          have CP := hid (fun (w : World) (hB : Bm w N S) => low_any N S (-1) w hB)
          have CQ := hid (fun (w : World) (hB : Bm w N S) => low_any N S 4096 w hB)
          have CR := hid (fun (w : World) (hB : Bm w N S) => mid_any N S 64 w hB)
          have CV := hid (fun (w : World) (hB : Bm w N S) => mid_any N S (-1) w hB)
          rw [show loI S (-1) = 0 from rfl] at CP
          rw [show loI S 4096 = 0 from rfl] at CQ
          rw [show miI S 64 = 0 from rfl] at CR
          rw [show miI S (-1) = 0 from rfl] at CV
          have htl := tp_len S
          obtain ⟨T, hT⟩ : ∃ T, tp S = T := ⟨_, rfl⟩
          obtain ⟨L, hLn⟩ : ∃ L, len S = L := ⟨_, rfl⟩
          rw [hT] at htl CT
          rw [hLn] at htl CL
          clear hT hLn
          have z2 : (((T : Int) == 0) == ((L : Int) == 0)) = true := by
            by_cases e : T = 0
            · simp [e, htl.1 e]
            · have e2 : ¬ L = 0 := fun x => e (htl.2 x)
              rw [show ((T : Int) == 0) = false by simp [e], show ((L : Int) == 0) = false by simp [e2]]; rfl
          clear htl
          go_wp2_with (first
            | (go_at_call 19; refine (CT.out).mono ?_; clear CT; rintro e w5 ⟨rfl, rfl⟩)
            | (go_at_call 23; refine (CL.out).mono ?_; clear CL; rintro e w6 ⟨rfl, hb⟩; have HN6 := hid (chainB HN3.out hNs hb); have HB6 := hid (HB3.out.on hb); clear hb HN3 HB3)
            | (go_at_call 20; refine (CP.out _ HB6.out).mono ?_; clear CP; rintro e w7 ⟨rfl, rfl⟩)
            | (go_at_call 20; refine (CQ.out _ HB6.out).mono ?_; clear CQ; rintro e w8 ⟨rfl, rfl⟩)
            | (go_at_call 22; refine (CR.out _ HB6.out).mono ?_; clear CR; rintro e w9 ⟨rfl, rfl⟩)
            | (go_at_call 22; refine (CV.out _ HB6.out).mono ?_; clear CV; rintro e w10 ⟨rfl, rfl⟩))
          go_ret
          exact ⟨rfl, HN6.out⟩
end Go.Proofs.YtcbfgodknonefaaDoor
