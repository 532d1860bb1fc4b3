/-
  Clear, the way 3.
-/
import Derived.Test.YtcbfgodknonefaaDoorBmD
namespace Go.Proofs.YtcbfgodknonefaaDoor
open Go.RowKit Go.Deep Bt
set_option linter.unusedVariables false
set_option maxRecDepth 100000
set_option maxHeartbeats 1000000

theorem clear_3 (b : Nat) (S : Nat → Bool) (k : Nat) (w : World) (hB : Bm w b S) (hk : k < 262144) (hS : S k = true) (h1 : lo S (k / 64) &&& nb (k % 64) = 0) (h2 : mi S (k / 64 / 64) &&& nb (k / 64 % 64) = 0) :
    Calls Tryd.prog 13 #[.pointer (some ⟨b, 0, none⟩), .int .i64 k] w fun e w' => e = .returned (.bool true) ∧ Ko b w w' ∧ Bm w' b (del S k) := by
  have CH := hid (fun (w : World) (hB : Bm w b S) => has_any b S (k : Int) w hB)
  rw [hasI_nat S k hk, hS] at CH
  have k2 : ((k / 64 : Nat) : Int) = (k : Int) / 64 := by omega
  have k3 : ((k / 64 / 64 : Nat) : Int) = (k : Int) / 64 / 64 := by omega
  have Ca := fun w => bit_any k w hk
  have Cb := fun w => bit_any (k / 64) w (by omega)
  have Cc := fun w => bit_any (k / 64 / 64) w (by omega)
  have hR := del_row3 S k hk hS h1 h2
  have hYn : mi S (k / 64 / 64) ≠ 0 := mi_ne S _ (lo_ne S k hS)
  obtain ⟨X, hX⟩ : ∃ X, lo S (k / 64) = X := ⟨_, rfl⟩
  obtain ⟨Y, hY⟩ : ∃ Y, mi S (k / 64 / 64) = Y := ⟨_, rfl⟩
  obtain ⟨Z, hZ⟩ : ∃ Z, tp S = Z := ⟨_, rfl⟩
  have X1 : X < 18446744073709551616 := by rw [← hX]; exact lo_lt _ _
  have Y1 : Y < 18446744073709551616 := by rw [← hY]; exact mi_lt _ _
  have Z1 : Z < 18446744073709551616 := by rw [← hZ]; exact tp_lt _
  have eX := andNotn X (k % 64) X1 (by omega)
  have eY := andNotn Y (k / 64 % 64) Y1 (by omega)
  have eZ := andNotn Z (k / 64 / 64) Z1 (by omega)
  rw [show k / 64 / 64 % 64 = k / 64 / 64 by omega] at Cc
  rw [k2] at Cb
  rw [k3] at Cc
  try rw [hX] at hR
  try rw [hY] at hR
  try rw [hZ] at hR
  rw [hX] at h1
  try rw [hY] at h2
  rw [hY] at hYn
  obtain ⟨X', hX'⟩ : ∃ X', X &&& nb (k % 64) = X' := ⟨_, rfl⟩
  obtain ⟨Y', hY'⟩ : ∃ Y', Y &&& nb (k / 64 % 64) = Y' := ⟨_, rfl⟩
  obtain ⟨Z', hZ'⟩ : ∃ Z', Z &&& nb (k / 64 / 64) = Z' := ⟨_, rfl⟩
  rw [hX'] at eX
  rw [hY'] at eY
  rw [hZ'] at eZ
  try rw [hX'] at hR
  try rw [hY'] at hR
  try rw [hZ'] at hR
  rw [hX'] at h1
  try rw [hY'] at h2
  obtain ⟨p1, hp1⟩ : ∃ p, 2 ^ (k % 64) = p := ⟨_, rfl⟩
  obtain ⟨p2, hp2⟩ : ∃ p, 2 ^ (k / 64 % 64) = p := ⟨_, rfl⟩
  obtain ⟨p3, hp3⟩ : ∃ p, 2 ^ (k / 64 / 64) = p := ⟨_, rfl⟩
  rw [hp1] at Ca eX
  rw [hp2] at Cb eY
  rw [hp3] at Cc eZ
  have HR := hid hR
  have CA := hid Ca
  have CB := hid Cb
  have CC := hid Cc
  have HB := hid hB
  have HX := hid hX
  have HY := hid hY
  have HZ := hid hZ
  subst h1
  subst h2
  have k1 : (k : Int) < 262144 := by omega
  have k4 : (0 : Int) ≤ (k : Int) / 64 := by omega
  have k5 : (k : Int) / 64 < 4096 := by omega
  have k6 : (0 : Int) ≤ (k : Int) / 64 / 64 := by omega
  have k7 : (k : Int) / 64 / 64 < 64 := by omega
  have k8 : ((k : Int) / 64).toNat = k / 64 := by omega
  have k9 : ((k : Int) / 64 / 64).toNat = k / 64 / 64 := by omega
  clear hB hS hR Ca Cb Cc hp1 hp2 hp3 hX' hY' hZ' k2 k3 hX hY hZ hYn
  try clear h1
  try clear h2
  go_enter Tryd.func13, Tryd.ntmps13
  go_wp2_with (first | (go_at_call 26; refine (CH.out _ HB.out).mono ?_; rintro e w2 ⟨rfl, hb⟩; have R2 := hid (show Rw w2 b (cellv S) from HB.out.on hb); have HK := hid (Ko.of (b := b) hb); have c1 := (HB.out.on hb).low (k / 64) (by omega); rw [HX.out] at c1; have f1 := Rw.frozen R2.out (65 + k / 64); clear hb))
  rename_i K A
  have HA := hid A
  clear A
  go_region_with (first | (go_at_call 31; refine (CA.out _).mono ?_; rintro e w3 ⟨rfl, rfl⟩))
  all_goals
    have R3 : Rw (w2.setCell ⟨b, 65 + k / 64, none⟩ (.int .u64 0)).drew b (up (cellv S) (65 + k / 64) 0) := (R2.out.set (65 + k / 64) 0 (by omega)).drew
    have K3 : Ko b w (w2.setCell ⟨b, 65 + k / 64, none⟩ (.int .u64 0)).drew := HK.out.set.drew
    obtain ⟨w3, hw3⟩ : ∃ w3, (w2.setCell ⟨b, 65 + k / 64, none⟩ (.int .u64 0)).drew = w3 := ⟨_, rfl⟩
    first | rw [hw3] at R3 K3 ⊢ | (simp only [Int.natCast_zero, Int.ofNat_zero, Nat.cast_zero] at *; rw [hw3] at R3 K3 ⊢)
    have d1 : w3.cell? ⟨b, 65 + k / 64, none⟩ = some (.int .u64 0) := by
      have := R3.cell (65 + k / 64) (by omega)
      rw [this]; unfold up; first | (rw [if_pos rfl]; done) | (rw [if_pos rfl]; rfl)
    have c2 := R3.cell (1 + k / 64 / 64) (by omega)
    rw [show up (cellv S) (65 + k / 64) 0 (1 + k / 64 / 64) = Y by unfold up; rw [if_neg (by omega)]; unfold cellv; rw [if_neg (by omega), if_pos (by omega), Nat.add_sub_cancel_left, HY.out]] at c2
    have f2 := R3.frozen (1 + k / 64 / 64)
    have HR3 := hid R3
    have HK3 := hid K3
    refine HA.out _ _ ?_
    clear hw3 R3 K3 HA c1 f1 R2 HK CA
    go_wp2_with fail
    rename_i K A
    have HA := hid A
    clear A
    go_region_with (first | (go_at_call 31; refine (CB.out _).mono ?_; rintro e w3 ⟨rfl, rfl⟩))
  all_goals
    have R4 : Rw (w3.setCell ⟨b, 1 + k / 64 / 64, none⟩ (.int .u64 0)).drew b (up (up (cellv S) (65 + k / 64) 0) (1 + k / 64 / 64) 0) := (HR3.out.set (1 + k / 64 / 64) 0 (by omega)).drew
    have K4 : Ko b w (w3.setCell ⟨b, 1 + k / 64 / 64, none⟩ (.int .u64 0)).drew := HK3.out.set.drew
    obtain ⟨w4, hw4⟩ : ∃ w4, (w3.setCell ⟨b, 1 + k / 64 / 64, none⟩ (.int .u64 0)).drew = w4 := ⟨_, rfl⟩
    rw [hw4] at R4 K4 ⊢
    have d2 : w4.cell? ⟨b, 1 + k / 64 / 64, none⟩ = some (.int .u64 0) := by
      have := R4.cell (1 + k / 64 / 64) (by omega)
      rw [this]; unfold up; first | (rw [if_pos rfl]; done) | (rw [if_pos rfl]; rfl)
    have c3 := R4.cell 0 (by omega)
    rw [show up (up (cellv S) (65 + k / 64) 0) (1 + k / 64 / 64) 0 0 = Z by unfold up; rw [if_neg (by omega), if_neg (by omega)]; unfold cellv; rw [if_pos rfl, HZ.out]] at c3
    have f3 := R4.frozen 0
    have HR4 := hid R4
    have HK4 := hid K4
    refine HA.out _ _ ?_
    clear hw4 R4 K4 HA c2 f2 HR3 HK3 CB d1
    go_wp2_with fail
    rename_i K A
    have HA := hid A
    clear A
    go_region_with (first | (go_at_call 31; refine (CC.out _).mono ?_; rintro e w4 ⟨rfl, rfl⟩))
  all_goals
    refine HA.out _ _ ?_
    clear HA
    go_wp2_with fail
    go_ret
    exact ⟨rfl, HK4.out.set.drew, (HR4.out.set 0 Z' (by omega)).drew.ext HR.out⟩
end Go.Proofs.YtcbfgodknonefaaDoor
