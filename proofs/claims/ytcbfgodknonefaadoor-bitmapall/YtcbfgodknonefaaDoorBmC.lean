/-
  Contracts of Set and Clear.
-/
import Derived.Test.YtcbfgodknonefaaDoorBmB
import Derived.Deep.RegionHeld3
import Derived.Deep.RegionWith
import Derived.Deep.QuietTactic
import Derived.Laws.Rows
import Derived.Laws.OwnMore
namespace Go.Proofs.YtcbfgodknonefaaDoor
open Go.RowKit Go.Deep Bt
set_option linter.unusedVariables false
set_option maxRecDepth 100000
set_option maxHeartbeats 1000000

/-- words in a block. -/
def Rw (w : World) (b : Nat) (f : Nat → Nat) : Prop := ∃ row : Array Value, w.heap[b]? = some (.cells row 28 (0, 0)) ∧ row.size = 4161 ∧ ∀ i, i < 4161 → row[i]? = some (.int .u64 (f i : Nat))
theorem Rw.cell {w : World} {b : Nat} {f : Nat → Nat} (h : Rw w b f) (i : Nat) (hi : i < 4161) : w.cell? ⟨b, i, none⟩ = some (.int .u64 (f i : Nat)) := by
  obtain ⟨row, h1, h2, h3⟩ := h
  have := h3 i hi
  simp [World.cell?, h1, this]
theorem Rw.frozen {w : World} {b : Nat} {f : Nat → Nat} (h : Rw w b f) (i : Nat) : w.frozen? ⟨b, i, none⟩ = false := by
  obtain ⟨row, h1, h2, h3⟩ := h
  exact frozen_of_row w b i _ _ h1
def up (f : Nat → Nat) (i v : Nat) : Nat → Nat := fun j => if j = i then v else f j
theorem Rw.set {w : World} {b : Nat} {f : Nat → Nat} (h : Rw w b f) (i v : Nat) (hi : i < 4161) : Rw (w.setCell ⟨b, i, none⟩ (.int .u64 v)) b (up f i v) := by
  obtain ⟨row, h1, h2, h3⟩ := h
  refine ⟨_, Go.heap_setCell_same w b i row 28 _ h1, by simp [h2], fun j hj => ?_⟩
  rw [Array.getElem?_setIfInBounds]
  unfold up
  by_cases e : i = j
  · subst e; simp [h2, hi]
  · rw [if_neg e, if_neg (fun x => e x.symm)]; exact h3 j hj
theorem Rw.ext {w : World} {b : Nat} {f g : Nat → Nat} (h : Rw w b f) (e : ∀ i, i < 4161 → f i = g i) : Rw w b g := by
  obtain ⟨row, h1, h2, h3⟩ := h
  exact ⟨row, h1, h2, fun i hi => by rw [h3 i hi, e i hi]⟩
theorem Rw.drew {w : World} {b : Nat} {f : Nat → Nat} (h : Rw w b f) : Rw w.drew b f := h
theorem Ko.set {b i : Nat} {w u : World} {v : Value} (h : Ko b u w) : Ko b u (w.setCell ⟨b, i, none⟩ v) := by
  refine ⟨h.os, h.tape, h.output, by simp; exact h.size, fun j hj hb => ?_⟩
  rw [heap_setCell_other _ _ _ _ hb]; exact h.obj j hj hb
theorem Ko.drew {b : Nat} {w u : World} (h : Ko b u w) : Ko b u w.drew := ⟨h.os, h.tape, h.output, h.size, h.obj⟩
theorem Ko.refl (b : Nat) (w : World) : Ko b w w := ⟨rfl, rfl, rfl, Nat.le_refl _, fun _ _ _ => rfl⟩

def insI (S : Nat → Bool) (t : Int) : Nat → Bool := if 0 ≤ t ∧ t < 262144 then ins S t.toNat else S
def setI (S : Nat → Bool) (t : Int) : Bool := decide (0 ≤ t ∧ t < 262144) && !hasI S t
def delI (S : Nat → Bool) (t : Int) : Nat → Bool := if 0 ≤ t ∧ t < 262144 then del S t.toNat else S
theorem orn (x b : Nat) (hx : x < 18446744073709551616) (hb : b < 64) : bits .or .u64 (x : Int) ((2 ^ b : Nat) : Int) = ((x ||| 2 ^ b : Nat) : Int) := u64_or_nat x _ hx (pow_lt64 b hb)
theorem andNotn (x b : Nat) (hx : x < 18446744073709551616) (hb : b < 64) : bits .andNot .u64 (x : Int) ((2 ^ b : Nat) : Int) = ((x &&& nb b : Nat) : Int) := u64_andNot_nat x _ hx (pow_lt64 b hb)
theorem ins_row (S : Nat → Bool) (t : Nat) (ht : t < 262144) : ∀ i, i < 4161 → up (up (up (cellv S) (65 + t / 64) (lo S (t / 64) ||| 2 ^ (t % 64))) (1 + t / 64 / 64) (mi S (t / 64 / 64) ||| 2 ^ (t / 64 % 64))) 0 (tp S ||| 2 ^ (t / 64 / 64)) i = cellv (ins S t) i := by
  intro i hi
  unfold up
  by_cases a : i = 0
  · subst a
    rw [if_pos rfl]; unfold cellv; rw [if_pos rfl, tp_ins S t ht]
  · rw [if_neg a]
    by_cases b : i = 1 + t / 64 / 64
    · subst b
      rw [if_pos rfl]; unfold cellv
      rw [if_neg (by omega), if_pos (by omega), Nat.add_sub_cancel_left, mi_ins]
    · rw [if_neg b]
      by_cases c : i = 65 + t / 64
      · subst c
        rw [if_pos rfl]; unfold cellv
        rw [if_neg (by omega), if_neg (by omega), Nat.add_sub_cancel_left, lo_ins]
      · rw [if_neg c]; unfold cellv
        rw [if_neg a, if_neg a]
        by_cases d : i < 65
        · rw [if_pos d, if_pos d, mi_ins_ne S t _ (by omega)]
        · rw [if_neg d, if_neg d, lo_ins_ne S t _ (by omega)]

theorem set_new (b : Nat) (S : Nat → Bool) (k : Nat) (w : World) (hB : Bm w b S) (hk : k < 262144) (hS : S k = false) :
    Calls Tryd.prog 11 #[.pointer (some ⟨b, 0, none⟩), .int .i64 k] w fun e w' => e = .returned (.bool true) ∧ Ko b w w' ∧ Bm w' b (ins S k) := by
  have C1 := hid (fun w => isTick_yes k hk w)
  have CH := hid (fun (w : World) (hB : Bm w b S) => has_any b S (k : Int) w hB)
  rw [hasI_nat S k hk, hS] at CH
  have k2 : ((k / 64 : Nat) : Int) = (k : Int) / 64 := by omega
  have k3 : ((k / 64 / 64 : Nat) : Int) = (k : Int) / 64 / 64 := by omega
  have Ca := fun w => bit_any k w hk
  have Cb := fun w => bit_any (k / 64) w (by omega)
  have Cc := fun w => bit_any (k / 64 / 64) w (by omega)
  have hR := ins_row S k hk
  obtain ⟨X, hX⟩ : ∃ X, lo S (k / 64) = X := ⟨_, rfl⟩
  obtain ⟨Y, hY⟩ : ∃ Y, mi S (k / 64 / 64) = Y := ⟨_, rfl⟩
  obtain ⟨Z, hZ⟩ : ∃ Z, tp S = Z := ⟨_, rfl⟩
  have X1 : X < 18446744073709551616 := by rw [← hX]; exact lo_lt _ _
  have Y1 : Y < 18446744073709551616 := by rw [← hY]; exact mi_lt _ _
  have Z1 : Z < 18446744073709551616 := by rw [← hZ]; exact tp_lt _
  have eX := orn X (k % 64) X1 (by omega)
  have eY := orn Y (k / 64 % 64) Y1 (by omega)
  have eZ := orn Z (k / 64 / 64) Z1 (by omega)
  rw [show k / 64 / 64 % 64 = k / 64 / 64 by omega] at Cc
  rw [k2] at Cb
  rw [k3] at Cc
  rw [hX, hY, hZ] at hR
  obtain ⟨p1, hp1⟩ : ∃ p, 2 ^ (k % 64) = p := ⟨_, rfl⟩
  obtain ⟨p2, hp2⟩ : ∃ p, 2 ^ (k / 64 % 64) = p := ⟨_, rfl⟩
  obtain ⟨p3, hp3⟩ : ∃ p, 2 ^ (k / 64 / 64) = p := ⟨_, rfl⟩
  rw [hp1] at Ca eX hR
  rw [hp2] at Cb eY hR
  rw [hp3] at Cc eZ hR
  obtain ⟨X', hX'⟩ : ∃ X', X ||| p1 = X' := ⟨_, rfl⟩
  obtain ⟨Y', hY'⟩ : ∃ Y', Y ||| p2 = Y' := ⟨_, rfl⟩
  obtain ⟨Z', hZ'⟩ : ∃ Z', Z ||| p3 = Z' := ⟨_, rfl⟩
  rw [hX'] at eX hR
  rw [hY'] at eY hR
  rw [hZ'] at eZ hR
  have HR := hid hR
  have CA := hid Ca
  have CB := hid Cb
  have CC := hid Cc
  have HB := hid hB
  have HX := hid hX
  have HY := hid hY
  have HZ := hid hZ
  have k1 : (k : Int) < 262144 := by omega
  have k4 : (0 : Int) ≤ (k : Int) / 64 := by omega
  have k5 : (k : Int) / 64 < 4096 := by omega
  have k6 : (0 : Int) ≤ (k : Int) / 64 / 64 := by omega
  have k7 : (k : Int) / 64 / 64 < 64 := by omega
  have k8 : ((k : Int) / 64).toNat = k / 64 := by omega
  have k9 : ((k : Int) / 64 / 64).toNat = k / 64 / 64 := by omega
  clear hB hS hR Ca Cb Cc hp1 hp2 hp3 hX' hY' hZ' k2 k3 hX hY hZ
  go_enter Tryd.func11, Tryd.ntmps11
  go_wp2_with (first | (go_at_call 30; refine (C1.out _).mono ?_; rintro e w1 ⟨rfl, rfl⟩) | (go_at_call 26; refine (CH.out _ HB.out).mono ?_; rintro e w2 ⟨rfl, hb⟩; have R2 := hid (show Rw w2 b (cellv S) from HB.out.on hb); have HK := hid (Ko.of (b := b) hb); have c1 := (HB.out.on hb).low (k / 64) (by omega); rw [HX.out] at c1; have f1 := Rw.frozen R2.out (65 + k / 64); clear hb))
  rename_i K A
  have HA := hid A
  clear A
  go_region_with (first | (go_at_call 31; refine (CA.out _).mono ?_; rintro e w3 ⟨rfl, rfl⟩))
  all_goals
    have R3 : Rw (w2.setCell ⟨b, 65 + k / 64, none⟩ (.int .u64 X')).drew b (up (cellv S) (65 + k / 64) X') := (R2.out.set (65 + k / 64) X' (by omega)).drew
    have K3 : Ko b w1 (w2.setCell ⟨b, 65 + k / 64, none⟩ (.int .u64 X')).drew := HK.out.set.drew
    obtain ⟨w3, hw3⟩ : ∃ w3, (w2.setCell ⟨b, 65 + k / 64, none⟩ (.int .u64 X')).drew = w3 := ⟨_, rfl⟩
    rw [hw3] at R3 K3 ⊢
    have c2 := R3.cell (1 + k / 64 / 64) (by omega)
    rw [show up (cellv S) (65 + k / 64) X' (1 + k / 64 / 64) = Y by unfold up; rw [if_neg (by omega)]; unfold cellv; rw [if_neg (by omega), if_pos (by omega), Nat.add_sub_cancel_left, HY.out]] at c2
    have f2 := R3.frozen (1 + k / 64 / 64)
    have HR3 := hid R3
    have HK3 := hid K3
    refine HA.out _ _ ?_
    clear hw3 R3 K3 HA c1 f1 R2 HK CA
    go_wp2_with fail
    rename_i K A
    have HA := hid A
    clear A
    go_region_with (first | (go_at_call 31; refine (CB.out _).mono ?_; rintro e w3 ⟨rfl, rfl⟩))
  all_goals
    have R4 : Rw (w3.setCell ⟨b, 1 + k / 64 / 64, none⟩ (.int .u64 Y')).drew b (up (up (cellv S) (65 + k / 64) X') (1 + k / 64 / 64) Y') := (HR3.out.set (1 + k / 64 / 64) Y' (by omega)).drew
    have K4 : Ko b w1 (w3.setCell ⟨b, 1 + k / 64 / 64, none⟩ (.int .u64 Y')).drew := HK3.out.set.drew
    obtain ⟨w4, hw4⟩ : ∃ w4, (w3.setCell ⟨b, 1 + k / 64 / 64, none⟩ (.int .u64 Y')).drew = w4 := ⟨_, rfl⟩
    rw [hw4] at R4 K4 ⊢
    have c3 := R4.cell 0 (by omega)
    rw [show up (up (cellv S) (65 + k / 64) X') (1 + k / 64 / 64) Y' 0 = Z by unfold up; rw [if_neg (by omega), if_neg (by omega)]; unfold cellv; rw [if_pos rfl, HZ.out]] at c3
    have f3 := R4.frozen 0
    have HR4 := hid R4
    have HK4 := hid K4
    refine HA.out _ _ ?_
    clear hw4 R4 K4 HA c2 f2 HR3 HK3 CB
    go_wp2_with fail
    rename_i K A
    have HA := hid A
    clear A
    go_region_with (first | (go_at_call 31; refine (CC.out _).mono ?_; rintro e w4 ⟨rfl, rfl⟩))
  all_goals
    refine HA.out _ _ ?_
    clear HA
    go_wp2_with fail
    go_ret
    exact ⟨rfl, HK4.out.set.drew, (HR4.out.set 0 Z' (by omega)).drew.ext HR.out⟩
end Go.Proofs.YtcbfgodknonefaaDoor
