/-
  ranked, Count; ranks, plain.
-/
import Derived.Test.YtcbfgodknonefaaDoorBmQA
namespace Go.Proofs.YtcbfgodknonefaaDoor
open Go.RowKit Go.Deep Bt
set_option linter.unusedVariables false
set_option maxRecDepth 100000
set_option maxHeartbeats 1000000

theorem popn_mono (x : Nat) {a b : Nat} (h : a ≤ b) : popn x a ≤ popn x b := by
  induction b with
  | zero => have : a = 0 := by omega
            subst this; exact Nat.le_refl _
  | succ b ih =>
    by_cases e : a = b + 1
    · rw [e]; exact Nat.le_refl _
    · have := ih (by omega)
      show popn x a ≤ popn x b + (x.testBit b).toNat
      omega
theorem popn_gap {x g k : Nat} (hk : g ≤ k) (h : ∀ i, g ≤ i → i < k → x.testBit i = false) : popn x k = popn x g := by
  induction k with
  | zero => have : g = 0 := by omega
            subst this; rfl
  | succ k ih =>
    by_cases e : g = k + 1
    · subst e; rfl
    · rw [popn, ih (by omega) (fun i h1 h2 => h i h1 (by omega)), h k (by omega) (by omega)]; rfl
theorem From.ne {x y g : Nat} (h : From x y g) (hg : g ≤ 64) (hp : popn x g < pop x) : y ≠ 0 := by
  rintro rfl
  have := popn_gap (x := x) hg (fun i h1 h2 => h.none i h1 h2)
  unfold pop at hp
  omega
theorem ranked_any (x r k : Nat) (w : World) (hx : x < 18446744073709551616) (hk : x.testBit k = true) (hr : popn x k = r) (k64 : k < 64) (hL : Laid w) :
    Calls Tryd.prog 48 #[.int .u64 x, .int .i64 r] w fun e w' => e = .returned (.int .i64 k) ∧ w' = w := by
  have hp : r < pop x := by
    have h1 : popn x (k + 1) = r + 1 := by rw [popn, hr, hk]; rfl
    have h2 := fun n => popn_mono x (a := k + 1) (b := n)
    have := h2 64 (by omega)
    unfold pop
    omega
  have r64 : r ≤ 64 := by have := popn_le x 64; unfold pop at hp; omega
  have HL := hid hL
  have HP := hid hp
  have HK := hid (And.intro hk hr)
  clear hL hp hk hr
  go_enter Tryd.func48, Tryd.ntmps48
  go_wp2_with fail
  go_loopw [0, 6] (fun xv jv wr => ∃ Y j g : Nat, xv = .int .u64 Y ∧ jv = .int .i64 j ∧ j ≤ r ∧ g ≤ 64 ∧ Y < 18446744073709551616 ∧ Hid (From x Y g) ∧ Hid (popn x g = j) ∧ wr = w) (fun _ jv _ => r - (intOf jv).toNat)
  case atStart => exact ⟨x, 0, 0, rfl, rfl, by omega, by omega, hx, hid (From.all hx), rfl, rfl⟩
  case round =>
    obtain ⟨Y, j, g, rfl, rfl, hj, hg, Y1, HF, HG, rfl⟩ := hrel
    have hY : Y ≠ 0 := HF.out.ne hg (by rw [HG.out]; have := HP.out; omega)
    obtain ⟨i, hi⟩ := lsb_ex hY
    have i64 : i < 64 := bit_small (n := 64) Y1 hi.1
    obtain ⟨q1, q2, q3⟩ := HF.out.has hi i64
    have e0 : popn x i = j := by rw [popn_gap q2 q3, HG.out]
    by_cases hlt : j < r
    · have HN := hid (HF.out.next hi i64)
      have HG2 := hid (show popn x (i + 1) = j + 1 by rw [popn, e0, q1]; rfl)
      have eY : bits .and .u64 (Y : Int) (((Y - 1 : Nat) : Int)) = ((Y &&& (Y - 1) : Nat) : Int) := u64_and_nat Y (Y - 1) Y1 (by omega)
      obtain ⟨Y', hY'⟩ : ∃ Y', Y &&& (Y - 1) = Y' := ⟨_, rfl⟩
      have Y2 : Y' < Y := by rw [← hY']; exact dec_lt hY
      rw [hY'] at eY HN
      obtain ⟨D, hD⟩ : ∃ D, Y - 1 = D := ⟨_, rfl⟩
      rw [hD] at eY
      have eD : (Y : Int) - 1 = (D : Int) := by omega
      have l1 : (j : Int) < (r : Int) := by omega
      clear hY' hD q1 q2 q3 hi e0
      go_wp2_with fail
      go_roundw
      case rel => exact ⟨Y', j + 1, i + 1, rfl, by go_num, by omega, by omega, by omega, HN, HG2, trivial⟩
      case measure => simp [intOf]; omega
    · have hjr : j = r := by omega
      subst hjr
      have hik : i = k := by
        have hk := HK.out.1
        have hr := HK.out.2
        rcases Nat.lt_trichotomy i k with h | h | h
        · have h1 : popn x (i + 1) = j + 1 := by rw [popn, e0, q1]; rfl
          have h2 := fun n => popn_mono x (a := i + 1) (b := n)
          have := h2 k (by omega)
          omega
        · exact h
        · have h1 : popn x (k + 1) = j + 1 := by rw [popn, hr, hk]; rfl
          have h2 := fun n => popn_mono x (a := k + 1) (b := n)
          have := h2 i (by omega)
          omega
      subst hik
      have C := hid (lowest_any Y i wr Y1 hi HL.out)
      have l1 : ¬ ((j : Int) < (j : Int)) := by omega
      clear q1 q2 q3 hi e0
      go_wp2_with (go_at_call 43; refine (C.out).mono ?_; rintro e w' ⟨rfl, rfl⟩)
      go_ret
      exact ⟨rfl, rfl⟩
theorem cn_mono (S : Nat → Bool) {a b : Nat} (h : a ≤ b) : cn S a ≤ cn S b := by
  induction b with
  | zero => have : a = 0 := by omega
            subst this; exact Nat.le_refl _
  | succ b ih =>
    by_cases e : a = b + 1
    · rw [e]; exact Nat.le_refl _
    · have := ih (by omega)
      show cn S a ≤ cn S b + (S b).toNat
      omega
theorem cn_gap (S : Nat → Bool) {a b : Nat} (h : a ≤ b) (hz : ∀ x, a ≤ x → x < b → S x = false) : cn S b = cn S a := by
  induction b with
  | zero => have : a = 0 := by omega
            subst this; rfl
  | succ b ih =>
    by_cases e : a = b + 1
    · rw [e]
    · rw [cn, ih (by omega) (fun x h1 h2 => hz x h1 (by omega)), hz b (by omega) (by omega)]; rfl
/-- what Count says. -/
def cntI (S : Nat → Bool) (a b : Int) : Int := if b ≤ a then 0 else (ahd S b : Int) - (ahd S a : Int)
theorem ahd_mono (S : Nat → Bool) {a b : Int} (h : a ≤ b) : ahd S a ≤ ahd S b := by
  unfold ahd; exact cn_mono S (by omega)
theorem ahd_le (S : Nat → Bool) (a : Int) : ahd S a ≤ 262144 := by
  unfold ahd; have := cn_le S (min a.toNat 262144); omega
theorem cntI_le (S : Nat → Bool) (a b : Int) (h : a ≤ b) : cntI S a b = (ahd S b : Int) - (ahd S a : Int) := by
  unfold cntI
  by_cases e : b ≤ a
  · have : a = b := by omega
    subst this
    rw [if_pos e]; omega
  · rw [if_neg e]
theorem count_any (m : Nat) (S : Nat → Bool) (a b : Int) (w : World) (hB : Bm w m S) (hL : Laid w) (h0 : 0 < w.heap.size) (ha : a < 9223372036854775808) (hb : b < 9223372036854775808) :
    Calls Tryd.prog 27 #[.pointer (some ⟨m, 0, none⟩), .int .i64 a, .int .i64 b] w fun e w' => e = .returned (.int .i64 (cntI S a b)) ∧ Below w.heap.size w w' := by
  by_cases h : b ≤ a
  · have e : cntI S a b = 0 := by unfold cntI; rw [if_pos h]
    rw [e]
    clear e hB hL
    go_enter Tryd.func27, Tryd.ntmps27
    go_wp2_with fail
    go_ret
    exact ⟨rfl, Below.refl _ _⟩
  · have e : cntI S a b = (ahd S b : Int) - (ahd S a : Int) := by unfold cntI; rw [if_neg h]
    have C1 := hid (ahead_any m S b w hB hL hb)
    have C2 := hid (fun (w' : World) (k : Below w.heap.size w w') => ahead_any m S a w' (hB.on k) (hL.on k h0) ha)
    have l1 := ahd_le S b
    have l2 := ahd_le S a
    have l3 : ahd S a ≤ ahd S b := ahd_mono S (by omega)
    rw [e]
    clear e hB hL
    go_enter Tryd.func27, Tryd.ntmps27
    go_wp2_with (first | (go_at_call 41; refine (C1.out).mono ?_; clear C1; rintro e w1 ⟨rfl, hb⟩; have HB1 := hid hb; clear hb) | (go_at_call 41; refine (C2.out _ HB1.out).mono ?_; clear C2; rintro e w2 ⟨rfl, hb⟩; have HB2 := hid (chainB HB1.out (Nat.le_refl _) hb); clear hb))
    go_ret
    exact ⟨rfl, HB2.out⟩
/-- the tick of a rank. -/
def Ats (S : Nat → Bool) (z : Int) : Option Nat → Prop
  | some u => u < 262144 ∧ S u = true ∧ (cn S u : Int) = z
  | none => z < 0 ∨ (len S : Int) ≤ z
theorem cn_lt {S : Nat → Bool} {u v : Nat} (h : u < v) (hu : S u = true) : cn S u < cn S v := by
  have h1 : cn S (u + 1) = cn S u + 1 := by rw [cn, hu]; rfl
  have h2 := cn_mono S (show u + 1 ≤ v from h)
  omega
theorem Ats.one {S : Nat → Bool} {z : Int} : ∀ {a b : Option Nat}, Ats S z a → Ats S z b → a = b
  | some a, some b, ha, hb => by
    obtain ⟨a1, a2, a3⟩ := ha
    obtain ⟨b1, b2, b3⟩ := hb
    rcases Nat.lt_trichotomy a b with h | h | h
    · have := cn_lt h a2; omega
    · rw [h]
    · have := cn_lt h b2; omega
  | some a, none, ha, hb => by
    obtain ⟨a1, a2, a3⟩ := ha
    have := cn_lt (v := 262144) a1 a2
    simp only [Ats, len] at hb
    omega
  | none, some b, ha, hb => by
    obtain ⟨a1, a2, a3⟩ := hb
    have := cn_lt (v := 262144) a1 a2
    simp only [Ats, len] at ha
    omega
  | none, none, _, _ => rfl
/-- Above is the tick of the rank that Count tells. -/
theorem abv_ats {S : Nat → Bool} {a : Nat} (ha : a < 262144) : ∀ {r : Option Nat}, Abv S (a : Int) r → Ats S (cn S a : Int) r
  | some u, h => ⟨h.1, h.2.1, by rw [cn_gap S (a := a) (b := u) (by have := h.2.2.1; omega) (fun x h1 h2 => h.2.2.2 x (by omega) h2)]⟩
  | none, h => by
    refine Or.inr ?_
    unfold len
    rw [cn_gap S (a := a) (b := 262144) (by omega) (fun x h1 h2 => h x (by omega) h2)]
    omega
end Go.Proofs.YtcbfgodknonefaaDoor
