/-
  words, the map's own iterator: what it gives, for whatever is done in a round.
-/
import Derived.RangeFuncNested
import Derived.RangeFuncBound
import Derived.RangeFuncCalls
import Derived.RangeFuncLeaves
import Derived.Shelf.Abstract
import Derived.Shelf.RegionOpen
import Derived.WalkKit
import Derived.OwnWalkIn
import Derived.TacticsInMore
import Derived.LoopNIn
import Derived.LoopIn
import Derived.Test.YtcbfgodknonefaaDoorBmB
namespace Go.Proofs.YtcbfgodknonefaaDoor
open Go.RowKit Go.Deep Bt
set_option linter.unusedVariables false
set_option maxRecDepth 100000
set_option maxHeartbeats 2000000
attribute [local go_sem] Oper.semAt_some

/-- words without a bit are passed over. -/
theorem pass {J : Nat → World → Prop} {S : Nat → Bool} {W : World} (hs : ∀ i W, i < 4096 → lo S i = 0 → J i W → J (i + 1) W) (a d : Nat) (hd : a + d ≤ 4096) (hz : ∀ i, a ≤ i → i < a + d → lo S i = 0) (h : J a W) : J (a + d) W := by
  induction d with
  | zero => exact h
  | succ d ih =>
    have := ih (by omega) (fun i h1 h2 => hz i h1 (by omega))
    exact hs (a + d) W (by omega) (hz _ (by omega) (by omega)) this
theorem pass_to {J : Nat → World → Prop} {S : Nat → Bool} {W : World} (hs : ∀ i W, i < 4096 → lo S i = 0 → J i W → J (i + 1) W) (a c : Nat) (hac : a ≤ c) (hc : c ≤ 4096) (hz : ∀ i, a ≤ i → i < c → lo S i = 0) (h : J a W) : J c W := by
  have := pass hs a (c - a) (by omega) (fun i h1 h2 => hz i h1 (by omega)) h
  rwa [show a + (c - a) = c by omega] at this
/-- a word's bits from a place on. -/
def From (x y g : Nat) : Prop := y < 18446744073709551616 ∧ ∀ i, i < 64 → y.testBit i = (x.testBit i && decide (g ≤ i))
theorem From.all {x : Nat} (h : x < 18446744073709551616) : From x x 0 := ⟨h, fun i _ => by simp⟩
theorem From.next {x y g k : Nat} (h : From x y g) (hk : Lsb y k) (k64 : k < 64) : From x (y &&& (y - 1)) (k + 1) := by
  refine ⟨Nat.lt_of_le_of_lt Nat.and_le_left h.1, fun i hi => ?_⟩
  rw [and_pred hk]
  by_cases e : i < k
  · have h1 := hk.2 i e
    have e2 : ¬ (k + 1 ≤ i) := by omega
    simp [h1, e2]
  · by_cases e3 : i = k
    · subst e3; simp
    · have e4 : k + 1 ≤ i := by omega
      have hg : g ≤ k := by
        have := h.2 k k64
        rw [hk.1] at this
        by_cases hh : g ≤ k
        · exact hh
        · simp [hh] at this
      have e5 : g ≤ i := by omega
      rw [h.2 i hi]; simp [e3, e4, e5]
theorem From.has {x y g k : Nat} (h : From x y g) (hk : Lsb y k) (k64 : k < 64) : x.testBit k = true ∧ g ≤ k ∧ ∀ i, g ≤ i → i < k → x.testBit i = false := by
  have h1 := h.2 k k64
  rw [hk.1] at h1
  have hg : g ≤ k := by
    by_cases hh : g ≤ k
    · exact hh
    · simp [hh] at h1
  refine ⟨?_, hg, fun i a c => ?_⟩
  · simp [hg] at h1; exact h1
  · have h2 := h.2 i (by omega)
    rw [hk.2 i c] at h2
    simp [a] at h2; exact h2
theorem From.none {x g : Nat} (h : From x 0 g) : ∀ i, g ≤ i → i < 64 → x.testBit i = false := by
  intro i a c
  have h2 := h.2 i c
  simp [a] at h2; exact h2
theorem dec_lt {y : Nat} (h : y ≠ 0) : y &&& (y - 1) < y := by
  have := Nat.and_le_right (n := y) (m := y - 1); omega

theorem words_in (n : Nat) (hn : 1 ≤ n) (b : Nat) (S : Nat → Bool) (l : Nat) (J : Nat → World → Prop) (Jx : World → Prop)
    (hJ : ∀ i W, J i W → Bm W b S ∧ Laid W)
    (hs : ∀ i W, i < 4096 → lo S i = 0 → J i W → J (i + 1) W)
    (hY : ∀ i W, i < 4096 → lo S i ≠ 0 → J i W → YieldAt Fence.wide (n - 1) Tryd.prog l #[.int .i64 i] W fun e W' => (e = .returned (.bool true) ∧ J (i + 1) W') ∨ (e = .returned (.bool false) ∧ Jx W'))
    (W : World) (h0 : J 0 W) :
    CallsIn Fence.wide n Tryd.prog 46 #[.pointer (some ⟨b, 0, none⟩), .func (.yield l) #[] #[]] W fun e W' => (∃ v, e = .returned v) ∧ (J 4096 W' ∨ Jx W') := by
  have HJ := hid hJ
  have HS := hid hs
  have HY := hid hY
  clear hJ hs hY
  refine callsIn_of_wp Tryd.func46 rfl trivial ?_ rfl
  simp only [Tryd.ntmps46, List.size_toArray, List.length_cons, List.length_nil, Nat.reduceAdd, Nat.reduceSub, Array.replicate_succ, Array.replicate_zero, List.push_toArray, List.append_toArray, List.nil_append, List.cons_append]
  have c0 := (HJ.out 0 W h0).1.top
  obtain ⟨T, hT⟩ : ∃ T, tp S = T := ⟨_, rfl⟩
  rw [hT] at c0
  have T1 : T < 18446744073709551616 := by rw [← hT]; exact tp_lt S
  have HT := hid hT
  clear hT
  gi_wp2
  gi_loopw [4] (fun gv wr => ∃ G g : Nat, gv = .int .u64 G ∧ g ≤ 64 ∧ Hid (From T G g) ∧ G < 18446744073709551616 ∧ Hid (J (64 * g) wr)) (fun gv _ => (intOf gv).toNat)
  case atStart => exact ⟨T, 0, rfl, by omega, hid (From.all T1), T1, h0⟩
  case round =>
    obtain ⟨G, g, rfl, hg, HF, G1, HJ1⟩ := hrel
    by_cases hG : G = 0
    · subst hG
      have HE := hid (show J 4096 wr from pass_to HS.out (64 * g) 4096 (by omega) (by omega) (fun i a c => by
        have := HF.out.none (i / 64) (by omega) (by omega)
        rw [← HT.out, tp_bit S _ (by omega)] at this
        simp at this
        have h2 := (mi_zero S (i / 64)).1 this (i % 64) (by omega)
        rwa [show 64 * (i / 64) + i % 64 = i by omega] at h2) HJ1.out)
      gi_wp2
      go_end0
      exact ⟨⟨_, rfl⟩, Or.inl HE.out⟩
    · obtain ⟨k, hk⟩ := lsb_ex hG
      have k64 : k < 64 := bit_small (n := 64) G1 hk.1
      obtain ⟨q1, q2, q3⟩ := HF.out.has hk k64
      have HE := hid (show J (64 * k) wr from pass_to HS.out (64 * g) (64 * k) (by omega) (by omega) (fun i a c => by
        have := q3 (i / 64) (by omega) (by omega)
        rw [← HT.out, tp_bit S _ (by omega)] at this
        simp at this
        have h2 := (mi_zero S (i / 64)).1 this (i % 64) (by omega)
        rwa [show 64 * (i / 64) + i % 64 = i by omega] at h2) HJ1.out)
      have HN := hid (HF.out.next hk k64)
      have cm := (HJ.out _ _ HE.out).1.mid k k64
      obtain ⟨M, hM⟩ : ∃ M, mi S k = M := ⟨_, rfl⟩
      rw [hM] at cm
      have M1 : M < 18446744073709551616 := by rw [← hM]; exact mi_lt S k
      have HM := hid hM
      have C43 := hid (lowest_any G k wr G1 hk (HJ.out _ _ HE.out).2)
      have g1 : (G != 0) = true := by simp [hG]
      have g2 : ¬ ((G : Int) = 0) := by omega
      have g3 : ((G : Int) != 0) = true := by simp [hG]
      clear hM q1 q2 q3 hk HJ1
      gi_wp2_with (refine ⟨trivial, ?_⟩; gi_at_call 43; refine (callsIn_wide.2 C43.out).mono ?_; rintro e w' ⟨rfl, rfl⟩)
      gi_loopw [6] (fun gv w2 => ∃ X h : Nat, gv = .int .u64 X ∧ h ≤ 64 ∧ Hid (From M X h) ∧ X < 18446744073709551616 ∧ Hid (J (64 * k + h) w2)) (fun gv _ => (intOf gv).toNat)
      case atStart => exact ⟨M, 0, rfl, by omega, hid (From.all M1), M1, HE.out⟩
      case round =>
        obtain ⟨X, h, rfl, hh, HFx, X1, HJ2⟩ := hrel
        by_cases hX : X = 0
        · subst hX
          have HE2 := hid (show J (64 * (k + 1)) wr from pass_to HS.out (64 * k + h) (64 * (k + 1)) (by omega) (by omega) (fun i a c => by
            have := HFx.out.none (i % 64) (by omega) (by omega)
            rw [← HM.out, mi_bit S _ _ (by omega)] at this
            simp at this
            rwa [show 64 * k + i % 64 = i by omega] at this) HJ2.out)
          have eG : bits .and .u64 (G : Int) (((G - 1 : Nat) : Int)) = ((G &&& (G - 1) : Nat) : Int) := u64_and_nat G (G - 1) G1 (by omega)
          obtain ⟨G', hG'⟩ : ∃ G', G &&& (G - 1) = G' := ⟨_, rfl⟩
          have G2 : G' < G := by rw [← hG']; exact dec_lt hG
          rw [hG'] at eG HN
          obtain ⟨D, hD⟩ : ∃ D, G - 1 = D := ⟨_, rfl⟩
          rw [hD] at eG
          have eD : (G : Int) - 1 = (D : Int) := by omega
          clear hG' hD
          gi_wp2
          go_roundw
          case rel => exact ⟨G', k + 1, rfl, by omega, HN, by omega, HE2⟩
          case measure => simp [intOf]; omega
        · obtain ⟨j, hj⟩ := lsb_ex hX
          have j64 : j < 64 := bit_small (n := 64) X1 hj.1
          obtain ⟨q1, q2, q3⟩ := HFx.out.has hj j64
          have HE2 := hid (show J (64 * k + j) wr from pass_to HS.out (64 * k + h) (64 * k + j) (by omega) (by omega) (fun i a c => by
            have := q3 (i % 64) (by omega) (by omega)
            rw [← HM.out, mi_bit S _ _ (by omega)] at this
            simp at this
            rwa [show 64 * k + i % 64 = i by omega] at this) HJ2.out)
          rw [← HM.out, mi_bit S _ _ j64] at q1
          have hlo : lo S (64 * k + j) ≠ 0 := by simpa using q1
          have HN2 := hid (HFx.out.next hj j64)
          have C43b := hid (lowest_any X j wr X1 hj (HJ.out _ _ HE2.out).2)
          obtain ⟨fn, tmps, assign, body, hy, hR⟩ := HY.out (64 * k + j) wr (by omega) hlo HE2.out
          have g5 : ¬ ((X : Int) = 0) := by omega
          have g6 : ((X : Int) != 0) = true := by simp [hX]
          have HRR := hid hR
          clear q1 q2 q3 hj HJ2 hlo hR
          rw [show ((64 * k + j : Nat) : Int) = (k : Int) * 64 + (j : Int) by omega] at hy
          gi_wp2_with (refine ⟨trivial, ?_⟩; gi_at_call 43; refine (callsIn_wide.2 C43b.out).mono ?_; rintro e w' ⟨rfl, rfl⟩)
          refine HRR.out.mono ?_
          rintro e W3 (⟨rfl, hJ3⟩ | ⟨rfl, hJx3⟩)
          · have HJ3 := hid hJ3
            have eX : bits .and .u64 (X : Int) (((X - 1 : Nat) : Int)) = ((X &&& (X - 1) : Nat) : Int) := u64_and_nat X (X - 1) X1 (by omega)
            obtain ⟨X', hX'⟩ : ∃ X', X &&& (X - 1) = X' := ⟨_, rfl⟩
            have X2 : X' < X := by rw [← hX']; exact dec_lt hX
            rw [hX'] at eX HN2
            obtain ⟨D, hD⟩ : ∃ D, X - 1 = D := ⟨_, rfl⟩
            rw [hD] at eX
            have eD : (X : Int) - 1 = (D : Int) := by omega
            clear hX' hD hJ3
            gi_wp2
            go_roundw
            case rel => exact ⟨X', j + 1, rfl, by omega, HN2, by omega, HJ3⟩
            case measure => simp [intOf]; omega
          · gi_wp2
            refine bodyPost_ret (results_none rfl _ _ _) rfl ?_
            exact ⟨⟨_, rfl⟩, Or.inr hJx3⟩
end Go.Proofs.YtcbfgodknonefaaDoor
