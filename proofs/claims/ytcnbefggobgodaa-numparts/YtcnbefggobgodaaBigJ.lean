/-
  The document's Add, Sub, Mul, Part.
-/
import Derived.Test.YtcnbefggobgodaaBigI
import Derived.Test.YtcnbefggobgodaaPart2
namespace Go.Proofs.Ytcnbefggobgodaa
open Go.RowKit BigM
set_option linter.unusedVariables false

theorem pw_big (x : Int) (h : x < pw 6) : x < pw 900 := by have := pw_le 6 900 (by decide); omega
theorem pw_big' (x : Int) (h : x < pw 6) : x < pw 1000 := by have := pw_le 6 1000 (by decide); omega
theorem pw6 : pw 6 = 6277101735386680763835789423207666416102355444464034512896 := by decide
theorem word_small (x : Int) (h : Word x) : x < pw 6 := by have := h.2; have := pw6; omega

set_option maxHeartbeats 800000 in
theorem refAdd_any (a b : Int) (w : World) (ha : Word a) (hb : Word b) :
    Calls Try.prog 10 #[.int .u64 a, .int .u64 b] w fun e w' => e = .returned (.tuple #[.int .u64 (addV a b), .int .i64 (addE a b)]) ∧ Below w.heap.size w w' := by
  have HA := hid ha
  have HB := hid hb
  have P1 := hid (pw_big' a (word_small a ha))
  have P2 := hid (pw_big' b (word_small b hb))
  clear ha hb
  go_enter Try.func10, Try.ntmps10
  go_wp2_with fail
  refine (of_any a _ HA.out).mono ?_
  rintro e w1 ⟨⟨u, rfl, h1⟩, h2⟩
  have K1 := hid h1
  have L1 := hid h2
  clear h1 h2
  go_wp2_with fail
  refine (of_any b _ HB.out).mono ?_
  rintro e w2 ⟨⟨v, rfl, h1⟩, h2⟩
  have K2 := hid h1
  have L2 := hid h2
  clear h1 h2
  go_wp2_with fail
  refine (plus_any _ u v a b (K1.out.to L2.out) K2.out P1.out P2.out).mono ?_
  rintro e w3 ⟨⟨r, rfl, h1⟩, h2⟩
  have K3 := hid h1
  have L3 := hid h2
  clear h1 h2
  go_wp2_with fail
  refine (word_any _ r (a + b) K3.out).mono ?_
  rintro e w4 ⟨rfl, rfl⟩
  go_wp2
  go_ret2
  exact ⟨rfl, (L1.out.trans (L2.out.mono L1.out.size)).trans (L3.out.mono (Nat.le_trans L1.out.size L2.out.size))⟩

set_option maxHeartbeats 800000 in
theorem refMul_any (a b : Int) (w : World) (ha : Word a) (hb : Word b) :
    Calls Try.prog 14 #[.int .u64 a, .int .u64 b] w fun e w' => e = .returned (.tuple #[.int .u64 (mulV a b), .int .i64 (mulE a b)]) ∧ Below w.heap.size w w' := by
  have HA := hid ha
  have HB := hid hb
  have P1 := hid (pw_big' a (word_small a ha))
  have P2 := hid (pw_big' b (word_small b hb))
  clear ha hb
  go_enter Try.func14, Try.ntmps14
  go_wp2_with fail
  refine (of_any a _ HA.out).mono ?_
  rintro e w1 ⟨⟨u, rfl, h1⟩, h2⟩
  have K1 := hid h1
  have L1 := hid h2
  clear h1 h2
  go_wp2_with fail
  refine (of_any b _ HB.out).mono ?_
  rintro e w2 ⟨⟨v, rfl, h1⟩, h2⟩
  have K2 := hid h1
  have L2 := hid h2
  clear h1 h2
  go_wp2_with fail
  refine (times_any _ u v a b (K1.out.to L2.out) K2.out P1.out P2.out).mono ?_
  rintro e w3 ⟨⟨r, rfl, h1⟩, h2⟩
  have K3 := hid h1
  have L3 := hid h2
  clear h1 h2
  go_wp2_with fail
  refine (word_any _ r (a * b) K3.out).mono ?_
  rintro e w4 ⟨rfl, rfl⟩
  go_wp2
  go_ret2
  exact ⟨rfl, (L1.out.trans (L2.out.mono L1.out.size)).trans (L3.out.mono (Nat.le_trans L1.out.size L2.out.size))⟩

set_option maxHeartbeats 400000 in
theorem refSub_any (a b : Int) (w : World) (ha : Word a) (hb : Word b) :
    Calls Try.prog 12 #[.int .u64 a, .int .u64 b] w fun e w' => e = .returned (.tuple #[.int .u64 (subV a b), .int .i64 (subE a b)]) ∧ w' = w := by
  obtain ⟨a1, a2⟩ := ha; obtain ⟨b1, b2⟩ := hb
  unfold subV subE
  by_cases h : a < b
  · rw [if_pos h, if_pos h]
    go_enter Try.func12, Try.ntmps12
    go_wp2
    go_ret2
    exact ⟨rfl, rfl⟩
  · rw [if_neg h, if_neg h]
    go_enter Try.func12, Try.ntmps12
    go_wp2
    go_ret2
    exact ⟨rfl, rfl⟩

/-- the document's part and num's, whatever is handed in. -/
def partV' (a b c round : Int) : Int := if (0 ≤ round ∧ round ≤ 2) ∧ 0 < c then partV a b c round else 0
def partE' (a b c round : Int) : Int := if 0 ≤ round ∧ round ≤ 2 then (if 0 < c then partE a b c round else 11) else 1

theorem okRound_iff (r : Int) : okRound r ↔ 0 ≤ r ∧ r ≤ 2 := by unfold okRound; omega

theorem word_part (a b c round : Int) (hc : 0 < c) (hab : 0 ≤ a * b) :
    wordV (a * b / c + b2i (upB (a * b / c) (a * b % c) c round)) = partV a b c round ∧ wordE (a * b / c + b2i (upB (a * b / c) (a * b % c) c round)) = partE a b c round := by
  unfold partV partE
  have hbb := b2i_bounds (upB (a * b / c) (a * b % c) c round)
  by_cases h : c * 18446744073709551616 ≤ a * b
  · have hq : 18446744073709551616 ≤ a * b / c := by rw [Int.le_ediv_iff_mul_le hc]; omega
    rw [if_pos h, if_pos h]
    unfold wordV wordE
    exact ⟨if_neg (by omega), if_neg (by omega)⟩
  · rw [if_neg h, if_neg h]
    have hq : a * b / c < 18446744073709551616 := by rw [Int.ediv_lt_iff_lt_mul hc]; omega
    cases upB (a * b / c) (a * b % c) c round with
    | true =>
      simp only [b2i, if_true]
      unfold wordV wordE addV addE
      exact ⟨rfl, rfl⟩
    | false =>
      simp only [b2i, Bool.false_eq_true, if_false]
      unfold wordV wordE
      exact ⟨by rw [if_pos (by omega)]; omega, if_pos (by omega)⟩

set_option maxHeartbeats 400000 in
theorem refPart_arg (a b c round : Int) (w : World) (hr : round < 0 ∨ 2 < round) :
    Calls Try.prog 16 #[.int .u64 a, .int .u64 b, .int .u64 c, .int .i64 round] w fun e w' => e = .returned (.tuple #[.int .u64 0, .int .i64 1]) ∧ Below w.heap.size w w' := by
  rcases hr with hr | hr
  · go_enter Try.func16, Try.ntmps16
    go_wp2
    go_ret2
    exact ⟨rfl, Below.refl _ _⟩
  · have h2 : decide (round < 0) = false := by simp; omega
    go_enter Try.func16, Try.ntmps16
    go_wp2
    go_ret2
    exact ⟨rfl, Below.refl _ _⟩
set_option maxHeartbeats 400000 in
theorem refPart_zero (a b round : Int) (w : World) (h0 : decide (round < 0) = false) (h2 : decide (2 < round) = false) :
    Calls Try.prog 16 #[.int .u64 a, .int .u64 b, .int .u64 0, .int .i64 round] w fun e w' => e = .returned (.tuple #[.int .u64 0, .int .i64 11]) ∧ Below w.heap.size w w' := by
  go_enter Try.func16, Try.ntmps16
  go_wp2
  go_ret2
  exact ⟨rfl, Below.refl _ _⟩
set_option maxHeartbeats 800000 in
theorem refPart_in (a b c round : Int) (w : World) (h0 : decide (round < 0) = false) (h2 : decide (2 < round) = false) (hc : (c == 0) = false) (hr : okRound round) (ha : Word a) (hb : Word b) (hcw : Word c) :
    Calls Try.prog 16 #[.int .u64 a, .int .u64 b, .int .u64 c, .int .i64 round] w fun e w' => e = .returned (.tuple #[.int .u64 (partV a b c round), .int .i64 (partE a b c round)]) ∧ Below w.heap.size w w' := by
  have hc0 : 0 < c := by have := hcw.1; simp at hc; omega
  have hm := mul_word a b ha hb
  have HA := hid ha
  have HB := hid hb
  have HC := hid hcw
  have HR := hid hr
  have P0 := hid (pw_big (a * b) (by have := pw6; omega))
  have P1 := hid (pw_big' a (word_small a ha))
  have P2 := hid (pw_big' b (word_small b hb))
  have P3 := hid (pw_big c (word_small c hcw))
  have HW := hid (word_part a b c round hc0 hm.1)
  have C0 := hid hc0
  clear ha hb hcw hr hm hc0
  go_enter Try.func16, Try.ntmps16
  go_wp2_with fail
  refine (of_any a _ HA.out).mono ?_
  rintro e w1 ⟨⟨u, rfl, h1⟩, h2⟩
  have K1 := hid h1
  have L1 := hid h2
  clear h1 h2
  go_wp2_with fail
  refine (of_any b _ HB.out).mono ?_
  rintro e w2 ⟨⟨v, rfl, h1⟩, h2⟩
  have K2 := hid h1
  have L2 := hid h2
  clear h1 h2
  go_wp2_with fail
  refine (times_any _ u v a b (K1.out.to L2.out) K2.out P1.out P2.out).mono ?_
  rintro e w3 ⟨⟨r, rfl, h1⟩, h2⟩
  have K3 := hid h1
  have L3 := hid h2
  clear h1 h2
  go_wp2_with fail
  refine (of_any c _ HC.out).mono ?_
  rintro e w4 ⟨⟨z, rfl, h1⟩, h2⟩
  have K4 := hid h1
  have L4 := hid h2
  clear h1 h2
  go_wp2_with fail
  refine (rounded_any _ r z (a * b) c round HR.out (K3.out.to L4.out) K4.out P0.out C0.out P3.out).mono ?_
  rintro e w5 ⟨⟨s, rfl, h1⟩, h2⟩
  have K5 := hid h1
  have L5 := hid h2
  clear h1 h2
  go_wp2_with fail
  refine (word_any _ s _ K5.out).mono ?_
  rintro e w6 ⟨rfl, rfl⟩
  rw [HW.out.1, HW.out.2]
  have M3 := hid ((L1.out.trans (L2.out.mono L1.out.size)).trans (L3.out.mono (Nat.le_trans L1.out.size L2.out.size)))
  have M4 := hid (M3.out.trans (L4.out.mono M3.out.size))
  have M5 := hid (M4.out.trans (L5.out.mono M4.out.size))
  go_wp2
  go_ret2
  exact ⟨rfl, M5.out⟩

theorem refPart_any (a b c round : Int) (w : World) (ha : Word a) (hb : Word b) (hc : Word c) :
    Calls Try.prog 16 #[.int .u64 a, .int .u64 b, .int .u64 c, .int .i64 round] w fun e w' => e = .returned (.tuple #[.int .u64 (partV' a b c round), .int .i64 (partE' a b c round)]) ∧ Below w.heap.size w w' := by
  unfold partV' partE'
  by_cases hr : okRound round
  · have hr' := (okRound_iff round).1 hr
    by_cases h0 : 0 < c
    · rw [if_pos ⟨hr', h0⟩, if_pos hr', if_pos h0]
      exact refPart_in a b c round w (by simp; omega) (by simp; omega) (by simp; omega) hr ha hb hc
    · rw [if_neg (fun h => h0 h.2), if_pos ((okRound_iff round).1 hr), if_neg h0]
      have : c = 0 := by have := hc.1; omega
      subst this
      exact refPart_zero a b round w (by simp; omega) (by simp; omega)
  · have hr' : ¬ (0 ≤ round ∧ round ≤ 2) := fun h => hr ((okRound_iff round).2 h)
    rw [if_neg (fun h => hr' h.1), if_neg hr']
    exact refPart_arg a b c round w (by have := (okRound_iff round); omega)
theorem numPart_any (a b c round : Int) (w : World) (ha : Word a) (hb : Word b) (hc : Word c) :
    Calls Try.prog 15 #[.int .u64 a, .int .u64 b, .int .u64 c, .int .i64 round] w fun e w' => e = .returned (.tuple #[.int .u64 (partV' a b c round), .int .i64 (partE' a b c round)]) ∧ Below w.heap.size w w' := by
  unfold partV' partE'
  by_cases hr : okRound round
  · by_cases h0 : 0 < c
    · rw [if_pos ⟨(okRound_iff round).1 hr, h0⟩, if_pos ((okRound_iff round).1 hr), if_pos h0]
      refine (part_any a b c round w hr ha hb h0 hc.2).mono ?_
      rintro e w' ⟨rfl, n, rfl⟩
      exact ⟨rfl, below_drewN (Below.refl _ _) n⟩
    · rw [if_neg (fun h => h0 h.2), if_pos ((okRound_iff round).1 hr), if_neg h0]
      have : c = 0 := by have := hc.1; omega
      subst this
      refine (part_zero a b round w hr).mono ?_
      rintro e w' ⟨rfl, n, rfl⟩
      exact ⟨rfl, below_drewN (Below.refl _ _) n⟩
  · have hr' : ¬ (0 ≤ round ∧ round ≤ 2) := fun h => hr ((okRound_iff round).2 h)
    rw [if_neg (fun h => hr' h.1), if_neg hr']
    refine (part_arg a b c round w hr).mono ?_
    rintro e w' ⟨rfl, n, rfl⟩
    exact ⟨rfl, below_drewN (Below.refl _ _) n⟩
end Go.Proofs.Ytcnbefggobgodaa
