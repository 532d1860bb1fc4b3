/-
  Amounts: one more digit.
-/
import Derived.Test.YthikjpccmplbiaaTexA
namespace Go.Proofs.Ythikjpccmplbiaa
open Go.RowKit Go.Deep MonM
set_option linter.unusedVariables false

set_option maxHeartbeats 2000000 in
theorem behind_in (H L d H1 L1 H2 L2 H3 L3 E : Int) (w : World) (hd0 : 48 ≤ d) (hd1 : d ≤ 57)
    (P : Hid (∀ w : World, Calls Try.prog 28 #[.agg #[.int .u64 H, .int .u64 L], .int .u32 10, .int .u32 1, .int .i64 0] w fun e w' => e = .returned (.tuple #[.agg #[.int .u64 H1, .int .u64 L1], .int .i64 0]) ∧ Below w.heap.size w w'))
    (C : Hid (∀ w : World, Calls Try.prog 14 #[.int .i64 (d - 48)] w fun e w' => e = .returned (.agg #[.int .u64 H2, .int .u64 L2]) ∧ Below w.heap.size w w'))
    (A : Hid (∀ w : World, Calls Try.prog 22 #[.agg #[.int .u64 H1, .int .u64 L1], .agg #[.int .u64 H2, .int .u64 L2]] w fun e w' => e = .returned (.tuple #[.agg #[.int .u64 H3, .int .u64 L3], .int .i64 E]) ∧ Below w.heap.size w w')) :
    Calls Try.prog 39 #[.agg #[.int .u64 H, .int .u64 L], .int .u8 d] w fun e w' => e = .returned (.tuple #[.agg #[.int .u64 H3, .int .u64 L3], .bool (E == 0)]) ∧ Below w.heap.size w w' := by
  have h1 : decide (d < 48) = false := by simp; omega
  have h2 : decide (57 < d) = false := by simp; omega
  have HW := hid (show IntKind.i64.wrap (IntKind.u8.wrap (d - 48)) = d - 48 by
    have e1 : IntKind.u8.wrap (d - 48) = d - 48 := by simp [IntKind.wrap, IntKind.bits, IntKind.signed]; omega
    rw [e1, wrap_i64]; omega)
  go_enter Try.func39, Try.ntmps39
  go_wp2_with fail
  refine (P.out _).mono ?_
  rintro e w2 ⟨rfl, hb⟩
  have hz2 := hb.size
  simp at hz2
  have f2 : w2.cell? ⟨w.heap.size + 1, 0, none⟩ = some (.int .u64 0) := by rw [(bcell hb).1 _ _ (by simp)]; simp [go_sem]
  have f3 : w2.cell? ⟨w.heap.size + 1, 1, none⟩ = some (.int .u64 0) := by rw [(bcell hb).1 _ _ (by simp)]; simp [go_sem]
  have g2 : w2.frozen? ⟨w.heap.size + 1, 0, none⟩ = false := by rw [(bcell hb).2 _ _ (by simp)]; simp [go_sem]
  have g3 : w2.frozen? ⟨w.heap.size + 1, 1, none⟩ = false := by rw [(bcell hb).2 _ _ (by simp)]; simp [go_sem]
  have HT2 := hid (show Two w2 (w.heap.size + 1) 0 from by
    have h := two_new (w.alloc (.cells #[.int .u64 H, .int .u64 L] 26)) 0
    have e : (w.alloc (.cells #[.int .u64 H, .int .u64 L] 26)).heap.size = w.heap.size + 1 := by simp
    rw [e] at h
    exact rowIs_below h hb)
  have HB2 := hid hb
  clear hb
  have j2' : w.heap.size + 1 < w2.heap.size := by omega
  have p1 : w.heap.size < w2.heap.size := by omega
  have p2 : w.heap.size ≤ w2.heap.size := by omega
  have p3 : w.heap.size + 1 ≤ w2.heap.size := by omega
  go_wp2
  go_region_with (first
    | (go_at_call 14; rw [HW.out]; refine (C.out _).mono ?_; rintro e w3 ⟨rfl, hb3⟩; obtain ⟨hc3, hf3⟩ := bcell hb3; have hz3 := hb3.size; simp at hz3; have HB3 := hid hb3; have HT3 := hid (show Two w3 (w.heap.size + 1) 0 from (by first | exact rowIs_below (World.rowIs.drew (World.rowIs.alloc HT2.out _)) hb3 | exact rowIs_below (World.rowIs.drew (World.rowIs.alloc (World.rowIs.alloc HT2.out _) _)) hb3)); clear hb3; have k3 : w2.heap.size < w3.heap.size := (by omega); have i3 : w.heap.size + 1 < w3.heap.size := (by omega); have q1 : w.heap.size < w3.heap.size := (by omega); have q2 : w.heap.size ≤ w3.heap.size := (by omega); have q3 : w.heap.size + 1 ≤ w3.heap.size := (by omega); (try (have k3' : w2.heap.size + 1 < w3.heap.size := (by omega))))
    | (go_at_call 22; refine (A.out _).mono ?_; rintro e w4 ⟨rfl, hb4⟩; obtain ⟨hc4, hf4⟩ := bcell hb4; have hz4 := hb4.size; (try simp at hz4); have HB4 := hid hb4; have HT4 := hid (show Two w4 (w.heap.size + 1) 0 from (by first | exact rowIs_below HT3.out hb4 | exact rowIs_below (World.rowIs.alloc HT3.out _) hb4)); clear hb4))
  all_goals
    have i4 : w.heap.size + 1 < w4.heap.size := by omega
    go_wp2
    have hF0 : ∀ a b c d, ((((w4.setCell ⟨w2.heap.size + 1, 0, none⟩ a).setCell ⟨w2.heap.size + 1, 1, none⟩ b).setCell ⟨w.heap.size + 1, 0, none⟩ c).setCell ⟨w.heap.size + 1, 1, none⟩ d).cell? ⟨w.heap.size + 1, 0, none⟩ = some c := by
      intro a b c d
      have h := (World.rowIs.set (World.rowIs.set (World.rowIs.setOther (World.rowIs.setOther HT4.out (a := ⟨w2.heap.size + 1, 0, none⟩) (by dsimp only; omega) a) (a := ⟨w2.heap.size + 1, 1, none⟩) (by dsimp only; omega) b) 0 c) 1 d).cell (i := 0) (by decide)
      simpa using h
    have hF1 : ∀ a b c d, ((((w4.setCell ⟨w2.heap.size + 1, 0, none⟩ a).setCell ⟨w2.heap.size + 1, 1, none⟩ b).setCell ⟨w.heap.size + 1, 0, none⟩ c).setCell ⟨w.heap.size + 1, 1, none⟩ d).cell? ⟨w.heap.size + 1, 1, none⟩ = some d := by
      intro a b c d
      have h := (World.rowIs.set (World.rowIs.set (World.rowIs.setOther (World.rowIs.setOther HT4.out (a := ⟨w2.heap.size + 1, 0, none⟩) (by dsimp only; omega) a) (a := ⟨w2.heap.size + 1, 1, none⟩) (by dsimp only; omega) b) 0 c) 1 d).cell (i := 1) (by decide)
      simpa using h
    refine bodyPost_ret (v := .tuple #[.agg #[.int .u64 H3, .int .u64 L3], .bool (E == 0)]) (by simp [hF0, hF1, results, Try.results39, go_sem, hc4, hc3, i3, i4, f2, f3, j2', p1, q1]) rfl ⟨rfl, ?_⟩
    repeat (first | exact b0 w | refine Below.setCell ?_ (by dsimp only; omega) _ | refine bal ?_ _ | refine btr ?_ HB4.out | refine btr ?_ HB3.out | refine btr ?_ HB2.out | refine Below.drew ?_)

/-- one more digit behind an amount that is not below 0. -/
theorem behind_any (m d : Int) (w : World) (h0 : 0 ≤ m) (h1 : m ≤ 170141183460469231731687303715884105727) (hd0 : 0 ≤ d) (hd1 : d < 256) :
    Calls Try.prog 39 #[mv m, .int .u8 d] w fun e w' =>
      (48 ≤ d ∧ d ≤ 57 ∧ m * 10 + (d - 48) ≤ 170141183460469231731687303715884105727 ∧ e = .returned (.tuple #[mv (m * 10 + (d - 48)), .bool true]) ∨
       ¬ (48 ≤ d ∧ d ≤ 57 ∧ m * 10 + (d - 48) ≤ 170141183460469231731687303715884105727) ∧ e = .returned (.tuple #[mv 0, .bool false])) ∧ Below w.heap.size w w' := by
  by_cases hd : 48 ≤ d ∧ d ≤ 57
  · have P := fun w => portion10 m w h0 h1
    by_cases hk : m * 10 ≤ 170141183460469231731687303715884105727
    · rw [if_pos hk, if_pos hk] at P
      have a1 : Amt (m * 10) := by unfold Amt; omega
      have a2 : Amt (d - 48) := by unfold Amt; omega
      refine (behind_in _ _ d _ _ _ _ _ _ _ w hd.1 hd.2 P (fun w => cents_any (d - 48) w (by omega) (by omega)) (fun w => madd_any (m * 10) (d - 48) w a1 a2)).mono ?_
      rintro e w' ⟨rfl, hb⟩
      refine ⟨?_, hb⟩
      unfold maddV maddE
      by_cases hf : m * 10 + (d - 48) ≤ 170141183460469231731687303715884105727
      · left
        rw [if_pos (by omega), if_pos (by omega)]
        exact ⟨hd.1, hd.2, hf, rfl⟩
      · right
        rw [if_neg (by omega), if_neg (by omega)]
        exact ⟨by omega, rfl⟩
    · rw [if_neg hk, if_neg hk] at P
      refine (behind_over _ _ d w hd.1 hd.2 P).mono ?_
      rintro e w' ⟨rfl, hb⟩
      exact ⟨Or.inr ⟨by omega, rfl⟩, hb⟩
  · refine (behind_bad _ _ d w hd0 hd1 (by omega)).mono ?_
    rintro e w' ⟨rfl, hb⟩
    exact ⟨Or.inr ⟨by omega, rfl⟩, hb⟩
end Go.Proofs.Ythikjpccmplbiaa
