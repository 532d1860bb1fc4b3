/-
  Valid, of a book without orders.
-/
import Derived.Test.YtgejmhiaghaddaaGreatTnA
namespace Go.Proofs.YtgejmhiaghaddaaGreat
open Go.RowKit Go.Deep
set_option linter.unusedVariables false
set_option linter.unusedSimpArgs false
set_option maxHeartbeats 4000000
set_option maxRecDepth 100000
def cfg (cap meet : Int) : Bool := decide (1 ≤ cap ∧ cap ≤ 4096 ∧ 0 ≤ meet ∧ meet ≤ 3)
theorem can_any (cap meet : Int) (w : World) :
    Calls Tryz.prog 43 #[.agg #[.int .i64 cap, .int .i64 meet]] w fun e w' => e = .returned (.bool (cfg cap meet)) ∧ Below w.heap.size w w' := by
  by_cases h1 : 1 ≤ cap
  · by_cases h2 : cap ≤ 4096
    · by_cases h3 : 0 ≤ meet
      · by_cases h4 : meet ≤ 3
        · rw [show cfg cap meet = true from decide_eq_true ⟨h1, h2, h3, h4⟩]
          go_enter Tryz.func43, Tryz.ntmps43
          go_wp2
          go_ret
          exact ⟨rfl, ball _ _⟩
        · rw [show cfg cap meet = false from by simp only [cfg, decide_eq_false_iff_not]; omega]
          go_enter Tryz.func43, Tryz.ntmps43
          go_wp2
          go_ret
          exact ⟨rfl, ball _ _⟩
      · rw [show cfg cap meet = false from by simp only [cfg, decide_eq_false_iff_not]; omega]
        go_enter Tryz.func43, Tryz.ntmps43
        go_wp2
        go_ret
        exact ⟨rfl, ball _ _⟩
    · rw [show cfg cap meet = false from by simp only [cfg, decide_eq_false_iff_not]; omega]
      go_enter Tryz.func43, Tryz.ntmps43
      go_wp2
      go_ret
      exact ⟨rfl, ball _ _⟩
  · rw [show cfg cap meet = false from by simp only [cfg, decide_eq_false_iff_not]; omega]
    go_enter Tryz.func43, Tryz.ntmps43
    go_wp2
    go_ret
    exact ⟨rfl, ball _ _⟩
theorem sorted_none (fn : Value) (w : World) : Calls Tryz.prog 59 #[.slice none 0 0, fn] w fun e w' => e = .returned (.bool true) ∧ Below w.heap.size w w' := by
  go_enter Tryz.func59, Tryz.ntmps59
  go_wp2
  go_loopw [5] (fun iv wr => iv = .int .i64 (-1) ∧ Hid (Below w.heap.size w wr)) (fun iv _ => 1 - (intOf iv).toNat)
  case atStart => exact ⟨by go_num, hid (Below.refl _ _)⟩
  case round =>
    obtain ⟨rfl, HB⟩ := hrel
    go_wp2
    go_ret
    exact ⟨rfl, HB.out⟩
theorem index_none (fn : Value) (w : World) : Calls Tryz.prog 83 #[.slice none 0 0, fn] w fun e w' => e = .returned (.int .i64 (-1)) ∧ Below w.heap.size w w' := by
  go_enter Tryz.func83, Tryz.ntmps83
  go_wp2
  go_loopw [8] (fun iv wr => iv = .int .i64 0 ∧ Hid (Below w.heap.size w wr)) (fun iv _ => 1 - (intOf iv).toNat)
  case atStart => exact ⟨rfl, hid (Below.refl _ _)⟩
  case round =>
    obtain ⟨rfl, HB⟩ := hrel
    go_wp2
    go_ret
    exact ⟨rfl, HB.out⟩
theorem contains_none (fn : Value) (w : World) : Calls Tryz.prog 62 #[.slice none 0 0, fn] w fun e w' => e = .returned (.bool false) ∧ Below w.heap.size w w' := by
  have C := hid (fun U => index_none fn U)
  go_enter Tryz.func62, Tryz.ntmps62
  go_wp2_with (go_at_call 83; with_reducible refine (C.out _).mono ?_; rintro e w1 ⟨rfl, hb1⟩; have HB1 := hid hb1; clear hb1)
  go_ret
  exact ⟨rfl, HB1.out⟩
theorem inPriority_none (s : Int) (w : World) : Calls Tryz.prog 44 #[.int .i64 s, .slice none 0 0] w fun e w' => e = .returned (.bool true) ∧ Below w.heap.size w w' := by
  have C := hid (fun fn U => sorted_none fn U)
  go_enter Tryz.func44, Tryz.ntmps44
  go_wp2_with (go_at_call 59; with_reducible refine (C.out _ _).mono ?_; rintro e w1 ⟨rfl, hb1⟩; have HB1 := hid hb1; clear hb1)
  go_ret
  exact ⟨rfl, btr (ball _ _) HB1.out⟩
theorem ordersCanBe_none (h : Int) (w : World) : Calls Tryz.prog 46 #[.slice none 0 0, .int .u64 h] w fun e w' => e = .returned (.bool true) ∧ Below w.heap.size w w' := by
  have C := hid (fun fn U => contains_none fn U)
  go_enter Tryz.func46, Tryz.ntmps46
  go_wp2_with (go_at_call 62; with_reducible refine (C.out _ _).mono ?_; rintro e w1 ⟨rfl, hb1⟩; have HB1 := hid hb1; clear hb1)
  go_ret
  exact ⟨rfl, btr (ball _ _) HB1.out⟩
theorem crossed_none (cap meet : Int) (w : World) : Calls Tryz.prog 45 #[.agg #[.int .i64 cap, .int .i64 meet, .slice none 0 0, .slice none 0 0, .int .u64 0, .int .u64 0]] w fun e w' => e = .returned (.bool false) ∧ Below w.heap.size w w' := by
  go_enter Tryz.func45, Tryz.ntmps45
  go_upto_region 1 with fail
  go_quiet (fail)
  go_wp2
  go_ret
  exact ⟨rfl, btr (ball _ _) (bdrew _ _)⟩
theorem len64_zero (w : World) : Calls Tryz.prog 108 #[.int .u64 0] w fun e w' => e = .returned (.int .i64 0) ∧ Below w.heap.size w w' := by
  have l8 : wrap64 (wrap64 (Lib.len8 0)) = 0 := by kernel_rfl
  go_enter Tryz.func108, Tryz.ntmps108
  go_wp2
  go_ret
  exact ⟨by simp [l8], Below.refl _ _⟩
theorem len_zero (w : World) : Calls Tryz.prog 85 #[.int .u64 0] w fun e w' => e = .returned (.int .i64 0) ∧ Below w.heap.size w w' := by
  have C := hid (fun U => len64_zero U)
  go_enter Tryz.func85, Tryz.ntmps85
  go_wp2_with (go_at_call 108; with_reducible refine (C.out _).mono ?_; rintro e w1 ⟨rfl, hb1⟩; have HB1 := hid hb1; clear hb1)
  go_ret
  exact ⟨rfl, HB1.out⟩
theorem insertion_none (w : World) : Calls Tryz.prog 98 #[.slice none 0 0, .int .i64 0, .int .i64 0] w fun e w' => e = .returned (.tuple #[]) ∧ Below w.heap.size w w' := by
  go_enter Tryz.func98, Tryz.ntmps98
  go_wp2
  go_loopw [6] (fun iv wr => iv = .int .i64 1 ∧ Hid (Below w.heap.size w wr)) (fun iv _ => 1 - (intOf iv).toNat)
  case atStart => exact ⟨by go_num, hid (Below.refl _ _)⟩
  case round =>
    obtain ⟨rfl, HB⟩ := hrel
    go_wp2
    (first | go_ret | go_ret2 | go_end0)
    exact ⟨rfl, HB.out⟩
theorem pdq_none (w : World) : Calls Tryz.prog 84 #[.slice none 0 0, .int .i64 0, .int .i64 0, .int .i64 0] w fun e w' => e = .returned (.tuple #[]) ∧ Below w.heap.size w w' := by
  have C := hid (fun U => insertion_none U)
  go_enter Tryz.func84, Tryz.ntmps84
  go_wp2
  go_loopw [1, 2] (fun a b wr => a = .int .i64 0 ∧ b = .int .i64 0 ∧ Hid (Below w.heap.size w wr)) (fun _ iv _ => 1 - (intOf iv).toNat)
  case atStart => exact ⟨rfl, rfl, hid (Below.refl _ _)⟩
  case round =>
    obtain ⟨rfl, rfl, HB⟩ := hrel
    go_wp2_with (go_at_call 98; with_reducible refine (C.out _).mono ?_; rintro e w1 ⟨rfl, hb1⟩; have HB1 := hid hb1; clear hb1)
    (try simp only [Exit.inBlock, Exit.then]); refine bodyPost_ret (results_none rfl _ _ _) rfl ?_
    exact ⟨rfl, btr HB.out HB1.out⟩
theorem sort_none (w : World) : Calls Tryz.prog 67 #[.slice none 0 0] w fun e w' => e = .returned (.tuple #[]) ∧ Below w.heap.size w w' := by
  have C := hid (fun U => len_zero U)
  have D := hid (fun U => pdq_none U)
  go_enter Tryz.func67, Tryz.ntmps67
  go_wp2_with (first | (go_at_call 85; with_reducible refine (C.out _).mono ?_; rintro e w1 ⟨rfl, hb1⟩; have HB1 := hid hb1; clear hb1) | (go_at_call 84; with_reducible refine (D.out _).mono ?_; rintro e w2 ⟨rfl, hb2⟩; have HB2 := hid hb2; clear hb2))
  (first | go_ret | go_ret2 | go_end0)
  exact ⟨rfl, btr HB1.out HB2.out⟩
theorem compact_none (w : World) : Calls Tryz.prog 68 #[.slice none 0 0] w fun e w' => e = .returned (.slice none 0 0) ∧ Below w.heap.size w w' := by
  go_enter Tryz.func68, Tryz.ntmps68
  go_wp2
  go_ret
  exact ⟨rfl, Below.refl _ _⟩
end Go.Proofs.YtgejmhiaghaddaaGreat
