/-
  NumPart: the part down, up, nearest.
-/
import Derived.Test.YtcnbefggobgodaaPart2
import Derived.ProofKit
import Derived.OpenShut
namespace Go.Proofs.Ytcnbefggobgodaa.numPart
open Go.ChangeShapes Go.WideShapes Go.ChangeAt Go.RowKit
set_option linter.unusedVariables false

theorem own : ownKnob Try.prog.godebug = none := by kernel_rfl
theorem grown_drewN {W w' : World} {n : Nat} (h : Grown W w') : Grown W (w'.drewN n) := h

set_option maxHeartbeats 1000000 in
set_option maxRecDepth 100000 in
theorem walk0 (a b : Int) (w : World)
  (c1 : Hid (∀ w : World, Calls Try.prog 15 #[.int .u64 a, .int .u64 b, .int .u64 0, .int .i64 0] w fun e w' => e = .returned (.tuple #[.int .u64 0, .int .i64 11]) ∧ ∃ n, w' = w.drewN n))
  (c2 : Hid (∀ w : World, Calls Try.prog 15 #[.int .u64 a, .int .u64 b, .int .u64 0, .int .i64 1] w fun e w' => e = .returned (.tuple #[.int .u64 0, .int .i64 11]) ∧ ∃ n, w' = w.drewN n))
  (c3 : Hid (∀ w : World, Calls Try.prog 15 #[.int .u64 a, .int .u64 b, .int .u64 0, .int .i64 2] w fun e w' => e = .returned (.tuple #[.int .u64 0, .int .i64 11]) ∧ ∃ n, w' = w.drewN n))
  (c4 : Hid (∀ w : World, Calls Try.prog 15 #[.int .u64 a, .int .u64 b, .int .u64 0, .int .i64 3] w fun e w' => e = .returned (.tuple #[.int .u64 0, .int .i64 1]) ∧ ∃ n, w' = w.drewN n)) :
    Calls Try.prog 8 #[.int .u64 a, .int .u64 b, .int .u64 0] w fun e w' => e = .returned (.bool true) ∧ Grown w w' := by
  go_enter Try.func8, Try.ntmps8
  go_wp2_with fail
  refine (c1.out _).mono ?_; rintro e wc1 ⟨rfl, nc1, rfl⟩
  go_wp2_with fail
  refine (c2.out _).mono ?_; rintro e wc2 ⟨rfl, nc2, rfl⟩
  go_wp2_with fail
  refine (c3.out _).mono ?_; rintro e wc3 ⟨rfl, nc3, rfl⟩
  go_wp2_with fail
  refine (c4.out _).mono ?_; rintro e wc4 ⟨rfl, nc4, rfl⟩
  go_wp2
  go_ret
  exact ⟨rfl, by repeat (first | exact Grown.refl _ | refine grown_drewN ?_ | apply Grown.alloc)⟩

set_option maxHeartbeats 1000000 in
set_option maxRecDepth 100000 in
theorem walkOver (a b c D e0 U f N g p : Int) (w : World) (hc : (c == 0) = false) (hb : (b == 0) = false) (hD : (e0 != 0) = true ∨ (e0 != 0) = false ∧ 0 < D)
  (c1 : Hid (∀ w : World, Calls Try.prog 15 #[.int .u64 a, .int .u64 b, .int .u64 c, .int .i64 0] w fun e w' => e = .returned (.tuple #[.int .u64 D, .int .i64 e0]) ∧ ∃ n, w' = w.drewN n))
  (c2 : Hid (∀ w : World, Calls Try.prog 15 #[.int .u64 a, .int .u64 b, .int .u64 c, .int .i64 1] w fun e w' => e = .returned (.tuple #[.int .u64 U, .int .i64 f]) ∧ ∃ n, w' = w.drewN n))
  (c3 : Hid (∀ w : World, Calls Try.prog 15 #[.int .u64 a, .int .u64 b, .int .u64 c, .int .i64 2] w fun e w' => e = .returned (.tuple #[.int .u64 N, .int .i64 g]) ∧ ∃ n, w' = w.drewN n))
  (c4 : Hid (∀ w : World, Calls Try.prog 15 #[.int .u64 a, .int .u64 b, .int .u64 c, .int .i64 3] w fun e w' => e = .returned (.tuple #[.int .u64 0, .int .i64 1]) ∧ ∃ n, w' = w.drewN n))
  (c5 : Hid (∀ w : World, Calls Try.prog 13 #[.int .u64 a, .int .u64 b] w fun e w' => e = .returned (.tuple #[.int .u64 p, .int .i64 10]) ∧ w' = w))
  (c6 : Hid (∀ w : World, Calls Try.prog 15 #[.int .u64 a, .int .u64 b, .int .u64 b, .int .i64 0] w fun e w' => e = .returned (.tuple #[.int .u64 a, .int .i64 0]) ∧ ∃ n, w' = w.drewN n)) :
    Calls Try.prog 8 #[.int .u64 a, .int .u64 b, .int .u64 c] w fun e w' => e = .returned (.bool true) ∧ Grown w w' := by
  rcases hD with hD | ⟨hD, hp⟩
  all_goals
    go_enter Try.func8, Try.ntmps8
    go_wp2_with fail
    refine (c1.out _).mono ?_; rintro e wc1 ⟨rfl, nc1, rfl⟩
    go_wp2_with fail
    refine (c2.out _).mono ?_; rintro e wc2 ⟨rfl, nc2, rfl⟩
    go_wp2_with fail
    refine (c3.out _).mono ?_; rintro e wc3 ⟨rfl, nc3, rfl⟩
    go_wp2_with fail
    refine (c4.out _).mono ?_; rintro e wc4 ⟨rfl, nc4, rfl⟩
    go_wp2_with fail
    refine (c5.out _).mono ?_; rintro e wc5 ⟨rfl, rfl⟩
    go_wp2_with fail
    refine (c6.out _).mono ?_; rintro e wc6 ⟨rfl, nc6, rfl⟩
    go_wp2
    go_ret
    exact ⟨rfl, by repeat (first | exact Grown.refl _ | refine grown_drewN ?_ | apply Grown.alloc)⟩

set_option maxHeartbeats 1000000 in
set_option maxRecDepth 100000 in
theorem walkZero (a b c p D : Int) (w : World) (hc : 0 < c) (hc1 : c < 18446744073709551616) (hp : p / c = D) (hr : p % c = 0) (p0 : 0 ≤ p) (p1 : p < 18446744073709551616) (D0 : 0 ≤ D) (D1 : D < 18446744073709551616)
  (c1 : Hid (∀ w : World, Calls Try.prog 15 #[.int .u64 a, .int .u64 b, .int .u64 c, .int .i64 0] w fun e w' => e = .returned (.tuple #[.int .u64 D, .int .i64 0]) ∧ ∃ n, w' = w.drewN n))
  (c2 : Hid (∀ w : World, Calls Try.prog 15 #[.int .u64 a, .int .u64 b, .int .u64 c, .int .i64 1] w fun e w' => e = .returned (.tuple #[.int .u64 D, .int .i64 0]) ∧ ∃ n, w' = w.drewN n))
  (c3 : Hid (∀ w : World, Calls Try.prog 15 #[.int .u64 a, .int .u64 b, .int .u64 c, .int .i64 2] w fun e w' => e = .returned (.tuple #[.int .u64 D, .int .i64 0]) ∧ ∃ n, w' = w.drewN n))
  (c4 : Hid (∀ w : World, Calls Try.prog 15 #[.int .u64 a, .int .u64 b, .int .u64 c, .int .i64 3] w fun e w' => e = .returned (.tuple #[.int .u64 0, .int .i64 1]) ∧ ∃ n, w' = w.drewN n))
  (c5 : Hid (∀ w : World, Calls Try.prog 13 #[.int .u64 a, .int .u64 b] w fun e w' => e = .returned (.tuple #[.int .u64 p, .int .i64 0]) ∧ w' = w)) :
    Calls Try.prog 8 #[.int .u64 a, .int .u64 b, .int .u64 c] w fun e w' => e = .returned (.bool true) ∧ Grown w w' := by
  have hcb : (c == 0) = false := by simp; omega
  go_enter Try.func8, Try.ntmps8
  go_wp2_with fail
  refine (c1.out _).mono ?_; rintro e wc1 ⟨rfl, nc1, rfl⟩
  go_wp2_with fail
  refine (c2.out _).mono ?_; rintro e wc2 ⟨rfl, nc2, rfl⟩
  go_wp2_with fail
  refine (c3.out _).mono ?_; rintro e wc3 ⟨rfl, nc3, rfl⟩
  go_wp2_with fail
  refine (c4.out _).mono ?_; rintro e wc4 ⟨rfl, nc4, rfl⟩
  go_wp2_with fail
  refine (c5.out _).mono ?_; rintro e wc5 ⟨rfl, rfl⟩
  go_wp2
  go_ret
  exact ⟨rfl, by repeat (first | exact Grown.refl _ | refine grown_drewN ?_ | apply Grown.alloc)⟩

set_option maxHeartbeats 1000000 in
set_option maxRecDepth 100000 in
theorem walkHalfA (a b c p D r : Int) (w : World) (hc : 0 < c) (hc1 : c < 18446744073709551616) (hp : p / c = D) (hr : p % c = r) (p0 : 0 ≤ p) (p1 : p < 18446744073709551616) (D0 : 0 ≤ D) (D1 : D < 18446744073709551616) (r0 : 0 ≤ r) (r1 : r < c) (hz : (r == 0) = false) (hz2 : 0 < r) (hD2 : D + 1 < 18446744073709551616) (hh : (r == c - r) = true) (hev : (D % 2 == 0) = true) (hne : (D == D + 1) = false)
  (c1 : Hid (∀ w : World, Calls Try.prog 15 #[.int .u64 a, .int .u64 b, .int .u64 c, .int .i64 0] w fun e w' => e = .returned (.tuple #[.int .u64 D, .int .i64 0]) ∧ ∃ n, w' = w.drewN n))
  (c2 : Hid (∀ w : World, Calls Try.prog 15 #[.int .u64 a, .int .u64 b, .int .u64 c, .int .i64 1] w fun e w' => e = .returned (.tuple #[.int .u64 (D + 1), .int .i64 0]) ∧ ∃ n, w' = w.drewN n))
  (c3 : Hid (∀ w : World, Calls Try.prog 15 #[.int .u64 a, .int .u64 b, .int .u64 c, .int .i64 2] w fun e w' => e = .returned (.tuple #[.int .u64 D, .int .i64 0]) ∧ ∃ n, w' = w.drewN n))
  (c4 : Hid (∀ w : World, Calls Try.prog 15 #[.int .u64 a, .int .u64 b, .int .u64 c, .int .i64 3] w fun e w' => e = .returned (.tuple #[.int .u64 0, .int .i64 1]) ∧ ∃ n, w' = w.drewN n))
  (c5 : Hid (∀ w : World, Calls Try.prog 13 #[.int .u64 a, .int .u64 b] w fun e w' => e = .returned (.tuple #[.int .u64 p, .int .i64 0]) ∧ w' = w)) :
    Calls Try.prog 8 #[.int .u64 a, .int .u64 b, .int .u64 c] w fun e w' => e = .returned (.bool true) ∧ Grown w w' := by
  have hcb : (c == 0) = false := by simp; omega
  go_enter Try.func8, Try.ntmps8
  go_wp2_with fail
  refine (c1.out _).mono ?_; rintro e wc1 ⟨rfl, nc1, rfl⟩
  go_wp2_with fail
  refine (c2.out _).mono ?_; rintro e wc2 ⟨rfl, nc2, rfl⟩
  go_wp2_with fail
  refine (c3.out _).mono ?_; rintro e wc3 ⟨rfl, nc3, rfl⟩
  go_wp2_with fail
  refine (c4.out _).mono ?_; rintro e wc4 ⟨rfl, nc4, rfl⟩
  go_wp2_with fail
  refine (c5.out _).mono ?_; rintro e wc5 ⟨rfl, rfl⟩
  go_wp2
  go_ret
  exact ⟨rfl, by repeat (first | exact Grown.refl _ | refine grown_drewN ?_ | apply Grown.alloc)⟩

set_option maxHeartbeats 1000000 in
set_option maxRecDepth 100000 in
theorem walkHalfB (a b c p D r : Int) (w : World) (hc : 0 < c) (hc1 : c < 18446744073709551616) (hp : p / c = D) (hr : p % c = r) (p0 : 0 ≤ p) (p1 : p < 18446744073709551616) (D0 : 0 ≤ D) (D1 : D < 18446744073709551616) (r0 : 0 ≤ r) (r1 : r < c) (hz : (r == 0) = false) (hz2 : 0 < r) (hD2 : D + 1 < 18446744073709551616) (hh : (r == c - r) = true) (hev : ((D + 1) % 2 == 0) = true) (hne : (D + 1 == D) = false)
  (c1 : Hid (∀ w : World, Calls Try.prog 15 #[.int .u64 a, .int .u64 b, .int .u64 c, .int .i64 0] w fun e w' => e = .returned (.tuple #[.int .u64 D, .int .i64 0]) ∧ ∃ n, w' = w.drewN n))
  (c2 : Hid (∀ w : World, Calls Try.prog 15 #[.int .u64 a, .int .u64 b, .int .u64 c, .int .i64 1] w fun e w' => e = .returned (.tuple #[.int .u64 (D + 1), .int .i64 0]) ∧ ∃ n, w' = w.drewN n))
  (c3 : Hid (∀ w : World, Calls Try.prog 15 #[.int .u64 a, .int .u64 b, .int .u64 c, .int .i64 2] w fun e w' => e = .returned (.tuple #[.int .u64 (D + 1), .int .i64 0]) ∧ ∃ n, w' = w.drewN n))
  (c4 : Hid (∀ w : World, Calls Try.prog 15 #[.int .u64 a, .int .u64 b, .int .u64 c, .int .i64 3] w fun e w' => e = .returned (.tuple #[.int .u64 0, .int .i64 1]) ∧ ∃ n, w' = w.drewN n))
  (c5 : Hid (∀ w : World, Calls Try.prog 13 #[.int .u64 a, .int .u64 b] w fun e w' => e = .returned (.tuple #[.int .u64 p, .int .i64 0]) ∧ w' = w)) :
    Calls Try.prog 8 #[.int .u64 a, .int .u64 b, .int .u64 c] w fun e w' => e = .returned (.bool true) ∧ Grown w w' := by
  have hcb : (c == 0) = false := by simp; omega
  go_enter Try.func8, Try.ntmps8
  go_wp2_with fail
  refine (c1.out _).mono ?_; rintro e wc1 ⟨rfl, nc1, rfl⟩
  go_wp2_with fail
  refine (c2.out _).mono ?_; rintro e wc2 ⟨rfl, nc2, rfl⟩
  go_wp2_with fail
  refine (c3.out _).mono ?_; rintro e wc3 ⟨rfl, nc3, rfl⟩
  go_wp2_with fail
  refine (c4.out _).mono ?_; rintro e wc4 ⟨rfl, nc4, rfl⟩
  go_wp2_with fail
  refine (c5.out _).mono ?_; rintro e wc5 ⟨rfl, rfl⟩
  go_wp2
  go_ret
  exact ⟨rfl, by repeat (first | exact Grown.refl _ | refine grown_drewN ?_ | apply Grown.alloc)⟩

set_option maxHeartbeats 1000000 in
set_option maxRecDepth 100000 in
theorem walkMore (a b c p D r : Int) (w : World) (hc : 0 < c) (hc1 : c < 18446744073709551616) (hp : p / c = D) (hr : p % c = r) (p0 : 0 ≤ p) (p1 : p < 18446744073709551616) (D0 : 0 ≤ D) (D1 : D < 18446744073709551616) (r0 : 0 ≤ r) (r1 : r < c) (hz : (r == 0) = false) (hz2 : 0 < r) (hD2 : D + 1 < 18446744073709551616) (hh : (r == c - r) = false) (hm : c - r < r) (hne : (D + 1 == D) = false)
  (c1 : Hid (∀ w : World, Calls Try.prog 15 #[.int .u64 a, .int .u64 b, .int .u64 c, .int .i64 0] w fun e w' => e = .returned (.tuple #[.int .u64 D, .int .i64 0]) ∧ ∃ n, w' = w.drewN n))
  (c2 : Hid (∀ w : World, Calls Try.prog 15 #[.int .u64 a, .int .u64 b, .int .u64 c, .int .i64 1] w fun e w' => e = .returned (.tuple #[.int .u64 (D + 1), .int .i64 0]) ∧ ∃ n, w' = w.drewN n))
  (c3 : Hid (∀ w : World, Calls Try.prog 15 #[.int .u64 a, .int .u64 b, .int .u64 c, .int .i64 2] w fun e w' => e = .returned (.tuple #[.int .u64 (D + 1), .int .i64 0]) ∧ ∃ n, w' = w.drewN n))
  (c4 : Hid (∀ w : World, Calls Try.prog 15 #[.int .u64 a, .int .u64 b, .int .u64 c, .int .i64 3] w fun e w' => e = .returned (.tuple #[.int .u64 0, .int .i64 1]) ∧ ∃ n, w' = w.drewN n))
  (c5 : Hid (∀ w : World, Calls Try.prog 13 #[.int .u64 a, .int .u64 b] w fun e w' => e = .returned (.tuple #[.int .u64 p, .int .i64 0]) ∧ w' = w)) :
    Calls Try.prog 8 #[.int .u64 a, .int .u64 b, .int .u64 c] w fun e w' => e = .returned (.bool true) ∧ Grown w w' := by
  have hcb : (c == 0) = false := by simp; omega
  go_enter Try.func8, Try.ntmps8
  go_wp2_with fail
  refine (c1.out _).mono ?_; rintro e wc1 ⟨rfl, nc1, rfl⟩
  go_wp2_with fail
  refine (c2.out _).mono ?_; rintro e wc2 ⟨rfl, nc2, rfl⟩
  go_wp2_with fail
  refine (c3.out _).mono ?_; rintro e wc3 ⟨rfl, nc3, rfl⟩
  go_wp2_with fail
  refine (c4.out _).mono ?_; rintro e wc4 ⟨rfl, nc4, rfl⟩
  go_wp2_with fail
  refine (c5.out _).mono ?_; rintro e wc5 ⟨rfl, rfl⟩
  go_wp2
  go_ret
  exact ⟨rfl, by repeat (first | exact Grown.refl _ | refine grown_drewN ?_ | apply Grown.alloc)⟩

set_option maxHeartbeats 1000000 in
set_option maxRecDepth 100000 in
theorem walkLess (a b c p D r : Int) (w : World) (hc : 0 < c) (hc1 : c < 18446744073709551616) (hp : p / c = D) (hr : p % c = r) (p0 : 0 ≤ p) (p1 : p < 18446744073709551616) (D0 : 0 ≤ D) (D1 : D < 18446744073709551616) (r0 : 0 ≤ r) (r1 : r < c) (hz : (r == 0) = false) (hz2 : 0 < r) (hD2 : D + 1 < 18446744073709551616) (hh : (r == c - r) = false) (hm : decide (c - r < r) = false) (hne : (D == D + 1) = false)
  (c1 : Hid (∀ w : World, Calls Try.prog 15 #[.int .u64 a, .int .u64 b, .int .u64 c, .int .i64 0] w fun e w' => e = .returned (.tuple #[.int .u64 D, .int .i64 0]) ∧ ∃ n, w' = w.drewN n))
  (c2 : Hid (∀ w : World, Calls Try.prog 15 #[.int .u64 a, .int .u64 b, .int .u64 c, .int .i64 1] w fun e w' => e = .returned (.tuple #[.int .u64 (D + 1), .int .i64 0]) ∧ ∃ n, w' = w.drewN n))
  (c3 : Hid (∀ w : World, Calls Try.prog 15 #[.int .u64 a, .int .u64 b, .int .u64 c, .int .i64 2] w fun e w' => e = .returned (.tuple #[.int .u64 D, .int .i64 0]) ∧ ∃ n, w' = w.drewN n))
  (c4 : Hid (∀ w : World, Calls Try.prog 15 #[.int .u64 a, .int .u64 b, .int .u64 c, .int .i64 3] w fun e w' => e = .returned (.tuple #[.int .u64 0, .int .i64 1]) ∧ ∃ n, w' = w.drewN n))
  (c5 : Hid (∀ w : World, Calls Try.prog 13 #[.int .u64 a, .int .u64 b] w fun e w' => e = .returned (.tuple #[.int .u64 p, .int .i64 0]) ∧ w' = w)) :
    Calls Try.prog 8 #[.int .u64 a, .int .u64 b, .int .u64 c] w fun e w' => e = .returned (.bool true) ∧ Grown w w' := by
  have hcb : (c == 0) = false := by simp; omega
  go_enter Try.func8, Try.ntmps8
  go_wp2_with fail
  refine (c1.out _).mono ?_; rintro e wc1 ⟨rfl, nc1, rfl⟩
  go_wp2_with fail
  refine (c2.out _).mono ?_; rintro e wc2 ⟨rfl, nc2, rfl⟩
  go_wp2_with fail
  refine (c3.out _).mono ?_; rintro e wc3 ⟨rfl, nc3, rfl⟩
  go_wp2_with fail
  refine (c4.out _).mono ?_; rintro e wc4 ⟨rfl, nc4, rfl⟩
  go_wp2_with fail
  refine (c5.out _).mono ?_; rintro e wc5 ⟨rfl, rfl⟩
  go_wp2
  go_ret
  exact ⟨rfl, by repeat (first | exact Grown.refl _ | refine grown_drewN ?_ | apply Grown.alloc)⟩

theorem upB0 (q r c : Int) : upB q r c 0 = false := by simp [upB]
theorem upB1 (q r c : Int) : upB q r c 1 = decide (0 < r) := by simp [upB]
theorem upB2 (q r c : Int) : upB q r c 2 = (decide (c - r < r) || (r == c - r && q % 2 == 1)) := by simp [upB]

/-- the walk. -/
theorem walk (a0 : Int) (a1 : Int) (a2 : Int) (w0 : (Lit.int .u64 a0).wf = true) (w1 : (Lit.int .u64 a1).wf = true) (w2 : (Lit.int .u64 a2).wf = true) (w : World) :
    Calls Try.prog 8 #[.int .u64 a0, .int .u64 a1, .int .u64 a2] w fun e w' => e = .returned (.bool true) ∧ Grown w w' := by
  have ha : Word a0 := by have := bounds_u64 w0; unfold Word; omega
  have hb : Word a1 := by have := bounds_u64 w1; unfold Word; omega
  have hc : Word a2 := by have := bounds_u64 w2; unfold Word; omega
  have o0 : okRound 0 := by simp [okRound]
  have o1 : okRound 1 := by simp [okRound]
  have o2 : okRound 2 := by simp [okRound]
  have o3 : ¬ okRound 3 := by simp [okRound]
  by_cases hz : a2 = 0
  · subst hz
    exact walk0 a0 a1 w (fun w => part_zero a0 a1 0 w o0) (fun w => part_zero a0 a1 1 w o1) (fun w => part_zero a0 a1 2 w o2) (fun w => part_arg a0 a1 0 3 w o3)
  have c0 : 0 < a2 := by have := hc.1; omega
  have k1 := fun w => part_any a0 a1 a2 0 w o0 ha hb c0 hc.2
  have k2 := fun w => part_any a0 a1 a2 1 w o1 ha hb c0 hc.2
  have k3 := fun w => part_any a0 a1 a2 2 w o2 ha hb c0 hc.2
  have k4 := fun w => part_arg a0 a1 a2 3 w o3
  have k5 := fun w => mul_any a0 a1 w ha hb
  have hm := mul_word a0 a1 ha hb
  by_cases ho : a0 * a1 < 18446744073709551616
  · have e1 : mulV a0 a1 = a0 * a1 := if_pos ho
    have e2 : mulE a0 a1 = 0 := if_pos ho
    rw [e1, e2] at k5
    have hn : ¬ a2 * 18446744073709551616 ≤ a0 * a1 := by omega
    have hV : ∀ r, partV a0 a1 a2 r = if upB (a0 * a1 / a2) (a0 * a1 % a2) a2 r then addV (a0 * a1 / a2) 1 else a0 * a1 / a2 := fun r => if_neg hn
    have hE : ∀ r, partE a0 a1 a2 r = if upB (a0 * a1 / a2) (a0 * a1 % a2) a2 r then addE (a0 * a1 / a2) 1 else 0 := fun r => if_neg hn
    rw [hV, hE, upB0] at k1
    rw [hV, hE, upB1] at k2
    rw [hV, hE, upB2] at k3
    generalize hpp : a0 * a1 = p at *
    have dm := Int.mul_ediv_add_emod p a2
    have r0 := Int.emod_nonneg p (show a2 ≠ 0 by omega)
    have r1 := Int.emod_lt_of_pos p c0
    have q0 : 0 ≤ p / a2 := Int.ediv_nonneg hm.1 (by omega)
    have q1 : p / a2 ≤ p := Int.ediv_le_self a2 hm.1
    have hq2 : 0 < p % a2 → p / a2 + 1 < 18446744073709551616 := by
      intro hr
      have h2 : 2 * (p / a2) ≤ a2 * (p / a2) := Int.mul_le_mul_of_nonneg_right (by omega) q0
      omega
    generalize hD : p / a2 = D at *
    generalize hR : p % a2 = R at *
    by_cases rz : R = 0
    · subst rz
      have t1 : decide (0 < (0 : Int)) = false := by decide
      have t2 : (decide (a2 - 0 < 0) || ((0 : Int) == a2 - 0 && D % 2 == 1)) = false := by simp; omega
      rw [t1] at k2
      rw [t2] at k3
      exact walkZero a0 a1 a2 p D w c0 hc.2 hD hR hm.1 ho q0 (by omega) k1 k2 k3 k4 k5
    · have hD2 := hq2 (by omega)
      have t1 : decide (0 < R) = true := by simp; omega
      have t3 : addV D 1 = D + 1 := if_pos (by omega)
      have t4 : addE D 1 = 0 := if_pos (by omega)
      have hzb : (R == 0) = false := by simp; omega
      rw [t1, t3, t4] at k2
      rw [t3, t4] at k3
      by_cases hh : R = a2 - R
      · have t6 : (R == a2 - R) = true := by simpa using hh
        have t5 : decide (a2 - R < R) = false := by simp; omega
        by_cases hev : D % 2 = 0
        · have t7 : (D % 2 == 1) = false := by simp; omega
          rw [t5, t6, t7] at k3
          exact walkHalfA a0 a1 a2 p D R w c0 hc.2 hD hR hm.1 ho q0 (by omega) (by omega) (by omega) hzb (by omega) hD2 t6 (by simpa using hev) (by simp; omega) k1 k2 k3 k4 k5
        · have t7 : (D % 2 == 1) = true := by simp; omega
          rw [t5, t6, t7] at k3
          exact walkHalfB a0 a1 a2 p D R w c0 hc.2 hD hR hm.1 ho q0 (by omega) (by omega) (by omega) hzb (by omega) hD2 t6 (by simp; omega) (by simp; omega) k1 k2 k3 k4 k5
      · have t6 : (R == a2 - R) = false := by simpa using hh
        by_cases hl : a2 - R < R
        · have t5 : decide (a2 - R < R) = true := by simpa using hl
          rw [t5] at k3
          exact walkMore a0 a1 a2 p D R w c0 hc.2 hD hR hm.1 ho q0 (by omega) (by omega) (by omega) hzb (by omega) hD2 t6 hl (by simp; omega) k1 k2 k3 k4 k5
        · have t5 : decide (a2 - R < R) = false := by simpa using hl
          rw [t5, t6] at k3
          exact walkLess a0 a1 a2 p D R w c0 hc.2 hD hR hm.1 ho q0 (by omega) (by omega) (by omega) hzb (by omega) hD2 t6 t5 (by simp; omega) k1 k2 k3 k4 k5
  · have e2 : mulE a0 a1 = 10 := if_neg ho
    rw [e2] at k5
    have hb0 : a1 ≠ 0 := by intro h; rw [h] at ho; simp at ho
    have b0 : 0 < a1 := by have := hb.1; omega
    have k6 := fun w => part_any a0 a1 a1 0 w o0 ha hb b0 hb.2
    have hlt : ¬ a1 * 18446744073709551616 ≤ a0 * a1 := by
      have h2 : a0 * a1 < 18446744073709551616 * a1 := Int.mul_lt_mul_of_pos_right ha.2 b0
      omega
    have e3 : partV a0 a1 a1 0 = a0 := by
      unfold partV
      rw [if_neg hlt, upB0]
      simp only [Bool.false_eq_true, if_false]
      exact Int.mul_ediv_cancel a0 (by omega)
    have e4 : partE a0 a1 a1 0 = 0 := by
      unfold partE
      rw [if_neg hlt, upB0]
      rfl
    rw [e3, e4] at k6
    refine walkOver a0 a1 a2 _ _ _ _ _ _ _ w (by simp; omega) (by simp; omega) ?_ k1 k2 k3 k4 k5 k6
    by_cases h : a2 * 18446744073709551616 ≤ a0 * a1
    · left
      unfold partE
      rw [if_pos h]
      rfl
    · right
      unfold partE partV
      rw [if_neg h, if_neg h, upB0]
      refine ⟨rfl, ?_⟩
      simp only [Bool.false_eq_true, if_false]
      have : 1 ≤ a0 * a1 / a2 := by rw [Int.le_ediv_iff_mul_le c0]; have := hc.2; omega
      omega

set_option maxRecDepth 100000 in
theorem lifted (os : Os) (started : os.Started) (H : Type) (enc : TypeId × Value → H) :
    ReturnsInHanded {} Try.checked os 8 .any (Rows.numPartSpec.pre6 enc Try.prog Try.f8 Rows.numPartRow.domain false) (Rows.numPartSpec.post enc Try.prog Try.f8 false true false false) := by
  refine returnsInHanded_of_change (C := Try.checked) own started (by kernel_rfl) Try.func8
    (ChangeSpec.witness6 (enc := enc) (C := Try.checked) false ⟨#[], #[.int .u64 0, .int .u64 0, .int .u64 0], []⟩ 8 (by kernel_rfl) (by kernel_rfl) (by kernel_rfl) (by kernel_rfl)) ?_
  intro W base args ds gs before hval0 hW hcnd _
  have hval : ∀ (j : Nat) t v, Try.f8.params[j]? = some t → args[j]? = some v → Value.okWide Try.prog W .any base t v := hval0
  have hW' := hW
  obtain ⟨p, q, hA0, hV, rfl, hfz, hnd⟩ := hW
  have hA : DataW.TrodAll enc Try.prog W 0 (fun _ => true) true Try.f8.params.toList args.toList ds p := hA0
  rw [Try.params8] at hA hval
  obtain ⟨v0, vs0, d0, ds0, p0, q0, hargs, rfl, rfl, h0, r0⟩ := trodAll_cons hA
  obtain ⟨v1, vs1, d1, ds1, p1, q1, rfl, rfl, rfl, h1, r1⟩ := trodAll_cons r0
  obtain ⟨v2, vs2, d2, ds2, p2, q2, rfl, rfl, rfl, h2, r2⟩ := trodAll_cons r1
  obtain ⟨rfl, rfl, rfl⟩ := trodAll_nil r2
  obtain rfl : args = #[v0, v1, v2] := by cases args; simp_all
  obtain ⟨rfl, rfl⟩ := trodVars_none hV
  obtain ⟨a0, rfl, rfl, rfl, w0⟩ := open_int Try.underlying22 (hval 0 22 v0 rfl rfl) h0
  obtain ⟨a1, rfl, rfl, rfl, w1⟩ := open_int Try.underlying22 (hval 1 22 v1 rfl rfl) h1
  obtain ⟨a2, rfl, rfl, rfl, w2⟩ := open_int Try.underlying22 (hval 2 22 v2 rfl rfl) h2
  clear hA0 hval0
  simp only [List.append_nil] at hW'
  refine (walk a0 a1 a2 w0 w1 w2 W).mono fun e W' ⟨he, hg⟩ => ?_
  subst he
  exact ⟨_, rfl, post_of_same (pa := []) (pv := []) hW' (fun _ _ _ => (trodAll_cons_mk (shut_bool Try.underlying4 _) trodAll_mk0)) (fun sp _ => (trodAll_cons_mk (shut_int Try.underlying22 w0) (trodAll_cons_mk (shut_int Try.underlying22 w1) (trodAll_cons_mk (shut_int Try.underlying22 w2) trodAll_mk0)))) (fun _ _ => rfl) rfl
    (hg.frame _) hg.2.1 (ok_one (by kernel_rfl) rfl (okWide_bool_mk Try.underlying4 _))⟩

theorem over : Rows.numPartRow.holds Try.pinned (OpenSpec.ofChange Rows.numPartSpec) :=
  OpenClaim.holds_of_wide 8 Try.f8 rfl rfl rfl rfl rfl rfl rfl ⟨rfl, rfl, rfl, rfl, rfl⟩ rfl rfl rfl rfl rfl (by kernel_rfl) Try.func8 (by kernel_rfl)
    (of_decide_eq_true (by kernel_rfl)) (by unfold Func.isWrapper; first | (rw [if_pos (by decide +kernel)]; kernel_rfl) | (rw [if_neg (by decide +kernel)]; exact ⟨rfl, rfl⟩))
    (fun os started H enc _ => lifted os started H enc)

/-- the statement -/
theorem proved : Rows.NumPartSaid :=
  over
end Go.Proofs.Ytcnbefggobgodaa.numPart
namespace Go.Proofs.Ytcnbefggobgodaa
theorem numPart_holds : Rows.NumPartSaid := numPart.proved
#print axioms numPart_holds
end Go.Proofs.Ytcnbefggobgodaa
