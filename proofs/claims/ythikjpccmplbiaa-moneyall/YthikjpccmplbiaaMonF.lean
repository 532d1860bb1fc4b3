/-
  Amounts: Portion.
-/
import Derived.Test.YthikjpccmplbiaaMonE
namespace Go.Proofs.Ythikjpccmplbiaa
open Go.RowKit MonM
set_option linter.unusedVariables false

set_option maxHeartbeats 1000000 in
theorem portion_why (H L a b round why : Int) (w : World) (hw : (why != 0) = true) (hb0 : 0 ≤ b) (hb1 : b < 4294967296)
    (D : Hid (∀ w : World, Calls Try.prog 47 #[.int .u64 b, .int .i64 round] w fun e w' => e = .returned (.int .i64 why) ∧ w' = w)) :
    Calls Try.prog 28 #[.agg #[.int .u64 H, .int .u64 L], .int .u32 a, .int .u32 b, .int .i64 round] w fun e w' => e = .returned (.tuple #[.agg #[.int .u64 0, .int .u64 0], .int .i64 why]) ∧ Below w.heap.size w w' := by
  go_enter Try.func28, Try.ntmps28
  go_wp2_with fail
  refine (D.out _).mono ?_; rintro e w1 ⟨rfl, rfl⟩
  go_wp2
  exact bodyPost_ret (v := .tuple #[.agg #[.int .u64 0, .int .u64 0], .int .i64 why]) (by simp [results, Try.results28, go_sem]) rfl ⟨rfl, bal (bal (b0 w) _) _⟩

set_option maxHeartbeats 1000000 in
theorem portion_not (H L a b round H1 L1 : Int) (w : World) (hb0 : 0 ≤ b) (hb1 : b < 4294967296) (ha0 : 0 ≤ a) (ha1 : a < 4294967296)
    (D : Hid (∀ w : World, Calls Try.prog 47 #[.int .u64 b, .int .i64 round] w fun e w' => e = .returned (.int .i64 0) ∧ w' = w))
    (S : Hid (∀ w : World, Calls Try.prog 30 #[.agg #[.int .u64 H, .int .u64 L]] w fun e w' => e = .returned (.agg #[.int .u64 H1, .int .u64 L1]) ∧ Below w.heap.size w w'))
    (C : Hid (∀ w : World, Calls Try.prog 48 #[.agg #[.int .u64 H1, .int .u64 L1], .int .u64 a, .int .u64 b] w fun e w' => (∃ H2 L2 R : Int, e = .returned (.tuple #[.agg #[.int .u64 H2, .int .u64 L2], .int .u64 R, .bool false])) ∧ Below w.heap.size w w')) :
    Calls Try.prog 28 #[.agg #[.int .u64 H, .int .u64 L], .int .u32 a, .int .u32 b, .int .i64 round] w fun e w' => e = .returned (.tuple #[.agg #[.int .u64 0, .int .u64 0], .int .i64 10]) ∧ Below w.heap.size w w' := by
  go_enter Try.func28, Try.ntmps28
  go_wp2_with fail
  refine (D.out _).mono ?_; rintro e w1 ⟨rfl, rfl⟩
  go_wp2_with fail
  refine (S.out _).mono ?_
  rintro e w2 ⟨rfl, hb⟩
  obtain ⟨hc2, hf2⟩ := bcell hb
  have hz2 := hb.size
  simp at hz2
  have HB2 := hid hb
  clear hb
  have j2 : w.heap.size < w2.heap.size := by omega
  have j2' : w.heap.size + 1 < w2.heap.size := by omega
  go_wp2_with fail
  refine (C.out _).mono ?_
  rintro e w3 ⟨⟨H2, L2, R, rfl⟩, hb⟩
  obtain ⟨hc3, hf3⟩ := bcell hb
  have hz3 := hb.size
  have HB3 := hid hb
  clear hb
  have j3 : w.heap.size < w3.heap.size := by omega
  have j3' : w.heap.size + 1 < w3.heap.size := by omega
  go_wp2
  refine bodyPost_ret (v := .tuple #[.agg #[.int .u64 0, .int .u64 0], .int .i64 10]) (by simp [results, Try.results28, go_sem, hc2, hc3, j2', j3']) rfl ⟨rfl, ?_⟩
  exact bal (((btr (btr (bal (bal (b0 w) _) _) HB2.out) HB3.out).setCell (by dsimp only; omega) _).setCell (by dsimp only; omega) _) _

set_option maxHeartbeats 2000000 in
theorem portion_plain (H L a b round H1 L1 H2 L2 R s : Int) (w : World) (hb0 : 0 ≤ b) (hb1 : b < 4294967296) (ha0 : 0 ≤ a) (ha1 : a < 4294967296) (hs : 0 ≤ s)
    (D : Hid (∀ w : World, Calls Try.prog 47 #[.int .u64 b, .int .i64 round] w fun e w' => e = .returned (.int .i64 0) ∧ w' = w))
    (S : Hid (∀ w : World, Calls Try.prog 30 #[.agg #[.int .u64 H, .int .u64 L]] w fun e w' => e = .returned (.agg #[.int .u64 H1, .int .u64 L1]) ∧ Below w.heap.size w w'))
    (C : Hid (∀ w : World, Calls Try.prog 48 #[.agg #[.int .u64 H1, .int .u64 L1], .int .u64 a, .int .u64 b] w fun e w' => e = .returned (.tuple #[.agg #[.int .u64 H2, .int .u64 L2], .int .u64 R, .bool true]) ∧ Below w.heap.size w w'))
    (G : Hid (∀ w : World, Calls Try.prog 49 #[.int .u64 L2, .int .u64 R, .int .u64 b, .int .i64 round] w fun e w' => e = .returned (.bool false) ∧ w' = w))
    (N : Hid (∀ w : World, Calls Try.prog 10 #[.agg #[.int .u64 H, .int .u64 L]] w fun e w' => e = .returned (.int .i64 s) ∧ Below w.heap.size w w')) :
    Calls Try.prog 28 #[.agg #[.int .u64 H, .int .u64 L], .int .u32 a, .int .u32 b, .int .i64 round] w fun e w' => e = .returned (.tuple #[.agg #[.int .u64 H2, .int .u64 L2], .int .i64 0]) ∧ Below w.heap.size w w' := by
  go_enter Try.func28, Try.ntmps28
  go_wp2_with fail
  refine (D.out _).mono ?_; rintro e w1 ⟨rfl, rfl⟩
  go_wp2_with fail
  refine (S.out _).mono ?_
  rintro e w2 ⟨rfl, hb⟩
  obtain ⟨hc2, hf2⟩ := bcell hb
  have hz2 := hb.size
  simp at hz2
  have HB2 := hid hb
  clear hb
  have j2 : w.heap.size < w2.heap.size := by omega
  have j2' : w.heap.size + 1 < w2.heap.size := by omega
  go_wp2_with fail
  refine (C.out _).mono ?_
  rintro e w3 ⟨rfl, hb⟩
  obtain ⟨hc3, hf3⟩ := bcell hb
  have hz3 := hb.size
  have HB3 := hid hb
  clear hb
  have j3 : w.heap.size < w3.heap.size := by omega
  have j3' : w.heap.size + 1 < w3.heap.size := by omega
  go_wp2_with fail
  refine (G.out _).mono ?_; rintro e w4 ⟨rfl, rfl⟩
  go_wp2_with fail
  refine (N.out _).mono ?_
  rintro e w5 ⟨rfl, hb⟩
  have hz5 := hb.size
  simp at hz5
  have f0 : w5.cell? ⟨w3.heap.size, 0, none⟩ = some (.int .u64 H2) := by rw [(bcell hb).1 _ _ (by simp)]; simp [go_sem]
  have f1 : w5.cell? ⟨w3.heap.size, 1, none⟩ = some (.int .u64 L2) := by rw [(bcell hb).1 _ _ (by simp)]; simp [go_sem]
  have f2 : w5.cell? ⟨w.heap.size + 1, 0, none⟩ = some (.int .u64 0) := by rw [(bcell hb).1 _ _ (by simp; omega)]; simp [go_sem, hc2, hc3, j2', j3']
  have f3 : w5.cell? ⟨w.heap.size + 1, 1, none⟩ = some (.int .u64 0) := by rw [(bcell hb).1 _ _ (by simp; omega)]; simp [go_sem, hc2, hc3, j2', j3']
  have g2 : w5.frozen? ⟨w.heap.size + 1, 0, none⟩ = false := by rw [(bcell hb).2 _ _ (by simp; omega)]; simp [go_sem, hf2, hf3, j2', j3']
  have g3 : w5.frozen? ⟨w.heap.size + 1, 1, none⟩ = false := by rw [(bcell hb).2 _ _ (by simp; omega)]; simp [go_sem, hf2, hf3, j2', j3']
  have HB5 := hid hb
  clear hb hc2 hf2 hc3 hf3
  go_wp2
  refine bodyPost_ret (v := .tuple #[.agg #[.int .u64 H2, .int .u64 L2], .int .i64 0]) (by simp [results, Try.results28, go_sem, f2, f3]) rfl ⟨rfl, ?_⟩
  exact ((btr (bal (btr (btr (bal (bal (b0 w) _) _) HB2.out) HB3.out) _) HB5.out).setCell (by dsimp only; omega) _).setCell (by dsimp only; omega) _

/-- ten times an amount that is not below 0. -/
theorem portion10 (m : Int) (w : World) (h0 : 0 ≤ m) (h1 : m ≤ 170141183460469231731687303715884105727) :
    Calls Try.prog 28 #[mv m, .int .u32 10, .int .u32 1, .int .i64 0] w fun e w' =>
      e = .returned (.tuple #[mv (if m * 10 ≤ 170141183460469231731687303715884105727 then m * 10 else 0), .int .i64 (if m * 10 ≤ 170141183460469231731687303715884105727 then 0 else 10)]) ∧ Below w.heap.size w w' := by
  have hm : Amt m := by unfold Amt; omega
  have D := fun w => divisible_ok 1 0 w (Or.inl rfl) rfl
  have S := fun w => msize_any m w hm
  have ea : absI m = m := if_neg (by omega)
  rw [ea] at S
  have C := fun w => scaled_any m 10 1 w h0 h1 (by decide) (by decide) (by decide) (by decide)
  rw [Int.ediv_one, Int.emod_one] at C
  by_cases hk : m * 10 ≤ 170141183460469231731687303715884105727
  · rw [if_pos hk, if_pos hk]
    have C' : ∀ w : World, Calls Try.prog 48 #[mv m, .int .u64 10, .int .u64 1] w fun e w' => e = .returned (.tuple #[mv (m * 10), .int .u64 0, .bool true]) ∧ Below w.heap.size w w' := by
      intro w
      refine (C w).mono ?_
      rintro e w' ⟨h | h, hb⟩
      · exact ⟨h.2, hb⟩
      · omega
    have lq := loW_word (m * 10)
    have G := fun w => goesUp_any (loW (m * 10)) 0 1 0 w (Or.inl rfl) lq (by decide) (by decide) (by decide)
    have eu : upB (loW (m * 10)) 0 1 0 = false := by simp [upB]
    rw [eu] at G
    have hs : 0 ≤ sgn m := by unfold sgn; rw [if_neg (by omega)]; split <;> decide
    exact portion_plain _ _ 10 1 0 _ _ _ _ 0 (sgn m) w (by decide) (by decide) (by decide) (by decide) hs D S C' G (fun w => sign_any m w hm)
  · rw [if_neg hk, if_neg hk]
    refine portion_not _ _ 10 1 0 _ _ w (by decide) (by decide) (by decide) (by decide) D S ?_
    intro w
    refine (C w).mono ?_
    rintro e w' ⟨h | h, hb⟩
    · omega
    · exact ⟨h.2, hb⟩

/-! ### one more digit -/
set_option maxHeartbeats 1000000 in
theorem behind_bad (H L d : Int) (w : World) (hd0 : 0 ≤ d) (hd1 : d < 256) (h : d < 48 ∨ 57 < d) :
    Calls Try.prog 39 #[.agg #[.int .u64 H, .int .u64 L], .int .u8 d] w fun e w' => e = .returned (.tuple #[.agg #[.int .u64 0, .int .u64 0], .bool false]) ∧ Below w.heap.size w w' := by
  rcases h with h | h
  · go_enter Try.func39, Try.ntmps39
    go_wp2
    exact bodyPost_ret (v := .tuple #[.agg #[.int .u64 0, .int .u64 0], .bool false]) (by simp [results, Try.results39, go_sem]) rfl ⟨rfl, bal (bal (b0 w) _) _⟩
  · have h' : decide (d < 48) = false := by simp; omega
    go_enter Try.func39, Try.ntmps39
    go_wp2
    exact bodyPost_ret (v := .tuple #[.agg #[.int .u64 0, .int .u64 0], .bool false]) (by simp [results, Try.results39, go_sem]) rfl ⟨rfl, bal (bal (b0 w) _) _⟩

set_option maxHeartbeats 1000000 in
theorem behind_over (H L d : Int) (w : World) (hd0 : 48 ≤ d) (hd1 : d ≤ 57)
    (P : Hid (∀ w : World, Calls Try.prog 28 #[.agg #[.int .u64 H, .int .u64 L], .int .u32 10, .int .u32 1, .int .i64 0] w fun e w' => e = .returned (.tuple #[.agg #[.int .u64 0, .int .u64 0], .int .i64 10]) ∧ Below w.heap.size w w')) :
    Calls Try.prog 39 #[.agg #[.int .u64 H, .int .u64 L], .int .u8 d] w fun e w' => e = .returned (.tuple #[.agg #[.int .u64 0, .int .u64 0], .bool false]) ∧ Below w.heap.size w w' := by
  have h1 : decide (d < 48) = false := by simp; omega
  have h2 : decide (57 < d) = false := by simp; omega
  go_enter Try.func39, Try.ntmps39
  go_wp2_with fail
  refine (P.out _).mono ?_
  rintro e w2 ⟨rfl, hb⟩
  obtain ⟨hc2, hf2⟩ := bcell hb
  have hz2 := hb.size
  simp at hz2
  have HB2 := hid hb
  clear hb
  have j2' : w.heap.size + 1 < w2.heap.size := by omega
  go_wp2
  refine bodyPost_ret (v := .tuple #[.agg #[.int .u64 0, .int .u64 0], .bool false]) (by simp [results, Try.results39, go_sem, hc2, j2']) rfl ⟨rfl, ?_⟩
  exact bal (((btr (bal (bal (b0 w) _) _) HB2.out).setCell (by dsimp only; omega) _).setCell (by dsimp only; omega) _) _

end Go.Proofs.Ythikjpccmplbiaa
