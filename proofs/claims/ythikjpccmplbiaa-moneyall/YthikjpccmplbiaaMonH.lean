/-
  The program's Portion of any amount.
-/
import Derived.Test.YthikjpccmplbiaaPoP
import Derived.Test.YthikjpccmplbiaaDmK
namespace Go.Proofs.Ythikjpccmplbiaa
open Go.RowKit Go.Deep BigM MonM
open Dm (ball row_cell row_frz row_lt row_on setRow_below bdrewN res_ct)
set_option linter.unusedVariables false
set_option linter.unusedSimpArgs false
set_option maxHeartbeats 8000000
set_option maxRecDepth 100000
theorem info26 : (Try.prog.info? 26).map (·.size) = some 2 := by kernel_rfl
theorem row_set1 {w : World} {g : Nat} {t : TypeId} {a b u : Value} (h : w.heap[g]? = some (.cells #[a, b] t (0, 0))) : (w.setCell ⟨g, 0, none⟩ u).heap[g]? = some (.cells #[u, b] t (0, 0)) := heap_setCell_same w g 0 _ t u h
theorem row_set2 {w : World} {g : Nat} {t : TypeId} {a b u : Value} (h : w.heap[g]? = some (.cells #[a, b] t (0, 0))) : (w.setCell ⟨g, 1, none⟩ u).heap[g]? = some (.cells #[a, u] t (0, 0)) := heap_setCell_same w g 1 _ t u h
theorem row_off {w : World} {g k : Nat} {o : Obj} (h : w.heap[g]? = some o) (hk : g ≠ k) (i : Nat) (u : Value) : (w.setCell ⟨k, i, none⟩ u).heap[g]? = some o := (heap_setCell_other _ _ _ _ (by show g ≠ k; exact hk)).trans h
theorem portion_over (H L a b round H1 L1 H2 L2 R H3 L3 E s Hn Ln : Int) (w : World) (hb0 : 0 ≤ b) (hb1 : b < 4294967296) (ha0 : 0 ≤ a) (ha1 : a < 4294967296) (hE : (E != 0) = true)
    (D : Hid (∀ w : World, Calls Try.prog 47 #[.int .u64 b, .int .i64 round] w fun e w' => e = .returned (.int .i64 0) ∧ Below w.heap.size w w'))
    (S : Hid (∀ w : World, Calls Try.prog 30 #[.agg #[.int .u64 H, .int .u64 L]] w fun e w' => e = .returned (.agg #[.int .u64 H1, .int .u64 L1]) ∧ Below w.heap.size w w'))
    (C : Hid (∀ w : World, Calls Try.prog 48 #[.agg #[.int .u64 H1, .int .u64 L1], .int .u64 a, .int .u64 b] w fun e w' => e = .returned (.tuple #[.agg #[.int .u64 H2, .int .u64 L2], .int .u64 R, .bool true]) ∧ Below w.heap.size w w'))
    (G : Hid (∀ w : World, Calls Try.prog 49 #[.int .u64 L2, .int .u64 R, .int .u64 b, .int .i64 round] w fun e w' => e = .returned (.bool true) ∧ Below w.heap.size w w'))
    (N : Hid (∀ w : World, Calls Try.prog 10 #[.agg #[.int .u64 H, .int .u64 L]] w fun e w' => e = .returned (.int .i64 s) ∧ Below w.heap.size w w'))
    (C1 : Hid (∀ w : World, Calls Try.prog 14 #[.int .i64 1] w fun e w' => e = .returned (.agg #[.int .u64 0, .int .u64 1]) ∧ Below w.heap.size w w'))
    (A : Hid (∀ w : World, Calls Try.prog 22 #[.agg #[.int .u64 H2, .int .u64 L2], .agg #[.int .u64 0, .int .u64 1]] w fun e w' => e = .returned (.tuple #[.agg #[.int .u64 H3, .int .u64 L3], .int .i64 E]) ∧ Below w.heap.size w w'))
    (NG : Hid (∀ w : World, Calls Try.prog 26 #[.agg #[.int .u64 H3, .int .u64 L3]] w fun e w' => e = .returned (.agg #[.int .u64 Hn, .int .u64 Ln]) ∧ Below w.heap.size w w')) :
    Calls Try.prog 28 #[.agg #[.int .u64 H, .int .u64 L], .int .u32 a, .int .u32 b, .int .i64 round] w fun e w' => e = .returned (.tuple #[.agg #[.int .u64 0, .int .u64 0], .int .i64 E]) ∧ Below w.heap.size w w' := by
  obtain ⟨Wa, hWa⟩ : ∃ W, w.alloc (.cells #[.int .u64 H, .int .u64 L] 26) = W := ⟨_, rfl⟩
  obtain ⟨Wb, hWb⟩ : ∃ W, Wa.alloc (.cells #[.int .u64 0, .int .u64 0] 26) = W := ⟨_, rfl⟩
  have ba : Below w.heap.size w Wa := by rw [← hWa]; exact ball _ _
  have bb : Below Wa.heap.size Wa Wb := by rw [← hWb]; exact ball _ _
  have O4 := hid (row_on (show Wa.heap[w.heap.size]? = some (.cells #[.int .u64 H, .int .u64 L] 26 (0, 0)) from by rw [← hWa]; exact World.alloc_heap_new _ _) bb)
  have O8 := hid (show Wb.heap[Wa.heap.size]? = some (.cells #[.int .u64 0, .int .u64 0] 26 (0, 0)) from by rw [← hWb]; exact World.alloc_heap_new _ _)
  have O0 := hid (btr ba bb)
  obtain ⟨g4, hg4⟩ : ∃ g, w.heap.size = g := ⟨_, rfl⟩
  obtain ⟨g8, hg8⟩ : ∃ g, Wa.heap.size = g := ⟨_, rfl⟩
  have HN := hid (show w.heap.size = g4 ∧ g4 < g8 from ⟨hg4, by have := row_lt (show Wa.heap[w.heap.size]? = some (.cells #[.int .u64 H, .int .u64 L] 26 (0, 0)) from by rw [← hWa]; exact World.alloc_heap_new _ _); omega⟩)
  rw [hg4] at O4
  rw [hg8] at O8
  clear ba bb
  go_enter Try.func28, Try.ntmps28
  go_upto_region 10 with (first | (go_at_call 47; with_reducible refine (D.out _).mono ?_; rintro e w1 ⟨rfl, h1⟩; have P4 := hid (row_on O4.out h1); have P8 := hid (row_on O8.out h1); have P0 := hid (btr O0.out h1); have i0 := row_cell P4.out 0; have i1 := row_cell P4.out 1; clear h1) | (go_at_call 30; with_reducible refine (S.out _).mono ?_; rintro e w2 ⟨rfl, h1⟩; have Q4 := hid (row_on P4.out h1); have Q8 := hid (row_on P8.out h1); have Q0 := hid (btr P0.out h1); clear h1) | (go_at_call 48; with_reducible refine (C.out _).mono ?_; rintro e w3 ⟨rfl, h1⟩; have T4 := hid (row_on Q4.out h1); have T8 := hid (row_on Q8.out h1); have T0 := hid (btr Q0.out h1); clear h1) | (go_at_call 49; with_reducible refine (G.out _).mono ?_; rintro e w4 ⟨rfl, h1⟩; have bx : Below w3.heap.size w3 w4 := btr (ball w3 (.cells #[.int .u64 H2, .int .u64 L2] 26)) h1; have U4 := hid (row_on T4.out bx); have U8 := hid (row_on T8.out bx); have U0 := hid (btr T0.out bx); have U12 := hid (row_on (show (w3.alloc (.cells #[.int .u64 H2, .int .u64 L2] 26)).heap[w3.heap.size]? = some (.cells #[.int .u64 H2, .int .u64 L2] 26 (0, 0)) from World.alloc_heap_new _ _) h1); clear h1 bx))
  obtain ⟨g12, hg12⟩ : ∃ g, w3.heap.size = g := ⟨_, rfl⟩
  have HM := hid (show g8 < g12 from by have := row_lt T8.out; omega)
  rw [hg12] at U12 ⊢
  clear hg12 O4 O8 O0 P4 P8 P0 Q4 Q8 Q0 T4 T8 T0 i0 i1
  have dw : Below w4.heap.size w4 w4.drew := bdrewN w4 1
  have V12 := hid (row_on U12.out dw)
  have V4 := hid (row_on U4.out dw)
  have V8 := hid (row_on U8.out dw)
  have V0 := hid (btr U0.out dw)
  have j0 : w4.drew.cell? ⟨g12, 0, none⟩ = some (.int .u64 H2) := row_cell V12.out 0
  have j1 : w4.drew.cell? ⟨g12, 1, none⟩ = some (.int .u64 L2) := row_cell V12.out 1
  have k0 : w4.cell? ⟨g12, 0, none⟩ = some (.int .u64 H2) := row_cell U12.out 0
  have k1 : w4.cell? ⟨g12, 1, none⟩ = some (.int .u64 L2) := row_cell U12.out 1
  clear dw
  go_region_with (first | (go_at_call 14; with_reducible refine (C1.out _).mono ?_; rintro e w5 ⟨rfl, h1⟩; have X12 := hid (row_on V12.out h1); have X4 := hid (row_on V4.out h1); have X8 := hid (row_on V8.out h1); have X0 := hid (btr V0.out h1); have l0 := row_cell X12.out 0; have l1 := row_cell X12.out 1; clear h1) | (go_at_call 22; with_reducible refine (A.out _).mono ?_; rintro e w6 ⟨rfl, h1⟩; have Y12 := hid (row_on X12.out h1); have Y4 := hid (row_on X4.out h1); have Y8 := hid (row_on X8.out h1); have Y0 := hid (btr X0.out h1); have m0 := row_cell Y12.out 0; have m1 := row_cell Y12.out 1; have f0 := row_frz Y12.out 0; have f1 := row_frz Y12.out 1; clear h1))
  all_goals
    have q1 := HN.out
    have q2 := HM.out
    have Z12 := hid (row_set2 (u := .int .u64 L3) (row_set1 (u := .int .u64 H3) Y12.out))
    have Z4 := hid (row_off (row_off Y4.out (show g4 ≠ g12 by omega) 0 (.int .u64 H3)) (show g4 ≠ g12 by omega) 1 (.int .u64 L3))
    have Z8 := hid (row_off (row_off Y8.out (show g8 ≠ g12 by omega) 0 (.int .u64 H3)) (show g8 ≠ g12 by omega) 1 (.int .u64 L3))
    have Z0 := hid (show Below w.heap.size w ((w6.setCell ⟨g12, 0, none⟩ (.int .u64 H3)).setCell ⟨g12, 1, none⟩ (.int .u64 L3)) from (Y0.out.setCell (by dsimp only; omega) _).setCell (by dsimp only; omega) _)
    clear j0 j1 k0 k1 l0 l1 V12 V4 V8 V0 X12 X4 X8 X0 U12 U4 U8 U0 q1 q2
    go_upto_region 12 with fail
    obtain ⟨Z, hZ⟩ : ∃ Z, (w6.setCell ⟨g12, 0, none⟩ (.int .u64 H3)).setCell ⟨g12, 1, none⟩ (.int .u64 L3) = Z := ⟨_, rfl⟩
    rw [hZ] at Z12 Z4 Z8 Z0 ⊢
    clear hZ m0 m1 f0 f1 Y12 Y4 Y8 Y0
    have d0 := row_cell Z8.out 0
    have d1 := row_cell Z8.out 1
    have x0 := row_frz Z8.out 0
    have x1 := row_frz Z8.out 1
    go_wp2
    refine bodyPost_ret (res_ct Try.results28 _ _ g8 26 #[.int .u64 0, .int .u64 0] (0, 0) _ (.int .i64 E) (by rfl) (by rfl) (row_set2 (row_set1 Z8.out)) Try.underlying26 rfl info26) rfl ⟨rfl, ?_⟩
    have q1 := HN.out
    exact (Z0.out.setCell (by dsimp only; omega) _).setCell (by dsimp only; omega) _
theorem portion_up (H L a b round H1 L1 H2 L2 R H3 L3 E s Hn Ln : Int) (w : World) (hb0 : 0 ≤ b) (hb1 : b < 4294967296) (ha0 : 0 ≤ a) (ha1 : a < 4294967296) (hs : decide (s < 0) = false)
    (D : Hid (∀ w : World, Calls Try.prog 47 #[.int .u64 b, .int .i64 round] w fun e w' => e = .returned (.int .i64 0) ∧ Below w.heap.size w w'))
    (S : Hid (∀ w : World, Calls Try.prog 30 #[.agg #[.int .u64 H, .int .u64 L]] w fun e w' => e = .returned (.agg #[.int .u64 H1, .int .u64 L1]) ∧ Below w.heap.size w w'))
    (C : Hid (∀ w : World, Calls Try.prog 48 #[.agg #[.int .u64 H1, .int .u64 L1], .int .u64 a, .int .u64 b] w fun e w' => e = .returned (.tuple #[.agg #[.int .u64 H2, .int .u64 L2], .int .u64 R, .bool true]) ∧ Below w.heap.size w w'))
    (G : Hid (∀ w : World, Calls Try.prog 49 #[.int .u64 L2, .int .u64 R, .int .u64 b, .int .i64 round] w fun e w' => e = .returned (.bool true) ∧ Below w.heap.size w w'))
    (N : Hid (∀ w : World, Calls Try.prog 10 #[.agg #[.int .u64 H, .int .u64 L]] w fun e w' => e = .returned (.int .i64 s) ∧ Below w.heap.size w w'))
    (C1 : Hid (∀ w : World, Calls Try.prog 14 #[.int .i64 1] w fun e w' => e = .returned (.agg #[.int .u64 0, .int .u64 1]) ∧ Below w.heap.size w w'))
    (A : Hid (∀ w : World, Calls Try.prog 22 #[.agg #[.int .u64 H2, .int .u64 L2], .agg #[.int .u64 0, .int .u64 1]] w fun e w' => e = .returned (.tuple #[.agg #[.int .u64 H3, .int .u64 L3], .int .i64 0]) ∧ Below w.heap.size w w'))
    (NG : Hid (∀ w : World, Calls Try.prog 26 #[.agg #[.int .u64 H3, .int .u64 L3]] w fun e w' => e = .returned (.agg #[.int .u64 Hn, .int .u64 Ln]) ∧ Below w.heap.size w w')) :
    Calls Try.prog 28 #[.agg #[.int .u64 H, .int .u64 L], .int .u32 a, .int .u32 b, .int .i64 round] w fun e w' => e = .returned (.tuple #[.agg #[.int .u64 H3, .int .u64 L3], .int .i64 0]) ∧ Below w.heap.size w w' := by
  obtain ⟨Wa, hWa⟩ : ∃ W, w.alloc (.cells #[.int .u64 H, .int .u64 L] 26) = W := ⟨_, rfl⟩
  obtain ⟨Wb, hWb⟩ : ∃ W, Wa.alloc (.cells #[.int .u64 0, .int .u64 0] 26) = W := ⟨_, rfl⟩
  have ba : Below w.heap.size w Wa := by rw [← hWa]; exact ball _ _
  have bb : Below Wa.heap.size Wa Wb := by rw [← hWb]; exact ball _ _
  have O4 := hid (row_on (show Wa.heap[w.heap.size]? = some (.cells #[.int .u64 H, .int .u64 L] 26 (0, 0)) from by rw [← hWa]; exact World.alloc_heap_new _ _) bb)
  have O8 := hid (show Wb.heap[Wa.heap.size]? = some (.cells #[.int .u64 0, .int .u64 0] 26 (0, 0)) from by rw [← hWb]; exact World.alloc_heap_new _ _)
  have O0 := hid (btr ba bb)
  obtain ⟨g4, hg4⟩ : ∃ g, w.heap.size = g := ⟨_, rfl⟩
  obtain ⟨g8, hg8⟩ : ∃ g, Wa.heap.size = g := ⟨_, rfl⟩
  have HN := hid (show w.heap.size = g4 ∧ g4 < g8 from ⟨hg4, by have := row_lt (show Wa.heap[w.heap.size]? = some (.cells #[.int .u64 H, .int .u64 L] 26 (0, 0)) from by rw [← hWa]; exact World.alloc_heap_new _ _); omega⟩)
  rw [hg4] at O4
  rw [hg8] at O8
  clear ba bb
  go_enter Try.func28, Try.ntmps28
  go_upto_region 10 with (first | (go_at_call 47; with_reducible refine (D.out _).mono ?_; rintro e w1 ⟨rfl, h1⟩; have P4 := hid (row_on O4.out h1); have P8 := hid (row_on O8.out h1); have P0 := hid (btr O0.out h1); have i0 := row_cell P4.out 0; have i1 := row_cell P4.out 1; clear h1) | (go_at_call 30; with_reducible refine (S.out _).mono ?_; rintro e w2 ⟨rfl, h1⟩; have Q4 := hid (row_on P4.out h1); have Q8 := hid (row_on P8.out h1); have Q0 := hid (btr P0.out h1); clear h1) | (go_at_call 48; with_reducible refine (C.out _).mono ?_; rintro e w3 ⟨rfl, h1⟩; have T4 := hid (row_on Q4.out h1); have T8 := hid (row_on Q8.out h1); have T0 := hid (btr Q0.out h1); clear h1) | (go_at_call 49; with_reducible refine (G.out _).mono ?_; rintro e w4 ⟨rfl, h1⟩; have bx : Below w3.heap.size w3 w4 := btr (ball w3 (.cells #[.int .u64 H2, .int .u64 L2] 26)) h1; have U4 := hid (row_on T4.out bx); have U8 := hid (row_on T8.out bx); have U0 := hid (btr T0.out bx); have U12 := hid (row_on (show (w3.alloc (.cells #[.int .u64 H2, .int .u64 L2] 26)).heap[w3.heap.size]? = some (.cells #[.int .u64 H2, .int .u64 L2] 26 (0, 0)) from World.alloc_heap_new _ _) h1); clear h1 bx))
  obtain ⟨g12, hg12⟩ : ∃ g, w3.heap.size = g := ⟨_, rfl⟩
  have HM := hid (show g8 < g12 from by have := row_lt T8.out; omega)
  rw [hg12] at U12 ⊢
  clear hg12 O4 O8 O0 P4 P8 P0 Q4 Q8 Q0 T4 T8 T0 i0 i1
  have dw : Below w4.heap.size w4 w4.drew := bdrewN w4 1
  have V12 := hid (row_on U12.out dw)
  have V4 := hid (row_on U4.out dw)
  have V8 := hid (row_on U8.out dw)
  have V0 := hid (btr U0.out dw)
  have j0 : w4.drew.cell? ⟨g12, 0, none⟩ = some (.int .u64 H2) := row_cell V12.out 0
  have j1 : w4.drew.cell? ⟨g12, 1, none⟩ = some (.int .u64 L2) := row_cell V12.out 1
  have k0 : w4.cell? ⟨g12, 0, none⟩ = some (.int .u64 H2) := row_cell U12.out 0
  have k1 : w4.cell? ⟨g12, 1, none⟩ = some (.int .u64 L2) := row_cell U12.out 1
  clear dw
  go_region_with (first | (go_at_call 14; with_reducible refine (C1.out _).mono ?_; rintro e w5 ⟨rfl, h1⟩; have X12 := hid (row_on V12.out h1); have X4 := hid (row_on V4.out h1); have X8 := hid (row_on V8.out h1); have X0 := hid (btr V0.out h1); have l0 := row_cell X12.out 0; have l1 := row_cell X12.out 1; clear h1) | (go_at_call 22; with_reducible refine (A.out _).mono ?_; rintro e w6 ⟨rfl, h1⟩; have Y12 := hid (row_on X12.out h1); have Y4 := hid (row_on X4.out h1); have Y8 := hid (row_on X8.out h1); have Y0 := hid (btr X0.out h1); have m0 := row_cell Y12.out 0; have m1 := row_cell Y12.out 1; have f0 := row_frz Y12.out 0; have f1 := row_frz Y12.out 1; clear h1))
  all_goals
    have q1 := HN.out
    have q2 := HM.out
    have Z12 := hid (row_set2 (u := .int .u64 L3) (row_set1 (u := .int .u64 H3) Y12.out))
    have Z4 := hid (row_off (row_off Y4.out (show g4 ≠ g12 by omega) 0 (.int .u64 H3)) (show g4 ≠ g12 by omega) 1 (.int .u64 L3))
    have Z8 := hid (row_off (row_off Y8.out (show g8 ≠ g12 by omega) 0 (.int .u64 H3)) (show g8 ≠ g12 by omega) 1 (.int .u64 L3))
    have Z0 := hid (show Below w.heap.size w ((w6.setCell ⟨g12, 0, none⟩ (.int .u64 H3)).setCell ⟨g12, 1, none⟩ (.int .u64 L3)) from (Y0.out.setCell (by dsimp only; omega) _).setCell (by dsimp only; omega) _)
    clear j0 j1 k0 k1 l0 l1 V12 V4 V8 V0 X12 X4 X8 X0 U12 U4 U8 U0 q1 q2
    go_upto_region 13 with fail
    obtain ⟨Z, hZ⟩ : ∃ Z, (w6.setCell ⟨g12, 0, none⟩ (.int .u64 H3)).setCell ⟨g12, 1, none⟩ (.int .u64 L3) = Z := ⟨_, rfl⟩
    rw [hZ] at Z12 Z4 Z8 Z0 ⊢
    clear hZ m0 m1 f0 f1 Y12 Y4 Y8 Y0
    have a0 : Z.cell? ⟨g4, 0, none⟩ = some (.int .u64 H) := row_cell Z4.out 0
    have a1 : Z.cell? ⟨g4, 1, none⟩ = some (.int .u64 L) := row_cell Z4.out 1
    go_upto_region 15 with (go_at_call 10; with_reducible refine (N.out _).mono ?_; rintro e w7 ⟨rfl, h1⟩; have M12 := hid (row_on Z12.out h1); have M8 := hid (row_on Z8.out h1); have M0 := hid (btr Z0.out h1); have b0 := row_cell M12.out 0; have b1 := row_cell M12.out 1; clear h1)
    clear a0 a1
    have d0 := row_cell M8.out 0
    have d1 := row_cell M8.out 1
    have x0 := row_frz M8.out 0
    have x1 := row_frz M8.out 1
    go_wp2
    refine bodyPost_ret (res_ct Try.results28 _ _ g8 26 #[.int .u64 H3, .int .u64 L3] (0, 0) _ (.int .i64 0) (by rfl) (by rfl) (row_set2 (row_set1 M8.out)) Try.underlying26 rfl info26) rfl ⟨rfl, ?_⟩
    have q1 := HN.out
    exact (M0.out.setCell (by dsimp only; omega) _).setCell (by dsimp only; omega) _
theorem portion_upn (H L a b round H1 L1 H2 L2 R H3 L3 E s Hn Ln : Int) (w : World) (hb0 : 0 ≤ b) (hb1 : b < 4294967296) (ha0 : 0 ≤ a) (ha1 : a < 4294967296) (hs : decide (s < 0) = true)
    (D : Hid (∀ w : World, Calls Try.prog 47 #[.int .u64 b, .int .i64 round] w fun e w' => e = .returned (.int .i64 0) ∧ Below w.heap.size w w'))
    (S : Hid (∀ w : World, Calls Try.prog 30 #[.agg #[.int .u64 H, .int .u64 L]] w fun e w' => e = .returned (.agg #[.int .u64 H1, .int .u64 L1]) ∧ Below w.heap.size w w'))
    (C : Hid (∀ w : World, Calls Try.prog 48 #[.agg #[.int .u64 H1, .int .u64 L1], .int .u64 a, .int .u64 b] w fun e w' => e = .returned (.tuple #[.agg #[.int .u64 H2, .int .u64 L2], .int .u64 R, .bool true]) ∧ Below w.heap.size w w'))
    (G : Hid (∀ w : World, Calls Try.prog 49 #[.int .u64 L2, .int .u64 R, .int .u64 b, .int .i64 round] w fun e w' => e = .returned (.bool true) ∧ Below w.heap.size w w'))
    (N : Hid (∀ w : World, Calls Try.prog 10 #[.agg #[.int .u64 H, .int .u64 L]] w fun e w' => e = .returned (.int .i64 s) ∧ Below w.heap.size w w'))
    (C1 : Hid (∀ w : World, Calls Try.prog 14 #[.int .i64 1] w fun e w' => e = .returned (.agg #[.int .u64 0, .int .u64 1]) ∧ Below w.heap.size w w'))
    (A : Hid (∀ w : World, Calls Try.prog 22 #[.agg #[.int .u64 H2, .int .u64 L2], .agg #[.int .u64 0, .int .u64 1]] w fun e w' => e = .returned (.tuple #[.agg #[.int .u64 H3, .int .u64 L3], .int .i64 0]) ∧ Below w.heap.size w w'))
    (NG : Hid (∀ w : World, Calls Try.prog 26 #[.agg #[.int .u64 H3, .int .u64 L3]] w fun e w' => e = .returned (.agg #[.int .u64 Hn, .int .u64 Ln]) ∧ Below w.heap.size w w')) :
    Calls Try.prog 28 #[.agg #[.int .u64 H, .int .u64 L], .int .u32 a, .int .u32 b, .int .i64 round] w fun e w' => e = .returned (.tuple #[.agg #[.int .u64 Hn, .int .u64 Ln], .int .i64 0]) ∧ Below w.heap.size w w' := by
  obtain ⟨Wa, hWa⟩ : ∃ W, w.alloc (.cells #[.int .u64 H, .int .u64 L] 26) = W := ⟨_, rfl⟩
  obtain ⟨Wb, hWb⟩ : ∃ W, Wa.alloc (.cells #[.int .u64 0, .int .u64 0] 26) = W := ⟨_, rfl⟩
  have ba : Below w.heap.size w Wa := by rw [← hWa]; exact ball _ _
  have bb : Below Wa.heap.size Wa Wb := by rw [← hWb]; exact ball _ _
  have O4 := hid (row_on (show Wa.heap[w.heap.size]? = some (.cells #[.int .u64 H, .int .u64 L] 26 (0, 0)) from by rw [← hWa]; exact World.alloc_heap_new _ _) bb)
  have O8 := hid (show Wb.heap[Wa.heap.size]? = some (.cells #[.int .u64 0, .int .u64 0] 26 (0, 0)) from by rw [← hWb]; exact World.alloc_heap_new _ _)
  have O0 := hid (btr ba bb)
  obtain ⟨g4, hg4⟩ : ∃ g, w.heap.size = g := ⟨_, rfl⟩
  obtain ⟨g8, hg8⟩ : ∃ g, Wa.heap.size = g := ⟨_, rfl⟩
  have HN := hid (show w.heap.size = g4 ∧ g4 < g8 from ⟨hg4, by have := row_lt (show Wa.heap[w.heap.size]? = some (.cells #[.int .u64 H, .int .u64 L] 26 (0, 0)) from by rw [← hWa]; exact World.alloc_heap_new _ _); omega⟩)
  rw [hg4] at O4
  rw [hg8] at O8
  clear ba bb
  go_enter Try.func28, Try.ntmps28
  go_upto_region 10 with (first | (go_at_call 47; with_reducible refine (D.out _).mono ?_; rintro e w1 ⟨rfl, h1⟩; have P4 := hid (row_on O4.out h1); have P8 := hid (row_on O8.out h1); have P0 := hid (btr O0.out h1); have i0 := row_cell P4.out 0; have i1 := row_cell P4.out 1; clear h1) | (go_at_call 30; with_reducible refine (S.out _).mono ?_; rintro e w2 ⟨rfl, h1⟩; have Q4 := hid (row_on P4.out h1); have Q8 := hid (row_on P8.out h1); have Q0 := hid (btr P0.out h1); clear h1) | (go_at_call 48; with_reducible refine (C.out _).mono ?_; rintro e w3 ⟨rfl, h1⟩; have T4 := hid (row_on Q4.out h1); have T8 := hid (row_on Q8.out h1); have T0 := hid (btr Q0.out h1); clear h1) | (go_at_call 49; with_reducible refine (G.out _).mono ?_; rintro e w4 ⟨rfl, h1⟩; have bx : Below w3.heap.size w3 w4 := btr (ball w3 (.cells #[.int .u64 H2, .int .u64 L2] 26)) h1; have U4 := hid (row_on T4.out bx); have U8 := hid (row_on T8.out bx); have U0 := hid (btr T0.out bx); have U12 := hid (row_on (show (w3.alloc (.cells #[.int .u64 H2, .int .u64 L2] 26)).heap[w3.heap.size]? = some (.cells #[.int .u64 H2, .int .u64 L2] 26 (0, 0)) from World.alloc_heap_new _ _) h1); clear h1 bx))
  obtain ⟨g12, hg12⟩ : ∃ g, w3.heap.size = g := ⟨_, rfl⟩
  have HM := hid (show g8 < g12 from by have := row_lt T8.out; omega)
  rw [hg12] at U12 ⊢
  clear hg12 O4 O8 O0 P4 P8 P0 Q4 Q8 Q0 T4 T8 T0 i0 i1
  have dw : Below w4.heap.size w4 w4.drew := bdrewN w4 1
  have V12 := hid (row_on U12.out dw)
  have V4 := hid (row_on U4.out dw)
  have V8 := hid (row_on U8.out dw)
  have V0 := hid (btr U0.out dw)
  have j0 : w4.drew.cell? ⟨g12, 0, none⟩ = some (.int .u64 H2) := row_cell V12.out 0
  have j1 : w4.drew.cell? ⟨g12, 1, none⟩ = some (.int .u64 L2) := row_cell V12.out 1
  have k0 : w4.cell? ⟨g12, 0, none⟩ = some (.int .u64 H2) := row_cell U12.out 0
  have k1 : w4.cell? ⟨g12, 1, none⟩ = some (.int .u64 L2) := row_cell U12.out 1
  clear dw
  go_region_with (first | (go_at_call 14; with_reducible refine (C1.out _).mono ?_; rintro e w5 ⟨rfl, h1⟩; have X12 := hid (row_on V12.out h1); have X4 := hid (row_on V4.out h1); have X8 := hid (row_on V8.out h1); have X0 := hid (btr V0.out h1); have l0 := row_cell X12.out 0; have l1 := row_cell X12.out 1; clear h1) | (go_at_call 22; with_reducible refine (A.out _).mono ?_; rintro e w6 ⟨rfl, h1⟩; have Y12 := hid (row_on X12.out h1); have Y4 := hid (row_on X4.out h1); have Y8 := hid (row_on X8.out h1); have Y0 := hid (btr X0.out h1); have m0 := row_cell Y12.out 0; have m1 := row_cell Y12.out 1; have f0 := row_frz Y12.out 0; have f1 := row_frz Y12.out 1; clear h1))
  all_goals
    have q1 := HN.out
    have q2 := HM.out
    have Z12 := hid (row_set2 (u := .int .u64 L3) (row_set1 (u := .int .u64 H3) Y12.out))
    have Z4 := hid (row_off (row_off Y4.out (show g4 ≠ g12 by omega) 0 (.int .u64 H3)) (show g4 ≠ g12 by omega) 1 (.int .u64 L3))
    have Z8 := hid (row_off (row_off Y8.out (show g8 ≠ g12 by omega) 0 (.int .u64 H3)) (show g8 ≠ g12 by omega) 1 (.int .u64 L3))
    have Z0 := hid (show Below w.heap.size w ((w6.setCell ⟨g12, 0, none⟩ (.int .u64 H3)).setCell ⟨g12, 1, none⟩ (.int .u64 L3)) from (Y0.out.setCell (by dsimp only; omega) _).setCell (by dsimp only; omega) _)
    clear j0 j1 k0 k1 l0 l1 V12 V4 V8 V0 X12 X4 X8 X0 U12 U4 U8 U0 q1 q2
    go_upto_region 13 with fail
    obtain ⟨Z, hZ⟩ : ∃ Z, (w6.setCell ⟨g12, 0, none⟩ (.int .u64 H3)).setCell ⟨g12, 1, none⟩ (.int .u64 L3) = Z := ⟨_, rfl⟩
    rw [hZ] at Z12 Z4 Z8 Z0 ⊢
    clear hZ m0 m1 f0 f1 Y12 Y4 Y8 Y0
    have a0 : Z.cell? ⟨g4, 0, none⟩ = some (.int .u64 H) := row_cell Z4.out 0
    have a1 : Z.cell? ⟨g4, 1, none⟩ = some (.int .u64 L) := row_cell Z4.out 1
    go_upto_region 14 with (go_at_call 10; with_reducible refine (N.out _).mono ?_; rintro e w7 ⟨rfl, h1⟩; have M12 := hid (row_on Z12.out h1); have M8 := hid (row_on Z8.out h1); have M0 := hid (btr Z0.out h1); have b0 := row_cell M12.out 0; have b1 := row_cell M12.out 1; clear h1)
    clear a0 a1
    go_upto_region 15 with (go_at_call 26; with_reducible refine (NG.out _).mono ?_; rintro e w8 ⟨rfl, h1⟩; have J12 := hid (row_on M12.out h1); have J8 := hid (row_on M8.out h1); have J0 := hid (btr M0.out h1); have m0 := row_cell J12.out 0; have m1 := row_cell J12.out 1; have f0 := row_frz J12.out 0; have f1 := row_frz J12.out 1; clear h1)
    have q1 := HN.out
    have q2 := HM.out
    have I12 := hid (row_set2 (u := .int .u64 Ln) (row_set1 (u := .int .u64 Hn) J12.out))
    have I8 := hid (row_off (row_off J8.out (show g8 ≠ g12 by omega) 0 (.int .u64 Hn)) (show g8 ≠ g12 by omega) 1 (.int .u64 Ln))
    have I0 := hid (show Below w.heap.size w ((w8.setCell ⟨g12, 0, none⟩ (.int .u64 Hn)).setCell ⟨g12, 1, none⟩ (.int .u64 Ln)) from (J0.out.setCell (by dsimp only; omega) _).setCell (by dsimp only; omega) _)
    obtain ⟨I, hI⟩ : ∃ Z, (w8.setCell ⟨g12, 0, none⟩ (.int .u64 Hn)).setCell ⟨g12, 1, none⟩ (.int .u64 Ln) = Z := ⟨_, rfl⟩
    rw [hI] at I12 I8 I0 ⊢
    clear hI m0 m1 f0 f1 q1 q2 J12 J8 J0 b0 b1 M12 M8 M0
    have b0 := row_cell I12.out 0
    have b1 := row_cell I12.out 1
    have d0 := row_cell I8.out 0
    have d1 := row_cell I8.out 1
    have x0 := row_frz I8.out 0
    have x1 := row_frz I8.out 1
    go_wp2
    refine bodyPost_ret (res_ct Try.results28 _ _ g8 26 #[.int .u64 Hn, .int .u64 Ln] (0, 0) _ (.int .i64 0) (by rfl) (by rfl) (row_set2 (row_set1 I8.out)) Try.underlying26 rfl info26) rfl ⟨rfl, ?_⟩
    have q1 := HN.out
    exact (I0.out.setCell (by dsimp only; omega) _).setCell (by dsimp only; omega) _
theorem portion_down (H L a b round H1 L1 H2 L2 R H3 L3 E s Hn Ln : Int) (w : World) (hb0 : 0 ≤ b) (hb1 : b < 4294967296) (ha0 : 0 ≤ a) (ha1 : a < 4294967296) (hs : decide (s < 0) = true)
    (D : Hid (∀ w : World, Calls Try.prog 47 #[.int .u64 b, .int .i64 round] w fun e w' => e = .returned (.int .i64 0) ∧ Below w.heap.size w w'))
    (S : Hid (∀ w : World, Calls Try.prog 30 #[.agg #[.int .u64 H, .int .u64 L]] w fun e w' => e = .returned (.agg #[.int .u64 H1, .int .u64 L1]) ∧ Below w.heap.size w w'))
    (C : Hid (∀ w : World, Calls Try.prog 48 #[.agg #[.int .u64 H1, .int .u64 L1], .int .u64 a, .int .u64 b] w fun e w' => e = .returned (.tuple #[.agg #[.int .u64 H2, .int .u64 L2], .int .u64 R, .bool true]) ∧ Below w.heap.size w w'))
    (G : Hid (∀ w : World, Calls Try.prog 49 #[.int .u64 L2, .int .u64 R, .int .u64 b, .int .i64 round] w fun e w' => e = .returned (.bool false) ∧ Below w.heap.size w w'))
    (N : Hid (∀ w : World, Calls Try.prog 10 #[.agg #[.int .u64 H, .int .u64 L]] w fun e w' => e = .returned (.int .i64 s) ∧ Below w.heap.size w w'))
    (NG : Hid (∀ w : World, Calls Try.prog 26 #[.agg #[.int .u64 H2, .int .u64 L2]] w fun e w' => e = .returned (.agg #[.int .u64 Hn, .int .u64 Ln]) ∧ Below w.heap.size w w')) :
    Calls Try.prog 28 #[.agg #[.int .u64 H, .int .u64 L], .int .u32 a, .int .u32 b, .int .i64 round] w fun e w' => e = .returned (.tuple #[.agg #[.int .u64 Hn, .int .u64 Ln], .int .i64 0]) ∧ Below w.heap.size w w' := by
  obtain ⟨Wa, hWa⟩ : ∃ W, w.alloc (.cells #[.int .u64 H, .int .u64 L] 26) = W := ⟨_, rfl⟩
  obtain ⟨Wb, hWb⟩ : ∃ W, Wa.alloc (.cells #[.int .u64 0, .int .u64 0] 26) = W := ⟨_, rfl⟩
  have ba : Below w.heap.size w Wa := by rw [← hWa]; exact ball _ _
  have bb : Below Wa.heap.size Wa Wb := by rw [← hWb]; exact ball _ _
  have O4 := hid (row_on (show Wa.heap[w.heap.size]? = some (.cells #[.int .u64 H, .int .u64 L] 26 (0, 0)) from by rw [← hWa]; exact World.alloc_heap_new _ _) bb)
  have O8 := hid (show Wb.heap[Wa.heap.size]? = some (.cells #[.int .u64 0, .int .u64 0] 26 (0, 0)) from by rw [← hWb]; exact World.alloc_heap_new _ _)
  have O0 := hid (btr ba bb)
  obtain ⟨g4, hg4⟩ : ∃ g, w.heap.size = g := ⟨_, rfl⟩
  obtain ⟨g8, hg8⟩ : ∃ g, Wa.heap.size = g := ⟨_, rfl⟩
  have HN := hid (show w.heap.size = g4 ∧ g4 < g8 from ⟨hg4, by have := row_lt (show Wa.heap[w.heap.size]? = some (.cells #[.int .u64 H, .int .u64 L] 26 (0, 0)) from by rw [← hWa]; exact World.alloc_heap_new _ _); omega⟩)
  rw [hg4] at O4
  rw [hg8] at O8
  clear ba bb
  go_enter Try.func28, Try.ntmps28
  go_upto_region 13 with (first | (go_at_call 47; with_reducible refine (D.out _).mono ?_; rintro e w1 ⟨rfl, h1⟩; have P4 := hid (row_on O4.out h1); have P8 := hid (row_on O8.out h1); have P0 := hid (btr O0.out h1); have i0 := row_cell P4.out 0; have i1 := row_cell P4.out 1; clear h1) | (go_at_call 30; with_reducible refine (S.out _).mono ?_; rintro e w2 ⟨rfl, h1⟩; have Q4 := hid (row_on P4.out h1); have Q8 := hid (row_on P8.out h1); have Q0 := hid (btr P0.out h1); clear h1) | (go_at_call 48; with_reducible refine (C.out _).mono ?_; rintro e w3 ⟨rfl, h1⟩; have T4 := hid (row_on Q4.out h1); have T8 := hid (row_on Q8.out h1); have T0 := hid (btr Q0.out h1); clear h1) | (go_at_call 49; with_reducible refine (G.out _).mono ?_; rintro e w4 ⟨rfl, h1⟩; have bx : Below w3.heap.size w3 w4 := btr (ball w3 (.cells #[.int .u64 H2, .int .u64 L2] 26)) h1; have U4 := hid (row_on T4.out bx); have U8 := hid (row_on T8.out bx); have U0 := hid (btr T0.out bx); have U12 := hid (row_on (show (w3.alloc (.cells #[.int .u64 H2, .int .u64 L2] 26)).heap[w3.heap.size]? = some (.cells #[.int .u64 H2, .int .u64 L2] 26 (0, 0)) from World.alloc_heap_new _ _) h1); clear h1 bx))
  obtain ⟨g12, hg12⟩ : ∃ g, w3.heap.size = g := ⟨_, rfl⟩
  have HM := hid (show g8 < g12 from by have := row_lt T8.out; omega)
  rw [hg12] at U12 ⊢
  clear hg12 O4 O8 O0 P4 P8 P0 Q4 Q8 Q0 T4 T8 T0 i0 i1
  have a0 : w4.cell? ⟨g4, 0, none⟩ = some (.int .u64 H) := row_cell U4.out 0
  have a1 : w4.cell? ⟨g4, 1, none⟩ = some (.int .u64 L) := row_cell U4.out 1
  go_upto_region 14 with (go_at_call 10; with_reducible refine (N.out _).mono ?_; rintro e w7 ⟨rfl, h1⟩; have M12 := hid (row_on U12.out h1); have M8 := hid (row_on U8.out h1); have M0 := hid (btr U0.out h1); have b0 := row_cell M12.out 0; have b1 := row_cell M12.out 1; clear h1)
  clear a0 a1
  go_upto_region 15 with (go_at_call 26; with_reducible refine (NG.out _).mono ?_; rintro e w8 ⟨rfl, h1⟩; have J12 := hid (row_on M12.out h1); have J8 := hid (row_on M8.out h1); have J0 := hid (btr M0.out h1); have m0 := row_cell J12.out 0; have m1 := row_cell J12.out 1; have f0 := row_frz J12.out 0; have f1 := row_frz J12.out 1; clear h1)
  have q1 := HN.out
  have q2 := HM.out
  have I12 := hid (row_set2 (u := .int .u64 Ln) (row_set1 (u := .int .u64 Hn) J12.out))
  have I8 := hid (row_off (row_off J8.out (show g8 ≠ g12 by omega) 0 (.int .u64 Hn)) (show g8 ≠ g12 by omega) 1 (.int .u64 Ln))
  have I0 := hid (show Below w.heap.size w ((w8.setCell ⟨g12, 0, none⟩ (.int .u64 Hn)).setCell ⟨g12, 1, none⟩ (.int .u64 Ln)) from (J0.out.setCell (by dsimp only; omega) _).setCell (by dsimp only; omega) _)
  obtain ⟨I, hI⟩ : ∃ Z, (w8.setCell ⟨g12, 0, none⟩ (.int .u64 Hn)).setCell ⟨g12, 1, none⟩ (.int .u64 Ln) = Z := ⟨_, rfl⟩
  rw [hI] at I12 I8 I0 ⊢
  clear hI m0 m1 f0 f1 q1 q2 J12 J8 J0 b0 b1 M12 M8 M0
  have b0 := row_cell I12.out 0
  have b1 := row_cell I12.out 1
  have d0 := row_cell I8.out 0
  have d1 := row_cell I8.out 1
  have x0 := row_frz I8.out 0
  have x1 := row_frz I8.out 1
  go_wp2
  refine bodyPost_ret (res_ct Try.results28 _ _ g8 26 #[.int .u64 Hn, .int .u64 Ln] (0, 0) _ (.int .i64 0) (by rfl) (by rfl) (row_set2 (row_set1 I8.out)) Try.underlying26 rfl info26) rfl ⟨rfl, ?_⟩
  have q1 := HN.out
  exact (I0.out.setCell (by dsimp only; omega) _).setCell (by dsimp only; omega) _
end Go.Proofs.Ythikjpccmplbiaa
