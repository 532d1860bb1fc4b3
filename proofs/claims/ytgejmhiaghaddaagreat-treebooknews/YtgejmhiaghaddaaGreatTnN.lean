/-
  The three steps.
-/
import Derived.Test.YtgejmhiaghaddaaGreatTnM
namespace Go.Proofs.YtgejmhiaghaddaaGreat
open Go.RowKit Go.Deep
set_option linter.unusedVariables false
set_option linter.unusedSimpArgs false
set_option maxHeartbeats 4000000
set_option maxRecDepth 100000
attribute [local go_sem ↓] Go.wp_at_zero Go.wp_at_succ
theorem row3 {w : World} {g : Nat} {t : TypeId} {a0 a1 a2 : Value} (h : w.heap[g]? = some (.cells #[a0, a1, a2] t (0, 0))) : w.cell? ⟨g, 0, none⟩ = some a0 ∧ w.cell? ⟨g, 1, none⟩ = some a1 ∧ w.cell? ⟨g, 2, none⟩ = some a2 :=
  ⟨row_cell h 0, row_cell h 1, row_cell h 2⟩
theorem step7 (cap meet : Int) (X B : Nat) (w : World) (hX : w.heap[X]? = some (.cells #[.pointer (some ⟨B, 0, none⟩), .int .i64 cap, .int .i64 meet, .slice none 0 0, .slice none 0 0, .int .u64 0, .int .u64 0] 33 (0, 0))) (hK : Bk w B cap meet) : Calls Tryz.prog 6 #[.pointer (some ⟨X, 0, none⟩), .agg #[.int .i64 7, .int .i64 0, .int .u64 0, .int .u64 0, .int .u32 0, .int .i64 0, .int .i64 0, .int .i64 0, .int .u64 0, .int .u64 0, .int .i64 0, .int .i64 0, .slice none 0 0, .slice none 0 0, .int .u64 0, .int .u64 0, .int .i64 0, .int .i64 0, .int .u64 0]] w fun e w' => e = .returned (.bool true) ∧ Below w.heap.size w w' := by
  have HX0 := hid hX
  have HK := hid hK
  clear hX hK
  obtain ⟨R, hR⟩ : ∃ R, w.heap.size = R := ⟨_, rfl⟩
  obtain ⟨W, hW⟩ : ∃ U, w.alloc (.cells #[.int .i64 7, .int .i64 0, .int .u64 0, .int .u64 0, .int .u32 0, .int .i64 0, .int .i64 0, .int .i64 0, .int .u64 0, .int .u64 0, .int .i64 0, .int .i64 0, .slice none 0 0, .slice none 0 0, .int .u64 0, .int .u64 0, .int .i64 0, .int .i64 0, .int .u64 0] 40) = U := ⟨_, rfl⟩
  have b0 : Below w.heap.size w W := by rw [← hW]; exact ball _ _
  have HBW := hid b0
  have HR0 := hid (show W.heap[R]? = some (.cells #[.int .i64 7, .int .i64 0, .int .u64 0, .int .u64 0, .int .u32 0, .int .i64 0, .int .i64 0, .int .i64 0, .int .u64 0, .int .u64 0, .int .i64 0, .int .i64 0, .slice none 0 0, .slice none 0 0, .int .u64 0, .int .u64 0, .int .i64 0, .int .i64 0, .int .u64 0] 40 (0, 0)) from (by rw [← hW, ← hR]; exact World.alloc_heap_new _ _))
  have HW := hid hW
  have HRR := hid hR
  clear hR hW  b0
  have c0 := row_cell HR0.out 0
  simp only [List.getElem?_toArray, List.getElem?_cons_zero] at c0
  have HXW := hid (row_on HX0.out HBW.out)
  have HKW := hid (HK.out.on HBW.out)
  go_enter Tryz.func6, Tryz.ntmps6
  go_upto_region 1 with fail
  rw [HW.out, HRR.out]
  have w0 : IntKind.i64.wrap 0 = 0 := by decide
  go_upto_region 28 with fail
  clear c0
  obtain ⟨Y0, hY0⟩ : ∃ X, W.drew = X := ⟨_, rfl⟩
  have HE0 := hid (show Below W.heap.size W Y0 from by rw [← hY0]; exact bdrew1 _)
  have HS0 := hid (fun (U : World) (hU : Below Y0.heap.size Y0 U) => row7 (row_on (row_on HXW.out HE0.out) hU))
  refine wp_region_held_drew (S := (fun U => U.cell? ⟨X, 0, none⟩ = some (.pointer (some ⟨B, 0, none⟩)) ∧ U.cell? ⟨X, 1, none⟩ = some (.int .i64 cap) ∧ U.cell? ⟨X, 2, none⟩ = some (.int .i64 meet) ∧ U.cell? ⟨X, 3, none⟩ = some (.slice none 0 0) ∧ U.cell? ⟨X, 4, none⟩ = some (.slice none 0 0) ∧ U.cell? ⟨X, 5, none⟩ = some (.int .u64 0) ∧ U.cell? ⟨X, 6, none⟩ = some (.int .u64 0))) (by kernel_rfl) ?_ (fun hHeld => ?_)
  · (try dsimp only); ((rw [hY0]; exact HS0.out _ (Below.refl _ _)))
  rw [hY0] at hHeld ⊢
  clear hY0
  refine' wpAnyH_take (i := 0) (oi := _) (v := _) rfl (by kernel_rfl) (by kernel_rfl) (by kernel_rfl) (fun _ _ _ h => h) (Or.inl ⟨by kernel_rfl, ?_⟩) (by assumption) ?_
  rotate_left
  · (intro w hSw; (try dsimp only at hSw); go_simp; try (with_reducible rfl))
  try simp only [List.getElem_toArray, List.getElem_cons_succ, List.getElem_cons_zero, Act.put, List.setIfInBounds_toArray, List.set_cons_zero, List.set_cons_succ]
  refine' wpAnyH_take (i := 1) (oi := _) (v := _) rfl (by kernel_rfl) (by kernel_rfl) (by kernel_rfl) (fun _ _ _ h => h) (Or.inl ⟨by kernel_rfl, ?_⟩) (by assumption) ?_
  rotate_left
  · (intro w hSw; (try dsimp only at hSw); go_simp; try (with_reducible rfl))
  try simp only [List.getElem_toArray, List.getElem_cons_succ, List.getElem_cons_zero, Act.put, List.setIfInBounds_toArray, List.set_cons_zero, List.set_cons_succ]
  refine' wpAnyH_take (i := 2) (oi := _) (v := _) rfl (by kernel_rfl) (by kernel_rfl) (by kernel_rfl) (fun _ _ _ h => h) (Or.inl ⟨by kernel_rfl, ?_⟩) (by assumption) ?_
  rotate_left
  · (intro w hSw; (try dsimp only at hSw); go_simp; try (with_reducible rfl))
  try simp only [List.getElem_toArray, List.getElem_cons_succ, List.getElem_cons_zero, Act.put, List.setIfInBounds_toArray, List.set_cons_zero, List.set_cons_succ]
  refine' wpAnyH_take (i := 3) (oi := _) (v := _) rfl (by kernel_rfl) (by kernel_rfl) (by kernel_rfl) (fun _ _ _ h => h) (Or.inl ⟨by kernel_rfl, ?_⟩) (by assumption) ?_
  rotate_left
  · (intro w hSw; (try dsimp only at hSw); go_simp; try (with_reducible rfl))
  try simp only [List.getElem_toArray, List.getElem_cons_succ, List.getElem_cons_zero, Act.put, List.setIfInBounds_toArray, List.set_cons_zero, List.set_cons_succ]
  refine' wpAnyH_take (i := 5) (oi := _) (v := _) rfl (by kernel_rfl) (by kernel_rfl) (by kernel_rfl) (fun _ _ _ h => h) (Or.inl ⟨by kernel_rfl, ?_⟩) (by assumption) ?_
  rotate_left
  · (intro w hSw; (try dsimp only at hSw); go_simp; try (with_reducible rfl))
  try simp only [List.getElem_toArray, List.getElem_cons_succ, List.getElem_cons_zero, Act.put, List.setIfInBounds_toArray, List.set_cons_zero, List.set_cons_succ]
  refine' wpAnyH_take (i := 6) (oi := _) (v := _) rfl (by kernel_rfl) (by kernel_rfl) (by kernel_rfl) (fun _ _ _ h => h) (Or.inl ⟨by kernel_rfl, ?_⟩) (by assumption) ?_
  rotate_left
  · (intro w hSw; (try dsimp only at hSw); go_simp; try (with_reducible rfl))
  try simp only [List.getElem_toArray, List.getElem_cons_succ, List.getElem_cons_zero, Act.put, List.setIfInBounds_toArray, List.set_cons_zero, List.set_cons_succ]
  refine' wpAnyH_take (i := 7) (oi := _) (v := _) rfl (by kernel_rfl) (by kernel_rfl) (by kernel_rfl) (fun _ _ _ h => h) (Or.inl ⟨by kernel_rfl, ?_⟩) (by assumption) ?_
  rotate_left
  · (intro w hSw; (try dsimp only at hSw); go_simp; try (with_reducible rfl))
  try simp only [List.getElem_toArray, List.getElem_cons_succ, List.getElem_cons_zero, Act.put, List.setIfInBounds_toArray, List.set_cons_zero, List.set_cons_succ]
  refine' wpAnyH_take (i := 8) (oi := _) (v := _) rfl (by kernel_rfl) (by kernel_rfl) (by kernel_rfl) (fun _ _ _ h => h) (Or.inl ⟨by kernel_rfl, ?_⟩) (by assumption) ?_
  rotate_left
  · (intro w hSw; (try dsimp only at hSw); go_simp; try (with_reducible rfl))
  try simp only [List.getElem_toArray, List.getElem_cons_succ, List.getElem_cons_zero, Act.put, List.setIfInBounds_toArray, List.set_cons_zero, List.set_cons_succ]
  refine' wpAnyH_take (i := 9) (oi := _) (v := _) rfl (by kernel_rfl) (by kernel_rfl) (by kernel_rfl) (fun _ _ _ h => h) (Or.inl ⟨by kernel_rfl, ?_⟩) (by assumption) ?_
  rotate_left
  · (intro w hSw; (try dsimp only at hSw); go_simp; try (with_reducible rfl))
  try simp only [List.getElem_toArray, List.getElem_cons_succ, List.getElem_cons_zero, Act.put, List.setIfInBounds_toArray, List.set_cons_zero, List.set_cons_succ]
  refine' wpAnyH_take (i := 10) (oi := _) (v := .int .i64 0) rfl (by kernel_rfl) (by kernel_rfl) (by kernel_rfl) (fun _ _ _ h => h) (Or.inl ⟨by kernel_rfl, ?_⟩) (by assumption) ?_
  · (intro w hSw; (try dsimp only at hSw); go_simp; try (with_reducible rfl))
  try simp only [List.getElem_toArray, List.getElem_cons_succ, List.getElem_cons_zero, Act.put, List.setIfInBounds_toArray, List.set_cons_zero, List.set_cons_succ]
  refine' wpAnyH_take (i := 11) (oi := _) (v := _) rfl (by kernel_rfl) (by kernel_rfl) (by kernel_rfl) (fun _ _ _ h => h) (Or.inl ⟨by kernel_rfl, ?_⟩) (by assumption) ?_
  rotate_left
  · (intro w hSw; (try dsimp only at hSw); go_simp; try (with_reducible rfl))
  try simp only [List.getElem_toArray, List.getElem_cons_succ, List.getElem_cons_zero, Act.put, List.setIfInBounds_toArray, List.set_cons_zero, List.set_cons_succ]
  refine' wpAnyH_take (i := 12) (oi := _) (v := _) rfl (by kernel_rfl) (by kernel_rfl) (by kernel_rfl) (fun _ _ _ h => h) (Or.inl ⟨by kernel_rfl, ?_⟩) (by assumption) ?_
  rotate_left
  · (intro w hSw; (try dsimp only at hSw); go_simp; try (with_reducible rfl))
  try simp only [List.getElem_toArray, List.getElem_cons_succ, List.getElem_cons_zero, Act.put, List.setIfInBounds_toArray, List.set_cons_zero, List.set_cons_succ]
  refine' wpAnyH_take (i := 13) (oi := _) (v := _) rfl (by kernel_rfl) (by kernel_rfl) (by kernel_rfl) (fun _ _ _ h => h) (Or.inl ⟨by kernel_rfl, ?_⟩) (by assumption) ?_
  rotate_left
  · (intro w hSw; (try dsimp only at hSw); go_simp; try (with_reducible rfl))
  try simp only [List.getElem_toArray, List.getElem_cons_succ, List.getElem_cons_zero, Act.put, List.setIfInBounds_toArray, List.set_cons_zero, List.set_cons_succ]
  refine' wpAnyH_take (i := 14) (oi := _) (v := _) rfl (by kernel_rfl) (by kernel_rfl) (by kernel_rfl) (fun _ _ _ h => h) (Or.inl ⟨by kernel_rfl, ?_⟩) (by assumption) ?_
  rotate_left
  · (intro w hSw; (try dsimp only at hSw); go_simp; try (with_reducible rfl))
  try simp only [List.getElem_toArray, List.getElem_cons_succ, List.getElem_cons_zero, Act.put, List.setIfInBounds_toArray, List.set_cons_zero, List.set_cons_succ]
  refine' wpAnyH_take (i := 15) (oi := _) (v := _) rfl (by kernel_rfl) (by kernel_rfl) (by kernel_rfl) (fun _ _ _ h => h) (Or.inl ⟨by kernel_rfl, ?_⟩) (by assumption) ?_
  rotate_left
  · (intro w hSw; (try dsimp only at hSw); go_simp; try (with_reducible rfl))
  try simp only [List.getElem_toArray, List.getElem_cons_succ, List.getElem_cons_zero, Act.put, List.setIfInBounds_toArray, List.set_cons_zero, List.set_cons_succ]
  refine' wpAnyH_take (i := 16) (oi := _) (v := .int .i64 0) rfl (by kernel_rfl) (by kernel_rfl) (by kernel_rfl) (fun _ _ _ h => h) (Or.inl ⟨by kernel_rfl, ?_⟩) (by assumption) ?_
  · (intro w hSw; (try dsimp only at hSw); go_simp; try (with_reducible rfl))
  try simp only [List.getElem_toArray, List.getElem_cons_succ, List.getElem_cons_zero, Act.put, List.setIfInBounds_toArray, List.set_cons_zero, List.set_cons_succ]
  refine' wpAnyH_take (i := 17) (oi := _) (v := .int .i64 0) rfl (by kernel_rfl) (by kernel_rfl) (by kernel_rfl) (fun _ _ _ h => h) (Or.inl ⟨by kernel_rfl, ?_⟩) (by assumption) ?_
  · (intro w hSw; (try dsimp only at hSw); go_simp; try (with_reducible rfl))
  try simp only [List.getElem_toArray, List.getElem_cons_succ, List.getElem_cons_zero, Act.put, List.setIfInBounds_toArray, List.set_cons_zero, List.set_cons_succ]
  refine wpAnyH_ready (rs := [4]) (by kernel_rfl) (by simp) ?_
  refine AllReadyH.cons (o := _) rfl (fun K hK => ?_) AllReadyH.nil
  go_simp
  go_at_call 21; with_reducible refine (blen_none cap meet B Y0 (HKW.out.on HE0.out)).mono ?_; rintro e X1 ⟨rfl, hb1⟩
  (try go_wp2_with fail)
  have HX := hid hb1
  clear hb1
  refine hK.out _ _ ?_ (fun hHeld => ?_)
  · (try dsimp only); exact HS0.out _ HX.out
  clear hK K
  try simp only [List.getElem_toArray, List.getElem_cons_succ, List.getElem_cons_zero, Act.put, List.setIfInBounds_toArray, List.set_cons_zero, List.set_cons_succ]
  refine' wpAnyH_take (i := 18) (oi := _) (v := .bool true) rfl (by kernel_rfl) (by kernel_rfl) (by kernel_rfl) (fun _ _ _ h => h) (Or.inl ⟨by kernel_rfl, ?_⟩) (by assumption) ?_
  · (intro w hSw; (try dsimp only at hSw); go_simp; try (with_reducible rfl))
  try simp only [List.getElem_toArray, List.getElem_cons_succ, List.getElem_cons_zero, Act.put, List.setIfInBounds_toArray, List.set_cons_zero, List.set_cons_succ]
  refine' wpAnyH_take (i := 19) (oi := _) (v := .bool true) rfl (by kernel_rfl) (by kernel_rfl) (by kernel_rfl) (fun _ _ _ h => h) (Or.inl ⟨by kernel_rfl, ?_⟩) (by assumption) ?_
  · (intro w hSw; (try dsimp only at hSw); go_simp; try (with_reducible rfl))
  try simp only [List.getElem_toArray, List.getElem_cons_succ, List.getElem_cons_zero, Act.put, List.setIfInBounds_toArray, List.set_cons_zero, List.set_cons_succ]
  refine wpAnyH_done (by kernel_rfl) ?_ _
  clear hHeld
  go_wp2
  go_ret
  exact ⟨rfl, btr HBW.out (btr HE0.out HX.out)⟩
theorem step8 (cap meet : Int) (X B : Nat) (w : World) (hX : w.heap[X]? = some (.cells #[.pointer (some ⟨B, 0, none⟩), .int .i64 cap, .int .i64 meet, .slice none 0 0, .slice none 0 0, .int .u64 0, .int .u64 0] 33 (0, 0))) (hK : Bk w B cap meet) : Calls Tryz.prog 6 #[.pointer (some ⟨X, 0, none⟩), .agg #[.int .i64 8, .int .i64 0, .int .u64 0, .int .u64 0, .int .u32 0, .int .i64 0, .int .i64 0, .int .i64 0, .int .u64 0, .int .u64 0, .int .i64 0, .int .i64 0, .slice none 0 0, .slice none 0 0, .int .u64 0, .int .u64 0, .int .i64 0, .int .i64 0, .int .u64 0]] w fun e w' => e = .returned (.bool true) ∧ Below w.heap.size w w' := by
  have HX0 := hid hX
  have HK := hid hK
  clear hX hK
  obtain ⟨R, hR⟩ : ∃ R, w.heap.size = R := ⟨_, rfl⟩
  obtain ⟨W, hW⟩ : ∃ U, w.alloc (.cells #[.int .i64 8, .int .i64 0, .int .u64 0, .int .u64 0, .int .u32 0, .int .i64 0, .int .i64 0, .int .i64 0, .int .u64 0, .int .u64 0, .int .i64 0, .int .i64 0, .slice none 0 0, .slice none 0 0, .int .u64 0, .int .u64 0, .int .i64 0, .int .i64 0, .int .u64 0] 40) = U := ⟨_, rfl⟩
  have b0 : Below w.heap.size w W := by rw [← hW]; exact ball _ _
  have HBW := hid b0
  have HR0 := hid (show W.heap[R]? = some (.cells #[.int .i64 8, .int .i64 0, .int .u64 0, .int .u64 0, .int .u32 0, .int .i64 0, .int .i64 0, .int .i64 0, .int .u64 0, .int .u64 0, .int .i64 0, .int .i64 0, .slice none 0 0, .slice none 0 0, .int .u64 0, .int .u64 0, .int .i64 0, .int .i64 0, .int .u64 0] 40 (0, 0)) from (by rw [← hW, ← hR]; exact World.alloc_heap_new _ _))
  have HW := hid hW
  have HRR := hid hR
  clear hR hW  b0
  have c0 := row_cell HR0.out 0
  simp only [List.getElem?_toArray, List.getElem?_cons_zero] at c0
  have HXW := hid (row_on HX0.out HBW.out)
  have HKW := hid (HK.out.on HBW.out)
  go_enter Tryz.func6, Tryz.ntmps6
  go_upto_region 1 with fail
  rw [HW.out, HRR.out]
  have CL := hid (fun U h => blevels_none cap meet B U h)
  have CH := hid (fun U h => bheights_none cap meet B U h)
  have CP := hid (fun U => prices_none U)
  have CF := hid (fun U => flat_none U)
  have HS0 := hid (fun (U : World) (hU : Below W.heap.size W U) => row7 (row_on HXW.out hU))
  obtain ⟨p_0, p_1, p_2, p_3, p_4, p_5, p_6⟩ := row7 HXW.out
  go_upto_region 31 with (go_at_call 22; with_reducible refine (CL.out _ HKW.out).mono ?_; rintro e w1 ⟨rfl, hb1⟩; have HB1 := hid hb1; clear hb1)
  clear p_0 p_1 p_2 p_3 p_4 p_5 p_6 c0
  obtain ⟨p_0, p_1, p_2, p_3, p_4, p_5, p_6⟩ := HS0.out _ HB1.out
  go_upto_region 32 with (go_at_call 23; with_reducible refine (CH.out _ (HKW.out.on HB1.out)).mono ?_; rintro e w2 ⟨rfl, hb2⟩; have HB2 := hid (btr HB1.out hb2); clear hb2)
  clear p_0 p_1 p_2 p_3 p_4 p_5 p_6
  obtain ⟨p_0, p_1, p_2, p_3, p_4, p_5, p_6⟩ := HS0.out _ HB2.out
  go_wp2_with (first | (go_at_call 24; with_reducible refine (CP.out _).mono ?_; rintro e w2 ⟨rfl, hb2⟩; have HB2 := hid (btr HB2.out hb2); clear hb2 p_0 p_1 p_2 p_3 p_4 p_5 p_6; obtain ⟨p_0, p_1, p_2, p_3, p_4, p_5, p_6⟩ := HS0.out _ HB2.out) | (go_at_call 25; with_reducible refine (CF.out _).mono ?_; rintro e w2 ⟨rfl, hb2⟩; have HB2 := hid (btr HB2.out hb2); clear hb2))
  go_ret
  exact ⟨rfl, btr HBW.out HB2.out⟩
theorem step4 (cap meet : Int) (X B : Nat) (w : World) (hX : w.heap[X]? = some (.cells #[.pointer (some ⟨B, 0, none⟩), .int .i64 cap, .int .i64 meet, .slice none 0 0, .slice none 0 0, .int .u64 0, .int .u64 0] 33 (0, 0))) (hK : Bk w B cap meet) : Calls Tryz.prog 6 #[.pointer (some ⟨X, 0, none⟩), .agg #[.int .i64 4, .int .i64 0, .int .u64 0, .int .u64 0, .int .u32 0, .int .i64 0, .int .i64 0, .int .i64 0, .int .u64 0, .int .u64 0, .int .i64 0, .int .i64 0, .slice none 0 0, .slice none 0 0, .int .u64 0, .int .u64 0, .int .i64 1, .int .i64 0, .int .u64 0]] w fun e w' => e = .returned (.bool true) ∧ Below w.heap.size w w' := by
  have HX0 := hid hX
  have HK := hid hK
  clear hX hK
  obtain ⟨R, hR⟩ : ∃ R, w.heap.size = R := ⟨_, rfl⟩
  obtain ⟨W, hW⟩ : ∃ U, w.alloc (.cells #[.int .i64 4, .int .i64 0, .int .u64 0, .int .u64 0, .int .u32 0, .int .i64 0, .int .i64 0, .int .i64 0, .int .u64 0, .int .u64 0, .int .i64 0, .int .i64 0, .slice none 0 0, .slice none 0 0, .int .u64 0, .int .u64 0, .int .i64 1, .int .i64 0, .int .u64 0] 40) = U := ⟨_, rfl⟩
  have b0 : Below w.heap.size w W := by rw [← hW]; exact ball _ _
  have HBW := hid b0
  have HR0 := hid (show W.heap[R]? = some (.cells #[.int .i64 4, .int .i64 0, .int .u64 0, .int .u64 0, .int .u32 0, .int .i64 0, .int .i64 0, .int .i64 0, .int .u64 0, .int .u64 0, .int .i64 0, .int .i64 0, .slice none 0 0, .slice none 0 0, .int .u64 0, .int .u64 0, .int .i64 1, .int .i64 0, .int .u64 0] 40 (0, 0)) from (by rw [← hW, ← hR]; exact World.alloc_heap_new _ _))
  have HW := hid hW
  have HRR := hid hR
  clear hR hW  b0
  have c0 := row_cell HR0.out 0
  simp only [List.getElem?_toArray, List.getElem?_cons_zero] at c0
  have HXW := hid (row_on HX0.out HBW.out)
  have HKW := hid (HK.out.on HBW.out)
  go_enter Tryz.func6, Tryz.ntmps6
  go_upto_region 1 with fail
  rw [HW.out, HRR.out]
  have HSS := hid (fun (U : World) (hU : Below W.heap.size W U) => (And.intro (row7 (row_on HXW.out hU)) (show U.cell? ⟨R, 16, none⟩ = some (.int .i64 1) from row_cell (row_on HR0.out hU) 16)))
  go_upto_region 11 with fail
  clear c0
  have HBR := hid (Below.refl W.heap.size W)
  obtain ⟨Y1, hY1⟩ : ∃ X, W.drew = X := ⟨_, rfl⟩
  have HE1 := hid (show Below W.heap.size W Y1 from by rw [← hY1]; exact btr HBR.out (bdrew1 _))
  have HD1 := hid (show Below W.heap.size W Y1 from by rw [← hY1]; exact bdrew1 _)
  have HS1 := hid (fun (U : World) (hU : Below Y1.heap.size Y1 U) => (HSS.out U (btr HE1.out hU)))
  refine wp_region_held_drew (S := (fun U => (U.cell? ⟨X, 0, none⟩ = some (.pointer (some ⟨B, 0, none⟩)) ∧ U.cell? ⟨X, 1, none⟩ = some (.int .i64 cap) ∧ U.cell? ⟨X, 2, none⟩ = some (.int .i64 meet) ∧ U.cell? ⟨X, 3, none⟩ = some (.slice none 0 0) ∧ U.cell? ⟨X, 4, none⟩ = some (.slice none 0 0) ∧ U.cell? ⟨X, 5, none⟩ = some (.int .u64 0) ∧ U.cell? ⟨X, 6, none⟩ = some (.int .u64 0)) ∧ U.cell? ⟨R, 16, none⟩ = some (.int .i64 1))) (by kernel_rfl) ?_ (fun hHeld => ?_)
  · (try dsimp only); ((rw [hY1]; exact HS1.out _ (Below.refl _ _)))
  rw [hY1] at hHeld ⊢
  clear hY1
  have BE := hid (Below.refl Y1.heap.size Y1)
  refine' wpAnyH_take (i := 0) (oi := _) (v := _) rfl (by kernel_rfl) (by kernel_rfl) (by kernel_rfl) (fun _ _ _ h => h) (Or.inl ⟨by kernel_rfl, ?_⟩) (by assumption) ?_
  rotate_left
  · (intro w hSw; (try dsimp only at hSw); go_simp; try (with_reducible rfl))
  try simp only [List.getElem_toArray, List.getElem_cons_succ, List.getElem_cons_zero, Act.put, List.setIfInBounds_toArray, List.set_cons_zero, List.set_cons_succ]
  refine' wpAnyH_take (i := 1) (oi := _) (v := _) rfl (by kernel_rfl) (by kernel_rfl) (by kernel_rfl) (fun _ _ _ h => h) (Or.inl ⟨by kernel_rfl, ?_⟩) (by assumption) ?_
  rotate_left
  · (intro w hSw; (try dsimp only at hSw); go_simp; try (with_reducible rfl))
  try simp only [List.getElem_toArray, List.getElem_cons_succ, List.getElem_cons_zero, Act.put, List.setIfInBounds_toArray, List.set_cons_zero, List.set_cons_succ]
  refine' wpAnyH_take (i := 2) (oi := _) (v := _) rfl (by kernel_rfl) (by kernel_rfl) (by kernel_rfl) (fun _ _ _ h => h) (Or.inl ⟨by kernel_rfl, ?_⟩) (by assumption) ?_
  rotate_left
  · (intro w hSw; (try dsimp only at hSw); go_simp; try (with_reducible rfl))
  try simp only [List.getElem_toArray, List.getElem_cons_succ, List.getElem_cons_zero, Act.put, List.setIfInBounds_toArray, List.set_cons_zero, List.set_cons_succ]
  refine' wpAnyH_take (i := 3) (oi := _) (v := _) rfl (by kernel_rfl) (by kernel_rfl) (by kernel_rfl) (fun _ _ _ h => h) (Or.inl ⟨by kernel_rfl, ?_⟩) (by assumption) ?_
  rotate_left
  · (intro w hSw; (try dsimp only at hSw); go_simp; try (with_reducible rfl))
  try simp only [List.getElem_toArray, List.getElem_cons_succ, List.getElem_cons_zero, Act.put, List.setIfInBounds_toArray, List.set_cons_zero, List.set_cons_succ]
  refine' wpAnyH_take (i := 4) (oi := _) (v := _) rfl (by kernel_rfl) (by kernel_rfl) (by kernel_rfl) (fun _ _ _ h => h) (Or.inl ⟨by kernel_rfl, ?_⟩) (by assumption) ?_
  rotate_left
  · (intro w hSw; (try dsimp only at hSw); go_simp; try (with_reducible rfl))
  try simp only [List.getElem_toArray, List.getElem_cons_succ, List.getElem_cons_zero, Act.put, List.setIfInBounds_toArray, List.set_cons_zero, List.set_cons_succ]
  refine' wpAnyH_take (i := 5) (oi := _) (v := _) rfl (by kernel_rfl) (by kernel_rfl) (by kernel_rfl) (fun _ _ _ h => h) (Or.inl ⟨by kernel_rfl, ?_⟩) (by assumption) ?_
  rotate_left
  · (intro w hSw; (try dsimp only at hSw); go_simp; try (with_reducible rfl))
  try simp only [List.getElem_toArray, List.getElem_cons_succ, List.getElem_cons_zero, Act.put, List.setIfInBounds_toArray, List.set_cons_zero, List.set_cons_succ]
  refine wpAnyH_ready (rs := [6, 10]) (by kernel_rfl) (by simp) ?_
  refine (AllReadyH.cons (o := _) rfl (fun KK hK => ?_) (AllReadyH.cons (o := _) rfl (fun KK hK => ?_) AllReadyH.nil))
  focus
    go_simp
    go_at_call 14; with_reducible refine (bbest_none cap meet B Y1 (HKW.out.on (btr HE1.out BE.out))).mono ?_; rintro e XC ⟨rfl, hbc⟩
    (try go_wp2_with fail)
    have BXC := hid (btr BE.out hbc)
    clear hbc
    refine hK.out _ _ ?_ (fun hHeld => ?_)
    · (try dsimp only); exact HS1.out _ BXC.out
    clear hK
    try simp only [List.getElem_toArray, List.getElem_cons_succ, List.getElem_cons_zero, Act.put, List.setIfInBounds_toArray, List.set_cons_zero, List.set_cons_succ]
    refine' wpAnyH_take (i := 7) (oi := _) (v := _) rfl (by kernel_rfl) (by kernel_rfl) (by kernel_rfl) (fun _ _ _ h => h) (Or.inl ⟨by kernel_rfl, ?_⟩) (by assumption) ?_
    rotate_left
    · (intro w hSw; (try dsimp only at hSw); go_simp; try (with_reducible rfl))
    try simp only [List.getElem_toArray, List.getElem_cons_succ, List.getElem_cons_zero, Act.put, List.setIfInBounds_toArray, List.set_cons_zero, List.set_cons_succ]
    refine' wpAnyH_take (i := 8) (oi := _) (v := _) rfl (by kernel_rfl) (by kernel_rfl) (by kernel_rfl) (fun _ _ _ h => h) (Or.inl ⟨by kernel_rfl, ?_⟩) (by assumption) ?_
    rotate_left
    · (intro w hSw; (try dsimp only at hSw); go_simp; try (with_reducible rfl))
    try simp only [List.getElem_toArray, List.getElem_cons_succ, List.getElem_cons_zero, Act.put, List.setIfInBounds_toArray, List.set_cons_zero, List.set_cons_succ]
    refine' wpAnyH_take (i := 9) (oi := _) (v := _) rfl (by kernel_rfl) (by kernel_rfl) (by kernel_rfl) (fun _ _ _ h => h) (Or.inl ⟨by kernel_rfl, ?_⟩) (by assumption) ?_
    rotate_left
    · (intro w hSw; (try dsimp only at hSw); go_simp; try (with_reducible rfl))
    try simp only [List.getElem_toArray, List.getElem_cons_succ, List.getElem_cons_zero, Act.put, List.setIfInBounds_toArray, List.set_cons_zero, List.set_cons_succ]
    refine wpAnyH_ready (rs := [10]) (by kernel_rfl) (by simp) ?_
    refine AllReadyH.cons (o := _) rfl (fun KK hK => ?_) AllReadyH.nil
    go_simp
    refine hK.out _ _ ?_ (fun hHeld => ?_)
    · (try dsimp only); exact HS1.out _ (btr BXC.out (ball _ _))
    clear hK
    try simp only [List.getElem_toArray, List.getElem_cons_succ, List.getElem_cons_zero, Act.put, List.setIfInBounds_toArray, List.set_cons_zero, List.set_cons_succ]
    obtain ⟨XA, hXA⟩ : ∃ X, XC.alloc (.cells #[.int .i64 0, .int .u64 0, .int .i64 0] 55) = X := ⟨_, rfl⟩
    have BXA := hid (show Below Y1.heap.size Y1 XA from by rw [← hXA]; exact btr BXC.out (ball _ _))
    obtain ⟨g1, hg⟩ : ∃ g, XC.heap.size = g := ⟨_, rfl⟩
    have y1 : Y1.heap.size ≤ g1 := by rw [← hg]; exact BXC.out.size
    have ZXA := hid (show XA.heap[g1]? = some (.cells #[.int .i64 0, .int .u64 0, .int .i64 0] 55 (0, 0)) from by rw [← hXA, ← hg]; exact World.alloc_heap_new _ _)
    rw [hXA, hg]
    clear hXA hg
    have ZZ := ZXA
    have ZB := BXA
    obtain ⟨WL, hWL⟩ : ∃ X, XA = X := ⟨_, rfl⟩
    rw [hWL] at ZZ ZB ⊢
    clear hWL
  rotate_left 1
  focus
    go_simp
    refine hK.out _ _ ?_ (fun hHeld => ?_)
    · (try dsimp only); exact HS1.out _ (btr BE.out (ball _ _))
    clear hK
    try simp only [List.getElem_toArray, List.getElem_cons_succ, List.getElem_cons_zero, Act.put, List.setIfInBounds_toArray, List.set_cons_zero, List.set_cons_succ]
    obtain ⟨XA, hXA⟩ : ∃ X, Y1.alloc (.cells #[.int .i64 0, .int .u64 0, .int .i64 0] 55) = X := ⟨_, rfl⟩
    have BXA := hid (show Below Y1.heap.size Y1 XA from by rw [← hXA]; exact btr BE.out (ball _ _))
    obtain ⟨g1, hg⟩ : ∃ g, Y1.heap.size = g := ⟨_, rfl⟩
    have y1 : Y1.heap.size ≤ g1 := by rw [← hg]; exact BE.out.size
    have ZXA := hid (show XA.heap[g1]? = some (.cells #[.int .i64 0, .int .u64 0, .int .i64 0] 55 (0, 0)) from by rw [← hXA, ← hg]; exact World.alloc_heap_new _ _)
    rw [hXA, hg]
    clear hXA hg
    refine wpAnyH_ready (rs := [6]) (by kernel_rfl) (by simp) ?_
    refine AllReadyH.cons (o := _) rfl (fun KK hK => ?_) AllReadyH.nil
    go_simp
    go_at_call 14; with_reducible refine (bbest_none cap meet B XA (HKW.out.on (btr HE1.out BXA.out))).mono ?_; rintro e XC ⟨rfl, hbc⟩
    (try go_wp2_with fail)
    have BXC := hid (btr BXA.out hbc)
    have ZXC := hid (row_on ZXA.out hbc)
    clear hbc
    refine hK.out _ _ ?_ (fun hHeld => ?_)
    · (try dsimp only); exact HS1.out _ BXC.out
    clear hK
    try simp only [List.getElem_toArray, List.getElem_cons_succ, List.getElem_cons_zero, Act.put, List.setIfInBounds_toArray, List.set_cons_zero, List.set_cons_succ]
    refine' wpAnyH_take (i := 7) (oi := _) (v := _) rfl (by kernel_rfl) (by kernel_rfl) (by kernel_rfl) (fun _ _ _ h => h) (Or.inl ⟨by kernel_rfl, ?_⟩) (by assumption) ?_
    rotate_left
    · (intro w hSw; (try dsimp only at hSw); go_simp; try (with_reducible rfl))
    try simp only [List.getElem_toArray, List.getElem_cons_succ, List.getElem_cons_zero, Act.put, List.setIfInBounds_toArray, List.set_cons_zero, List.set_cons_succ]
    refine' wpAnyH_take (i := 8) (oi := _) (v := _) rfl (by kernel_rfl) (by kernel_rfl) (by kernel_rfl) (fun _ _ _ h => h) (Or.inl ⟨by kernel_rfl, ?_⟩) (by assumption) ?_
    rotate_left
    · (intro w hSw; (try dsimp only at hSw); go_simp; try (with_reducible rfl))
    try simp only [List.getElem_toArray, List.getElem_cons_succ, List.getElem_cons_zero, Act.put, List.setIfInBounds_toArray, List.set_cons_zero, List.set_cons_succ]
    refine' wpAnyH_take (i := 9) (oi := _) (v := _) rfl (by kernel_rfl) (by kernel_rfl) (by kernel_rfl) (fun _ _ _ h => h) (Or.inl ⟨by kernel_rfl, ?_⟩) (by assumption) ?_
    rotate_left
    · (intro w hSw; (try dsimp only at hSw); go_simp; try (with_reducible rfl))
    try simp only [List.getElem_toArray, List.getElem_cons_succ, List.getElem_cons_zero, Act.put, List.setIfInBounds_toArray, List.set_cons_zero, List.set_cons_succ]
    have ZZ := ZXC
    have ZB := BXC
    obtain ⟨WL, hWL⟩ : ∃ X, XC = X := ⟨_, rfl⟩
    rw [hWL] at ZZ ZB ⊢
    clear hWL
  rotate_left 1
  all_goals
    have AI := hid (show (Tryz.prog.info? 55).map (·.size) = some (#[.int .i64 0, .int .u64 0, .int .i64 0] : Array Value).size from info55)
    have AS := hid (show (#[.int .i64 0, .int .u64 0, .int .i64 0] : Array Value).size = (#[.int .i64 0, .int .u64 0, .int .i64 0] : Array Value).size from rfl)
    have AA := hid (show (#[.int .i64 0, .int .u64 0, .int .i64 0] : Array Value).all (·.oneCell') = true from by simp [Value.oneCell'])
    refine wpAnyH_ready (rs := [11]) (by kernel_rfl) (by simp) ?_
    refine AllReadyH.cons (o := _) rfl (fun KK hK => ?_) AllReadyH.nil
    refine step_store_row (by rfl) 55 (.tmp 5) (.tmp 60) (by rfl) g1 #[.int .i64 0, .int .u64 0, .int .i64 0] (by rfl) (by rfl) 55 _ ZZ.out AI.out AS.out AA.out ?_
    have k1 := setRow_kp WL g1 #[.int .i64 0, .int .u64 0, .int .i64 0]
    have HBV := hid (ZB.out.trans (k1.below ZB.out.size (fun j hj e => by omega)))
    have HZ1 := hid (setRow_heap WL g1 _ #[.int .i64 0, .int .u64 0, .int .i64 0] 55 (0, 0) ZZ.out)
    refine hK.out _ _ ?_ (fun hHeld => ?_)
    · (try dsimp only); exact HS1.out _ HBV.out
    clear hK k1
    try simp only [List.getElem_toArray, List.getElem_cons_succ, List.getElem_cons_zero, Act.put, List.setIfInBounds_toArray, List.set_cons_zero, List.set_cons_succ]
    refine' wpAnyH_take (i := 12) (oi := _) (v := _) rfl (by kernel_rfl) (by kernel_rfl) (by kernel_rfl) (fun _ _ _ h => h) (Or.inl ⟨by kernel_rfl, ?_⟩) (by assumption) ?_
    rotate_left
    · (intro w hSw; (try dsimp only at hSw); go_simp; try (with_reducible rfl))
    try simp only [List.getElem_toArray, List.getElem_cons_succ, List.getElem_cons_zero, Act.put, List.setIfInBounds_toArray, List.set_cons_zero, List.set_cons_succ]
    refine wpAnyH_done (by kernel_rfl) ?_ _
    obtain ⟨V1, hV⟩ : ∃ X, WL.setRow g1 #[.int .i64 0, .int .u64 0, .int .i64 0] = X := ⟨_, rfl⟩
    rw [hV] at HBV HZ1 ⊢
    clear hV hHeld
    have HN1 := hid (btr HD1.out HBV.out)
    have HV1 := hid (btr HE1.out HBV.out)
    go_upto_region 12 with fail
    obtain ⟨Y2, hY2⟩ : ∃ X, V1.drew = X := ⟨_, rfl⟩
    have HE2 := hid (show Below W.heap.size W Y2 from by rw [← hY2]; exact btr HV1.out (bdrew1 _))
    have HD2 := hid (show Below V1.heap.size V1 Y2 from by rw [← hY2]; exact bdrew1 _)
    have HS2 := hid (fun (U : World) (hU : Below Y2.heap.size Y2 U) => (HSS.out U (btr HE2.out hU)))
    refine wp_region_held_drew (S := (fun U => (U.cell? ⟨X, 0, none⟩ = some (.pointer (some ⟨B, 0, none⟩)) ∧ U.cell? ⟨X, 1, none⟩ = some (.int .i64 cap) ∧ U.cell? ⟨X, 2, none⟩ = some (.int .i64 meet) ∧ U.cell? ⟨X, 3, none⟩ = some (.slice none 0 0) ∧ U.cell? ⟨X, 4, none⟩ = some (.slice none 0 0) ∧ U.cell? ⟨X, 5, none⟩ = some (.int .u64 0) ∧ U.cell? ⟨X, 6, none⟩ = some (.int .u64 0)) ∧ U.cell? ⟨R, 16, none⟩ = some (.int .i64 1))) (by kernel_rfl) ?_ (fun hHeld => ?_)
    · (try dsimp only); ((rw [hY2]; exact HS2.out _ (Below.refl _ _)))
    rw [hY2] at hHeld ⊢
    clear hY2
    have BE := hid (Below.refl Y2.heap.size Y2)
    refine' wpAnyH_take (i := 0) (oi := _) (v := _) rfl (by kernel_rfl) (by kernel_rfl) (by kernel_rfl) (fun _ _ _ h => h) (Or.inl ⟨by kernel_rfl, ?_⟩) (by assumption) ?_
    rotate_left
    · (intro w hSw; (try dsimp only at hSw); go_simp; try (with_reducible rfl))
    try simp only [List.getElem_toArray, List.getElem_cons_succ, List.getElem_cons_zero, Act.put, List.setIfInBounds_toArray, List.set_cons_zero, List.set_cons_succ]
    refine' wpAnyH_take (i := 1) (oi := _) (v := _) rfl (by kernel_rfl) (by kernel_rfl) (by kernel_rfl) (fun _ _ _ h => h) (Or.inl ⟨by kernel_rfl, ?_⟩) (by assumption) ?_
    rotate_left
    · (intro w hSw; (try dsimp only at hSw); go_simp; try (with_reducible rfl))
    try simp only [List.getElem_toArray, List.getElem_cons_succ, List.getElem_cons_zero, Act.put, List.setIfInBounds_toArray, List.set_cons_zero, List.set_cons_succ]
    refine' wpAnyH_take (i := 2) (oi := _) (v := _) rfl (by kernel_rfl) (by kernel_rfl) (by kernel_rfl) (fun _ _ _ h => h) (Or.inl ⟨by kernel_rfl, ?_⟩) (by assumption) ?_
    rotate_left
    · (intro w hSw; (try dsimp only at hSw); go_simp; try (with_reducible rfl))
    try simp only [List.getElem_toArray, List.getElem_cons_succ, List.getElem_cons_zero, Act.put, List.setIfInBounds_toArray, List.set_cons_zero, List.set_cons_succ]
    refine' wpAnyH_take (i := 3) (oi := _) (v := _) rfl (by kernel_rfl) (by kernel_rfl) (by kernel_rfl) (fun _ _ _ h => h) (Or.inl ⟨by kernel_rfl, ?_⟩) (by assumption) ?_
    rotate_left
    · (intro w hSw; (try dsimp only at hSw); go_simp; try (with_reducible rfl))
    try simp only [List.getElem_toArray, List.getElem_cons_succ, List.getElem_cons_zero, Act.put, List.setIfInBounds_toArray, List.set_cons_zero, List.set_cons_succ]
    refine' wpAnyH_take (i := 4) (oi := _) (v := _) rfl (by kernel_rfl) (by kernel_rfl) (by kernel_rfl) (fun _ _ _ h => h) (Or.inl ⟨by kernel_rfl, ?_⟩) (by assumption) ?_
    rotate_left
    · (intro w hSw; (try dsimp only at hSw); go_simp; try (with_reducible rfl))
    try simp only [List.getElem_toArray, List.getElem_cons_succ, List.getElem_cons_zero, Act.put, List.setIfInBounds_toArray, List.set_cons_zero, List.set_cons_succ]
    refine' wpAnyH_take (i := 5) (oi := _) (v := _) rfl (by kernel_rfl) (by kernel_rfl) (by kernel_rfl) (fun _ _ _ h => h) (Or.inl ⟨by kernel_rfl, ?_⟩) (by assumption) ?_
    rotate_left
    · (intro w hSw; (try dsimp only at hSw); go_simp; try (with_reducible rfl))
    try simp only [List.getElem_toArray, List.getElem_cons_succ, List.getElem_cons_zero, Act.put, List.setIfInBounds_toArray, List.set_cons_zero, List.set_cons_succ]
    refine wpAnyH_ready (rs := [6, 10]) (by kernel_rfl) (by simp) ?_
    refine (AllReadyH.cons (o := _) rfl (fun KK hK => ?_) (AllReadyH.cons (o := _) rfl (fun KK hK => ?_) AllReadyH.nil))
    focus
      go_simp
      go_at_call 15; with_reducible refine (dbest_none cap meet Y2).mono ?_; rintro e XC ⟨rfl, hbc⟩
      (try go_wp2_with fail)
      have BXC := hid (btr BE.out hbc)
      clear hbc
      refine hK.out _ _ ?_ (fun hHeld => ?_)
      · (try dsimp only); exact HS2.out _ BXC.out
      clear hK
      try simp only [List.getElem_toArray, List.getElem_cons_succ, List.getElem_cons_zero, Act.put, List.setIfInBounds_toArray, List.set_cons_zero, List.set_cons_succ]
      refine' wpAnyH_take (i := 7) (oi := _) (v := _) rfl (by kernel_rfl) (by kernel_rfl) (by kernel_rfl) (fun _ _ _ h => h) (Or.inl ⟨by kernel_rfl, ?_⟩) (by assumption) ?_
      rotate_left
      · (intro w hSw; (try dsimp only at hSw); go_simp; try (with_reducible rfl))
      try simp only [List.getElem_toArray, List.getElem_cons_succ, List.getElem_cons_zero, Act.put, List.setIfInBounds_toArray, List.set_cons_zero, List.set_cons_succ]
      refine' wpAnyH_take (i := 8) (oi := _) (v := _) rfl (by kernel_rfl) (by kernel_rfl) (by kernel_rfl) (fun _ _ _ h => h) (Or.inl ⟨by kernel_rfl, ?_⟩) (by assumption) ?_
      rotate_left
      · (intro w hSw; (try dsimp only at hSw); go_simp; try (with_reducible rfl))
      try simp only [List.getElem_toArray, List.getElem_cons_succ, List.getElem_cons_zero, Act.put, List.setIfInBounds_toArray, List.set_cons_zero, List.set_cons_succ]
      refine' wpAnyH_take (i := 9) (oi := _) (v := _) rfl (by kernel_rfl) (by kernel_rfl) (by kernel_rfl) (fun _ _ _ h => h) (Or.inl ⟨by kernel_rfl, ?_⟩) (by assumption) ?_
      rotate_left
      · (intro w hSw; (try dsimp only at hSw); go_simp; try (with_reducible rfl))
      try simp only [List.getElem_toArray, List.getElem_cons_succ, List.getElem_cons_zero, Act.put, List.setIfInBounds_toArray, List.set_cons_zero, List.set_cons_succ]
      refine wpAnyH_ready (rs := [10]) (by kernel_rfl) (by simp) ?_
      refine AllReadyH.cons (o := _) rfl (fun KK hK => ?_) AllReadyH.nil
      go_simp
      refine hK.out _ _ ?_ (fun hHeld => ?_)
      · (try dsimp only); exact HS2.out _ (btr BXC.out (ball _ _))
      clear hK
      try simp only [List.getElem_toArray, List.getElem_cons_succ, List.getElem_cons_zero, Act.put, List.setIfInBounds_toArray, List.set_cons_zero, List.set_cons_succ]
      obtain ⟨XA, hXA⟩ : ∃ X, XC.alloc (.cells #[.int .i64 0, .int .u64 0, .int .i64 0] 55) = X := ⟨_, rfl⟩
      have BXA := hid (show Below Y2.heap.size Y2 XA from by rw [← hXA]; exact btr BXC.out (ball _ _))
      obtain ⟨g2, hg⟩ : ∃ g, XC.heap.size = g := ⟨_, rfl⟩
      have y2 : Y2.heap.size ≤ g2 := by rw [← hg]; exact BXC.out.size
      have ZXA := hid (show XA.heap[g2]? = some (.cells #[.int .i64 0, .int .u64 0, .int .i64 0] 55 (0, 0)) from by rw [← hXA, ← hg]; exact World.alloc_heap_new _ _)
      rw [hXA, hg]
      clear hXA hg
      have ZZ := ZXA
      have ZB := BXA
      obtain ⟨WL, hWL⟩ : ∃ X, XA = X := ⟨_, rfl⟩
      rw [hWL] at ZZ ZB ⊢
      clear hWL
    rotate_left 1
    focus
      go_simp
      refine hK.out _ _ ?_ (fun hHeld => ?_)
      · (try dsimp only); exact HS2.out _ (btr BE.out (ball _ _))
      clear hK
      try simp only [List.getElem_toArray, List.getElem_cons_succ, List.getElem_cons_zero, Act.put, List.setIfInBounds_toArray, List.set_cons_zero, List.set_cons_succ]
      obtain ⟨XA, hXA⟩ : ∃ X, Y2.alloc (.cells #[.int .i64 0, .int .u64 0, .int .i64 0] 55) = X := ⟨_, rfl⟩
      have BXA := hid (show Below Y2.heap.size Y2 XA from by rw [← hXA]; exact btr BE.out (ball _ _))
      obtain ⟨g2, hg⟩ : ∃ g, Y2.heap.size = g := ⟨_, rfl⟩
      have y2 : Y2.heap.size ≤ g2 := by rw [← hg]; exact BE.out.size
      have ZXA := hid (show XA.heap[g2]? = some (.cells #[.int .i64 0, .int .u64 0, .int .i64 0] 55 (0, 0)) from by rw [← hXA, ← hg]; exact World.alloc_heap_new _ _)
      rw [hXA, hg]
      clear hXA hg
      refine wpAnyH_ready (rs := [6]) (by kernel_rfl) (by simp) ?_
      refine AllReadyH.cons (o := _) rfl (fun KK hK => ?_) AllReadyH.nil
      go_simp
      go_at_call 15; with_reducible refine (dbest_none cap meet XA).mono ?_; rintro e XC ⟨rfl, hbc⟩
      (try go_wp2_with fail)
      have BXC := hid (btr BXA.out hbc)
      have ZXC := hid (row_on ZXA.out hbc)
      clear hbc
      refine hK.out _ _ ?_ (fun hHeld => ?_)
      · (try dsimp only); exact HS2.out _ BXC.out
      clear hK
      try simp only [List.getElem_toArray, List.getElem_cons_succ, List.getElem_cons_zero, Act.put, List.setIfInBounds_toArray, List.set_cons_zero, List.set_cons_succ]
      refine' wpAnyH_take (i := 7) (oi := _) (v := _) rfl (by kernel_rfl) (by kernel_rfl) (by kernel_rfl) (fun _ _ _ h => h) (Or.inl ⟨by kernel_rfl, ?_⟩) (by assumption) ?_
      rotate_left
      · (intro w hSw; (try dsimp only at hSw); go_simp; try (with_reducible rfl))
      try simp only [List.getElem_toArray, List.getElem_cons_succ, List.getElem_cons_zero, Act.put, List.setIfInBounds_toArray, List.set_cons_zero, List.set_cons_succ]
      refine' wpAnyH_take (i := 8) (oi := _) (v := _) rfl (by kernel_rfl) (by kernel_rfl) (by kernel_rfl) (fun _ _ _ h => h) (Or.inl ⟨by kernel_rfl, ?_⟩) (by assumption) ?_
      rotate_left
      · (intro w hSw; (try dsimp only at hSw); go_simp; try (with_reducible rfl))
      try simp only [List.getElem_toArray, List.getElem_cons_succ, List.getElem_cons_zero, Act.put, List.setIfInBounds_toArray, List.set_cons_zero, List.set_cons_succ]
      refine' wpAnyH_take (i := 9) (oi := _) (v := _) rfl (by kernel_rfl) (by kernel_rfl) (by kernel_rfl) (fun _ _ _ h => h) (Or.inl ⟨by kernel_rfl, ?_⟩) (by assumption) ?_
      rotate_left
      · (intro w hSw; (try dsimp only at hSw); go_simp; try (with_reducible rfl))
      try simp only [List.getElem_toArray, List.getElem_cons_succ, List.getElem_cons_zero, Act.put, List.setIfInBounds_toArray, List.set_cons_zero, List.set_cons_succ]
      have ZZ := ZXC
      have ZB := BXC
      obtain ⟨WL, hWL⟩ : ∃ X, XC = X := ⟨_, rfl⟩
      rw [hWL] at ZZ ZB ⊢
      clear hWL
    rotate_left 1
    all_goals
      have AI := hid (show (Tryz.prog.info? 55).map (·.size) = some (#[.int .i64 0, .int .u64 0, .int .i64 0] : Array Value).size from info55)
      have AS := hid (show (#[.int .i64 0, .int .u64 0, .int .i64 0] : Array Value).size = (#[.int .i64 0, .int .u64 0, .int .i64 0] : Array Value).size from rfl)
      have AA := hid (show (#[.int .i64 0, .int .u64 0, .int .i64 0] : Array Value).all (·.oneCell') = true from by simp [Value.oneCell'])
      refine wpAnyH_ready (rs := [11]) (by kernel_rfl) (by simp) ?_
      refine AllReadyH.cons (o := _) rfl (fun KK hK => ?_) AllReadyH.nil
      refine step_store_row (by rfl) 55 (.tmp 7) (.tmp 70) (by rfl) g2 #[.int .i64 0, .int .u64 0, .int .i64 0] (by rfl) (by rfl) 55 _ ZZ.out AI.out AS.out AA.out ?_
      have k1 := setRow_kp WL g2 #[.int .i64 0, .int .u64 0, .int .i64 0]
      have HBV := hid (ZB.out.trans (k1.below ZB.out.size (fun j hj e => by omega)))
      have HZ2 := hid (setRow_heap WL g2 _ #[.int .i64 0, .int .u64 0, .int .i64 0] 55 (0, 0) ZZ.out)
      refine hK.out _ _ ?_ (fun hHeld => ?_)
      · (try dsimp only); exact HS2.out _ HBV.out
      clear hK k1
      try simp only [List.getElem_toArray, List.getElem_cons_succ, List.getElem_cons_zero, Act.put, List.setIfInBounds_toArray, List.set_cons_zero, List.set_cons_succ]
      refine' wpAnyH_take (i := 12) (oi := _) (v := _) rfl (by kernel_rfl) (by kernel_rfl) (by kernel_rfl) (fun _ _ _ h => h) (Or.inl ⟨by kernel_rfl, ?_⟩) (by assumption) ?_
      rotate_left
      · (intro w hSw; (try dsimp only at hSw); go_simp; try (with_reducible rfl))
      try simp only [List.getElem_toArray, List.getElem_cons_succ, List.getElem_cons_zero, Act.put, List.setIfInBounds_toArray, List.set_cons_zero, List.set_cons_succ]
      refine wpAnyH_done (by kernel_rfl) ?_ _
      obtain ⟨V2, hV⟩ : ∃ X, WL.setRow g2 #[.int .i64 0, .int .u64 0, .int .i64 0] = X := ⟨_, rfl⟩
      rw [hV] at HBV HZ2 ⊢
      clear hV hHeld
      have HN2 := hid (btr HD2.out HBV.out)
      have HV2 := hid (btr HE2.out HBV.out)
      obtain ⟨a0, a1, a2⟩ := row3 (row_on HZ1.out HN2.out)
      obtain ⟨b0, b1, b2⟩ := row3 HZ2.out
      go_wp2
      go_ret
      exact ⟨rfl, btr HBW.out HV2.out⟩
end Go.Proofs.YtgejmhiaghaddaaGreat
