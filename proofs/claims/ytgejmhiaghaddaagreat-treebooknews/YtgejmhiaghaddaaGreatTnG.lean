/-
  The levels and the orders of a side, gone through: there are none.
-/
import Derived.Test.YtgejmhiaghaddaaGreatTnF
namespace Go.Proofs.YtgejmhiaghaddaaGreat
open Go.RowKit Go.Deep
set_option linter.unusedVariables false
set_option linter.unusedSimpArgs false
set_option maxHeartbeats 4000000
set_option maxRecDepth 100000
theorem from_any (B off : Nat) (s : Int) (w : World) : Calls Tryz.prog 167 #[.pointer (some ⟨B, off, none⟩), .int .i64 s] w fun e w' => ∃ CT CS : Nat, e = .returned (.func (.func 173) #[] #[.pointer (some ⟨CT, 0, none⟩), .pointer (some ⟨CS, 0, none⟩)]) ∧ Hid (w'.cell? ⟨CT, 0, none⟩ = some (.pointer (some ⟨B, off, none⟩))) ∧ Hid (w'.cell? ⟨CS, 0, none⟩ = some (.int .i64 s)) ∧ Hid (Below w.heap.size w w') := by
  have h : Calls Tryz.prog 167 #[.pointer (some ⟨B, off, none⟩), .int .i64 s] w fun e w' => e = .returned (.func (.func 173) #[] #[.pointer (some ⟨w.heap.size, 0, none⟩), .pointer (some ⟨w.heap.size + 1, 0, none⟩)]) ∧ w' = (w.alloc (.cells #[.pointer (some ⟨B, off, none⟩)] 126)).alloc (.cells #[.int .i64 s] 3) := by
    go_enter Tryz.func167, Tryz.ntmps167
    go_wp2_with fail
    go_ret
    exact ⟨by simp, rfl⟩
  refine h.mono ?_
  rintro e w' ⟨rfl, rfl⟩
  exact ⟨_, _, rfl, hid (row_cell (row_on (World.alloc_heap_new _ _) (ball _ _)) 0), hid (row_cell (alloc2_new _ _ _) 0), hid (btr (ball _ _) (ball _ _))⟩
theorem back_any (B off : Nat) (w : World) : Calls Tryz.prog 157 #[.pointer (some ⟨B, off, none⟩)] w fun e w' => ∃ CT CS : Nat, e = .returned (.func (.func 173) #[] #[.pointer (some ⟨CT, 0, none⟩), .pointer (some ⟨CS, 0, none⟩)]) ∧ Hid (w'.cell? ⟨CT, 0, none⟩ = some (.pointer (some ⟨B, off, none⟩))) ∧ Hid (w'.cell? ⟨CS, 0, none⟩ = some (.int .i64 1)) ∧ Hid (Below w.heap.size w w') := by
  have C := hid (fun U => from_any B off 1 U)
  go_enter Tryz.func157, Tryz.ntmps157
  go_wp2_with (go_at_call 167; with_reducible refine (C.out _).mono ?_; rintro e w1 ⟨CT, CS, rfl, h1, h2, h3⟩)
  go_ret
  exact ⟨CT, CS, rfl, h1, h2, h3⟩
theorem alls_any (B off : Nat) (w : World) : Calls Tryz.prog 158 #[.pointer (some ⟨B, off, none⟩)] w fun e w' => ∃ CT CS : Nat, e = .returned (.func (.func 173) #[] #[.pointer (some ⟨CT, 0, none⟩), .pointer (some ⟨CS, 0, none⟩)]) ∧ Hid (w'.cell? ⟨CT, 0, none⟩ = some (.pointer (some ⟨B, off, none⟩))) ∧ Hid (w'.cell? ⟨CS, 0, none⟩ = some (.int .i64 0)) ∧ Hid (Below w.heap.size w w') := by
  have C := hid (fun U => from_any B off 0 U)
  go_enter Tryz.func158, Tryz.ntmps158
  go_wp2_with (go_at_call 167; with_reducible refine (C.out _).mono ?_; rintro e w1 ⟨CT, CS, rfl, h1, h2, h3⟩)
  go_ret
  exact ⟨CT, CS, rfl, h1, h2, h3⟩
theorem tree_1 (B : Nat) (w : World) : Calls Tryz.prog 151 #[.pointer (some ⟨B, 4, none⟩), .int .i64 1] w fun e w' => e = .returned (.pointer (some ⟨B, 4, none⟩)) ∧ Below w.heap.size w w' := by
  go_enter Tryz.func151, Tryz.ntmps151
  go_wp2
  go_ret
  exact ⟨rfl, Below.refl _ _⟩
theorem levels_1 (B : Nat) (w : World) : Calls Tryz.prog 149 #[.pointer (some ⟨B, 4, none⟩), .int .i64 1] w fun e w' => ∃ CT CS : Nat, e = .returned (.func (.func 173) #[] #[.pointer (some ⟨CT, 0, none⟩), .pointer (some ⟨CS, 0, none⟩)]) ∧ Hid (w'.cell? ⟨CT, 0, none⟩ = some (.pointer (some ⟨B, 4, none⟩))) ∧ Hid (w'.cell? ⟨CS, 0, none⟩ = some (.int .i64 1)) ∧ Hid (Below w.heap.size w w') := by
  have C := hid (fun U => tree_1 B U)
  have D := hid (fun U => back_any B 4 U)
  go_enter Tryz.func149, Tryz.ntmps149
  go_wp2_with (first | (go_at_call 151; with_reducible refine (C.out _).mono ?_; rintro e w1 ⟨rfl, hb1⟩; have HB1 := hid hb1; clear hb1) | (go_at_call 157; with_reducible refine (D.out _).mono ?_; rintro e w2 ⟨CT, CS, rfl, h1, h2, h3⟩))
  go_ret
  exact ⟨CT, CS, rfl, h1, h2, hid (btr HB1.out h3.out)⟩
theorem tree_2 (B : Nat) (w : World) : Calls Tryz.prog 151 #[.pointer (some ⟨B, 4, none⟩), .int .i64 2] w fun e w' => e = .returned (.pointer (some ⟨B, 5, none⟩)) ∧ Below w.heap.size w w' := by
  go_enter Tryz.func151, Tryz.ntmps151
  go_wp2
  go_ret
  exact ⟨rfl, Below.refl _ _⟩
theorem levels_2 (B : Nat) (w : World) : Calls Tryz.prog 149 #[.pointer (some ⟨B, 4, none⟩), .int .i64 2] w fun e w' => ∃ CT CS : Nat, e = .returned (.func (.func 173) #[] #[.pointer (some ⟨CT, 0, none⟩), .pointer (some ⟨CS, 0, none⟩)]) ∧ Hid (w'.cell? ⟨CT, 0, none⟩ = some (.pointer (some ⟨B, 5, none⟩))) ∧ Hid (w'.cell? ⟨CS, 0, none⟩ = some (.int .i64 0)) ∧ Hid (Below w.heap.size w w') := by
  have C := hid (fun U => tree_2 B U)
  have D := hid (fun U => alls_any B 5 U)
  go_enter Tryz.func149, Tryz.ntmps149
  go_wp2_with (first | (go_at_call 151; with_reducible refine (C.out _).mono ?_; rintro e w1 ⟨rfl, hb1⟩; have HB1 := hid hb1; clear hb1) | (go_at_call 158; with_reducible refine (D.out _).mono ?_; rintro e w2 ⟨CT, CS, rfl, h1, h2, h3⟩))
  go_ret
  exact ⟨CT, CS, rfl, h1, h2, hid (btr HB1.out h3.out)⟩
theorem all1_1 (l : Nat) (C1 C2 B : Nat) (w : World) (h1 : w.cell? ⟨C1, 0, none⟩ = some (.pointer (some ⟨B, 4, none⟩))) (h2 : w.cell? ⟨C2, 0, none⟩ = some (.int .i64 1)) (hB : w.cell? ⟨B, 4, none⟩ = some (.pointer none)) :
    Calls Tryz.prog 148 #[.func (.yield l) #[] #[], .pointer (some ⟨C1, 0, none⟩), .pointer (some ⟨C2, 0, none⟩)] w fun e w' => e = .returned (.tuple #[]) ∧ Below w.heap.size w w' := by
  have CL := hid (fun U => levels_1 B U)
  have HC := hid (fun (U : World) (hU : Below w.heap.size w U) => (show U.cell? ⟨C1, 0, none⟩ = some (.pointer (some ⟨B, 4, none⟩)) ∧ U.cell? ⟨C2, 0, none⟩ = some (.int .i64 1) ∧ U.cell? ⟨B, 4, none⟩ = some (.pointer none) from ⟨by rw [hU.cell (p := ⟨C1, 0, none⟩) (block_lt_of_cell h1)]; exact h1, by rw [hU.cell (p := ⟨C2, 0, none⟩) (block_lt_of_cell h2)]; exact h2, by rw [hU.cell (p := ⟨B, 4, none⟩) (block_lt_of_cell hB)]; exact hB⟩))
  clear h1 h2 hB
  refine (callsIn_wide (n := 5)).1 ?_
  refine callsIn_of_wp_marks Tryz.func148 rfl trivial ?_ rfl
  refine wpIn_wide.2 ?_
  simp only [Tryz.ntmps148, List.size_toArray, List.length_cons, List.length_nil, Nat.reduceAdd, Nat.reduceSub, Array.replicate_succ, Array.replicate_zero, List.push_toArray, List.append_toArray, List.nil_append, List.cons_append]
  go_upto_region 1 with fail
  obtain ⟨W, hW⟩ : ∃ W, w.alloc (.cells #[.func (.yield l) #[] #[]] 132) = W := ⟨_, rfl⟩
  have HBW := hid (show Below w.heap.size w W from by rw [← hW]; exact ball _ _)
  rw [hW]
  clear hW
  obtain ⟨y1, y2, y3⟩ := HC.out W HBW.out
  go_wp2_with (go_at_call 149; with_reducible refine (CL.out _).mono ?_; rintro e w1 ⟨CT, CS, rfl, k1, k2, k3⟩)
  clear y1 y2 y3
  have HB1 := hid (btr HBW.out k3.out)
  have HCA := hid (fun (U : World) (hU : Below w1.heap.size w1 U) => (show U.cell? ⟨CT, 0, none⟩ = some (.pointer (some ⟨B, 4, none⟩)) ∧ U.cell? ⟨CS, 0, none⟩ = some (.int .i64 1) ∧ U.cell? ⟨B, 4, none⟩ = some (.pointer none) from ⟨by rw [hU.cell (p := ⟨CT, 0, none⟩) (block_lt_of_cell k1.out)]; exact k1.out, by rw [hU.cell (p := ⟨CS, 0, none⟩) (block_lt_of_cell k2.out)]; exact k2.out, (HC.out U (btr HB1.out hU)).2.2⟩))
  refine (wpIn_wide (n := 5)).1 ?_
  refine range_none_173 (by omega) rfl (fun l W1 hb => from1_none _ CT CS B 4 1 W1 (HCA.out W1 hb).1 (HCA.out W1 hb).2.1 (HCA.out W1 hb).2.2) ?_
  intro D W2 hD hb2 hdef
  (try simp only [Exit.inBlock, Exit.then])
  refine ⟨by simp, .inl ⟨_, _, rfl, run_takeDeferred hdef, ?_⟩⟩
  refine ⟨.tuple #[], ?_, rfl, ?_⟩
  · simp [results, Tryz.f148, go_sem]
  · exact (btr HB1.out hb2).trans (belowK_b (w := w) (Nat.le_refl _) _ _ _ _ (Nat.le_trans HB1.out.size hD) hdef rfl rfl)
theorem lev1_1 (l : Nat) (C1 C2 B : Nat) (w : World) (h1 : w.cell? ⟨C1, 0, none⟩ = some (.pointer (some ⟨B, 4, none⟩))) (h2 : w.cell? ⟨C2, 0, none⟩ = some (.int .i64 1)) (hB : w.cell? ⟨B, 4, none⟩ = some (.pointer none)) :
    Calls Tryz.prog 156 #[.func (.yield l) #[] #[], .pointer (some ⟨C1, 0, none⟩), .pointer (some ⟨C2, 0, none⟩)] w fun e w' => e = .returned (.tuple #[]) ∧ Below w.heap.size w w' := by
  have CL := hid (fun U => levels_1 B U)
  have HC := hid (fun (U : World) (hU : Below w.heap.size w U) => (show U.cell? ⟨C1, 0, none⟩ = some (.pointer (some ⟨B, 4, none⟩)) ∧ U.cell? ⟨C2, 0, none⟩ = some (.int .i64 1) ∧ U.cell? ⟨B, 4, none⟩ = some (.pointer none) from ⟨by rw [hU.cell (p := ⟨C1, 0, none⟩) (block_lt_of_cell h1)]; exact h1, by rw [hU.cell (p := ⟨C2, 0, none⟩) (block_lt_of_cell h2)]; exact h2, by rw [hU.cell (p := ⟨B, 4, none⟩) (block_lt_of_cell hB)]; exact hB⟩))
  clear h1 h2 hB
  refine (callsIn_wide (n := 5)).1 ?_
  refine callsIn_of_wp_marks Tryz.func156 rfl trivial ?_ rfl
  refine wpIn_wide.2 ?_
  simp only [Tryz.ntmps156, List.size_toArray, List.length_cons, List.length_nil, Nat.reduceAdd, Nat.reduceSub, Array.replicate_succ, Array.replicate_zero, List.push_toArray, List.append_toArray, List.nil_append, List.cons_append]
  go_upto_region 1 with fail
  obtain ⟨W, hW⟩ : ∃ W, w.alloc (.cells #[.func (.yield l) #[] #[]] 221) = W := ⟨_, rfl⟩
  have HBW := hid (show Below w.heap.size w W from by rw [← hW]; exact ball _ _)
  rw [hW]
  clear hW
  obtain ⟨y1, y2, y3⟩ := HC.out W HBW.out
  go_wp2_with (go_at_call 149; with_reducible refine (CL.out _).mono ?_; rintro e w1 ⟨CT, CS, rfl, k1, k2, k3⟩)
  clear y1 y2 y3
  have HB1 := hid (btr HBW.out k3.out)
  have HCA := hid (fun (U : World) (hU : Below w1.heap.size w1 U) => (show U.cell? ⟨CT, 0, none⟩ = some (.pointer (some ⟨B, 4, none⟩)) ∧ U.cell? ⟨CS, 0, none⟩ = some (.int .i64 1) ∧ U.cell? ⟨B, 4, none⟩ = some (.pointer none) from ⟨by rw [hU.cell (p := ⟨CT, 0, none⟩) (block_lt_of_cell k1.out)]; exact k1.out, by rw [hU.cell (p := ⟨CS, 0, none⟩) (block_lt_of_cell k2.out)]; exact k2.out, (HC.out U (btr HB1.out hU)).2.2⟩))
  refine (wpIn_wide (n := 5)).1 ?_
  refine range_none_173 (by omega) rfl (fun l W1 hb => from1_none _ CT CS B 4 1 W1 (HCA.out W1 hb).1 (HCA.out W1 hb).2.1 (HCA.out W1 hb).2.2) ?_
  intro D W2 hD hb2 hdef
  (try simp only [Exit.inBlock, Exit.then])
  refine ⟨by simp, .inl ⟨_, _, rfl, run_takeDeferred hdef, ?_⟩⟩
  refine ⟨.tuple #[], ?_, rfl, ?_⟩
  · simp [results, Tryz.f156, go_sem]
  · exact (btr HB1.out hb2).trans (belowK_b (w := w) (Nat.le_refl _) _ _ _ _ (Nat.le_trans HB1.out.size hD) hdef rfl rfl)
theorem all1_2 (l : Nat) (C1 C2 B : Nat) (w : World) (h1 : w.cell? ⟨C1, 0, none⟩ = some (.pointer (some ⟨B, 4, none⟩))) (h2 : w.cell? ⟨C2, 0, none⟩ = some (.int .i64 2)) (hB : w.cell? ⟨B, 5, none⟩ = some (.pointer none)) :
    Calls Tryz.prog 148 #[.func (.yield l) #[] #[], .pointer (some ⟨C1, 0, none⟩), .pointer (some ⟨C2, 0, none⟩)] w fun e w' => e = .returned (.tuple #[]) ∧ Below w.heap.size w w' := by
  have CL := hid (fun U => levels_2 B U)
  have HC := hid (fun (U : World) (hU : Below w.heap.size w U) => (show U.cell? ⟨C1, 0, none⟩ = some (.pointer (some ⟨B, 4, none⟩)) ∧ U.cell? ⟨C2, 0, none⟩ = some (.int .i64 2) ∧ U.cell? ⟨B, 5, none⟩ = some (.pointer none) from ⟨by rw [hU.cell (p := ⟨C1, 0, none⟩) (block_lt_of_cell h1)]; exact h1, by rw [hU.cell (p := ⟨C2, 0, none⟩) (block_lt_of_cell h2)]; exact h2, by rw [hU.cell (p := ⟨B, 5, none⟩) (block_lt_of_cell hB)]; exact hB⟩))
  clear h1 h2 hB
  refine (callsIn_wide (n := 5)).1 ?_
  refine callsIn_of_wp_marks Tryz.func148 rfl trivial ?_ rfl
  refine wpIn_wide.2 ?_
  simp only [Tryz.ntmps148, List.size_toArray, List.length_cons, List.length_nil, Nat.reduceAdd, Nat.reduceSub, Array.replicate_succ, Array.replicate_zero, List.push_toArray, List.append_toArray, List.nil_append, List.cons_append]
  go_upto_region 1 with fail
  obtain ⟨W, hW⟩ : ∃ W, w.alloc (.cells #[.func (.yield l) #[] #[]] 132) = W := ⟨_, rfl⟩
  have HBW := hid (show Below w.heap.size w W from by rw [← hW]; exact ball _ _)
  rw [hW]
  clear hW
  obtain ⟨y1, y2, y3⟩ := HC.out W HBW.out
  go_wp2_with (go_at_call 149; with_reducible refine (CL.out _).mono ?_; rintro e w1 ⟨CT, CS, rfl, k1, k2, k3⟩)
  clear y1 y2 y3
  have HB1 := hid (btr HBW.out k3.out)
  have HCA := hid (fun (U : World) (hU : Below w1.heap.size w1 U) => (show U.cell? ⟨CT, 0, none⟩ = some (.pointer (some ⟨B, 5, none⟩)) ∧ U.cell? ⟨CS, 0, none⟩ = some (.int .i64 0) ∧ U.cell? ⟨B, 5, none⟩ = some (.pointer none) from ⟨by rw [hU.cell (p := ⟨CT, 0, none⟩) (block_lt_of_cell k1.out)]; exact k1.out, by rw [hU.cell (p := ⟨CS, 0, none⟩) (block_lt_of_cell k2.out)]; exact k2.out, (HC.out U (btr HB1.out hU)).2.2⟩))
  refine (wpIn_wide (n := 5)).1 ?_
  refine range_none_173 (by omega) rfl (fun l W1 hb => from1_none _ CT CS B 5 0 W1 (HCA.out W1 hb).1 (HCA.out W1 hb).2.1 (HCA.out W1 hb).2.2) ?_
  intro D W2 hD hb2 hdef
  (try simp only [Exit.inBlock, Exit.then])
  refine ⟨by simp, .inl ⟨_, _, rfl, run_takeDeferred hdef, ?_⟩⟩
  refine ⟨.tuple #[], ?_, rfl, ?_⟩
  · simp [results, Tryz.f148, go_sem]
  · exact (btr HB1.out hb2).trans (belowK_b (w := w) (Nat.le_refl _) _ _ _ _ (Nat.le_trans HB1.out.size hD) hdef rfl rfl)
theorem lev1_2 (l : Nat) (C1 C2 B : Nat) (w : World) (h1 : w.cell? ⟨C1, 0, none⟩ = some (.pointer (some ⟨B, 4, none⟩))) (h2 : w.cell? ⟨C2, 0, none⟩ = some (.int .i64 2)) (hB : w.cell? ⟨B, 5, none⟩ = some (.pointer none)) :
    Calls Tryz.prog 156 #[.func (.yield l) #[] #[], .pointer (some ⟨C1, 0, none⟩), .pointer (some ⟨C2, 0, none⟩)] w fun e w' => e = .returned (.tuple #[]) ∧ Below w.heap.size w w' := by
  have CL := hid (fun U => levels_2 B U)
  have HC := hid (fun (U : World) (hU : Below w.heap.size w U) => (show U.cell? ⟨C1, 0, none⟩ = some (.pointer (some ⟨B, 4, none⟩)) ∧ U.cell? ⟨C2, 0, none⟩ = some (.int .i64 2) ∧ U.cell? ⟨B, 5, none⟩ = some (.pointer none) from ⟨by rw [hU.cell (p := ⟨C1, 0, none⟩) (block_lt_of_cell h1)]; exact h1, by rw [hU.cell (p := ⟨C2, 0, none⟩) (block_lt_of_cell h2)]; exact h2, by rw [hU.cell (p := ⟨B, 5, none⟩) (block_lt_of_cell hB)]; exact hB⟩))
  clear h1 h2 hB
  refine (callsIn_wide (n := 5)).1 ?_
  refine callsIn_of_wp_marks Tryz.func156 rfl trivial ?_ rfl
  refine wpIn_wide.2 ?_
  simp only [Tryz.ntmps156, List.size_toArray, List.length_cons, List.length_nil, Nat.reduceAdd, Nat.reduceSub, Array.replicate_succ, Array.replicate_zero, List.push_toArray, List.append_toArray, List.nil_append, List.cons_append]
  go_upto_region 1 with fail
  obtain ⟨W, hW⟩ : ∃ W, w.alloc (.cells #[.func (.yield l) #[] #[]] 221) = W := ⟨_, rfl⟩
  have HBW := hid (show Below w.heap.size w W from by rw [← hW]; exact ball _ _)
  rw [hW]
  clear hW
  obtain ⟨y1, y2, y3⟩ := HC.out W HBW.out
  go_wp2_with (go_at_call 149; with_reducible refine (CL.out _).mono ?_; rintro e w1 ⟨CT, CS, rfl, k1, k2, k3⟩)
  clear y1 y2 y3
  have HB1 := hid (btr HBW.out k3.out)
  have HCA := hid (fun (U : World) (hU : Below w1.heap.size w1 U) => (show U.cell? ⟨CT, 0, none⟩ = some (.pointer (some ⟨B, 5, none⟩)) ∧ U.cell? ⟨CS, 0, none⟩ = some (.int .i64 0) ∧ U.cell? ⟨B, 5, none⟩ = some (.pointer none) from ⟨by rw [hU.cell (p := ⟨CT, 0, none⟩) (block_lt_of_cell k1.out)]; exact k1.out, by rw [hU.cell (p := ⟨CS, 0, none⟩) (block_lt_of_cell k2.out)]; exact k2.out, (HC.out U (btr HB1.out hU)).2.2⟩))
  refine (wpIn_wide (n := 5)).1 ?_
  refine range_none_173 (by omega) rfl (fun l W1 hb => from1_none _ CT CS B 5 0 W1 (HCA.out W1 hb).1 (HCA.out W1 hb).2.1 (HCA.out W1 hb).2.2) ?_
  intro D W2 hD hb2 hdef
  (try simp only [Exit.inBlock, Exit.then])
  refine ⟨by simp, .inl ⟨_, _, rfl, run_takeDeferred hdef, ?_⟩⟩
  refine ⟨.tuple #[], ?_, rfl, ?_⟩
  · simp [results, Tryz.f156, go_sem]
  · exact (btr HB1.out hb2).trans (belowK_b (w := w) (Nat.le_refl _) _ _ _ _ (Nat.le_trans HB1.out.size hD) hdef rfl rfl)
end Go.Proofs.YtgejmhiaghaddaaGreat
