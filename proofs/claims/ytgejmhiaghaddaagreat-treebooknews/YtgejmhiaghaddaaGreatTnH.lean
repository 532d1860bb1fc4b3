/-
  Collect, of the orders of a side: there are none.
-/
import Derived.Test.YtgejmhiaghaddaaGreatTnG
namespace Go.Proofs.YtgejmhiaghaddaaGreat
open Go.RowKit Go.Deep
set_option linter.unusedVariables false
set_option linter.unusedSimpArgs false
set_option maxHeartbeats 4000000
set_option maxRecDepth 100000
theorem all_any (B : Nat) (s : Int) (w : World) : Calls Tryz.prog 142 #[.pointer (some ⟨B, 4, none⟩), .int .i64 s] w fun e w' => ∃ C1 C2 : Nat, e = .returned (.func (.func 148) #[] #[.pointer (some ⟨C1, 0, none⟩), .pointer (some ⟨C2, 0, none⟩)]) ∧ Hid (w'.cell? ⟨C1, 0, none⟩ = some (.pointer (some ⟨B, 4, none⟩))) ∧ Hid (w'.cell? ⟨C2, 0, none⟩ = some (.int .i64 s)) ∧ Hid (Below w.heap.size w w') := by
  have h : Calls Tryz.prog 142 #[.pointer (some ⟨B, 4, none⟩), .int .i64 s] w fun e w' => e = .returned (.func (.func 148) #[] #[.pointer (some ⟨w.heap.size, 0, none⟩), .pointer (some ⟨w.heap.size + 1, 0, none⟩)]) ∧ w' = (w.alloc (.cells #[.pointer (some ⟨B, 4, none⟩)] 85)).alloc (.cells #[.int .i64 s] 3) := by
    go_enter Tryz.func142, Tryz.ntmps142
    go_wp2_with fail
    go_ret
    exact ⟨by simp, rfl⟩
  refine h.mono ?_
  rintro e w' ⟨rfl, rfl⟩
  exact ⟨_, _, rfl, hid (row_cell (row_on (World.alloc_heap_new _ _) (ball _ _)) 0), hid (row_cell (alloc2_new _ _ _) 0), hid (btr (ball _ _) (ball _ _))⟩
theorem lev_any (B : Nat) (s : Int) (w : World) : Calls Tryz.prog 145 #[.pointer (some ⟨B, 4, none⟩), .int .i64 s] w fun e w' => ∃ C1 C2 : Nat, e = .returned (.func (.func 156) #[] #[.pointer (some ⟨C1, 0, none⟩), .pointer (some ⟨C2, 0, none⟩)]) ∧ Hid (w'.cell? ⟨C1, 0, none⟩ = some (.pointer (some ⟨B, 4, none⟩))) ∧ Hid (w'.cell? ⟨C2, 0, none⟩ = some (.int .i64 s)) ∧ Hid (Below w.heap.size w w') := by
  have h : Calls Tryz.prog 145 #[.pointer (some ⟨B, 4, none⟩), .int .i64 s] w fun e w' => e = .returned (.func (.func 156) #[] #[.pointer (some ⟨w.heap.size, 0, none⟩), .pointer (some ⟨w.heap.size + 1, 0, none⟩)]) ∧ w' = (w.alloc (.cells #[.pointer (some ⟨B, 4, none⟩)] 85)).alloc (.cells #[.int .i64 s] 3) := by
    go_enter Tryz.func145, Tryz.ntmps145
    go_wp2_with fail
    go_ret
    exact ⟨by simp, rfl⟩
  refine h.mono ?_
  rintro e w' ⟨rfl, rfl⟩
  exact ⟨_, _, rfl, hid (row_cell (row_on (World.alloc_heap_new _ _) (ball _ _)) 0), hid (row_cell (alloc2_new _ _ _) 0), hid (btr (ball _ _) (ball _ _))⟩
theorem append_1 (C1 C2 B : Nat) (w : World) (h1 : w.cell? ⟨C1, 0, none⟩ = some (.pointer (some ⟨B, 4, none⟩))) (h2 : w.cell? ⟨C2, 0, none⟩ = some (.int .i64 1)) (hB : w.cell? ⟨B, 4, none⟩ = some (.pointer none)) :
    Calls Tryz.prog 69 #[.slice none 0 0, .func (.func 148) #[] #[.pointer (some ⟨C1, 0, none⟩), .pointer (some ⟨C2, 0, none⟩)]] w fun e w' => e = .returned (.slice none 0 0) ∧ Below w.heap.size w w' := by
  have HC := hid (fun (U : World) (hU : Below w.heap.size w U) => (show U.cell? ⟨C1, 0, none⟩ = some (.pointer (some ⟨B, 4, none⟩)) ∧ U.cell? ⟨C2, 0, none⟩ = some (.int .i64 1) ∧ U.cell? ⟨B, 4, none⟩ = some (.pointer none) from ⟨by rw [hU.cell (p := ⟨C1, 0, none⟩) (block_lt_of_cell h1)]; exact h1, by rw [hU.cell (p := ⟨C2, 0, none⟩) (block_lt_of_cell h2)]; exact h2, by rw [hU.cell (p := ⟨B, 4, none⟩) (block_lt_of_cell hB)]; exact hB⟩))
  clear h1 h2 hB
  obtain ⟨R, hR⟩ : ∃ R, w.heap.size = R := ⟨_, rfl⟩
  obtain ⟨W, hW⟩ : ∃ W, w.alloc (.cells #[.slice none 0 0] 28) = W := ⟨_, rfl⟩
  have HBW := hid (show Below w.heap.size w W from by rw [← hW]; exact ball _ _)
  have HRR := hid (show W.heap[R]? = some (.cells #[.slice none 0 0] 28 (0, 0)) from by rw [← hW, ← hR]; exact World.alloc_heap_new _ _)
  have HR := hid hR
  have HW := hid hW
  clear hR hW
  refine (callsIn_wide (n := 5)).1 ?_
  refine callsIn_of_wp_marks Tryz.func69 rfl trivial ?_ rfl
  refine wpIn_wide.2 ?_
  simp only [Tryz.ntmps69, List.size_toArray, List.length_cons, List.length_nil, Nat.reduceAdd, Nat.reduceSub, Array.replicate_succ, Array.replicate_zero, List.push_toArray, List.append_toArray, List.nil_append, List.cons_append]
  go_upto_region 1 with fail
  rw [HW.out, HR.out]
  go_wp2_with fail
  refine (wpIn_wide (n := 5)).1 ?_
  refine range_none_148 (by omega) rfl (fun l W1 hb => all1_1 l C1 C2 B W1 (HC.out W1 (btr HBW.out hb)).1 (HC.out W1 (btr HBW.out hb)).2.1 (HC.out W1 (btr HBW.out hb)).2.2) ?_
  intro D W2 hD hb2 hdef
  have c0 := row_cell (row_on HRR.out hb2) 0
  simp only [List.getElem?_toArray, List.getElem?_cons_zero] at c0
  have HDF := hid hdef
  have HB2 := hid (btr HBW.out hb2)
  have HD := hid (Nat.le_trans HBW.out.size hD)
  clear hdef hb2 hD
  go_wp2_with fail
  refine ⟨by simp, .inl ⟨_, _, rfl, run_takeDeferred HDF.out, ?_⟩⟩
  refine ⟨.slice none 0 0, ?_, rfl, ?_⟩
  · simp [results, Tryz.f69, go_sem]
  · exact HB2.out.trans (belowK_b (w := w) (Nat.le_refl _) _ _ _ _ HD.out HDF.out rfl rfl)
theorem collect_1 (C1 C2 B : Nat) (w : World) (h1 : w.cell? ⟨C1, 0, none⟩ = some (.pointer (some ⟨B, 4, none⟩))) (h2 : w.cell? ⟨C2, 0, none⟩ = some (.int .i64 1)) (hB : w.cell? ⟨B, 4, none⟩ = some (.pointer none)) :
    Calls Tryz.prog 49 #[.func (.func 148) #[] #[.pointer (some ⟨C1, 0, none⟩), .pointer (some ⟨C2, 0, none⟩)]] w fun e w' => e = .returned (.slice none 0 0) ∧ Below w.heap.size w w' := by
  have C := hid (append_1 C1 C2 B w h1 h2 hB)
  clear h1 h2 hB
  go_enter Tryz.func49, Tryz.ntmps49
  go_wp2_with (go_at_call 69; with_reducible refine (C.out).mono ?_; rintro e w1 ⟨rfl, hb1⟩; have HB1 := hid hb1; clear hb1)
  go_ret
  exact ⟨rfl, HB1.out⟩
theorem append_2 (C1 C2 B : Nat) (w : World) (h1 : w.cell? ⟨C1, 0, none⟩ = some (.pointer (some ⟨B, 4, none⟩))) (h2 : w.cell? ⟨C2, 0, none⟩ = some (.int .i64 2)) (hB : w.cell? ⟨B, 5, none⟩ = some (.pointer none)) :
    Calls Tryz.prog 69 #[.slice none 0 0, .func (.func 148) #[] #[.pointer (some ⟨C1, 0, none⟩), .pointer (some ⟨C2, 0, none⟩)]] w fun e w' => e = .returned (.slice none 0 0) ∧ Below w.heap.size w w' := by
  have HC := hid (fun (U : World) (hU : Below w.heap.size w U) => (show U.cell? ⟨C1, 0, none⟩ = some (.pointer (some ⟨B, 4, none⟩)) ∧ U.cell? ⟨C2, 0, none⟩ = some (.int .i64 2) ∧ U.cell? ⟨B, 5, none⟩ = some (.pointer none) from ⟨by rw [hU.cell (p := ⟨C1, 0, none⟩) (block_lt_of_cell h1)]; exact h1, by rw [hU.cell (p := ⟨C2, 0, none⟩) (block_lt_of_cell h2)]; exact h2, by rw [hU.cell (p := ⟨B, 5, none⟩) (block_lt_of_cell hB)]; exact hB⟩))
  clear h1 h2 hB
  obtain ⟨R, hR⟩ : ∃ R, w.heap.size = R := ⟨_, rfl⟩
  obtain ⟨W, hW⟩ : ∃ W, w.alloc (.cells #[.slice none 0 0] 28) = W := ⟨_, rfl⟩
  have HBW := hid (show Below w.heap.size w W from by rw [← hW]; exact ball _ _)
  have HRR := hid (show W.heap[R]? = some (.cells #[.slice none 0 0] 28 (0, 0)) from by rw [← hW, ← hR]; exact World.alloc_heap_new _ _)
  have HR := hid hR
  have HW := hid hW
  clear hR hW
  refine (callsIn_wide (n := 5)).1 ?_
  refine callsIn_of_wp_marks Tryz.func69 rfl trivial ?_ rfl
  refine wpIn_wide.2 ?_
  simp only [Tryz.ntmps69, List.size_toArray, List.length_cons, List.length_nil, Nat.reduceAdd, Nat.reduceSub, Array.replicate_succ, Array.replicate_zero, List.push_toArray, List.append_toArray, List.nil_append, List.cons_append]
  go_upto_region 1 with fail
  rw [HW.out, HR.out]
  go_wp2_with fail
  refine (wpIn_wide (n := 5)).1 ?_
  refine range_none_148 (by omega) rfl (fun l W1 hb => all1_2 l C1 C2 B W1 (HC.out W1 (btr HBW.out hb)).1 (HC.out W1 (btr HBW.out hb)).2.1 (HC.out W1 (btr HBW.out hb)).2.2) ?_
  intro D W2 hD hb2 hdef
  have c0 := row_cell (row_on HRR.out hb2) 0
  simp only [List.getElem?_toArray, List.getElem?_cons_zero] at c0
  have HDF := hid hdef
  have HB2 := hid (btr HBW.out hb2)
  have HD := hid (Nat.le_trans HBW.out.size hD)
  clear hdef hb2 hD
  go_wp2_with fail
  refine ⟨by simp, .inl ⟨_, _, rfl, run_takeDeferred HDF.out, ?_⟩⟩
  refine ⟨.slice none 0 0, ?_, rfl, ?_⟩
  · simp [results, Tryz.f69, go_sem]
  · exact HB2.out.trans (belowK_b (w := w) (Nat.le_refl _) _ _ _ _ HD.out HDF.out rfl rfl)
theorem collect_2 (C1 C2 B : Nat) (w : World) (h1 : w.cell? ⟨C1, 0, none⟩ = some (.pointer (some ⟨B, 4, none⟩))) (h2 : w.cell? ⟨C2, 0, none⟩ = some (.int .i64 2)) (hB : w.cell? ⟨B, 5, none⟩ = some (.pointer none)) :
    Calls Tryz.prog 49 #[.func (.func 148) #[] #[.pointer (some ⟨C1, 0, none⟩), .pointer (some ⟨C2, 0, none⟩)]] w fun e w' => e = .returned (.slice none 0 0) ∧ Below w.heap.size w w' := by
  have C := hid (append_2 C1 C2 B w h1 h2 hB)
  clear h1 h2 hB
  go_enter Tryz.func49, Tryz.ntmps49
  go_wp2_with (go_at_call 69; with_reducible refine (C.out).mono ?_; rintro e w1 ⟨rfl, hb1⟩; have HB1 := hid hb1; clear hb1)
  go_ret
  exact ⟨rfl, HB1.out⟩
end Go.Proofs.YtgejmhiaghaddaaGreat
