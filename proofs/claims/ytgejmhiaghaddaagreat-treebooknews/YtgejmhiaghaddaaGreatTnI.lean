/-
  The book is told.
-/
import Derived.Test.YtgejmhiaghaddaaGreatTnH
namespace Go.Proofs.YtgejmhiaghaddaaGreat
open Go.RowKit Go.Deep
set_option linter.unusedVariables false
set_option linter.unusedSimpArgs false
set_option maxHeartbeats 4000000
set_option maxRecDepth 100000
attribute [local go_sem ↓] Go.wp_at_zero Go.wp_at_succ
theorem step_store_row {P : Program} {w : World} {ops : Array Oper} {o : Oper} {a : Act} {K : Act → World → Prop} {Q : Exit → Act → World → Prop} {E : Prop} (hgd : o.guard = none) (ty : TypeId) (x y : Operand) (ho : o.op = .store ty x y)
    (g : Nat) (cells : Array Value) (hx : a.eval x = .pointer (some ⟨g, 0, none⟩)) (hy : a.eval y = .agg cells)
    (t : TypeId) (old : Array Value) (hg : w.heap[g]? = some (.cells old t (0, 0))) (hi : (P.info? ty).map (·.size) = some cells.size)
    (hold : old.size = cells.size) (h1 : cells.all (·.oneCell') = true)
    (h : K (a.put o.dst undef) (w.setRow g cells)) : if Region.wanted o (yielded ops a.tmps) = true then Oper.wp P o a w K Q else E := by
  have hw : Region.wanted o (yielded ops a.tmps) = true := by simp [Region.wanted, hgd]
  rw [if_pos hw]
  exact wp_store_row ty x y ho g cells hx hy t old hg hi hold h1 h
theorem row4 {w : World} {g : Nat} {t : TypeId} {a0 a1 a2 a3 : Value} (h : w.heap[g]? = some (.cells #[a0, a1, a2, a3] t (0, 0))) : w.cell? ⟨g, 0, none⟩ = some a0 ∧ w.cell? ⟨g, 1, none⟩ = some a1 ∧ w.cell? ⟨g, 2, none⟩ = some a2 ∧ w.cell? ⟨g, 3, none⟩ = some a3 :=
  ⟨row_cell h 0, row_cell h 1, row_cell h 2, row_cell h 3⟩
theorem row7 {w : World} {g : Nat} {t : TypeId} {a0 a1 a2 a3 a4 a5 a6 : Value} (h : w.heap[g]? = some (.cells #[a0, a1, a2, a3, a4, a5, a6] t (0, 0))) : w.cell? ⟨g, 0, none⟩ = some a0 ∧ w.cell? ⟨g, 1, none⟩ = some a1 ∧ w.cell? ⟨g, 2, none⟩ = some a2 ∧ w.cell? ⟨g, 3, none⟩ = some a3 ∧ w.cell? ⟨g, 4, none⟩ = some a4 ∧ w.cell? ⟨g, 5, none⟩ = some a5 ∧ w.cell? ⟨g, 6, none⟩ = some a6 :=
  ⟨row_cell h 0, row_cell h 1, row_cell h 2, row_cell h 3, row_cell h 4, row_cell h 5, row_cell h 6⟩
theorem me_all (v : Value) (U : World) : (Go.method 338 85 v "All").run Tryz.prog U = .ok (142, v) U := by kernel_rfl
theorem me_lev (v : Value) (U : World) : (Go.method 338 85 v "Levels").run Tryz.prog U = .ok (145, v) U := by kernel_rfl
theorem Bk.tops {w : World} {B : Nat} {cap meet : Int} (h : Bk w B cap meet) : w.cell? ⟨B, 4, none⟩ = some (.pointer none) ∧ w.cell? ⟨B, 5, none⟩ = some (.pointer none) := by
  obtain ⟨M, h1, _⟩ := h
  exact ⟨row_cell h1 4, row_cell h1 5⟩
theorem mbook_none (cap meet : Int) (B : Nat) (w : World) (hK : Bk w B cap meet) : Calls Tryz.prog 29 #[.agg #[.int .i64 cap, .int .i64 meet, .int .u64 0, .int .u64 0], .iface 85 (.pointer (some ⟨B, 4, none⟩))] w fun e w' => e = .returned (.agg #[.int .i64 cap, .int .i64 meet, .slice none 0 0, .slice none 0 0, .int .u64 0, .int .u64 0]) ∧ Below w.heap.size w w' := by
  have HK := hid hK
  have hm := me_all
  clear hK
  obtain ⟨R, hR⟩ : ∃ R, w.heap.size = R := ⟨_, rfl⟩
  obtain ⟨U0, hU0⟩ : ∃ U, w.alloc (.cells #[.int .i64 cap, .int .i64 meet, .int .u64 0, .int .u64 0] 75) = U := ⟨_, rfl⟩
  obtain ⟨W, hW⟩ : ∃ U, U0.alloc (.cells #[.int .i64 0, .int .i64 0, .slice none 0 0, .slice none 0 0, .int .u64 0, .int .u64 0] 31) = U := ⟨_, rfl⟩
  have s0 : U0.heap.size = R + 1 := by rw [← hU0]; simp [hR]
  have b0 : Below w.heap.size w U0 := by rw [← hU0]; exact ball _ _
  have b1 : Below U0.heap.size U0 W := by rw [← hW]; exact ball _ _
  have HBW := hid (btr b0 b1)
  have HR0 := hid (show W.heap[R]? = some (.cells #[.int .i64 cap, .int .i64 meet, .int .u64 0, .int .u64 0] 75 (0, 0)) from (row_on (by rw [← hU0, ← hR]; exact World.alloc_heap_new _ _) b1))
  have HR1 := hid (show W.heap[R + 1]? = some (.cells #[.int .i64 0, .int .i64 0, .slice none 0 0, .slice none 0 0, .int .u64 0, .int .u64 0] 31 (0, 0)) from (by rw [← hW, ← s0]; exact World.alloc_heap_new _ _))
  have HU0 := hid hU0
  have HW := hid hW
  have HRR := hid hR
  clear hR hU0 hW s0 b0 b1
  go_enter Tryz.func29, Tryz.ntmps29
  go_upto_region 1 with fail
  rw [HU0.out, HW.out, HRR.out]
  obtain ⟨Y0, hY0⟩ : ∃ X, W.drew = X := ⟨_, rfl⟩
  have HE0 := hid (show Below W.heap.size W Y0 from by rw [← hY0]; exact bdrew1 _)
  have HS0 := hid (fun (U : World) (hU : Below Y0.heap.size Y0 U) => row4 (row_on (row_on HR0.out HE0.out) hU))
  have HKY := hid (HK.out.on (btr HBW.out HE0.out))
  refine wp_region_held_drew (S := (fun U => U.cell? ⟨R, 0, none⟩ = some (.int .i64 cap) ∧ U.cell? ⟨R, 1, none⟩ = some (.int .i64 meet) ∧ U.cell? ⟨R, 2, none⟩ = some (.int .u64 0) ∧ U.cell? ⟨R, 3, none⟩ = some (.int .u64 0))) (by kernel_rfl) ?_ (fun hHeld => ?_)
  · (try dsimp only); ((rw [hY0]; exact HS0.out _ (Below.refl _ _)))
  rw [hY0] at hHeld ⊢
  clear hY0
  refine' wpAnyH_take (i := 0) (oi := _) (v := _) rfl (by kernel_rfl) (by kernel_rfl) (by kernel_rfl) (fun _ _ _ h => h) (Or.inl ⟨by kernel_rfl, ?_⟩) (by assumption) ?_
  rotate_left
  · (intro w hSw; (try dsimp only at hSw); go_simp; try (with_reducible rfl))
  try simp only [List.getElem_toArray, List.getElem_cons_succ, List.getElem_cons_zero, Act.put, List.setIfInBounds_toArray, List.set_cons_zero, List.set_cons_succ]
  refine' wpAnyH_take (i := 1) (oi := _) (v := _) rfl (by kernel_rfl) (by kernel_rfl) (by kernel_rfl) (fun _ _ _ h => h) (Or.inl ⟨by kernel_rfl, ?_⟩) (by assumption) ?_
  rotate_left
  · (intro w hSw; (try dsimp only at hSw); go_simp; try (with_reducible rfl))
  try simp only [List.getElem_toArray, List.getElem_cons_succ, List.getElem_cons_zero, Act.put, List.setIfInBounds_toArray, List.set_cons_zero, List.set_cons_succ]
  refine' wpAnyH_take (i := 2) (oi := _) (v := _) rfl (by kernel_rfl) (by kernel_rfl) (by kernel_rfl) (fun _ _ _ h => h) (Or.inl ⟨by kernel_rfl, ?_⟩) (by assumption) ?_
  rotate_left
  · (intro w hSw; (try dsimp only at hSw); go_simp; try (with_reducible rfl))
  try simp only [List.getElem_toArray, List.getElem_cons_succ, List.getElem_cons_zero, Act.put, List.setIfInBounds_toArray, List.set_cons_zero, List.set_cons_succ]
  refine' wpAnyH_take (i := 5) (oi := _) (v := _) rfl (by kernel_rfl) (by kernel_rfl) (by kernel_rfl) (fun _ _ _ h => h) (Or.inl ⟨by kernel_rfl, ?_⟩) (by assumption) ?_
  rotate_left
  · (intro w hSw; (try dsimp only at hSw); go_simp; try (with_reducible rfl))
  try simp only [List.getElem_toArray, List.getElem_cons_succ, List.getElem_cons_zero, Act.put, List.setIfInBounds_toArray, List.set_cons_zero, List.set_cons_succ]
  refine' wpAnyH_take (i := 8) (oi := _) (v := _) rfl (by kernel_rfl) (by kernel_rfl) (by kernel_rfl) (fun _ _ _ h => h) (Or.inl ⟨by kernel_rfl, ?_⟩) (by assumption) ?_
  rotate_left
  · (intro w hSw; (try dsimp only at hSw); go_simp; try (with_reducible rfl))
  try simp only [List.getElem_toArray, List.getElem_cons_succ, List.getElem_cons_zero, Act.put, List.setIfInBounds_toArray, List.set_cons_zero, List.set_cons_succ]
  refine' wpAnyH_take (i := 9) (oi := _) (v := _) rfl (by kernel_rfl) (by kernel_rfl) (by kernel_rfl) (fun _ _ _ h => h) (Or.inl ⟨by kernel_rfl, ?_⟩) (by assumption) ?_
  rotate_left
  · (intro w hSw; (try dsimp only at hSw); go_simp; try (with_reducible rfl))
  try simp only [List.getElem_toArray, List.getElem_cons_succ, List.getElem_cons_zero, Act.put, List.setIfInBounds_toArray, List.set_cons_zero, List.set_cons_succ]
  refine' wpAnyH_take (i := 10) (oi := _) (v := _) rfl (by kernel_rfl) (by kernel_rfl) (by kernel_rfl) (fun _ _ _ h => h) (Or.inl ⟨by kernel_rfl, ?_⟩) (by assumption) ?_
  rotate_left
  · (intro w hSw; (try dsimp only at hSw); go_simp; try (with_reducible rfl))
  try simp only [List.getElem_toArray, List.getElem_cons_succ, List.getElem_cons_zero, Act.put, List.setIfInBounds_toArray, List.set_cons_zero, List.set_cons_succ]
  refine' wpAnyH_take (i := 11) (oi := _) (v := _) rfl (by kernel_rfl) (by kernel_rfl) (by kernel_rfl) (fun _ _ _ h => h) (Or.inl ⟨by kernel_rfl, ?_⟩) (by assumption) ?_
  rotate_left
  · (intro w hSw; (try dsimp only at hSw); go_simp; try (with_reducible rfl))
  try simp only [List.getElem_toArray, List.getElem_cons_succ, List.getElem_cons_zero, Act.put, List.setIfInBounds_toArray, List.set_cons_zero, List.set_cons_succ]
  refine wpAnyH_ready (rs := [3]) (by kernel_rfl) (by simp) ?_
  refine AllReadyH.cons (o := _) rfl (fun K hK => ?_) AllReadyH.nil
  go_simp
  go_at_call 142; with_reducible refine (all_any B 1 Y0).mono ?_; rintro e X1 ⟨C1, C2, rfl, k1, k2, k3⟩
  (try go_wp2_with fail)
  have HX := hid k3.out
  have HX1 := HX
  refine hK.out _ _ ?_ (fun hHeld => ?_)
  · (try dsimp only); exact HS0.out _ HX.out
  clear hK K
  try simp only [List.getElem_toArray, List.getElem_cons_succ, List.getElem_cons_zero, Act.put, List.setIfInBounds_toArray, List.set_cons_zero, List.set_cons_succ]
  refine wpAnyH_ready (rs := [4]) (by kernel_rfl) (by simp) ?_
  refine AllReadyH.cons (o := _) rfl (fun K hK => ?_) AllReadyH.nil
  go_simp
  go_at_call 49; with_reducible refine (collect_1 C1 C2 B X1 k1.out k2.out (HKY.out.on HX1.out).tops.1).mono ?_; rintro e X2 ⟨rfl, hb2⟩
  (try go_wp2_with fail)
  have HX := hid (btr HX1.out hb2)
  have HX2 := HX
  clear hb2
  refine hK.out _ _ ?_ (fun hHeld => ?_)
  · (try dsimp only); exact HS0.out _ HX.out
  clear hK K
  try simp only [List.getElem_toArray, List.getElem_cons_succ, List.getElem_cons_zero, Act.put, List.setIfInBounds_toArray, List.set_cons_zero, List.set_cons_succ]
  refine wpAnyH_ready (rs := [6]) (by kernel_rfl) (by simp) ?_
  refine AllReadyH.cons (o := _) rfl (fun K hK => ?_) AllReadyH.nil
  go_simp
  go_at_call 142; with_reducible refine (all_any B 2 X2).mono ?_; rintro e X3 ⟨C3, C4, rfl, k4, k5, k6⟩
  (try go_wp2_with fail)
  have HX := hid (btr HX2.out k6.out)
  have HX3 := HX
  refine hK.out _ _ ?_ (fun hHeld => ?_)
  · (try dsimp only); exact HS0.out _ HX.out
  clear hK K
  try simp only [List.getElem_toArray, List.getElem_cons_succ, List.getElem_cons_zero, Act.put, List.setIfInBounds_toArray, List.set_cons_zero, List.set_cons_succ]
  refine wpAnyH_ready (rs := [7]) (by kernel_rfl) (by simp) ?_
  refine AllReadyH.cons (o := _) rfl (fun K hK => ?_) AllReadyH.nil
  go_simp
  go_at_call 49; with_reducible refine (collect_2 C3 C4 B X3 k4.out k5.out (HKY.out.on HX3.out).tops.2).mono ?_; rintro e X4 ⟨rfl, hb4⟩
  (try go_wp2_with fail)
  have HX := hid (btr HX3.out hb4)
  have HX4 := HX
  clear hb4
  refine hK.out _ _ ?_ (fun hHeld => ?_)
  · (try dsimp only); exact HS0.out _ HX.out
  clear hK K
  try simp only [List.getElem_toArray, List.getElem_cons_succ, List.getElem_cons_zero, Act.put, List.setIfInBounds_toArray, List.set_cons_zero, List.set_cons_succ]
  refine' wpAnyH_take (i := 12) (oi := _) (v := _) rfl (by kernel_rfl) (by kernel_rfl) (by kernel_rfl) (fun _ _ _ h => h) (Or.inl ⟨by kernel_rfl, ?_⟩) (by assumption) ?_
  rotate_left
  · (intro w hSw; (try dsimp only at hSw); go_simp; try (with_reducible rfl))
  try simp only [List.getElem_toArray, List.getElem_cons_succ, List.getElem_cons_zero, Act.put, List.setIfInBounds_toArray, List.set_cons_zero, List.set_cons_succ]
  have AI := hid (show (Tryz.prog.info? 31).map (·.size) = some (#[.int .i64 cap, .int .i64 meet, .slice none 0 0, .slice none 0 0, .int .u64 0, .int .u64 0] : Array Value).size from info31)
  have AS := hid (show (#[.int .i64 0, .int .i64 0, .slice none 0 0, .slice none 0 0, .int .u64 0, .int .u64 0] : Array Value).size = (#[.int .i64 cap, .int .i64 meet, .slice none 0 0, .slice none 0 0, .int .u64 0, .int .u64 0] : Array Value).size from rfl)
  have AA := hid (show (#[.int .i64 cap, .int .i64 meet, .slice none 0 0, .slice none 0 0, .int .u64 0, .int .u64 0] : Array Value).all (·.oneCell') = true from by simp [Value.oneCell'])
  have ZZ := hid (row_on (row_on HR1.out HE0.out) HX4.out)
  refine wpAnyH_ready (rs := [13]) (by kernel_rfl) (by simp) ?_
  refine AllReadyH.cons (o := _) rfl (fun K hK => ?_) AllReadyH.nil
  refine step_store_row (by rfl) 31 (.tmp 4) (.tmp 17) (by rfl) (R + 1) #[.int .i64 cap, .int .i64 meet, .slice none 0 0, .slice none 0 0, .int .u64 0, .int .u64 0] (by rfl) (by rfl) 31 _ ZZ.out AI.out AS.out AA.out ?_
  have k9 := setRow_kp X4 (R + 1) #[.int .i64 cap, .int .i64 meet, .slice none 0 0, .slice none 0 0, .int .u64 0, .int .u64 0]
  have HKE := hid (show (X4.setRow (R + 1) #[.int .i64 cap, .int .i64 meet, .slice none 0 0, .slice none 0 0, .int .u64 0, .int .u64 0]).heap[R]? = some (.cells #[.int .i64 cap, .int .i64 meet, .int .u64 0, .int .u64 0] 75 (0, 0)) from k9.row (row_on (row_on HR0.out HE0.out) HX4.out) (fun e => by omega))
  refine hK.out _ _ ?_ (fun hHeld => ?_)
  · (try dsimp only); exact row4 HKE.out
  clear hK k9
  try simp only [List.getElem_toArray, List.getElem_cons_succ, List.getElem_cons_zero, Act.put, List.setIfInBounds_toArray, List.set_cons_zero, List.set_cons_succ]
  refine wpAnyH_done (by kernel_rfl) ?_ _
  clear hHeld
  go_wp2
  refine bodyPost_ret (results_cell_row (fn := Tryz.f29) Tryz.results29 _ _ (R + 1) 31 #[.int .i64 cap, .int .i64 meet, .slice none 0 0, .slice none 0 0, .int .u64 0, .int .u64 0] (0, 0) _ (by rfl) (setRow_heap _ _ _ _ 31 (0, 0) ZZ.out) Tryz.underlying31 rfl info31) rfl ⟨rfl, ?_⟩
  exact setRow_below (btr HBW.out (btr HE0.out HX4.out)) (by have := HRR.out; omega)
end Go.Proofs.YtgejmhiaghaddaaGreat
