/-
  The book of a book; two books are the same.
-/
import Derived.Test.YtgejmhiaghaddaaGreatTnI
namespace Go.Proofs.YtgejmhiaghaddaaGreat
open Go.RowKit Go.Deep
set_option linter.unusedVariables false
set_option linter.unusedSimpArgs false
set_option maxHeartbeats 4000000
set_option maxRecDepth 100000
attribute [local go_sem ↓] Go.wp_at_zero Go.wp_at_succ
theorem Bk.state {w : World} {B : Nat} {cap meet : Int} (h : Bk w B cap meet) : w.cell? ⟨B, 0, none⟩ = some (.int .i64 cap) ∧ w.cell? ⟨B, 1, none⟩ = some (.int .i64 meet) ∧ w.cell? ⟨B, 2, none⟩ = some (.int .u64 0) ∧ w.cell? ⟨B, 3, none⟩ = some (.int .u64 0) := by
  obtain ⟨M, h1, _⟩ := h
  exact ⟨row_cell h1 0, row_cell h1 1, row_cell h1 2, row_cell h1 3⟩
def Bk0 (w : World) (B : Nat) (cap meet : Int) : Prop := ∃ M : Nat, w.heap[B]? = some (.cells #[.int .i64 cap, .int .i64 meet, .int .u64 0, .int .u64 0, .pointer none, .pointer none, .map (some M)] 84 (0, 0))
theorem Bk0.state {w : World} {B : Nat} {cap meet : Int} (h : Bk0 w B cap meet) : w.cell? ⟨B, 0, none⟩ = some (.int .i64 cap) ∧ w.cell? ⟨B, 1, none⟩ = some (.int .i64 meet) ∧ w.cell? ⟨B, 2, none⟩ = some (.int .u64 0) ∧ w.cell? ⟨B, 3, none⟩ = some (.int .u64 0) := by
  obtain ⟨M, h1⟩ := h
  exact ⟨row_cell h1 0, row_cell h1 1, row_cell h1 2, row_cell h1 3⟩
/-- the rows that a world keeps keep the book, if the book's own row is kept, and no map changes. -/
theorem Bk.kept {w w' : World} {B : Nat} {cap meet : Int} {N : Nat} (h : Bk w B cap meet) (k : Kp (fun j => j = N) w w') (hB : B ≠ N) : Bk0 w' B cap meet := by
  obtain ⟨M, h1, _⟩ := h
  exact ⟨M, k.row h1 hB⟩
theorem book_none (cap meet : Int) (B : Nat) (w : World) (hK : Bk w B cap meet) : Calls Tryz.prog 9 #[.pointer (some ⟨B, 0, none⟩)] w fun e w' => e = .returned (.agg #[.int .i64 cap, .int .i64 meet, .slice none 0 0, .slice none 0 0, .int .u64 0, .int .u64 0]) ∧ Below w.heap.size w w' := by
  have HK := hid hK
  clear hK
  obtain ⟨R, hR⟩ : ∃ R, w.heap.size = R := ⟨_, rfl⟩
  obtain ⟨W, hW⟩ : ∃ U, w.alloc (.cells #[.int .i64 0, .int .i64 0, .slice none 0 0, .slice none 0 0, .int .u64 0, .int .u64 0] 31) = U := ⟨_, rfl⟩
  have b0 : Below w.heap.size w W := by rw [← hW]; exact ball _ _
  have HBW := hid b0
  have HR0 := hid (show W.heap[R]? = some (.cells #[.int .i64 0, .int .i64 0, .slice none 0 0, .slice none 0 0, .int .u64 0, .int .u64 0] 31 (0, 0)) from (by rw [← hW, ← hR]; exact World.alloc_heap_new _ _))
  have HW := hid hW
  have HRR := hid hR
  clear hR hW  b0
  go_enter Tryz.func9, Tryz.ntmps9
  go_upto_region 1 with fail
  rw [HW.out, HRR.out]
  obtain ⟨Y0, hY0⟩ : ∃ X, W.drew = X := ⟨_, rfl⟩
  have HE0 := hid (show Below W.heap.size W Y0 from by rw [← hY0]; exact bdrew1 _)
  have HKY := hid (HK.out.on (btr HBW.out HE0.out))
  have HS0 := hid (fun (U : World) (hU : Below Y0.heap.size Y0 U) => (HKY.out.on hU).state)
  refine wp_region_held_drew (S := (fun U => U.cell? ⟨B, 0, none⟩ = some (.int .i64 cap) ∧ U.cell? ⟨B, 1, none⟩ = some (.int .i64 meet) ∧ U.cell? ⟨B, 2, none⟩ = some (.int .u64 0) ∧ U.cell? ⟨B, 3, none⟩ = some (.int .u64 0))) (by kernel_rfl) ?_ (fun hHeld => ?_)
  · (try dsimp only); ((rw [hY0]; exact HS0.out _ (Below.refl _ _)))
  rw [hY0] at hHeld ⊢
  clear hY0
  refine' wpAnyH_take (i := 0) (oi := _) (v := _) rfl (by kernel_rfl) (by kernel_rfl) (by kernel_rfl) (fun _ _ _ h => h) (Or.inl ⟨by kernel_rfl, ?_⟩) (by assumption) ?_
  rotate_left
  · (intro w hSw; (try dsimp only at hSw); go_simp; try (with_reducible rfl))
  try simp only [List.getElem_toArray, List.getElem_cons_succ, List.getElem_cons_zero, Act.put, List.setIfInBounds_toArray, List.set_cons_zero, List.set_cons_succ]
  refine' wpAnyH_take (i := 1) (oi := _) (v := _) rfl (by kernel_rfl) (by kernel_rfl) (by kernel_rfl) (fun _ _ _ h => h) (Or.inl ⟨by kernel_rfl, ?_⟩) (by assumption) ?_
  rotate_left
  · (intro w hSw; (try dsimp only at hSw); go_simp; try (with_reducible rfl))
  try simp only [List.getElem_toArray, List.getElem_cons_succ, List.getElem_cons_zero, Act.put, List.setIfInBounds_toArray, List.set_cons_zero, List.set_cons_succ]
  refine' wpAnyH_take (i := 2) (oi := _) (v := _) rfl (by kernel_rfl) (by kernel_rfl) (by kernel_rfl) (fun _ _ _ h => h) (Or.inl ⟨by kernel_rfl, ?_⟩) (by assumption) ?_
  rotate_left
  · (intro w hSw; (try dsimp only at hSw); go_simp; try (with_reducible rfl))
  try simp only [List.getElem_toArray, List.getElem_cons_succ, List.getElem_cons_zero, Act.put, List.setIfInBounds_toArray, List.set_cons_zero, List.set_cons_succ]
  refine' wpAnyH_take (i := 3) (oi := _) (v := _) rfl (by kernel_rfl) (by kernel_rfl) (by kernel_rfl) (fun _ _ _ h => h) (Or.inl ⟨by kernel_rfl, ?_⟩) (by assumption) ?_
  rotate_left
  · (intro w hSw; (try dsimp only at hSw); go_simp; try (with_reducible rfl))
  try simp only [List.getElem_toArray, List.getElem_cons_succ, List.getElem_cons_zero, Act.put, List.setIfInBounds_toArray, List.set_cons_zero, List.set_cons_succ]
  refine' wpAnyH_take (i := 4) (oi := _) (v := _) rfl (by kernel_rfl) (by kernel_rfl) (by kernel_rfl) (fun _ _ _ h => h) (Or.inl ⟨by kernel_rfl, ?_⟩) (by assumption) ?_
  rotate_left
  · (intro w hSw; (try dsimp only at hSw); go_simp; try (with_reducible rfl))
  try simp only [List.getElem_toArray, List.getElem_cons_succ, List.getElem_cons_zero, Act.put, List.setIfInBounds_toArray, List.set_cons_zero, List.set_cons_succ]
  refine' wpAnyH_take (i := 5) (oi := _) (v := _) rfl (by kernel_rfl) (by kernel_rfl) (by kernel_rfl) (fun _ _ _ h => h) (Or.inl ⟨by kernel_rfl, ?_⟩) (by assumption) ?_
  rotate_left
  · (intro w hSw; (try dsimp only at hSw); go_simp; try (with_reducible rfl))
  try simp only [List.getElem_toArray, List.getElem_cons_succ, List.getElem_cons_zero, Act.put, List.setIfInBounds_toArray, List.set_cons_zero, List.set_cons_succ]
  refine' wpAnyH_take (i := 6) (oi := _) (v := _) rfl (by kernel_rfl) (by kernel_rfl) (by kernel_rfl) (fun _ _ _ h => h) (Or.inl ⟨by kernel_rfl, ?_⟩) (by assumption) ?_
  rotate_left
  · (intro w hSw; (try dsimp only at hSw); go_simp; try (with_reducible rfl))
  try simp only [List.getElem_toArray, List.getElem_cons_succ, List.getElem_cons_zero, Act.put, List.setIfInBounds_toArray, List.set_cons_zero, List.set_cons_succ]
  refine' wpAnyH_take (i := 7) (oi := _) (v := _) rfl (by kernel_rfl) (by kernel_rfl) (by kernel_rfl) (fun _ _ _ h => h) (Or.inl ⟨by kernel_rfl, ?_⟩) (by assumption) ?_
  rotate_left
  · (intro w hSw; (try dsimp only at hSw); go_simp; try (with_reducible rfl))
  try simp only [List.getElem_toArray, List.getElem_cons_succ, List.getElem_cons_zero, Act.put, List.setIfInBounds_toArray, List.set_cons_zero, List.set_cons_succ]
  refine wpAnyH_ready (rs := [8]) (by kernel_rfl) (by simp) ?_
  refine AllReadyH.cons (o := _) rfl (fun K hK => ?_) AllReadyH.nil
  go_simp
  go_at_call 29; with_reducible refine (mbook_none cap meet B Y0 HKY.out).mono ?_; rintro e X1 ⟨rfl, hb1⟩
  (try go_wp2_with fail)
  have HX := hid hb1
  clear hb1
  refine hK.out _ _ ?_ (fun hHeld => ?_)
  · (try dsimp only); exact HS0.out _ HX.out
  clear hK K
  try simp only [List.getElem_toArray, List.getElem_cons_succ, List.getElem_cons_zero, Act.put, List.setIfInBounds_toArray, List.set_cons_zero, List.set_cons_succ]
  have AI := hid (show (Tryz.prog.info? 31).map (·.size) = some (#[.int .i64 cap, .int .i64 meet, .slice none 0 0, .slice none 0 0, .int .u64 0, .int .u64 0] : Array Value).size from info31)
  have AS := hid (show (#[.int .i64 0, .int .i64 0, .slice none 0 0, .slice none 0 0, .int .u64 0, .int .u64 0] : Array Value).size = (#[.int .i64 cap, .int .i64 meet, .slice none 0 0, .slice none 0 0, .int .u64 0, .int .u64 0] : Array Value).size from rfl)
  have AA := hid (show (#[.int .i64 cap, .int .i64 meet, .slice none 0 0, .slice none 0 0, .int .u64 0, .int .u64 0] : Array Value).all (·.oneCell') = true from by simp [Value.oneCell'])
  have ZZ := hid (row_on (row_on HR0.out HE0.out) HX.out)
  refine wpAnyH_ready (rs := [9]) (by kernel_rfl) (by simp) ?_
  refine AllReadyH.cons (o := _) rfl (fun K hK => ?_) AllReadyH.nil
  refine step_store_row (by rfl) 31 (.tmp 2) (.tmp 11) (by rfl) R #[.int .i64 cap, .int .i64 meet, .slice none 0 0, .slice none 0 0, .int .u64 0, .int .u64 0] (by rfl) (by rfl) 31 _ ZZ.out AI.out AS.out AA.out ?_
  have k9 := setRow_kp X1 R #[.int .i64 cap, .int .i64 meet, .slice none 0 0, .slice none 0 0, .int .u64 0, .int .u64 0]
  have HKE := hid ((HKY.out.on HX.out).kept k9 (fun e => by have := HK.out.lt; have := HRR.out; omega))
  refine hK.out _ _ ?_ (fun hHeld => ?_)
  · (try dsimp only); exact HKE.out.state
  clear hK k9
  try simp only [List.getElem_toArray, List.getElem_cons_succ, List.getElem_cons_zero, Act.put, List.setIfInBounds_toArray, List.set_cons_zero, List.set_cons_succ]
  refine wpAnyH_done (by kernel_rfl) ?_ _
  clear hHeld
  go_wp2
  refine bodyPost_ret (results_cell_row (fn := Tryz.f9) Tryz.results9 _ _ R 31 #[.int .i64 cap, .int .i64 meet, .slice none 0 0, .slice none 0 0, .int .u64 0, .int .u64 0] (0, 0) _ (by rfl) (setRow_heap _ _ _ _ 31 (0, 0) ZZ.out) Tryz.underlying31 rfl info31) rfl ⟨rfl, ?_⟩
  exact setRow_below (btr HBW.out (btr HE0.out HX.out)) (by have := HRR.out; omega)
theorem sameOrders_none (w : World) : Calls Tryz.prog 30 #[.slice none 0 0, .slice none 0 0] w fun e w' => e = .returned (.bool true) ∧ Below w.heap.size w w' := by
  go_enter Tryz.func30, Tryz.ntmps30
  go_wp2
  go_loopw [5] (fun iv wr => iv = .int .i64 0 ∧ Hid (Below w.heap.size w wr)) (fun iv _ => 1 - (intOf iv).toNat)
  case atStart => exact ⟨rfl, hid (Below.refl _ _)⟩
  case round =>
    obtain ⟨rfl, HB⟩ := hrel
    go_wp2
    go_ret
    exact ⟨rfl, HB.out⟩
theorem sameBook_none (cap meet : Int) (w : World) : Calls Tryz.prog 10 #[.agg #[.int .i64 cap, .int .i64 meet, .slice none 0 0, .slice none 0 0, .int .u64 0, .int .u64 0], .agg #[.int .i64 cap, .int .i64 meet, .slice none 0 0, .slice none 0 0, .int .u64 0, .int .u64 0]] w fun e w' => e = .returned (.bool true) ∧ Below w.heap.size w w' := by
  have C := hid (fun U => sameOrders_none U)
  obtain ⟨R, hR⟩ : ∃ R, w.heap.size = R := ⟨_, rfl⟩
  obtain ⟨U0, hU0⟩ : ∃ U, w.alloc (.cells #[.int .i64 cap, .int .i64 meet, .slice none 0 0, .slice none 0 0, .int .u64 0, .int .u64 0] 31) = U := ⟨_, rfl⟩
  obtain ⟨W, hW⟩ : ∃ U, U0.alloc (.cells #[.int .i64 cap, .int .i64 meet, .slice none 0 0, .slice none 0 0, .int .u64 0, .int .u64 0] 31) = U := ⟨_, rfl⟩
  have s0 : U0.heap.size = R + 1 := by rw [← hU0]; simp [hR]
  have b0 : Below w.heap.size w U0 := by rw [← hU0]; exact ball _ _
  have b1 : Below U0.heap.size U0 W := by rw [← hW]; exact ball _ _
  have HBW := hid (btr b0 b1)
  have HR0 := hid (show W.heap[R]? = some (.cells #[.int .i64 cap, .int .i64 meet, .slice none 0 0, .slice none 0 0, .int .u64 0, .int .u64 0] 31 (0, 0)) from (row_on (by rw [← hU0, ← hR]; exact World.alloc_heap_new _ _) b1))
  have HR1 := hid (show W.heap[R + 1]? = some (.cells #[.int .i64 cap, .int .i64 meet, .slice none 0 0, .slice none 0 0, .int .u64 0, .int .u64 0] 31 (0, 0)) from (by rw [← hW, ← s0]; exact World.alloc_heap_new _ _))
  have HU0 := hid hU0
  have HW := hid hW
  have HRR := hid hR
  clear hR hU0 hW s0 b0 b1
  have HS0 := hid (fun (U : World) (hU : Below W.heap.size W U) => row6 (row_on HR0.out hU))
  have HS1 := hid (fun (U : World) (hU : Below W.heap.size W U) => row6 (row_on HR1.out hU))
  have HB1 := hid (Below.refl W.heap.size W)
  obtain ⟨k_0, k_1, k_2, k_3, k_4, k_5⟩ := HS0.out _ HB1.out
  obtain ⟨m_0, m_1, m_2, m_3, m_4, m_5⟩ := HS1.out _ HB1.out
  go_enter Tryz.func10, Tryz.ntmps10
  go_upto_region 1 with fail
  rw [HU0.out, HW.out, HRR.out]
  go_wp2_with (go_at_call 30; with_reducible refine (C.out _).mono ?_; rintro e w1 ⟨rfl, hb1⟩; have HB1 := hid (btr HB1.out hb1); clear hb1 k_0 k_1 k_2 k_3 k_4 k_5 m_0 m_1 m_2 m_3 m_4 m_5; obtain ⟨k_0, k_1, k_2, k_3, k_4, k_5⟩ := HS0.out _ HB1.out; obtain ⟨m_0, m_1, m_2, m_3, m_4, m_5⟩ := HS1.out _ HB1.out)
  go_ret
  exact ⟨rfl, btr HBW.out HB1.out⟩
end Go.Proofs.YtgejmhiaghaddaaGreat
