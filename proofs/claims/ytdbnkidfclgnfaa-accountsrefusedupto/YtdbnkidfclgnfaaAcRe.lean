/-
  A deal is booked.
-/
import Derived.Test.YtdbnkidfclgnfaaAcR
namespace Go.Proofs.Ytdbnkidfclgnfaa.Ac
open Go.RowKit Go.Deep Go.Maps Go.Proofs.Ytdbnkidfclgnfaa.MonM
set_option linter.unusedVariables false
set_option linter.unusedSimpArgs false
set_option maxHeartbeats 8000000
set_option maxRecDepth 100000
attribute [local go_sem ↓] Go.wp_at_zero Go.wp_at_succ
theorem book_ok_s {w : World} {G : Nat} {O : Nat → Prop} {k : Nat} {s : Ls} (h : Lg w G O k s) (it bu se ta pr qt : Int) (hd : DeOk ⟨it, bu, se, ta, pr, qt⟩) (h0 : bkc s ⟨it, bu, se, ta, pr, qt⟩ = 0) (hB : ∃ x, s.f x ≠ none) (hpr0 : 0 ≤ pr) (hpr1 : pr < 262144) (hqt0 : 0 < qt) (hqt1 : qt < 4294967296) (pa pb bo so : Po) (hpa : s.g bu it = pa) (hpb : s.g se it = pb)
    (CBo : Hid (∀ U, Calls Try.prog 19 #[.agg pa.row, .int .i64 qt, mv (-(pr * qt))] U fun e w' => e = .returned (.agg bo.row) ∧ Below U.heap.size U w')) (CSo : Hid (∀ U, Calls Try.prog 19 #[.agg bo.row, .int .i64 (-qt), mv (pr * qt)] U fun e w' => e = .returned (.agg so.row) ∧ Below U.heap.size U w'))
    (hbo : PoOk bo) (hso : PoOk so) (bb0 : absI bo.qt < 9223372036854775808) (bs0 : absI so.qt < 9223372036854775808) (hse : se = bu) (hov : absI bo.qt ≤ 4294967295) (hov2 : absI so.qt ≤ 4294967295) (hk : k + 13 ≤ 1000000000000) :
    Calls Try.prog 8 #[.pointer (some ⟨G, 0, none⟩), .agg #[.int .u32 it, .int .u32 bu, .int .u32 se, .int .i64 ta, .int .i64 pr, .int .u64 qt]] w fun e w' => e = .returned (.int .i64 0) ∧ ∃ O', Lg w' G O' (k + 13) (bkd s ⟨it, bu, se, ta, pr, qt⟩ bo so) ∧ Kp O w w' ∧ Ex w O O' := by
  have hv0 : 0 ≤ pr * qt := Int.mul_nonneg hpr0 (by omega)
  have hv1 : pr * qt ≤ 262144 * 4294967296 := Int.mul_le_mul (by omega) (by omega) (by omega) (by omega)
  have HL := hid h
  have HLT := hid h.lt
  have HD := hid hd
  have HBx := hid hB
  have HKK := hid hk
  have HV := hid (show Amt (pr * qt) from by unfold Amt; omega)
  obtain ⟨Wa, hWa⟩ : ∃ W, w.alloc (.cells #[.int .u32 it, .int .u32 bu, .int .u32 se, .int .i64 ta, .int .i64 pr, .int .u64 qt] 32) = W := ⟨_, rfl⟩
  obtain ⟨R, hR⟩ : ∃ R, w.heap.size = R := ⟨_, rfl⟩
  have HBA := hid (show Below w.heap.size w Wa from by rw [← hWa]; exact ball _ _)
  have HRA := hid (show Wa.heap[R]? = some (.cells #[.int .u32 it, .int .u32 bu, .int .u32 se, .int .i64 ta, .int .i64 pr, .int .u64 qt] 32 (0, 0)) from by rw [← hWa, ← hR]; exact World.alloc_heap_new _ _)
  have CB := hid (show Calls Try.prog 17 #[.pointer (some ⟨G, 0, none⟩), .agg #[.int .u32 it, .int .u32 bu, .int .u32 se, .int .i64 ta, .int .i64 pr, .int .u64 qt]] Wa fun e w' => e = .returned (.int .i64 0) ∧ Below Wa.heap.size Wa w' from by have h1 := bookable_any (HL.out.on HBA.out) ⟨it, bu, se, ta, pr, qt⟩ HD.out; rw [h0] at h1; exact h1)
  have CT := hid (fun U => times_any pr qt U hpr0 hpr1 (by omega) hqt1)
  have CPb := hid (show ∀ U, Below w.heap.size w U → Calls Try.prog 7 #[.pointer (some ⟨G, 0, none⟩), .int .u32 bu, .int .u32 it] U fun e w' => e = .returned (.agg pa.row) ∧ Hid (Below U.heap.size U w') from fun U hU => by rw [← hpa]; exact position_any (HL.out.on hU) bu it HD.out.bu HD.out.it)
  have CPs := hid (show ∀ U, Below w.heap.size w U → Calls Try.prog 7 #[.pointer (some ⟨G, 0, none⟩), .int .u32 se, .int .u32 it] U fun e w' => e = .returned (.agg pb.row) ∧ Hid (Below U.heap.size U w') from fun U hU => by rw [← hpb]; exact position_any (HL.out.on hU) se it HD.out.se HD.out.it)
  have CN := hid (show ∀ U, Calls Try.prog 20 #[mv (pr * qt)] U fun e w' => e = .returned (mv (-(pr * qt))) ∧ Hid (Below U.heap.size U w') from fun U => neg_any (pr * qt) U)
  have CZb := hid (show ∀ U, Calls Try.prog 21 #[.int .i64 bo.qt] U fun e w' => e = .returned (.int .u64 (absI bo.qt)) ∧ w' = U from fun U => size_any bo.qt U (by unfold absI at bb0; split at bb0 <;> omega) (by unfold absI at bb0; split at bb0 <;> omega))
  have CZs := hid (show ∀ U, Calls Try.prog 21 #[.int .i64 so.qt] U fun e w' => e = .returned (.int .u64 (absI so.qt)) ∧ w' = U from fun U => size_any so.qt U (by unfold absI at bs0; split at bs0 <;> omega) (by unfold absI at bs0; split at bs0 <;> omega))
  have wpr : IntKind.u32.wrap pr = pr := by rw [IntKind.wrap_u32]; omega
  have wqt : IntKind.i64.wrap qt = qt := by rw [IntKind.wrap_i64]; omega
  have wnq : IntKind.i64.wrap (-qt) = -qt := by rw [IntKind.wrap_i64]; omega
  have hsb : (se == bu) = true := by rw [hse]; simp
  have hoa : decide (4294967295 < absI bo.qt) = false := by simp; omega
  have hob : decide (4294967295 < absI so.qt) = false := by simp; omega
  have HO1 := hid hov
  have HO2 := hid hov2
  have HPO := hid (And.intro hbo hso)
  unfold bkd
  simp only
  obtain ⟨v, hv⟩ : ∃ x, pr * qt = x := ⟨_, rfl⟩
  rw [hv] at CT CN CBo CSo HV ⊢
  obtain ⟨s1, hs1⟩ : ∃ x, ent s (bu, 1) (se, 1) v = x := ⟨_, rfl⟩
  rw [hs1]
  obtain ⟨s2, hs2⟩ : ∃ x, ent s1 (bu, 1) (0, 2) (fee s1 v (ta == 1)) = x := ⟨_, rfl⟩
  rw [hs2]
  obtain ⟨s3, hs3⟩ : ∃ x, ent s2 (se, 1) (0, 2) (fee s2 v (ta == 2)) = x := ⟨_, rfl⟩
  rw [hs3]
  have HS1 := hid hs1
  have HS2 := hid hs2
  have HS3 := hid hs3
  clear hs1 hs2 hs3
  have HB1 := hid (show ∃ x, s1.f x ≠ none from by rw [← HS1.out]; exact ent_B hB _ _ _)
  have HB2 := hid (show ∃ x, s2.f x ≠ none from by rw [← HS2.out]; exact ent_B HB1.out _ _ _)
  have HB3 := hid (show ∃ x, s3.f x ≠ none from by rw [← HS3.out]; exact ent_B HB2.out _ _ _)
  unfold mv at CT CN CBo CSo
  unfold Po.row at CPb CPs CBo CSo
  have d0 := row_cell HRA.out 0
  have d1 := row_cell HRA.out 1
  have d2 := row_cell HRA.out 2
  have d3 := row_cell HRA.out 3
  have d4 := row_cell HRA.out 4
  have d5 := row_cell HRA.out 5
  simp only [List.getElem?_toArray, List.getElem?_cons_succ, List.getElem?_cons_zero] at d0 d1 d2 d3 d4 d5
  have HWa := hid hWa
  have HR := hid hR
  clear hWa hR h hd h0 hB hk hpr0 hpr1 hqt0 hqt1 hpa hpb hbo hso bb0 bs0 hse hov hv hv0 hv1 hov2
  go_enter Try.func8, Try.ntmps8
  go_upto_region 1 with fail
  rw [HWa.out, HR.out]
  clear HWa
  go_upto_region 4 with (go_at_call 17; with_reducible refine CB.out.mono ?_; rintro e w4 ⟨rfl, hb⟩; have HB4 := hid (btr HBA.out hb); have HD4 := hid (row_on HRA.out hb); clear hb)
  clear d0 d1 d2 d3 d4 d5
  have f4 := row_cell HD4.out 4
  have f5 := row_cell HD4.out 5
  simp only [List.getElem?_toArray, List.getElem?_cons_succ, List.getElem?_cons_zero] at f4 f5
  go_upto_region 5 with (first | (go_at_call 18; with_reducible refine (CT.out _).mono ?_; rintro e w5 ⟨rfl, hb⟩; have HB5 := hid hb; have HZ5 := hid (World.alloc_heap_new w5 (.cells #[.int .u64 0, .int .u64 0] 36)); clear hb) | (refine wpList_store_row (by rfl) 36 (.tmp 6) (.tmp 21) (by rfl) w5.heap.size #[.int .u64 (hiW v), .int .u64 (loW v)] (by rfl) (by rfl) 36 _ HZ5.out infoM (by rfl) (by simp [Value.oneCell']) ?_))
  obtain ⟨X5, hX5⟩ : ∃ X, (w5.alloc (.cells #[.int .u64 0, .int .u64 0] 36)).setRow w5.heap.size #[.int .u64 (hiW v), .int .u64 (loW v)] = X := ⟨_, rfl⟩
  have GV := hid (show X5.heap[w5.heap.size]? = some (.cells #[.int .u64 (hiW v), .int .u64 (loW v)] 36 (0, 0)) from by rw [← hX5]; exact setRow_heap _ _ _ _ 36 (0, 0) HZ5.out)
  have BX5 := hid (show Below w5.heap.size w5 X5 from by rw [← hX5]; exact setRow_below (ball _ _) (Nat.le_refl _))
  rw [hX5]
  obtain ⟨a6, ha6⟩ : ∃ t, w5.heap.size = t := ⟨_, rfl⟩
  rw [ha6] at GV ⊢
  have N6 := hid (show w.heap.size ≤ a6 from by rw [← ha6]; exact Nat.le_trans HB4.out.size HB5.out.size)
  have W5 := hid (btr HB4.out (btr HB5.out BX5.out))
  have GD := hid (row_on (row_on HD4.out HB5.out) BX5.out)
  clear hX5 HZ5 ha6 f4 f5 BX5 HB5 HD4
  have CBo2 := hid (show ∀ U, Calls Try.prog 19 #[.agg #[.int .i64 pa.qt, .int .u64 (hiW pa.co), .int .u64 (loW pa.co), .int .u64 (hiW pa.ga), .int .u64 (loW pa.ga)], .int .i64 qt, .agg #[.int .u64 (hiW (-v)), .int .u64 (loW (-v))]] U fun e w' => e = .returned (.agg #[.int .i64 bo.qt, .int .u64 (hiW bo.co), .int .u64 (loW bo.co), .int .u64 (hiW bo.ga), .int .u64 (loW bo.ga)]) ∧ Hid (Below U.heap.size U w') from fun U => CBo.out U)
  refine reg_cut (X := Nat) (fun a t => (((((((((((((a.put (some 22) (.pointer (some ⟨G, 0, none⟩))).put (some 23) (.pointer (some ⟨R, 1, none⟩))).put (some 24) (.int .u32 bu)).put (some 25) (.pointer (some ⟨R, 0, none⟩))).put (some 26) (.int .u32 it)).put (some 27) (.agg #[.int .i64 pa.qt, .int .u64 (hiW pa.co), .int .u64 (loW pa.co), .int .u64 (hiW pa.ga), .int .u64 (loW pa.ga)])).put (some 28) (.pointer (some ⟨R, 5, none⟩))).put (some 29) (.int .u64 qt)).put (some 30) (.int .i64 qt)).put (some 31) (.agg #[.int .u64 (hiW v), .int .u64 (loW v)])).put (some 32) (.agg #[.int .u64 (hiW (-v)), .int .u64 (loW (-v))])).put (some 33) (.agg #[.int .i64 bo.qt, .int .u64 (hiW bo.co), .int .u64 (loW bo.co), .int .u64 (hiW bo.ga), .int .u64 (loW bo.ga)])).put (some 7) (.pointer (some ⟨t, 0, none⟩)))) (fun t V => Hid (Below X5.heap.size X5 V) ∧ Hid (V.heap[t]? = some (.cells #[.int .i64 bo.qt, .int .u64 (hiW bo.co), .int .u64 (loW bo.co), .int .u64 (hiW bo.ga), .int .u64 (loW bo.ga)] 38 (0, 0))) ∧ Hid (X5.heap.size ≤ t)) ?_ ?_
  · obtain ⟨V289, hV289⟩ : ∃ U, X5.drew = U := ⟨_, rfl⟩
    have BV289 := hid (show Below X5.heap.size X5 V289 from by rw [← hV289]; exact bdrew1 _)
    have r290 := hid (row_on GD.out BV289.out)
    have r291 := hid (row_on GV.out BV289.out)
    refine wp_region_held_drew (S := (fun U => U.cell? ⟨R, 0, none⟩ = some (.int .u32 it) ∧ U.cell? ⟨R, 1, none⟩ = some (.int .u32 bu) ∧ U.cell? ⟨R, 5, none⟩ = some (.int .u64 qt) ∧ U.cell? ⟨a6, 0, none⟩ = some (.int .u64 (hiW v)) ∧ U.cell? ⟨a6, 1, none⟩ = some (.int .u64 (loW v)))) (by kernel_rfl) ?_ (fun hHeld => ?_)
    · (try dsimp only); rw [hV289]; exact ⟨row_cell r290.out 0, row_cell r290.out 1, row_cell r290.out 5, row_cell r291.out 0, row_cell r291.out 1⟩
    rw [hV289] at hHeld ⊢
    clear hV289
    refine' wpAnyH_take (i := 0) (oi := _) (v := _) rfl (by kernel_rfl) (by kernel_rfl) (by kernel_rfl) (fun _ _ _ h => h) (Or.inl ⟨by kernel_rfl, ?_⟩) (by assumption) ?_
    rotate_left
    · (intro w hSw; (try dsimp only at hSw); go_simp; try (with_reducible rfl))
    try simp only [List.getElem_toArray, List.getElem_cons_succ, List.getElem_cons_zero, Act.put, List.setIfInBounds_toArray, List.set_cons_zero, List.set_cons_succ]
    refine' wpAnyH_take (i := 1) (oi := _) (v := _) rfl (by kernel_rfl) (by kernel_rfl) (by kernel_rfl) (fun _ _ _ h => h) (Or.inl ⟨by kernel_rfl, ?_⟩) (by assumption) ?_
    rotate_left
    · (intro w hSw; (try dsimp only at hSw); go_simp; try (with_reducible rfl))
    try simp only [List.getElem_toArray, List.getElem_cons_succ, List.getElem_cons_zero, Act.put, List.setIfInBounds_toArray, List.set_cons_zero, List.set_cons_succ]
    refine' wpAnyH_take (i := 2) (oi := _) (v := _) rfl (by kernel_rfl) (by kernel_rfl) (by kernel_rfl) (fun _ _ _ h => h) (Or.inl ⟨by kernel_rfl, ?_⟩) (by assumption) ?_
    rotate_left
    · (intro w hSw; (try dsimp only at hSw); go_simp; try (with_reducible rfl))
    try simp only [List.getElem_toArray, List.getElem_cons_succ, List.getElem_cons_zero, Act.put, List.setIfInBounds_toArray, List.set_cons_zero, List.set_cons_succ]
    refine' wpAnyH_take (i := 3) (oi := _) (v := _) rfl (by kernel_rfl) (by kernel_rfl) (by kernel_rfl) (fun _ _ _ h => h) (Or.inl ⟨by kernel_rfl, ?_⟩) (by assumption) ?_
    rotate_left
    · (intro w hSw; (try dsimp only at hSw); go_simp; try (with_reducible rfl))
    try simp only [List.getElem_toArray, List.getElem_cons_succ, List.getElem_cons_zero, Act.put, List.setIfInBounds_toArray, List.set_cons_zero, List.set_cons_succ]
    refine' wpAnyH_take (i := 4) (oi := _) (v := _) rfl (by kernel_rfl) (by kernel_rfl) (by kernel_rfl) (fun _ _ _ h => h) (Or.inl ⟨by kernel_rfl, ?_⟩) (by assumption) ?_
    rotate_left
    · (intro w hSw; (try dsimp only at hSw); go_simp; try (with_reducible rfl))
    try simp only [List.getElem_toArray, List.getElem_cons_succ, List.getElem_cons_zero, Act.put, List.setIfInBounds_toArray, List.set_cons_zero, List.set_cons_succ]
    refine' wpAnyH_take (i := 6) (oi := _) (v := _) rfl (by kernel_rfl) (by kernel_rfl) (by kernel_rfl) (fun _ _ _ h => h) (Or.inl ⟨by kernel_rfl, ?_⟩) (by assumption) ?_
    rotate_left
    · (intro w hSw; (try dsimp only at hSw); go_simp; try (with_reducible rfl))
    try simp only [List.getElem_toArray, List.getElem_cons_succ, List.getElem_cons_zero, Act.put, List.setIfInBounds_toArray, List.set_cons_zero, List.set_cons_succ]
    refine' wpAnyH_take (i := 7) (oi := _) (v := _) rfl (by kernel_rfl) (by kernel_rfl) (by kernel_rfl) (fun _ _ _ h => h) (Or.inl ⟨by kernel_rfl, ?_⟩) (by assumption) ?_
    rotate_left
    · (intro w hSw; (try dsimp only at hSw); go_simp; try (with_reducible rfl))
    try simp only [List.getElem_toArray, List.getElem_cons_succ, List.getElem_cons_zero, Act.put, List.setIfInBounds_toArray, List.set_cons_zero, List.set_cons_succ]
    refine' wpAnyH_take (i := 8) (oi := _) (v := _) rfl (by kernel_rfl) (by kernel_rfl) (by kernel_rfl) (fun _ _ _ h => h) (Or.inl ⟨by kernel_rfl, ?_⟩) (by assumption) ?_
    rotate_left
    · (intro w hSw; (try dsimp only at hSw); go_simp; try (with_reducible rfl))
    try simp only [List.getElem_toArray, List.getElem_cons_succ, List.getElem_cons_zero, Act.put, List.setIfInBounds_toArray, List.set_cons_zero, List.set_cons_succ]
    refine' wpAnyH_take (i := 9) (oi := _) (v := _) rfl (by kernel_rfl) (by kernel_rfl) (by kernel_rfl) (fun _ _ _ h => h) (Or.inl ⟨by kernel_rfl, ?_⟩) (by assumption) ?_
    rotate_left
    · (intro w hSw; (try dsimp only at hSw); go_simp; try (with_reducible rfl))
    try simp only [List.getElem_toArray, List.getElem_cons_succ, List.getElem_cons_zero, Act.put, List.setIfInBounds_toArray, List.set_cons_zero, List.set_cons_succ]
    refine wpAnyH_ready (rs := [5, 12]) (by kernel_rfl) (by simp) ?_
    refine (AllReadyH.cons (o := _) rfl (fun K hK => ?_) (AllReadyH.cons (o := _) rfl (fun K hK => ?_) AllReadyH.nil))
    · go_simp
      go_at_call 7
      with_reducible refine (CPb.out V289 (btr W5.out BV289.out)).mono ?_
      rintro e X292 ⟨rfl, DbX292⟩
      have r293 := hid (row_on r290.out DbX292.out)
      have r294 := hid (row_on r291.out DbX292.out)
      have DX292 := hid (btr BV289.out DbX292.out)
      have UX292 := hid (BV289.out.size)
      (try go_wp2_with fail)
      refine hK.out _ _ ?_ (fun hHeld => ?_)
      · (try dsimp only); exact ⟨row_cell r293.out 0, row_cell r293.out 1, row_cell r293.out 5, row_cell r294.out 0, row_cell r294.out 1⟩
      clear hK K
      try simp only [List.getElem_toArray, List.getElem_cons_succ, List.getElem_cons_zero, Act.put, List.setIfInBounds_toArray, List.set_cons_zero, List.set_cons_succ]
      refine wpAnyH_ready (rs := [10, 12]) (by kernel_rfl) (by simp) ?_
      refine (AllReadyH.cons (o := _) rfl (fun K hK => ?_) (AllReadyH.cons (o := _) rfl (fun K hK => ?_) AllReadyH.nil))
      · go_simp
        go_at_call 20
        with_reducible refine (CN.out X292).mono ?_
        rintro e X295 ⟨rfl, DbX295⟩
        have r296 := hid (row_on r293.out DbX295.out)
        have r297 := hid (row_on r294.out DbX295.out)
        have DX295 := hid (btr DX292.out DbX295.out)
        have UX295 := hid (DX292.out.size)
        (try go_wp2_with fail)
        refine hK.out _ _ ?_ (fun hHeld => ?_)
        · (try dsimp only); exact ⟨row_cell r296.out 0, row_cell r296.out 1, row_cell r296.out 5, row_cell r297.out 0, row_cell r297.out 1⟩
        clear hK K
        try simp only [List.getElem_toArray, List.getElem_cons_succ, List.getElem_cons_zero, Act.put, List.setIfInBounds_toArray, List.set_cons_zero, List.set_cons_succ]
        refine wpAnyH_ready (rs := [11, 12]) (by kernel_rfl) (by simp) ?_
        refine (AllReadyH.cons (o := _) rfl (fun K hK => ?_) (AllReadyH.cons (o := _) rfl (fun K hK => ?_) AllReadyH.nil))
        · go_simp
          go_at_call 19
          with_reducible refine (CBo2.out X295).mono ?_
          rintro e X298 ⟨rfl, DbX298⟩
          have r299 := hid (row_on r296.out DbX298.out)
          have r300 := hid (row_on r297.out DbX298.out)
          have DX298 := hid (btr DX295.out DbX298.out)
          have UX298 := hid (DX295.out.size)
          (try go_wp2_with fail)
          refine hK.out _ _ ?_ (fun hHeld => ?_)
          · (try dsimp only); exact ⟨row_cell r299.out 0, row_cell r299.out 1, row_cell r299.out 5, row_cell r300.out 0, row_cell r300.out 1⟩
          clear hK K
          try simp only [List.getElem_toArray, List.getElem_cons_succ, List.getElem_cons_zero, Act.put, List.setIfInBounds_toArray, List.set_cons_zero, List.set_cons_succ]
          refine wpAnyH_ready (rs := [12]) (by kernel_rfl) (by simp) ?_
          refine (AllReadyH.cons (o := _) rfl (fun K hK => ?_) AllReadyH.nil)
          go_simp
          obtain ⟨X301, hX301⟩ : ∃ X, X298.alloc (.cells #[.int .i64 0, .int .u64 0, .int .u64 0, .int .u64 0, .int .u64 0] 38) = X := ⟨_, rfl⟩
          have bX301 : Below X298.heap.size X298 X301 := by rw [← hX301]; exact ball _ _
          have r303 := hid (row_on r299.out bX301)
          have r304 := hid (row_on r300.out bX301)
          have DX301 := hid (btr DX298.out bX301)
          have zX301 : X301.heap[X298.heap.size]? = some (.cells #[.int .i64 0, .int .u64 0, .int .u64 0, .int .u64 0, .int .u64 0] 38 (0, 0)) := by rw [← hX301]; exact World.alloc_heap_new _ _
          have yg302 := DX298.out.size
          obtain ⟨g302, hg302⟩ : ∃ g, X298.heap.size = g := ⟨_, rfl⟩
          have n305 : g302 ≠ R := by have := row_lt r299.out; omega
          have n306 : g302 ≠ a6 := by have := row_lt r300.out; omega
          rw [hg302] at zX301 yg302
          have ZX301 := hid zX301
          rw [hX301, hg302]
          clear hX301 hg302 zX301 bX301
          refine hK.out _ _ ?_ (fun hHeld => ?_)
          · (try dsimp only); exact ⟨row_cell r303.out 0, row_cell r303.out 1, row_cell r303.out 5, row_cell r304.out 0, row_cell r304.out 1⟩
          clear hK K
          try simp only [List.getElem_toArray, List.getElem_cons_succ, List.getElem_cons_zero, Act.put, List.setIfInBounds_toArray, List.set_cons_zero, List.set_cons_succ]
          refine wpAnyH_ready (rs := [13]) (by kernel_rfl) (by simp) ?_
          refine (AllReadyH.cons (o := _) rfl (fun K hK => ?_) AllReadyH.nil)
          refine step_store_row (by rfl) 38 (.tmp 7) (.tmp 33) (by rfl) g302 #[.int .i64 bo.qt, .int .u64 (hiW bo.co), .int .u64 (loW bo.co), .int .u64 (hiW bo.ga), .int .u64 (loW bo.ga)] (by rfl) (by rfl) 38 _ ZX301.out infoPo5 (by rfl) (by simp [Value.oneCell']) ?_
          obtain ⟨Y307, hY307⟩ : ∃ Y, X301.setRow g302 #[.int .i64 bo.qt, .int .u64 (hiW bo.co), .int .u64 (loW bo.co), .int .u64 (hiW bo.ga), .int .u64 (loW bo.ga)] = Y := ⟨_, rfl⟩
          have KY307 := hid (show Kp (fun j => j = g302) X301 Y307 from by rw [← hY307]; exact setRow_kp _ _ _)
          have AY307 := hid (show Y307.heap[g302]? = some (.cells #[.int .i64 bo.qt, .int .u64 (hiW bo.co), .int .u64 (loW bo.co), .int .u64 (hiW bo.ga), .int .u64 (loW bo.ga)] 38 (0, 0)) from by rw [← hY307]; exact setRow_heap X301 g302 _ _ 38 (0, 0) ZX301.out)
          have DY307 := hid (show Below X5.heap.size X5 Y307 from by rw [← hY307]; exact setRow_below DX301.out yg302)
          have r308 := hid (KY307.out.row r303.out (fun e => n305.symm e))
          have r309 := hid (KY307.out.row r304.out (fun e => n306.symm e))
          rw [hY307]
          refine hK.out _ _ ?_ (fun hHeld => ?_)
          · (try dsimp only); exact ⟨row_cell r308.out 0, row_cell r308.out 1, row_cell r308.out 5, row_cell r309.out 0, row_cell r309.out 1⟩
          clear hK K hY307
          try simp only [List.getElem_toArray, List.getElem_cons_succ, List.getElem_cons_zero, Act.put, List.setIfInBounds_toArray, List.set_cons_zero, List.set_cons_succ]
          refine wpAnyH_done (by kernel_rfl) ?_ _
          exact ⟨g302, by kernel_rfl, DY307, AY307, yg302⟩
        · go_simp
          obtain ⟨X310, hX310⟩ : ∃ X, X295.alloc (.cells #[.int .i64 0, .int .u64 0, .int .u64 0, .int .u64 0, .int .u64 0] 38) = X := ⟨_, rfl⟩
          have bX310 : Below X295.heap.size X295 X310 := by rw [← hX310]; exact ball _ _
          have r312 := hid (row_on r296.out bX310)
          have r313 := hid (row_on r297.out bX310)
          have DX310 := hid (btr DX295.out bX310)
          have zX310 : X310.heap[X295.heap.size]? = some (.cells #[.int .i64 0, .int .u64 0, .int .u64 0, .int .u64 0, .int .u64 0] 38 (0, 0)) := by rw [← hX310]; exact World.alloc_heap_new _ _
          have yg311 := DX295.out.size
          obtain ⟨g311, hg311⟩ : ∃ g, X295.heap.size = g := ⟨_, rfl⟩
          have n314 : g311 ≠ R := by have := row_lt r296.out; omega
          have n315 : g311 ≠ a6 := by have := row_lt r297.out; omega
          rw [hg311] at zX310 yg311
          have ZX310 := hid zX310
          rw [hX310, hg311]
          clear hX310 hg311 zX310 bX310
          refine hK.out _ _ ?_ (fun hHeld => ?_)
          · (try dsimp only); exact ⟨row_cell r312.out 0, row_cell r312.out 1, row_cell r312.out 5, row_cell r313.out 0, row_cell r313.out 1⟩
          clear hK K
          try simp only [List.getElem_toArray, List.getElem_cons_succ, List.getElem_cons_zero, Act.put, List.setIfInBounds_toArray, List.set_cons_zero, List.set_cons_succ]
          refine wpAnyH_ready (rs := [11]) (by kernel_rfl) (by simp) ?_
          refine (AllReadyH.cons (o := _) rfl (fun K hK => ?_) AllReadyH.nil)
          go_simp
          go_at_call 19
          with_reducible refine (CBo2.out X310).mono ?_
          rintro e X316 ⟨rfl, DbX316⟩
          have r317 := hid (row_on r312.out DbX316.out)
          have r318 := hid (row_on r313.out DbX316.out)
          have r319 := hid (row_on ZX310.out DbX316.out)
          have DX316 := hid (btr DX310.out DbX316.out)
          have UX316 := hid (DX310.out.size)
          (try go_wp2_with fail)
          refine hK.out _ _ ?_ (fun hHeld => ?_)
          · (try dsimp only); exact ⟨row_cell r317.out 0, row_cell r317.out 1, row_cell r317.out 5, row_cell r318.out 0, row_cell r318.out 1⟩
          clear hK K
          try simp only [List.getElem_toArray, List.getElem_cons_succ, List.getElem_cons_zero, Act.put, List.setIfInBounds_toArray, List.set_cons_zero, List.set_cons_succ]
          refine wpAnyH_ready (rs := [13]) (by kernel_rfl) (by simp) ?_
          refine (AllReadyH.cons (o := _) rfl (fun K hK => ?_) AllReadyH.nil)
          refine step_store_row (by rfl) 38 (.tmp 7) (.tmp 33) (by rfl) g311 #[.int .i64 bo.qt, .int .u64 (hiW bo.co), .int .u64 (loW bo.co), .int .u64 (hiW bo.ga), .int .u64 (loW bo.ga)] (by rfl) (by rfl) 38 _ r319.out infoPo5 (by rfl) (by simp [Value.oneCell']) ?_
          obtain ⟨Y320, hY320⟩ : ∃ Y, X316.setRow g311 #[.int .i64 bo.qt, .int .u64 (hiW bo.co), .int .u64 (loW bo.co), .int .u64 (hiW bo.ga), .int .u64 (loW bo.ga)] = Y := ⟨_, rfl⟩
          have KY320 := hid (show Kp (fun j => j = g311) X316 Y320 from by rw [← hY320]; exact setRow_kp _ _ _)
          have AY320 := hid (show Y320.heap[g311]? = some (.cells #[.int .i64 bo.qt, .int .u64 (hiW bo.co), .int .u64 (loW bo.co), .int .u64 (hiW bo.ga), .int .u64 (loW bo.ga)] 38 (0, 0)) from by rw [← hY320]; exact setRow_heap X316 g311 _ _ 38 (0, 0) r319.out)
          have DY320 := hid (show Below X5.heap.size X5 Y320 from by rw [← hY320]; exact setRow_below DX316.out yg311)
          have r321 := hid (KY320.out.row r317.out (fun e => n314.symm e))
          have r322 := hid (KY320.out.row r318.out (fun e => n315.symm e))
          rw [hY320]
          refine hK.out _ _ ?_ (fun hHeld => ?_)
          · (try dsimp only); exact ⟨row_cell r321.out 0, row_cell r321.out 1, row_cell r321.out 5, row_cell r322.out 0, row_cell r322.out 1⟩
          clear hK K hY320
          try simp only [List.getElem_toArray, List.getElem_cons_succ, List.getElem_cons_zero, Act.put, List.setIfInBounds_toArray, List.set_cons_zero, List.set_cons_succ]
          refine wpAnyH_done (by kernel_rfl) ?_ _
          exact ⟨g311, by kernel_rfl, DY320, AY320, yg311⟩
      · go_simp
        obtain ⟨X323, hX323⟩ : ∃ X, X292.alloc (.cells #[.int .i64 0, .int .u64 0, .int .u64 0, .int .u64 0, .int .u64 0] 38) = X := ⟨_, rfl⟩
        have bX323 : Below X292.heap.size X292 X323 := by rw [← hX323]; exact ball _ _
        have r325 := hid (row_on r293.out bX323)
        have r326 := hid (row_on r294.out bX323)
        have DX323 := hid (btr DX292.out bX323)
        have zX323 : X323.heap[X292.heap.size]? = some (.cells #[.int .i64 0, .int .u64 0, .int .u64 0, .int .u64 0, .int .u64 0] 38 (0, 0)) := by rw [← hX323]; exact World.alloc_heap_new _ _
        have yg324 := DX292.out.size
        obtain ⟨g324, hg324⟩ : ∃ g, X292.heap.size = g := ⟨_, rfl⟩
        have n327 : g324 ≠ R := by have := row_lt r293.out; omega
        have n328 : g324 ≠ a6 := by have := row_lt r294.out; omega
        rw [hg324] at zX323 yg324
        have ZX323 := hid zX323
        rw [hX323, hg324]
        clear hX323 hg324 zX323 bX323
        refine hK.out _ _ ?_ (fun hHeld => ?_)
        · (try dsimp only); exact ⟨row_cell r325.out 0, row_cell r325.out 1, row_cell r325.out 5, row_cell r326.out 0, row_cell r326.out 1⟩
        clear hK K
        try simp only [List.getElem_toArray, List.getElem_cons_succ, List.getElem_cons_zero, Act.put, List.setIfInBounds_toArray, List.set_cons_zero, List.set_cons_succ]
        refine wpAnyH_ready (rs := [10]) (by kernel_rfl) (by simp) ?_
        refine (AllReadyH.cons (o := _) rfl (fun K hK => ?_) AllReadyH.nil)
        go_simp
        go_at_call 20
        with_reducible refine (CN.out X323).mono ?_
        rintro e X329 ⟨rfl, DbX329⟩
        have r330 := hid (row_on r325.out DbX329.out)
        have r331 := hid (row_on r326.out DbX329.out)
        have r332 := hid (row_on ZX323.out DbX329.out)
        have DX329 := hid (btr DX323.out DbX329.out)
        have UX329 := hid (DX323.out.size)
        (try go_wp2_with fail)
        refine hK.out _ _ ?_ (fun hHeld => ?_)
        · (try dsimp only); exact ⟨row_cell r330.out 0, row_cell r330.out 1, row_cell r330.out 5, row_cell r331.out 0, row_cell r331.out 1⟩
        clear hK K
        try simp only [List.getElem_toArray, List.getElem_cons_succ, List.getElem_cons_zero, Act.put, List.setIfInBounds_toArray, List.set_cons_zero, List.set_cons_succ]
        refine wpAnyH_ready (rs := [11]) (by kernel_rfl) (by simp) ?_
        refine (AllReadyH.cons (o := _) rfl (fun K hK => ?_) AllReadyH.nil)
        go_simp
        go_at_call 19
        with_reducible refine (CBo2.out X329).mono ?_
        rintro e X333 ⟨rfl, DbX333⟩
        have r334 := hid (row_on r330.out DbX333.out)
        have r335 := hid (row_on r331.out DbX333.out)
        have r336 := hid (row_on r332.out DbX333.out)
        have DX333 := hid (btr DX329.out DbX333.out)
        have UX333 := hid (DX329.out.size)
        (try go_wp2_with fail)
        refine hK.out _ _ ?_ (fun hHeld => ?_)
        · (try dsimp only); exact ⟨row_cell r334.out 0, row_cell r334.out 1, row_cell r334.out 5, row_cell r335.out 0, row_cell r335.out 1⟩
        clear hK K
        try simp only [List.getElem_toArray, List.getElem_cons_succ, List.getElem_cons_zero, Act.put, List.setIfInBounds_toArray, List.set_cons_zero, List.set_cons_succ]
        refine wpAnyH_ready (rs := [13]) (by kernel_rfl) (by simp) ?_
        refine (AllReadyH.cons (o := _) rfl (fun K hK => ?_) AllReadyH.nil)
        refine step_store_row (by rfl) 38 (.tmp 7) (.tmp 33) (by rfl) g324 #[.int .i64 bo.qt, .int .u64 (hiW bo.co), .int .u64 (loW bo.co), .int .u64 (hiW bo.ga), .int .u64 (loW bo.ga)] (by rfl) (by rfl) 38 _ r336.out infoPo5 (by rfl) (by simp [Value.oneCell']) ?_
        obtain ⟨Y337, hY337⟩ : ∃ Y, X333.setRow g324 #[.int .i64 bo.qt, .int .u64 (hiW bo.co), .int .u64 (loW bo.co), .int .u64 (hiW bo.ga), .int .u64 (loW bo.ga)] = Y := ⟨_, rfl⟩
        have KY337 := hid (show Kp (fun j => j = g324) X333 Y337 from by rw [← hY337]; exact setRow_kp _ _ _)
        have AY337 := hid (show Y337.heap[g324]? = some (.cells #[.int .i64 bo.qt, .int .u64 (hiW bo.co), .int .u64 (loW bo.co), .int .u64 (hiW bo.ga), .int .u64 (loW bo.ga)] 38 (0, 0)) from by rw [← hY337]; exact setRow_heap X333 g324 _ _ 38 (0, 0) r336.out)
        have DY337 := hid (show Below X5.heap.size X5 Y337 from by rw [← hY337]; exact setRow_below DX333.out yg324)
        have r338 := hid (KY337.out.row r334.out (fun e => n327.symm e))
        have r339 := hid (KY337.out.row r335.out (fun e => n328.symm e))
        rw [hY337]
        refine hK.out _ _ ?_ (fun hHeld => ?_)
        · (try dsimp only); exact ⟨row_cell r338.out 0, row_cell r338.out 1, row_cell r338.out 5, row_cell r339.out 0, row_cell r339.out 1⟩
        clear hK K hY337
        try simp only [List.getElem_toArray, List.getElem_cons_succ, List.getElem_cons_zero, Act.put, List.setIfInBounds_toArray, List.set_cons_zero, List.set_cons_succ]
        refine wpAnyH_done (by kernel_rfl) ?_ _
        exact ⟨g324, by kernel_rfl, DY337, AY337, yg324⟩
    · go_simp
      obtain ⟨X340, hX340⟩ : ∃ X, V289.alloc (.cells #[.int .i64 0, .int .u64 0, .int .u64 0, .int .u64 0, .int .u64 0] 38) = X := ⟨_, rfl⟩
      have bX340 : Below V289.heap.size V289 X340 := by rw [← hX340]; exact ball _ _
      have r342 := hid (row_on r290.out bX340)
      have r343 := hid (row_on r291.out bX340)
      have DX340 := hid (btr BV289.out bX340)
      have zX340 : X340.heap[V289.heap.size]? = some (.cells #[.int .i64 0, .int .u64 0, .int .u64 0, .int .u64 0, .int .u64 0] 38 (0, 0)) := by rw [← hX340]; exact World.alloc_heap_new _ _
      have yg341 := BV289.out.size
      obtain ⟨g341, hg341⟩ : ∃ g, V289.heap.size = g := ⟨_, rfl⟩
      have n344 : g341 ≠ R := by have := row_lt r290.out; omega
      have n345 : g341 ≠ a6 := by have := row_lt r291.out; omega
      rw [hg341] at zX340 yg341
      have ZX340 := hid zX340
      rw [hX340, hg341]
      clear hX340 hg341 zX340 bX340
      refine hK.out _ _ ?_ (fun hHeld => ?_)
      · (try dsimp only); exact ⟨row_cell r342.out 0, row_cell r342.out 1, row_cell r342.out 5, row_cell r343.out 0, row_cell r343.out 1⟩
      clear hK K
      try simp only [List.getElem_toArray, List.getElem_cons_succ, List.getElem_cons_zero, Act.put, List.setIfInBounds_toArray, List.set_cons_zero, List.set_cons_succ]
      refine wpAnyH_ready (rs := [5]) (by kernel_rfl) (by simp) ?_
      refine (AllReadyH.cons (o := _) rfl (fun K hK => ?_) AllReadyH.nil)
      go_simp
      go_at_call 7
      with_reducible refine (CPb.out X340 (btr W5.out DX340.out)).mono ?_
      rintro e X346 ⟨rfl, DbX346⟩
      have r347 := hid (row_on r342.out DbX346.out)
      have r348 := hid (row_on r343.out DbX346.out)
      have r349 := hid (row_on ZX340.out DbX346.out)
      have DX346 := hid (btr DX340.out DbX346.out)
      have UX346 := hid (DX340.out.size)
      (try go_wp2_with fail)
      refine hK.out _ _ ?_ (fun hHeld => ?_)
      · (try dsimp only); exact ⟨row_cell r347.out 0, row_cell r347.out 1, row_cell r347.out 5, row_cell r348.out 0, row_cell r348.out 1⟩
      clear hK K
      try simp only [List.getElem_toArray, List.getElem_cons_succ, List.getElem_cons_zero, Act.put, List.setIfInBounds_toArray, List.set_cons_zero, List.set_cons_succ]
      refine wpAnyH_ready (rs := [10]) (by kernel_rfl) (by simp) ?_
      refine (AllReadyH.cons (o := _) rfl (fun K hK => ?_) AllReadyH.nil)
      go_simp
      go_at_call 20
      with_reducible refine (CN.out X346).mono ?_
      rintro e X350 ⟨rfl, DbX350⟩
      have r351 := hid (row_on r347.out DbX350.out)
      have r352 := hid (row_on r348.out DbX350.out)
      have r353 := hid (row_on r349.out DbX350.out)
      have DX350 := hid (btr DX346.out DbX350.out)
      have UX350 := hid (DX346.out.size)
      (try go_wp2_with fail)
      refine hK.out _ _ ?_ (fun hHeld => ?_)
      · (try dsimp only); exact ⟨row_cell r351.out 0, row_cell r351.out 1, row_cell r351.out 5, row_cell r352.out 0, row_cell r352.out 1⟩
      clear hK K
      try simp only [List.getElem_toArray, List.getElem_cons_succ, List.getElem_cons_zero, Act.put, List.setIfInBounds_toArray, List.set_cons_zero, List.set_cons_succ]
      refine wpAnyH_ready (rs := [11]) (by kernel_rfl) (by simp) ?_
      refine (AllReadyH.cons (o := _) rfl (fun K hK => ?_) AllReadyH.nil)
      go_simp
      go_at_call 19
      with_reducible refine (CBo2.out X350).mono ?_
      rintro e X354 ⟨rfl, DbX354⟩
      have r355 := hid (row_on r351.out DbX354.out)
      have r356 := hid (row_on r352.out DbX354.out)
      have r357 := hid (row_on r353.out DbX354.out)
      have DX354 := hid (btr DX350.out DbX354.out)
      have UX354 := hid (DX350.out.size)
      (try go_wp2_with fail)
      refine hK.out _ _ ?_ (fun hHeld => ?_)
      · (try dsimp only); exact ⟨row_cell r355.out 0, row_cell r355.out 1, row_cell r355.out 5, row_cell r356.out 0, row_cell r356.out 1⟩
      clear hK K
      try simp only [List.getElem_toArray, List.getElem_cons_succ, List.getElem_cons_zero, Act.put, List.setIfInBounds_toArray, List.set_cons_zero, List.set_cons_succ]
      refine wpAnyH_ready (rs := [13]) (by kernel_rfl) (by simp) ?_
      refine (AllReadyH.cons (o := _) rfl (fun K hK => ?_) AllReadyH.nil)
      refine step_store_row (by rfl) 38 (.tmp 7) (.tmp 33) (by rfl) g341 #[.int .i64 bo.qt, .int .u64 (hiW bo.co), .int .u64 (loW bo.co), .int .u64 (hiW bo.ga), .int .u64 (loW bo.ga)] (by rfl) (by rfl) 38 _ r357.out infoPo5 (by rfl) (by simp [Value.oneCell']) ?_
      obtain ⟨Y358, hY358⟩ : ∃ Y, X354.setRow g341 #[.int .i64 bo.qt, .int .u64 (hiW bo.co), .int .u64 (loW bo.co), .int .u64 (hiW bo.ga), .int .u64 (loW bo.ga)] = Y := ⟨_, rfl⟩
      have KY358 := hid (show Kp (fun j => j = g341) X354 Y358 from by rw [← hY358]; exact setRow_kp _ _ _)
      have AY358 := hid (show Y358.heap[g341]? = some (.cells #[.int .i64 bo.qt, .int .u64 (hiW bo.co), .int .u64 (loW bo.co), .int .u64 (hiW bo.ga), .int .u64 (loW bo.ga)] 38 (0, 0)) from by rw [← hY358]; exact setRow_heap X354 g341 _ _ 38 (0, 0) r357.out)
      have DY358 := hid (show Below X5.heap.size X5 Y358 from by rw [← hY358]; exact setRow_below DX354.out yg341)
      have r359 := hid (KY358.out.row r355.out (fun e => n344.symm e))
      have r360 := hid (KY358.out.row r356.out (fun e => n345.symm e))
      rw [hY358]
      refine hK.out _ _ ?_ (fun hHeld => ?_)
      · (try dsimp only); exact ⟨row_cell r359.out 0, row_cell r359.out 1, row_cell r359.out 5, row_cell r360.out 0, row_cell r360.out 1⟩
      clear hK K hY358
      try simp only [List.getElem_toArray, List.getElem_cons_succ, List.getElem_cons_zero, Act.put, List.setIfInBounds_toArray, List.set_cons_zero, List.set_cons_succ]
      refine wpAnyH_done (by kernel_rfl) ?_ _
      exact ⟨g341, by kernel_rfl, DY358, AY358, yg341⟩
  rintro t7 V5 ⟨B5, GB, N7⟩
  try simp only [List.getElem_toArray, List.getElem_cons_succ, List.getElem_cons_zero, Act.put, List.setIfInBounds_toArray, List.set_cons_zero, List.set_cons_succ]
  have W6 := hid (btr W5.out B5.out)
  have GD6 := hid (row_on GD.out B5.out)
  have GV6 := hid (row_on GV.out B5.out)
  have M7 := hid (show w.heap.size ≤ t7 from Nat.le_trans W5.out.size N7.out)
  clear GD GV N7
  go_upto_region 6 with fail
  have f0 := row_cell GD6.out 0
  have f2 := row_cell GD6.out 2
  simp only [List.getElem?_toArray, List.getElem?_cons_succ, List.getElem?_cons_zero] at f0 f2
  go_upto_region 7 with (first | (go_at_call 7; with_reducible refine (CPs.out V5 W6.out).mono ?_; rintro e w7 ⟨rfl, hb⟩; have HB7 := hid hb.out; have HZ7 := hid (World.alloc_heap_new w7 (.cells #[.int .i64 0, .int .u64 0, .int .u64 0, .int .u64 0, .int .u64 0] 38)); clear hb) | (refine wpList_store_row (by rfl) 38 (.tmp 8) (.tmp 39) (by rfl) w7.heap.size #[.int .i64 pb.qt, .int .u64 (hiW pb.co), .int .u64 (loW pb.co), .int .u64 (hiW pb.ga), .int .u64 (loW pb.ga)] (by rfl) (by rfl) 38 _ HZ7.out infoPo5 (by rfl) (by simp [Value.oneCell']) ?_))
  obtain ⟨X7, hX7⟩ : ∃ X, (w7.alloc (.cells #[.int .i64 0, .int .u64 0, .int .u64 0, .int .u64 0, .int .u64 0] 38)).setRow w7.heap.size #[.int .i64 pb.qt, .int .u64 (hiW pb.co), .int .u64 (loW pb.co), .int .u64 (hiW pb.ga), .int .u64 (loW pb.ga)] = X := ⟨_, rfl⟩
  have GP := hid (show X7.heap[w7.heap.size]? = some (.cells #[.int .i64 pb.qt, .int .u64 (hiW pb.co), .int .u64 (loW pb.co), .int .u64 (hiW pb.ga), .int .u64 (loW pb.ga)] 38 (0, 0)) from by rw [← hX7]; exact setRow_heap _ _ _ _ 38 (0, 0) HZ7.out)
  have BX7 := hid (show Below w7.heap.size w7 X7 from by rw [← hX7]; exact setRow_below (ball _ _) (Nat.le_refl _))
  rw [hX7]
  obtain ⟨t8, ht8⟩ : ∃ t, w7.heap.size = t := ⟨_, rfl⟩
  rw [ht8] at GP ⊢
  have BV7 := hid (btr HB7.out BX7.out)
  have W7 := hid (btr W6.out BV7.out)
  have GD7 := hid (row_on GD6.out BV7.out)
  have GV7 := hid (row_on GV6.out BV7.out)
  have GB7 := hid (row_on GB.out BV7.out)
  have N78 : t8 ≠ t7 := by have h1 := row_lt GB.out; have h2 := HB7.out.size; omega
  have N7D : t8 ≠ R := by have h1 := row_lt GD6.out; have h2 := HB7.out.size; omega
  have N7V : t8 ≠ a6 := by have h1 := row_lt GV6.out; have h2 := HB7.out.size; omega
  have NN8 := hid (show w.heap.size ≤ t8 from by have := W6.out.size; have := HB7.out.size; omega)
  have HN78 := hid N78
  have HN7D := hid N7D
  have HN7V := hid N7V
  clear hX7 HZ7 ht8 f0 f2 GD6 GV6 GB N78 N7D N7V
  have f1 := row_cell GD7.out 1
  have f2 := row_cell GD7.out 2
  simp only [List.getElem?_toArray, List.getElem?_cons_succ, List.getElem?_cons_zero] at f1 f2
  have g0 := row_cell GB7.out 0
  have g1 := row_cell GB7.out 1
  have g2 := row_cell GB7.out 2
  have g3 := row_cell GB7.out 3
  have g4 := row_cell GB7.out 4
  simp only [List.getElem?_toArray, List.getElem?_cons_succ, List.getElem?_cons_zero] at g0 g1 g2 g3 g4
  go_upto_region 9 with (refine wpList_store_row (by rfl) 38 (.tmp 8) (.tmp 45) (by rfl) t8 #[.int .i64 bo.qt, .int .u64 (hiW bo.co), .int .u64 (loW bo.co), .int .u64 (hiW bo.ga), .int .u64 (loW bo.ga)] (by rfl) (by rfl) 38 _ GP.out infoPo5 (by rfl) (by simp [Value.oneCell']) ?_)
  obtain ⟨X8, hX8⟩ : ∃ X, X7.setRow t8 #[.int .i64 bo.qt, .int .u64 (hiW bo.co), .int .u64 (loW bo.co), .int .u64 (hiW bo.ga), .int .u64 (loW bo.ga)] = X := ⟨_, rfl⟩
  have K8 := hid (show Kp (fun j => j = t8) X7 X8 from by rw [← hX8]; exact setRow_kp _ _ _)
  have GP8 := hid (show X8.heap[t8]? = some (.cells #[.int .i64 bo.qt, .int .u64 (hiW bo.co), .int .u64 (loW bo.co), .int .u64 (hiW bo.ga), .int .u64 (loW bo.ga)] 38 (0, 0)) from by rw [← hX8]; exact setRow_heap _ _ _ _ 38 (0, 0) GP.out)
  rw [hX8]
  clear hX8 g0 g1 g2 g3 g4 f1 f2
  have GD8 := hid (K8.out.row GD7.out (fun e => HN7D.out e.symm))
  have GV8 := hid (K8.out.row GV7.out (fun e => HN7V.out e.symm))
  have GB8 := hid (K8.out.row GB7.out (fun e => HN78.out e.symm))
  have W8 := hid (show Below w.heap.size w X8 from W7.out.trans (K8.out.below W7.out.size (fun j hj e => by have := NN8.out; omega)))
  have p0 := row_cell GP8.out 0
  have p1 := row_cell GP8.out 1
  have p2 := row_cell GP8.out 2
  have p3 := row_cell GP8.out 3
  have p4 := row_cell GP8.out 4
  simp only [List.getElem?_toArray, List.getElem?_cons_succ, List.getElem?_cons_zero] at p0 p1 p2 p3 p4
  have f5 := row_cell GD8.out 5
  simp only [List.getElem?_toArray, List.getElem?_cons_succ, List.getElem?_cons_zero] at f5
  have v0 := row_cell GV8.out 0
  have v1 := row_cell GV8.out 1
  simp only [List.getElem?_toArray, List.getElem?_cons_succ, List.getElem?_cons_zero] at v0 v1
  have CSo2 := hid (show ∀ U, Calls Try.prog 19 #[.agg #[.int .i64 bo.qt, .int .u64 (hiW bo.co), .int .u64 (loW bo.co), .int .u64 (hiW bo.ga), .int .u64 (loW bo.ga)], .int .i64 (-qt), .agg #[.int .u64 (hiW v), .int .u64 (loW v)]] U fun e w' => e = .returned (.agg #[.int .i64 so.qt, .int .u64 (hiW so.co), .int .u64 (loW so.co), .int .u64 (hiW so.ga), .int .u64 (loW so.ga)]) ∧ Hid (Below U.heap.size U w') from fun U => CSo.out U)
  go_upto_region 10 with (first | (go_at_call 19; with_reducible refine (CSo2.out _).mono ?_; rintro e w9 ⟨rfl, hb⟩; have HB9 := hid hb.out; have HZ9 := hid (World.alloc_heap_new w9 (.cells #[.int .i64 0, .int .u64 0, .int .u64 0, .int .u64 0, .int .u64 0] 38)); clear hb) | (refine wpList_store_row (by rfl) 38 (.tmp 9) (.tmp 52) (by rfl) w9.heap.size #[.int .i64 so.qt, .int .u64 (hiW so.co), .int .u64 (loW so.co), .int .u64 (hiW so.ga), .int .u64 (loW so.ga)] (by rfl) (by rfl) 38 _ HZ9.out infoPo5 (by rfl) (by simp [Value.oneCell']) ?_))
  obtain ⟨X9, hX9⟩ : ∃ X, (w9.alloc (.cells #[.int .i64 0, .int .u64 0, .int .u64 0, .int .u64 0, .int .u64 0] 38)).setRow w9.heap.size #[.int .i64 so.qt, .int .u64 (hiW so.co), .int .u64 (loW so.co), .int .u64 (hiW so.ga), .int .u64 (loW so.ga)] = X := ⟨_, rfl⟩
  have GS := hid (show X9.heap[w9.heap.size]? = some (.cells #[.int .i64 so.qt, .int .u64 (hiW so.co), .int .u64 (loW so.co), .int .u64 (hiW so.ga), .int .u64 (loW so.ga)] 38 (0, 0)) from by rw [← hX9]; exact setRow_heap _ _ _ _ 38 (0, 0) HZ9.out)
  have BX9 := hid (show Below w9.heap.size w9 X9 from by rw [← hX9]; exact setRow_below (ball _ _) (Nat.le_refl _))
  rw [hX9]
  obtain ⟨t9, ht9⟩ : ∃ t, w9.heap.size = t := ⟨_, rfl⟩
  rw [ht9] at GS ⊢
  have BV9 := hid (btr HB9.out BX9.out)
  have W9 := hid (btr W8.out BV9.out)
  have GD9 := hid (row_on GD8.out BV9.out)
  have GV9 := hid (row_on GV8.out BV9.out)
  have GB9 := hid (row_on GB8.out BV9.out)
  have M9 := hid (show w.heap.size ≤ t9 from by have := W8.out.size; have := HB9.out.size; omega)
  clear hX9 HZ9 ht9 p0 p1 p2 p3 p4 f5 v0 v1
  have b0 := row_cell GB9.out 0
  simp only [List.getElem?_toArray, List.getElem?_cons_succ, List.getElem?_cons_zero] at b0
  have c0 := row_cell GS.out 0
  simp only [List.getElem?_toArray, List.getElem?_cons_succ, List.getElem?_cons_zero] at c0
  go_upto_region 12 with (first | (go_at_call 21; with_reducible refine (CZb.out _).mono ?_; rintro e w10 ⟨rfl, h10⟩; have h10 := h10.symm; subst h10) | (go_at_call 21; with_reducible refine (CZs.out _).mono ?_; rintro e w11 ⟨rfl, h11⟩; have h11 := h11.symm; subst h11))
  clear b0 c0
  have CC := hid (show ∀ U m, Calls Try.prog 23 #[.int .u32 m] U fun e w' => e = .returned (.agg #[.int .u32 m, .int .i64 1]) ∧ Hid (Below U.heap.size U w') from fun U m => cash_any m U)
  have L9 := hid (HL.out.on W9.out)
  have HLW := hid HLT.out
  obtain ⟨V361, hV361⟩ : ∃ U, X9.drew = U := ⟨_, rfl⟩
  have BV361 := hid (show Below X9.heap.size X9 V361 from by rw [← hV361]; exact bdrew1 _)
  have r362 := hid (row_on GD9.out BV361.out)
  have r363 := hid (row_on GV9.out BV361.out)
  have r364 := hid (row_on GB9.out BV361.out)
  have r365 := hid (row_on GS.out BV361.out)
  refine wp_region_held_drew (S := fun U => U.cell? ⟨R, 1, none⟩ = some (.int .u32 bu) ∧ U.cell? ⟨R, 2, none⟩ = some (.int .u32 se) ∧ U.cell? ⟨a6, 0, none⟩ = some (.int .u64 (hiW v)) ∧ U.cell? ⟨a6, 1, none⟩ = some (.int .u64 (loW v))) (by kernel_rfl) ?_ (fun hHeld => ?_)
  · (try dsimp only); rw [hV361]; exact ⟨row_cell r362.out 1, row_cell r362.out 2, row_cell r363.out 0, row_cell r363.out 1⟩
  rw [hV361] at hHeld ⊢
  clear hV361
  refine' wpAnyH_take (i := 0) (oi := _) (v := _) rfl (by kernel_rfl) (by kernel_rfl) (by kernel_rfl) (fun _ _ _ h => h) (Or.inl ⟨by kernel_rfl, ?_⟩) (by assumption) ?_
  rotate_left
  · (intro w hSw; (try dsimp only at hSw); go_simp; try (with_reducible rfl))
  try simp only [List.getElem_toArray, List.getElem_cons_succ, List.getElem_cons_zero, Act.put, List.setIfInBounds_toArray, List.set_cons_zero, List.set_cons_succ]
  refine' wpAnyH_take (i := 1) (oi := _) (v := _) rfl (by kernel_rfl) (by kernel_rfl) (by kernel_rfl) (fun _ _ _ h => h) (Or.inl ⟨by kernel_rfl, ?_⟩) (by assumption) ?_
  rotate_left
  · (intro w hSw; (try dsimp only at hSw); go_simp; try (with_reducible rfl))
  try simp only [List.getElem_toArray, List.getElem_cons_succ, List.getElem_cons_zero, Act.put, List.setIfInBounds_toArray, List.set_cons_zero, List.set_cons_succ]
  refine' wpAnyH_take (i := 2) (oi := _) (v := _) rfl (by kernel_rfl) (by kernel_rfl) (by kernel_rfl) (fun _ _ _ h => h) (Or.inl ⟨by kernel_rfl, ?_⟩) (by assumption) ?_
  rotate_left
  · (intro w hSw; (try dsimp only at hSw); go_simp; try (with_reducible rfl))
  try simp only [List.getElem_toArray, List.getElem_cons_succ, List.getElem_cons_zero, Act.put, List.setIfInBounds_toArray, List.set_cons_zero, List.set_cons_succ]
  refine' wpAnyH_take (i := 4) (oi := _) (v := _) rfl (by kernel_rfl) (by kernel_rfl) (by kernel_rfl) (fun _ _ _ h => h) (Or.inl ⟨by kernel_rfl, ?_⟩) (by assumption) ?_
  rotate_left
  · (intro w hSw; (try dsimp only at hSw); go_simp; try (with_reducible rfl))
  try simp only [List.getElem_toArray, List.getElem_cons_succ, List.getElem_cons_zero, Act.put, List.setIfInBounds_toArray, List.set_cons_zero, List.set_cons_succ]
  refine' wpAnyH_take (i := 5) (oi := _) (v := _) rfl (by kernel_rfl) (by kernel_rfl) (by kernel_rfl) (fun _ _ _ h => h) (Or.inl ⟨by kernel_rfl, ?_⟩) (by assumption) ?_
  rotate_left
  · (intro w hSw; (try dsimp only at hSw); go_simp; try (with_reducible rfl))
  try simp only [List.getElem_toArray, List.getElem_cons_succ, List.getElem_cons_zero, Act.put, List.setIfInBounds_toArray, List.set_cons_zero, List.set_cons_succ]
  refine' wpAnyH_take (i := 7) (oi := _) (v := _) rfl (by kernel_rfl) (by kernel_rfl) (by kernel_rfl) (fun _ _ _ h => h) (Or.inl ⟨by kernel_rfl, ?_⟩) (by assumption) ?_
  rotate_left
  · (intro w hSw; (try dsimp only at hSw); go_simp; try (with_reducible rfl))
  try simp only [List.getElem_toArray, List.getElem_cons_succ, List.getElem_cons_zero, Act.put, List.setIfInBounds_toArray, List.set_cons_zero, List.set_cons_succ]
  refine wpAnyH_ready (rs := [3]) (by kernel_rfl) (by simp) ?_
  refine (AllReadyH.cons (o := _) rfl (fun K hK => ?_) AllReadyH.nil)
  go_simp
  go_at_call 23
  with_reducible refine (CC.out V361 _).mono ?_
  rintro e X366 ⟨rfl, DbX366⟩
  have r367 := hid (row_on r362.out DbX366.out)
  have r368 := hid (row_on r363.out DbX366.out)
  have r369 := hid (row_on r364.out DbX366.out)
  have r370 := hid (row_on r365.out DbX366.out)
  have DX366 := hid (btr BV361.out DbX366.out)
  (try go_wp2_with fail)
  refine hK.out _ _ ?_ (fun hHeld => ?_)
  · (try dsimp only); exact ⟨row_cell r367.out 1, row_cell r367.out 2, row_cell r368.out 0, row_cell r368.out 1⟩
  clear hK K
  try simp only [List.getElem_toArray, List.getElem_cons_succ, List.getElem_cons_zero, Act.put, List.setIfInBounds_toArray, List.set_cons_zero, List.set_cons_succ]
  refine wpAnyH_ready (rs := [6]) (by kernel_rfl) (by simp) ?_
  refine (AllReadyH.cons (o := _) rfl (fun K hK => ?_) AllReadyH.nil)
  go_simp
  go_at_call 23
  with_reducible refine (CC.out X366 _).mono ?_
  rintro e X371 ⟨rfl, DbX371⟩
  have r372 := hid (row_on r367.out DbX371.out)
  have r373 := hid (row_on r368.out DbX371.out)
  have r374 := hid (row_on r369.out DbX371.out)
  have r375 := hid (row_on r370.out DbX371.out)
  have DX371 := hid (btr DX366.out DbX371.out)
  (try go_wp2_with fail)
  refine hK.out _ _ ?_ (fun hHeld => ?_)
  · (try dsimp only); exact ⟨row_cell r372.out 1, row_cell r372.out 2, row_cell r373.out 0, row_cell r373.out 1⟩
  clear hK K
  try simp only [List.getElem_toArray, List.getElem_cons_succ, List.getElem_cons_zero, Act.put, List.setIfInBounds_toArray, List.set_cons_zero, List.set_cons_succ]
  refine wpAnyH_ready (rs := [8]) (by kernel_rfl) (by simp) ?_
  refine (AllReadyH.cons (o := _) rfl (fun K hK => ?_) AllReadyH.nil)
  have CE := enter_any (L9.out.on DX371.out) HBx.out bu 1 se 1 v HD.out.bu wf1 HD.out.se wf1 HV.out (by have := HKK.out; omega)
  rw [HS1.out] at CE
  unfold mv at CE
  have CE := hid CE
  go_simp
  go_at_call 22
  with_reducible refine CE.out.mono ?_
  rintro e Z1 ⟨rfl, O1, z1, z2, z3⟩
  have LZ1 := hid z1
  have KZ1 := hid z2
  have EZ1 := hid z3
  clear z1 z2 z3 CE
  have EW := hid ((Ex.refl w O).trans EZ1.out (btr W9.out DX371.out).size)
  have KW := hid ((Kp.of O (btr W9.out DX371.out)).trans KZ1.out (fun _ _ h => h))
  have r1D := hid (KZ1.out.row r372.out (fun e => by have h1 := HLT.out _ e; have h2 : w.heap.size ≤ R := (by have := HR.out; omega); omega))
  have qD := hid (row_lt r372.out)
  have r1V := hid (KZ1.out.row r373.out (fun e => by have h1 := HLT.out _ e; have h2 : w.heap.size ≤ a6 := N6.out; omega))
  have qV := hid (row_lt r373.out)
  have r1B := hid (KZ1.out.row r374.out (fun e => by have h1 := HLT.out _ e; have h2 : w.heap.size ≤ t7 := M7.out; omega))
  have qB := hid (row_lt r374.out)
  have r1S := hid (KZ1.out.row r375.out (fun e => by have h1 := HLT.out _ e; have h2 : w.heap.size ≤ t9 := M9.out; omega))
  have qS := hid (row_lt r375.out)
  (try go_wp2_with fail)
  refine hK.out _ _ ?_ (fun hHeld => ?_)
  · (try dsimp only); exact ⟨row_cell r1D.out 1, row_cell r1D.out 2, row_cell r1V.out 0, row_cell r1V.out 1⟩
  clear hK K
  try simp only [List.getElem_toArray, List.getElem_cons_succ, List.getElem_cons_zero, Act.put, List.setIfInBounds_toArray, List.set_cons_zero, List.set_cons_succ]
  refine wpAnyH_done (by kernel_rfl) ?_ _
  have f1 := row_cell r1D.out 1
  have f3 := row_cell r1D.out 3
  simp only [List.getElem?_toArray, List.getElem?_cons_succ, List.getElem?_cons_zero] at f1 f3
  have v0 := row_cell r1V.out 0
  have v1 := row_cell r1V.out 1
  simp only [List.getElem?_toArray, List.getElem?_cons_succ, List.getElem?_cons_zero] at v0 v1
  go_upto_region 13 with fail
  have CE := charge_any LZ1.out HB1.out bu v (ta == 1) HD.out.bu HV.out (by have := HKK.out; omega)
  rw [HS2.out] at CE
  unfold mv at CE
  have CE := hid CE
  go_upto_region 14 with (go_at_call 24; with_reducible refine CE.out.mono ?_; rintro e Z2 ⟨rfl, O2, z1, z2, z3⟩; have LZ2 := hid z1; have KZ2 := hid z2; have EZ2 := hid z3; clear z1 z2 z3)
  clear CE
  have EWZ2 := hid (EW.out.trans EZ2.out (Nat.le_trans (btr W9.out DX371.out).size KZ1.out.size))
  have KWZ2 := hid (KW.out.seq KZ2.out EW.out)
  have r2D := hid (KZ2.out.row r1D.out (Ex.out EZ1.out HLT.out (by have := HR.out; omega) qD.out))
  have r2V := hid (KZ2.out.row r1V.out (Ex.out EZ1.out HLT.out N6.out qV.out))
  have r2B := hid (KZ2.out.row r1B.out (Ex.out EZ1.out HLT.out M7.out qB.out))
  have r2S := hid (KZ2.out.row r1S.out (Ex.out EZ1.out HLT.out M9.out qS.out))
  have EXZ2 := hid (EZ1.out.trans EZ2.out KZ1.out.size)
  clear f1 f3 v0 v1
  have f2 := row_cell r2D.out 2
  have f3 := row_cell r2D.out 3
  simp only [List.getElem?_toArray, List.getElem?_cons_succ, List.getElem?_cons_zero] at f2 f3
  have v0 := row_cell r2V.out 0
  have v1 := row_cell r2V.out 1
  simp only [List.getElem?_toArray, List.getElem?_cons_succ, List.getElem?_cons_zero] at v0 v1
  have CE := charge_any LZ2.out HB2.out se v (ta == 2) HD.out.se HV.out (by have := HKK.out; omega)
  rw [HS3.out] at CE
  unfold mv at CE
  have CE := hid CE
  go_upto_region 15 with (go_at_call 24; with_reducible refine CE.out.mono ?_; rintro e Z3 ⟨rfl, O3, z1, z2, z3⟩; have LZ3 := hid z1; have KZ3 := hid z2; have EZ3 := hid z3; clear z1 z2 z3)
  clear CE
  have EWZ3 := hid (EWZ2.out.trans EZ3.out (Nat.le_trans (btr W9.out DX371.out).size (Nat.le_trans KZ1.out.size KZ2.out.size)))
  have KWZ3 := hid (KWZ2.out.seq KZ3.out EWZ2.out)
  have r3D := hid (KZ3.out.row r2D.out (Ex.out EXZ2.out HLT.out (by have := HR.out; omega) qD.out))
  have r3B := hid (KZ3.out.row r2B.out (Ex.out EXZ2.out HLT.out M7.out qB.out))
  have r3S := hid (KZ3.out.row r2S.out (Ex.out EXZ2.out HLT.out M9.out qS.out))
  have EXZ3 := hid (EXZ2.out.trans EZ3.out (Nat.le_trans KZ1.out.size KZ2.out.size))
  clear f2 f3 v0 v1
  have f0 := row_cell r3D.out 0
  have f1 := row_cell r3D.out 1
  simp only [List.getElem?_toArray, List.getElem?_cons_succ, List.getElem?_cons_zero] at f0 f1
  have b0 := row_cell r3B.out 0
  have b1 := row_cell r3B.out 1
  have b2 := row_cell r3B.out 2
  have b3 := row_cell r3B.out 3
  have b4 := row_cell r3B.out 4
  simp only [List.getElem?_toArray, List.getElem?_cons_succ, List.getElem?_cons_zero] at b0 b1 b2 b3 b4
  have CE := hold_any LZ3.out HB3.out bu it bo HD.out.bu HD.out.it HPO.out.1 HO1.out (by have := HKK.out; omega)
  unfold Po.row at CE
  have CE := hid CE
  go_upto_region 16 with (go_at_call 25; with_reducible refine CE.out.mono ?_; rintro e Z4 ⟨rfl, O4, z1, z2, z3⟩; have LZ4 := hid z1; have KZ4 := hid z2; have EZ4 := hid z3; clear z1 z2 z3)
  clear CE
  have EWZ4 := hid (EWZ3.out.trans EZ4.out (Nat.le_trans (btr W9.out DX371.out).size (Nat.le_trans (Nat.le_trans KZ1.out.size KZ2.out.size) KZ3.out.size)))
  have KWZ4 := hid (KWZ3.out.seq KZ4.out EWZ3.out)
  have r4D := hid (KZ4.out.row r3D.out (Ex.out EXZ3.out HLT.out (by have := HR.out; omega) qD.out))
  have r4S := hid (KZ4.out.row r3S.out (Ex.out EXZ3.out HLT.out M9.out qS.out))
  have EXZ4 := hid (EXZ3.out.trans EZ4.out (Nat.le_trans (Nat.le_trans KZ1.out.size KZ2.out.size) KZ3.out.size))
  clear f0 f1 b0 b1 b2 b3 b4
  have f0 := row_cell r4D.out 0
  have f2 := row_cell r4D.out 2
  simp only [List.getElem?_toArray, List.getElem?_cons_succ, List.getElem?_cons_zero] at f0 f2
  have b0 := row_cell r4S.out 0
  have b1 := row_cell r4S.out 1
  have b2 := row_cell r4S.out 2
  have b3 := row_cell r4S.out 3
  have b4 := row_cell r4S.out 4
  simp only [List.getElem?_toArray, List.getElem?_cons_succ, List.getElem?_cons_zero] at b0 b1 b2 b3 b4
  have HB4x := hid (show ∃ x, ({ s3 with g := gupd s3.g bu it bo } : Ls).f x ≠ none from HB3.out)
  have CE := hold_any LZ4.out HB4x.out se it so HD.out.se HD.out.it HPO.out.2 HO2.out (by have := HKK.out; omega)
  unfold Po.row at CE
  have CE := hid CE
  go_upto_region 17 with (go_at_call 25; with_reducible refine CE.out.mono ?_; rintro e Z5 ⟨rfl, O5, z1, z2, z3⟩; have LZ5 := hid z1; have KZ5 := hid z2; have EZ5 := hid z3; clear z1 z2 z3)
  clear CE
  have EWZ5 := hid (EWZ4.out.trans EZ5.out (Nat.le_trans (btr W9.out DX371.out).size (Nat.le_trans (Nat.le_trans (Nat.le_trans KZ1.out.size KZ2.out.size) KZ3.out.size) KZ4.out.size)))
  have KWZ5 := hid (KWZ4.out.seq KZ5.out EWZ4.out)
  have EXZ5 := hid (EXZ4.out.trans EZ5.out (Nat.le_trans (Nat.le_trans (Nat.le_trans KZ1.out.size KZ2.out.size) KZ3.out.size) KZ4.out.size))
  go_wp2
  go_ret
  exact ⟨rfl, O5, LZ5.out, KWZ5.out, EWZ5.out⟩
end Go.Proofs.Ytdbnkidfclgnfaa.Ac
