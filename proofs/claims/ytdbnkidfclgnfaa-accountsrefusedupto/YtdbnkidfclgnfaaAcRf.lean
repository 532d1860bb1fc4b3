/-
  A deal is booked.
-/
import Derived.Test.YtdbnkidfclgnfaaAcR
namespace Go.Proofs.Ytdbnkidfclgnfaa.Ac
open Go.RowKit Go.Deep Go.Maps Go.Proofs.Ytdbnkidfclgnfaa.MonM
set_option linter.unusedVariables false
set_option linter.unusedSimpArgs false
set_option maxHeartbeats 8000000
set_option maxRecDepth 100000
attribute [local go_sem ↓] Go.wp_at_zero Go.wp_at_succ
theorem book_ok_d {w : World} {G : Nat} {O : Nat → Prop} {k : Nat} {s : Ls} (h : Lg w G O k s) (it bu se ta pr qt : Int) (hd : DeOk ⟨it, bu, se, ta, pr, qt⟩) (h0 : bkc s ⟨it, bu, se, ta, pr, qt⟩ = 0) (hB : ∃ x, s.f x ≠ none) (hpr0 : 0 ≤ pr) (hpr1 : pr < 262144) (hqt0 : 0 < qt) (hqt1 : qt < 4294967296) (pa pb bo so : Po) (hpa : s.g bu it = pa) (hpb : s.g se it = pb)
    (CBo : Hid (∀ U, Calls Try.prog 19 #[.agg pa.row, .int .i64 qt, mv (-(pr * qt))] U fun e w' => e = .returned (.agg bo.row) ∧ Below U.heap.size U w')) (CSo : Hid (∀ U, Calls Try.prog 19 #[.agg pb.row, .int .i64 (-qt), mv (pr * qt)] U fun e w' => e = .returned (.agg so.row) ∧ Below U.heap.size U w'))
    (hbo : PoOk bo) (hso : PoOk so) (bb0 : absI bo.qt < 9223372036854775808) (bs0 : absI so.qt < 9223372036854775808) (hse : se ≠ bu) (hov : absI bo.qt ≤ 4294967295) (hov2 : absI so.qt ≤ 4294967295) (hk : k + 13 ≤ 1000000000000) :
    Calls Try.prog 8 #[.pointer (some ⟨G, 0, none⟩), .agg #[.int .u32 it, .int .u32 bu, .int .u32 se, .int .i64 ta, .int .i64 pr, .int .u64 qt]] w fun e w' => e = .returned (.int .i64 0) ∧ ∃ O', Lg w' G O' (k + 13) (bkd s ⟨it, bu, se, ta, pr, qt⟩ bo so) ∧ Kp O w w' ∧ Ex w O O' := by
  have hv0 : 0 ≤ pr * qt := Int.mul_nonneg hpr0 (by omega)
  have hv1 : pr * qt ≤ 262144 * 4294967296 := Int.mul_le_mul (by omega) (by omega) (by omega) (by omega)
  have HL := hid h
  have HLT := hid h.lt
  have HD := hid hd
  have HBx := hid hB
  have HKK := hid hk
  have HV := hid (show Amt (pr * qt) from by unfold Amt; omega)
  obtain ⟨Wa, hWa⟩ : ∃ W, w.alloc (.cells #[.int .u32 it, .int .u32 bu, .int .u32 se, .int .i64 ta, .int .i64 pr, .int .u64 qt] 32) = W := ⟨_, rfl⟩
  obtain ⟨R, hR⟩ : ∃ R, w.heap.size = R := ⟨_, rfl⟩
  have HBA := hid (show Below w.heap.size w Wa from by rw [← hWa]; exact ball _ _)
  have HRA := hid (show Wa.heap[R]? = some (.cells #[.int .u32 it, .int .u32 bu, .int .u32 se, .int .i64 ta, .int .i64 pr, .int .u64 qt] 32 (0, 0)) from by rw [← hWa, ← hR]; exact World.alloc_heap_new _ _)
  have CB := hid (show Calls Try.prog 17 #[.pointer (some ⟨G, 0, none⟩), .agg #[.int .u32 it, .int .u32 bu, .int .u32 se, .int .i64 ta, .int .i64 pr, .int .u64 qt]] Wa fun e w' => e = .returned (.int .i64 0) ∧ Below Wa.heap.size Wa w' from by have h1 := bookable_any (HL.out.on HBA.out) ⟨it, bu, se, ta, pr, qt⟩ HD.out; rw [h0] at h1; exact h1)
  have CT := hid (fun U => times_any pr qt U hpr0 hpr1 (by omega) hqt1)
  have CPb := hid (show ∀ U, Below w.heap.size w U → Calls Try.prog 7 #[.pointer (some ⟨G, 0, none⟩), .int .u32 bu, .int .u32 it] U fun e w' => e = .returned (.agg pa.row) ∧ Hid (Below U.heap.size U w') from fun U hU => by rw [← hpa]; exact position_any (HL.out.on hU) bu it HD.out.bu HD.out.it)
  have CPs := hid (show ∀ U, Below w.heap.size w U → Calls Try.prog 7 #[.pointer (some ⟨G, 0, none⟩), .int .u32 se, .int .u32 it] U fun e w' => e = .returned (.agg pb.row) ∧ Hid (Below U.heap.size U w') from fun U hU => by rw [← hpb]; exact position_any (HL.out.on hU) se it HD.out.se HD.out.it)
  have CN := hid (show ∀ U, Calls Try.prog 20 #[mv (pr * qt)] U fun e w' => e = .returned (mv (-(pr * qt))) ∧ Hid (Below U.heap.size U w') from fun U => neg_any (pr * qt) U)
  have CZb := hid (show ∀ U, Calls Try.prog 21 #[.int .i64 bo.qt] U fun e w' => e = .returned (.int .u64 (absI bo.qt)) ∧ w' = U from fun U => size_any bo.qt U (by unfold absI at bb0; split at bb0 <;> omega) (by unfold absI at bb0; split at bb0 <;> omega))
  have CZs := hid (show ∀ U, Calls Try.prog 21 #[.int .i64 so.qt] U fun e w' => e = .returned (.int .u64 (absI so.qt)) ∧ w' = U from fun U => size_any so.qt U (by unfold absI at bs0; split at bs0 <;> omega) (by unfold absI at bs0; split at bs0 <;> omega))
  have wpr : IntKind.u32.wrap pr = pr := by rw [IntKind.wrap_u32]; omega
  have wqt : IntKind.i64.wrap qt = qt := by rw [IntKind.wrap_i64]; omega
  have wnq : IntKind.i64.wrap (-qt) = -qt := by rw [IntKind.wrap_i64]; omega
  have hsb : (se == bu) = false := by simpa using hse
  have hoa : decide (4294967295 < absI bo.qt) = false := by simp; omega
  have hob : decide (4294967295 < absI so.qt) = false := by simp; omega
  have HO1 := hid hov
  have HO2 := hid hov2
  have HPO := hid (And.intro hbo hso)
  unfold bkd
  simp only
  obtain ⟨v, hv⟩ : ∃ x, pr * qt = x := ⟨_, rfl⟩
  rw [hv] at CT CN CBo CSo HV ⊢
  obtain ⟨s1, hs1⟩ : ∃ x, ent s (bu, 1) (se, 1) v = x := ⟨_, rfl⟩
  rw [hs1]
  obtain ⟨s2, hs2⟩ : ∃ x, ent s1 (bu, 1) (0, 2) (fee s1 v (ta == 1)) = x := ⟨_, rfl⟩
  rw [hs2]
  obtain ⟨s3, hs3⟩ : ∃ x, ent s2 (se, 1) (0, 2) (fee s2 v (ta == 2)) = x := ⟨_, rfl⟩
  rw [hs3]
  have HS1 := hid hs1
  have HS2 := hid hs2
  have HS3 := hid hs3
  clear hs1 hs2 hs3
  have HB1 := hid (show ∃ x, s1.f x ≠ none from by rw [← HS1.out]; exact ent_B hB _ _ _)
  have HB2 := hid (show ∃ x, s2.f x ≠ none from by rw [← HS2.out]; exact ent_B HB1.out _ _ _)
  have HB3 := hid (show ∃ x, s3.f x ≠ none from by rw [← HS3.out]; exact ent_B HB2.out _ _ _)
  unfold mv at CT CN CBo CSo
  unfold Po.row at CPb CPs CBo CSo
  have d0 := row_cell HRA.out 0
  have d1 := row_cell HRA.out 1
  have d2 := row_cell HRA.out 2
  have d3 := row_cell HRA.out 3
  have d4 := row_cell HRA.out 4
  have d5 := row_cell HRA.out 5
  simp only [List.getElem?_toArray, List.getElem?_cons_succ, List.getElem?_cons_zero] at d0 d1 d2 d3 d4 d5
  have HWa := hid hWa
  have HR := hid hR
  clear hWa hR h hd h0 hB hk hpr0 hpr1 hqt0 hqt1 hpa hpb hbo hso bb0 bs0 hse hov hv hv0 hv1 hov2
  go_enter Try.func8, Try.ntmps8
  go_upto_region 1 with fail
  rw [HWa.out, HR.out]
  clear HWa
  go_upto_region 4 with (go_at_call 17; with_reducible refine CB.out.mono ?_; rintro e w4 ⟨rfl, hb⟩; have HB4 := hid (btr HBA.out hb); have HD4 := hid (row_on HRA.out hb); clear hb)
  clear d0 d1 d2 d3 d4 d5
  have f4 := row_cell HD4.out 4
  have f5 := row_cell HD4.out 5
  simp only [List.getElem?_toArray, List.getElem?_cons_succ, List.getElem?_cons_zero] at f4 f5
  go_upto_region 5 with (first | (go_at_call 18; with_reducible refine (CT.out _).mono ?_; rintro e w5 ⟨rfl, hb⟩; have HB5 := hid hb; have HZ5 := hid (World.alloc_heap_new w5 (.cells #[.int .u64 0, .int .u64 0] 36)); clear hb) | (refine wpList_store_row (by rfl) 36 (.tmp 6) (.tmp 21) (by rfl) w5.heap.size #[.int .u64 (hiW v), .int .u64 (loW v)] (by rfl) (by rfl) 36 _ HZ5.out infoM (by rfl) (by simp [Value.oneCell']) ?_))
  obtain ⟨X5, hX5⟩ : ∃ X, (w5.alloc (.cells #[.int .u64 0, .int .u64 0] 36)).setRow w5.heap.size #[.int .u64 (hiW v), .int .u64 (loW v)] = X := ⟨_, rfl⟩
  have GV := hid (show X5.heap[w5.heap.size]? = some (.cells #[.int .u64 (hiW v), .int .u64 (loW v)] 36 (0, 0)) from by rw [← hX5]; exact setRow_heap _ _ _ _ 36 (0, 0) HZ5.out)
  have BX5 := hid (show Below w5.heap.size w5 X5 from by rw [← hX5]; exact setRow_below (ball _ _) (Nat.le_refl _))
  rw [hX5]
  obtain ⟨a6, ha6⟩ : ∃ t, w5.heap.size = t := ⟨_, rfl⟩
  rw [ha6] at GV ⊢
  have N6 := hid (show w.heap.size ≤ a6 from by rw [← ha6]; exact Nat.le_trans HB4.out.size HB5.out.size)
  have W5 := hid (btr HB4.out (btr HB5.out BX5.out))
  have GD := hid (row_on (row_on HD4.out HB5.out) BX5.out)
  clear hX5 HZ5 ha6 f4 f5 BX5 HB5 HD4
  have CBo2 := hid (show ∀ U, Calls Try.prog 19 #[.agg #[.int .i64 pa.qt, .int .u64 (hiW pa.co), .int .u64 (loW pa.co), .int .u64 (hiW pa.ga), .int .u64 (loW pa.ga)], .int .i64 qt, .agg #[.int .u64 (hiW (-v)), .int .u64 (loW (-v))]] U fun e w' => e = .returned (.agg #[.int .i64 bo.qt, .int .u64 (hiW bo.co), .int .u64 (loW bo.co), .int .u64 (hiW bo.ga), .int .u64 (loW bo.ga)]) ∧ Hid (Below U.heap.size U w') from fun U => CBo.out U)
  refine reg_cut (X := Nat) (fun a t => (((((((((((((a.put (some 22) (.pointer (some ⟨G, 0, none⟩))).put (some 23) (.pointer (some ⟨R, 1, none⟩))).put (some 24) (.int .u32 bu)).put (some 25) (.pointer (some ⟨R, 0, none⟩))).put (some 26) (.int .u32 it)).put (some 27) (.agg #[.int .i64 pa.qt, .int .u64 (hiW pa.co), .int .u64 (loW pa.co), .int .u64 (hiW pa.ga), .int .u64 (loW pa.ga)])).put (some 28) (.pointer (some ⟨R, 5, none⟩))).put (some 29) (.int .u64 qt)).put (some 30) (.int .i64 qt)).put (some 31) (.agg #[.int .u64 (hiW v), .int .u64 (loW v)])).put (some 32) (.agg #[.int .u64 (hiW (-v)), .int .u64 (loW (-v))])).put (some 33) (.agg #[.int .i64 bo.qt, .int .u64 (hiW bo.co), .int .u64 (loW bo.co), .int .u64 (hiW bo.ga), .int .u64 (loW bo.ga)])).put (some 7) (.pointer (some ⟨t, 0, none⟩)))) (fun t V => Hid (Below X5.heap.size X5 V) ∧ Hid (V.heap[t]? = some (.cells #[.int .i64 bo.qt, .int .u64 (hiW bo.co), .int .u64 (loW bo.co), .int .u64 (hiW bo.ga), .int .u64 (loW bo.ga)] 38 (0, 0))) ∧ Hid (X5.heap.size ≤ t)) ?_ ?_
  · obtain ⟨V376, hV376⟩ : ∃ U, X5.drew = U := ⟨_, rfl⟩
    have BV376 := hid (show Below X5.heap.size X5 V376 from by rw [← hV376]; exact bdrew1 _)
    have r377 := hid (row_on GD.out BV376.out)
    have r378 := hid (row_on GV.out BV376.out)
    refine wp_region_held_drew (S := (fun U => U.cell? ⟨R, 0, none⟩ = some (.int .u32 it) ∧ U.cell? ⟨R, 1, none⟩ = some (.int .u32 bu) ∧ U.cell? ⟨R, 5, none⟩ = some (.int .u64 qt) ∧ U.cell? ⟨a6, 0, none⟩ = some (.int .u64 (hiW v)) ∧ U.cell? ⟨a6, 1, none⟩ = some (.int .u64 (loW v)))) (by kernel_rfl) ?_ (fun hHeld => ?_)
    · (try dsimp only); rw [hV376]; exact ⟨row_cell r377.out 0, row_cell r377.out 1, row_cell r377.out 5, row_cell r378.out 0, row_cell r378.out 1⟩
    rw [hV376] at hHeld ⊢
    clear hV376
    refine' wpAnyH_take (i := 0) (oi := _) (v := _) rfl (by kernel_rfl) (by kernel_rfl) (by kernel_rfl) (fun _ _ _ h => h) (Or.inl ⟨by kernel_rfl, ?_⟩) (by assumption) ?_
    rotate_left
    · (intro w hSw; (try dsimp only at hSw); go_simp; try (with_reducible rfl))
    try simp only [List.getElem_toArray, List.getElem_cons_succ, List.getElem_cons_zero, Act.put, List.setIfInBounds_toArray, List.set_cons_zero, List.set_cons_succ]
    refine' wpAnyH_take (i := 1) (oi := _) (v := _) rfl (by kernel_rfl) (by kernel_rfl) (by kernel_rfl) (fun _ _ _ h => h) (Or.inl ⟨by kernel_rfl, ?_⟩) (by assumption) ?_
    rotate_left
    · (intro w hSw; (try dsimp only at hSw); go_simp; try (with_reducible rfl))
    try simp only [List.getElem_toArray, List.getElem_cons_succ, List.getElem_cons_zero, Act.put, List.setIfInBounds_toArray, List.set_cons_zero, List.set_cons_succ]
    refine' wpAnyH_take (i := 2) (oi := _) (v := _) rfl (by kernel_rfl) (by kernel_rfl) (by kernel_rfl) (fun _ _ _ h => h) (Or.inl ⟨by kernel_rfl, ?_⟩) (by assumption) ?_
    rotate_left
    · (intro w hSw; (try dsimp only at hSw); go_simp; try (with_reducible rfl))
    try simp only [List.getElem_toArray, List.getElem_cons_succ, List.getElem_cons_zero, Act.put, List.setIfInBounds_toArray, List.set_cons_zero, List.set_cons_succ]
    refine' wpAnyH_take (i := 3) (oi := _) (v := _) rfl (by kernel_rfl) (by kernel_rfl) (by kernel_rfl) (fun _ _ _ h => h) (Or.inl ⟨by kernel_rfl, ?_⟩) (by assumption) ?_
    rotate_left
    · (intro w hSw; (try dsimp only at hSw); go_simp; try (with_reducible rfl))
    try simp only [List.getElem_toArray, List.getElem_cons_succ, List.getElem_cons_zero, Act.put, List.setIfInBounds_toArray, List.set_cons_zero, List.set_cons_succ]
    refine' wpAnyH_take (i := 4) (oi := _) (v := _) rfl (by kernel_rfl) (by kernel_rfl) (by kernel_rfl) (fun _ _ _ h => h) (Or.inl ⟨by kernel_rfl, ?_⟩) (by assumption) ?_
    rotate_left
    · (intro w hSw; (try dsimp only at hSw); go_simp; try (with_reducible rfl))
    try simp only [List.getElem_toArray, List.getElem_cons_succ, List.getElem_cons_zero, Act.put, List.setIfInBounds_toArray, List.set_cons_zero, List.set_cons_succ]
    refine' wpAnyH_take (i := 6) (oi := _) (v := _) rfl (by kernel_rfl) (by kernel_rfl) (by kernel_rfl) (fun _ _ _ h => h) (Or.inl ⟨by kernel_rfl, ?_⟩) (by assumption) ?_
    rotate_left
    · (intro w hSw; (try dsimp only at hSw); go_simp; try (with_reducible rfl))
    try simp only [List.getElem_toArray, List.getElem_cons_succ, List.getElem_cons_zero, Act.put, List.setIfInBounds_toArray, List.set_cons_zero, List.set_cons_succ]
    refine' wpAnyH_take (i := 7) (oi := _) (v := _) rfl (by kernel_rfl) (by kernel_rfl) (by kernel_rfl) (fun _ _ _ h => h) (Or.inl ⟨by kernel_rfl, ?_⟩) (by assumption) ?_
    rotate_left
    · (intro w hSw; (try dsimp only at hSw); go_simp; try (with_reducible rfl))
    try simp only [List.getElem_toArray, List.getElem_cons_succ, List.getElem_cons_zero, Act.put, List.setIfInBounds_toArray, List.set_cons_zero, List.set_cons_succ]
    refine' wpAnyH_take (i := 8) (oi := _) (v := _) rfl (by kernel_rfl) (by kernel_rfl) (by kernel_rfl) (fun _ _ _ h => h) (Or.inl ⟨by kernel_rfl, ?_⟩) (by assumption) ?_
    rotate_left
    · (intro w hSw; (try dsimp only at hSw); go_simp; try (with_reducible rfl))
    try simp only [List.getElem_toArray, List.getElem_cons_succ, List.getElem_cons_zero, Act.put, List.setIfInBounds_toArray, List.set_cons_zero, List.set_cons_succ]
    refine' wpAnyH_take (i := 9) (oi := _) (v := _) rfl (by kernel_rfl) (by kernel_rfl) (by kernel_rfl) (fun _ _ _ h => h) (Or.inl ⟨by kernel_rfl, ?_⟩) (by assumption) ?_
    rotate_left
    · (intro w hSw; (try dsimp only at hSw); go_simp; try (with_reducible rfl))
    try simp only [List.getElem_toArray, List.getElem_cons_succ, List.getElem_cons_zero, Act.put, List.setIfInBounds_toArray, List.set_cons_zero, List.set_cons_succ]
    refine wpAnyH_ready (rs := [5, 12]) (by kernel_rfl) (by simp) ?_
    refine (AllReadyH.cons (o := _) rfl (fun K hK => ?_) (AllReadyH.cons (o := _) rfl (fun K hK => ?_) AllReadyH.nil))
    · go_simp
      go_at_call 7
      with_reducible refine (CPb.out V376 (btr W5.out BV376.out)).mono ?_
      rintro e X379 ⟨rfl, DbX379⟩
      have r380 := hid (row_on r377.out DbX379.out)
      have r381 := hid (row_on r378.out DbX379.out)
      have DX379 := hid (btr BV376.out DbX379.out)
      have UX379 := hid (BV376.out.size)
      (try go_wp2_with fail)
      refine hK.out _ _ ?_ (fun hHeld => ?_)
      · (try dsimp only); exact ⟨row_cell r380.out 0, row_cell r380.out 1, row_cell r380.out 5, row_cell r381.out 0, row_cell r381.out 1⟩
      clear hK K
      try simp only [List.getElem_toArray, List.getElem_cons_succ, List.getElem_cons_zero, Act.put, List.setIfInBounds_toArray, List.set_cons_zero, List.set_cons_succ]
      refine wpAnyH_ready (rs := [10, 12]) (by kernel_rfl) (by simp) ?_
      refine (AllReadyH.cons (o := _) rfl (fun K hK => ?_) (AllReadyH.cons (o := _) rfl (fun K hK => ?_) AllReadyH.nil))
      · go_simp
        go_at_call 20
        with_reducible refine (CN.out X379).mono ?_
        rintro e X382 ⟨rfl, DbX382⟩
        have r383 := hid (row_on r380.out DbX382.out)
        have r384 := hid (row_on r381.out DbX382.out)
        have DX382 := hid (btr DX379.out DbX382.out)
        have UX382 := hid (DX379.out.size)
        (try go_wp2_with fail)
        refine hK.out _ _ ?_ (fun hHeld => ?_)
        · (try dsimp only); exact ⟨row_cell r383.out 0, row_cell r383.out 1, row_cell r383.out 5, row_cell r384.out 0, row_cell r384.out 1⟩
        clear hK K
        try simp only [List.getElem_toArray, List.getElem_cons_succ, List.getElem_cons_zero, Act.put, List.setIfInBounds_toArray, List.set_cons_zero, List.set_cons_succ]
        refine wpAnyH_ready (rs := [11, 12]) (by kernel_rfl) (by simp) ?_
        refine (AllReadyH.cons (o := _) rfl (fun K hK => ?_) (AllReadyH.cons (o := _) rfl (fun K hK => ?_) AllReadyH.nil))
        · go_simp
          go_at_call 19
          with_reducible refine (CBo2.out X382).mono ?_
          rintro e X385 ⟨rfl, DbX385⟩
          have r386 := hid (row_on r383.out DbX385.out)
          have r387 := hid (row_on r384.out DbX385.out)
          have DX385 := hid (btr DX382.out DbX385.out)
          have UX385 := hid (DX382.out.size)
          (try go_wp2_with fail)
          refine hK.out _ _ ?_ (fun hHeld => ?_)
          · (try dsimp only); exact ⟨row_cell r386.out 0, row_cell r386.out 1, row_cell r386.out 5, row_cell r387.out 0, row_cell r387.out 1⟩
          clear hK K
          try simp only [List.getElem_toArray, List.getElem_cons_succ, List.getElem_cons_zero, Act.put, List.setIfInBounds_toArray, List.set_cons_zero, List.set_cons_succ]
          refine wpAnyH_ready (rs := [12]) (by kernel_rfl) (by simp) ?_
          refine (AllReadyH.cons (o := _) rfl (fun K hK => ?_) AllReadyH.nil)
          go_simp
          obtain ⟨X388, hX388⟩ : ∃ X, X385.alloc (.cells #[.int .i64 0, .int .u64 0, .int .u64 0, .int .u64 0, .int .u64 0] 38) = X := ⟨_, rfl⟩
          have bX388 : Below X385.heap.size X385 X388 := by rw [← hX388]; exact ball _ _
          have r390 := hid (row_on r386.out bX388)
          have r391 := hid (row_on r387.out bX388)
          have DX388 := hid (btr DX385.out bX388)
          have zX388 : X388.heap[X385.heap.size]? = some (.cells #[.int .i64 0, .int .u64 0, .int .u64 0, .int .u64 0, .int .u64 0] 38 (0, 0)) := by rw [← hX388]; exact World.alloc_heap_new _ _
          have yg389 := DX385.out.size
          obtain ⟨g389, hg389⟩ : ∃ g, X385.heap.size = g := ⟨_, rfl⟩
          have n392 : g389 ≠ R := by have := row_lt r386.out; omega
          have n393 : g389 ≠ a6 := by have := row_lt r387.out; omega
          rw [hg389] at zX388 yg389
          have ZX388 := hid zX388
          rw [hX388, hg389]
          clear hX388 hg389 zX388 bX388
          refine hK.out _ _ ?_ (fun hHeld => ?_)
          · (try dsimp only); exact ⟨row_cell r390.out 0, row_cell r390.out 1, row_cell r390.out 5, row_cell r391.out 0, row_cell r391.out 1⟩
          clear hK K
          try simp only [List.getElem_toArray, List.getElem_cons_succ, List.getElem_cons_zero, Act.put, List.setIfInBounds_toArray, List.set_cons_zero, List.set_cons_succ]
          refine wpAnyH_ready (rs := [13]) (by kernel_rfl) (by simp) ?_
          refine (AllReadyH.cons (o := _) rfl (fun K hK => ?_) AllReadyH.nil)
          refine step_store_row (by rfl) 38 (.tmp 7) (.tmp 33) (by rfl) g389 #[.int .i64 bo.qt, .int .u64 (hiW bo.co), .int .u64 (loW bo.co), .int .u64 (hiW bo.ga), .int .u64 (loW bo.ga)] (by rfl) (by rfl) 38 _ ZX388.out infoPo5 (by rfl) (by simp [Value.oneCell']) ?_
          obtain ⟨Y394, hY394⟩ : ∃ Y, X388.setRow g389 #[.int .i64 bo.qt, .int .u64 (hiW bo.co), .int .u64 (loW bo.co), .int .u64 (hiW bo.ga), .int .u64 (loW bo.ga)] = Y := ⟨_, rfl⟩
          have KY394 := hid (show Kp (fun j => j = g389) X388 Y394 from by rw [← hY394]; exact setRow_kp _ _ _)
          have AY394 := hid (show Y394.heap[g389]? = some (.cells #[.int .i64 bo.qt, .int .u64 (hiW bo.co), .int .u64 (loW bo.co), .int .u64 (hiW bo.ga), .int .u64 (loW bo.ga)] 38 (0, 0)) from by rw [← hY394]; exact setRow_heap X388 g389 _ _ 38 (0, 0) ZX388.out)
          have DY394 := hid (show Below X5.heap.size X5 Y394 from by rw [← hY394]; exact setRow_below DX388.out yg389)
          have r395 := hid (KY394.out.row r390.out (fun e => n392.symm e))
          have r396 := hid (KY394.out.row r391.out (fun e => n393.symm e))
          rw [hY394]
          refine hK.out _ _ ?_ (fun hHeld => ?_)
          · (try dsimp only); exact ⟨row_cell r395.out 0, row_cell r395.out 1, row_cell r395.out 5, row_cell r396.out 0, row_cell r396.out 1⟩
          clear hK K hY394
          try simp only [List.getElem_toArray, List.getElem_cons_succ, List.getElem_cons_zero, Act.put, List.setIfInBounds_toArray, List.set_cons_zero, List.set_cons_succ]
          refine wpAnyH_done (by kernel_rfl) ?_ _
          exact ⟨g389, by kernel_rfl, DY394, AY394, yg389⟩
        · go_simp
          obtain ⟨X397, hX397⟩ : ∃ X, X382.alloc (.cells #[.int .i64 0, .int .u64 0, .int .u64 0, .int .u64 0, .int .u64 0] 38) = X := ⟨_, rfl⟩
          have bX397 : Below X382.heap.size X382 X397 := by rw [← hX397]; exact ball _ _
          have r399 := hid (row_on r383.out bX397)
          have r400 := hid (row_on r384.out bX397)
          have DX397 := hid (btr DX382.out bX397)
          have zX397 : X397.heap[X382.heap.size]? = some (.cells #[.int .i64 0, .int .u64 0, .int .u64 0, .int .u64 0, .int .u64 0] 38 (0, 0)) := by rw [← hX397]; exact World.alloc_heap_new _ _
          have yg398 := DX382.out.size
          obtain ⟨g398, hg398⟩ : ∃ g, X382.heap.size = g := ⟨_, rfl⟩
          have n401 : g398 ≠ R := by have := row_lt r383.out; omega
          have n402 : g398 ≠ a6 := by have := row_lt r384.out; omega
          rw [hg398] at zX397 yg398
          have ZX397 := hid zX397
          rw [hX397, hg398]
          clear hX397 hg398 zX397 bX397
          refine hK.out _ _ ?_ (fun hHeld => ?_)
          · (try dsimp only); exact ⟨row_cell r399.out 0, row_cell r399.out 1, row_cell r399.out 5, row_cell r400.out 0, row_cell r400.out 1⟩
          clear hK K
          try simp only [List.getElem_toArray, List.getElem_cons_succ, List.getElem_cons_zero, Act.put, List.setIfInBounds_toArray, List.set_cons_zero, List.set_cons_succ]
          refine wpAnyH_ready (rs := [11]) (by kernel_rfl) (by simp) ?_
          refine (AllReadyH.cons (o := _) rfl (fun K hK => ?_) AllReadyH.nil)
          go_simp
          go_at_call 19
          with_reducible refine (CBo2.out X397).mono ?_
          rintro e X403 ⟨rfl, DbX403⟩
          have r404 := hid (row_on r399.out DbX403.out)
          have r405 := hid (row_on r400.out DbX403.out)
          have r406 := hid (row_on ZX397.out DbX403.out)
          have DX403 := hid (btr DX397.out DbX403.out)
          have UX403 := hid (DX397.out.size)
          (try go_wp2_with fail)
          refine hK.out _ _ ?_ (fun hHeld => ?_)
          · (try dsimp only); exact ⟨row_cell r404.out 0, row_cell r404.out 1, row_cell r404.out 5, row_cell r405.out 0, row_cell r405.out 1⟩
          clear hK K
          try simp only [List.getElem_toArray, List.getElem_cons_succ, List.getElem_cons_zero, Act.put, List.setIfInBounds_toArray, List.set_cons_zero, List.set_cons_succ]
          refine wpAnyH_ready (rs := [13]) (by kernel_rfl) (by simp) ?_
          refine (AllReadyH.cons (o := _) rfl (fun K hK => ?_) AllReadyH.nil)
          refine step_store_row (by rfl) 38 (.tmp 7) (.tmp 33) (by rfl) g398 #[.int .i64 bo.qt, .int .u64 (hiW bo.co), .int .u64 (loW bo.co), .int .u64 (hiW bo.ga), .int .u64 (loW bo.ga)] (by rfl) (by rfl) 38 _ r406.out infoPo5 (by rfl) (by simp [Value.oneCell']) ?_
          obtain ⟨Y407, hY407⟩ : ∃ Y, X403.setRow g398 #[.int .i64 bo.qt, .int .u64 (hiW bo.co), .int .u64 (loW bo.co), .int .u64 (hiW bo.ga), .int .u64 (loW bo.ga)] = Y := ⟨_, rfl⟩
          have KY407 := hid (show Kp (fun j => j = g398) X403 Y407 from by rw [← hY407]; exact setRow_kp _ _ _)
          have AY407 := hid (show Y407.heap[g398]? = some (.cells #[.int .i64 bo.qt, .int .u64 (hiW bo.co), .int .u64 (loW bo.co), .int .u64 (hiW bo.ga), .int .u64 (loW bo.ga)] 38 (0, 0)) from by rw [← hY407]; exact setRow_heap X403 g398 _ _ 38 (0, 0) r406.out)
          have DY407 := hid (show Below X5.heap.size X5 Y407 from by rw [← hY407]; exact setRow_below DX403.out yg398)
          have r408 := hid (KY407.out.row r404.out (fun e => n401.symm e))
          have r409 := hid (KY407.out.row r405.out (fun e => n402.symm e))
          rw [hY407]
          refine hK.out _ _ ?_ (fun hHeld => ?_)
          · (try dsimp only); exact ⟨row_cell r408.out 0, row_cell r408.out 1, row_cell r408.out 5, row_cell r409.out 0, row_cell r409.out 1⟩
          clear hK K hY407
          try simp only [List.getElem_toArray, List.getElem_cons_succ, List.getElem_cons_zero, Act.put, List.setIfInBounds_toArray, List.set_cons_zero, List.set_cons_succ]
          refine wpAnyH_done (by kernel_rfl) ?_ _
          exact ⟨g398, by kernel_rfl, DY407, AY407, yg398⟩
      · go_simp
        obtain ⟨X410, hX410⟩ : ∃ X, X379.alloc (.cells #[.int .i64 0, .int .u64 0, .int .u64 0, .int .u64 0, .int .u64 0] 38) = X := ⟨_, rfl⟩
        have bX410 : Below X379.heap.size X379 X410 := by rw [← hX410]; exact ball _ _
        have r412 := hid (row_on r380.out bX410)
        have r413 := hid (row_on r381.out bX410)
        have DX410 := hid (btr DX379.out bX410)
        have zX410 : X410.heap[X379.heap.size]? = some (.cells #[.int .i64 0, .int .u64 0, .int .u64 0, .int .u64 0, .int .u64 0] 38 (0, 0)) := by rw [← hX410]; exact World.alloc_heap_new _ _
        have yg411 := DX379.out.size
        obtain ⟨g411, hg411⟩ : ∃ g, X379.heap.size = g := ⟨_, rfl⟩
        have n414 : g411 ≠ R := by have := row_lt r380.out; omega
        have n415 : g411 ≠ a6 := by have := row_lt r381.out; omega
        rw [hg411] at zX410 yg411
        have ZX410 := hid zX410
        rw [hX410, hg411]
        clear hX410 hg411 zX410 bX410
        refine hK.out _ _ ?_ (fun hHeld => ?_)
        · (try dsimp only); exact ⟨row_cell r412.out 0, row_cell r412.out 1, row_cell r412.out 5, row_cell r413.out 0, row_cell r413.out 1⟩
        clear hK K
        try simp only [List.getElem_toArray, List.getElem_cons_succ, List.getElem_cons_zero, Act.put, List.setIfInBounds_toArray, List.set_cons_zero, List.set_cons_succ]
        refine wpAnyH_ready (rs := [10]) (by kernel_rfl) (by simp) ?_
        refine (AllReadyH.cons (o := _) rfl (fun K hK => ?_) AllReadyH.nil)
        go_simp
        go_at_call 20
        with_reducible refine (CN.out X410).mono ?_
        rintro e X416 ⟨rfl, DbX416⟩
        have r417 := hid (row_on r412.out DbX416.out)
        have r418 := hid (row_on r413.out DbX416.out)
        have r419 := hid (row_on ZX410.out DbX416.out)
        have DX416 := hid (btr DX410.out DbX416.out)
        have UX416 := hid (DX410.out.size)
        (try go_wp2_with fail)
        refine hK.out _ _ ?_ (fun hHeld => ?_)
        · (try dsimp only); exact ⟨row_cell r417.out 0, row_cell r417.out 1, row_cell r417.out 5, row_cell r418.out 0, row_cell r418.out 1⟩
        clear hK K
        try simp only [List.getElem_toArray, List.getElem_cons_succ, List.getElem_cons_zero, Act.put, List.setIfInBounds_toArray, List.set_cons_zero, List.set_cons_succ]
        refine wpAnyH_ready (rs := [11]) (by kernel_rfl) (by simp) ?_
        refine (AllReadyH.cons (o := _) rfl (fun K hK => ?_) AllReadyH.nil)
        go_simp
        go_at_call 19
        with_reducible refine (CBo2.out X416).mono ?_
        rintro e X420 ⟨rfl, DbX420⟩
        have r421 := hid (row_on r417.out DbX420.out)
        have r422 := hid (row_on r418.out DbX420.out)
        have r423 := hid (row_on r419.out DbX420.out)
        have DX420 := hid (btr DX416.out DbX420.out)
        have UX420 := hid (DX416.out.size)
        (try go_wp2_with fail)
        refine hK.out _ _ ?_ (fun hHeld => ?_)
        · (try dsimp only); exact ⟨row_cell r421.out 0, row_cell r421.out 1, row_cell r421.out 5, row_cell r422.out 0, row_cell r422.out 1⟩
        clear hK K
        try simp only [List.getElem_toArray, List.getElem_cons_succ, List.getElem_cons_zero, Act.put, List.setIfInBounds_toArray, List.set_cons_zero, List.set_cons_succ]
        refine wpAnyH_ready (rs := [13]) (by kernel_rfl) (by simp) ?_
        refine (AllReadyH.cons (o := _) rfl (fun K hK => ?_) AllReadyH.nil)
        refine step_store_row (by rfl) 38 (.tmp 7) (.tmp 33) (by rfl) g411 #[.int .i64 bo.qt, .int .u64 (hiW bo.co), .int .u64 (loW bo.co), .int .u64 (hiW bo.ga), .int .u64 (loW bo.ga)] (by rfl) (by rfl) 38 _ r423.out infoPo5 (by rfl) (by simp [Value.oneCell']) ?_
        obtain ⟨Y424, hY424⟩ : ∃ Y, X420.setRow g411 #[.int .i64 bo.qt, .int .u64 (hiW bo.co), .int .u64 (loW bo.co), .int .u64 (hiW bo.ga), .int .u64 (loW bo.ga)] = Y := ⟨_, rfl⟩
        have KY424 := hid (show Kp (fun j => j = g411) X420 Y424 from by rw [← hY424]; exact setRow_kp _ _ _)
        have AY424 := hid (show Y424.heap[g411]? = some (.cells #[.int .i64 bo.qt, .int .u64 (hiW bo.co), .int .u64 (loW bo.co), .int .u64 (hiW bo.ga), .int .u64 (loW bo.ga)] 38 (0, 0)) from by rw [← hY424]; exact setRow_heap X420 g411 _ _ 38 (0, 0) r423.out)
        have DY424 := hid (show Below X5.heap.size X5 Y424 from by rw [← hY424]; exact setRow_below DX420.out yg411)
        have r425 := hid (KY424.out.row r421.out (fun e => n414.symm e))
        have r426 := hid (KY424.out.row r422.out (fun e => n415.symm e))
        rw [hY424]
        refine hK.out _ _ ?_ (fun hHeld => ?_)
        · (try dsimp only); exact ⟨row_cell r425.out 0, row_cell r425.out 1, row_cell r425.out 5, row_cell r426.out 0, row_cell r426.out 1⟩
        clear hK K hY424
        try simp only [List.getElem_toArray, List.getElem_cons_succ, List.getElem_cons_zero, Act.put, List.setIfInBounds_toArray, List.set_cons_zero, List.set_cons_succ]
        refine wpAnyH_done (by kernel_rfl) ?_ _
        exact ⟨g411, by kernel_rfl, DY424, AY424, yg411⟩
    · go_simp
      obtain ⟨X427, hX427⟩ : ∃ X, V376.alloc (.cells #[.int .i64 0, .int .u64 0, .int .u64 0, .int .u64 0, .int .u64 0] 38) = X := ⟨_, rfl⟩
      have bX427 : Below V376.heap.size V376 X427 := by rw [← hX427]; exact ball _ _
      have r429 := hid (row_on r377.out bX427)
      have r430 := hid (row_on r378.out bX427)
      have DX427 := hid (btr BV376.out bX427)
      have zX427 : X427.heap[V376.heap.size]? = some (.cells #[.int .i64 0, .int .u64 0, .int .u64 0, .int .u64 0, .int .u64 0] 38 (0, 0)) := by rw [← hX427]; exact World.alloc_heap_new _ _
      have yg428 := BV376.out.size
      obtain ⟨g428, hg428⟩ : ∃ g, V376.heap.size = g := ⟨_, rfl⟩
      have n431 : g428 ≠ R := by have := row_lt r377.out; omega
      have n432 : g428 ≠ a6 := by have := row_lt r378.out; omega
      rw [hg428] at zX427 yg428
      have ZX427 := hid zX427
      rw [hX427, hg428]
      clear hX427 hg428 zX427 bX427
      refine hK.out _ _ ?_ (fun hHeld => ?_)
      · (try dsimp only); exact ⟨row_cell r429.out 0, row_cell r429.out 1, row_cell r429.out 5, row_cell r430.out 0, row_cell r430.out 1⟩
      clear hK K
      try simp only [List.getElem_toArray, List.getElem_cons_succ, List.getElem_cons_zero, Act.put, List.setIfInBounds_toArray, List.set_cons_zero, List.set_cons_succ]
      refine wpAnyH_ready (rs := [5]) (by kernel_rfl) (by simp) ?_
      refine (AllReadyH.cons (o := _) rfl (fun K hK => ?_) AllReadyH.nil)
      go_simp
      go_at_call 7
      with_reducible refine (CPb.out X427 (btr W5.out DX427.out)).mono ?_
      rintro e X433 ⟨rfl, DbX433⟩
      have r434 := hid (row_on r429.out DbX433.out)
      have r435 := hid (row_on r430.out DbX433.out)
      have r436 := hid (row_on ZX427.out DbX433.out)
      have DX433 := hid (btr DX427.out DbX433.out)
      have UX433 := hid (DX427.out.size)
      (try go_wp2_with fail)
      refine hK.out _ _ ?_ (fun hHeld => ?_)
      · (try dsimp only); exact ⟨row_cell r434.out 0, row_cell r434.out 1, row_cell r434.out 5, row_cell r435.out 0, row_cell r435.out 1⟩
      clear hK K
      try simp only [List.getElem_toArray, List.getElem_cons_succ, List.getElem_cons_zero, Act.put, List.setIfInBounds_toArray, List.set_cons_zero, List.set_cons_succ]
      refine wpAnyH_ready (rs := [10]) (by kernel_rfl) (by simp) ?_
      refine (AllReadyH.cons (o := _) rfl (fun K hK => ?_) AllReadyH.nil)
      go_simp
      go_at_call 20
      with_reducible refine (CN.out X433).mono ?_
      rintro e X437 ⟨rfl, DbX437⟩
      have r438 := hid (row_on r434.out DbX437.out)
      have r439 := hid (row_on r435.out DbX437.out)
      have r440 := hid (row_on r436.out DbX437.out)
      have DX437 := hid (btr DX433.out DbX437.out)
      have UX437 := hid (DX433.out.size)
      (try go_wp2_with fail)
      refine hK.out _ _ ?_ (fun hHeld => ?_)
      · (try dsimp only); exact ⟨row_cell r438.out 0, row_cell r438.out 1, row_cell r438.out 5, row_cell r439.out 0, row_cell r439.out 1⟩
      clear hK K
      try simp only [List.getElem_toArray, List.getElem_cons_succ, List.getElem_cons_zero, Act.put, List.setIfInBounds_toArray, List.set_cons_zero, List.set_cons_succ]
      refine wpAnyH_ready (rs := [11]) (by kernel_rfl) (by simp) ?_
      refine (AllReadyH.cons (o := _) rfl (fun K hK => ?_) AllReadyH.nil)
      go_simp
      go_at_call 19
      with_reducible refine (CBo2.out X437).mono ?_
      rintro e X441 ⟨rfl, DbX441⟩
      have r442 := hid (row_on r438.out DbX441.out)
      have r443 := hid (row_on r439.out DbX441.out)
      have r444 := hid (row_on r440.out DbX441.out)
      have DX441 := hid (btr DX437.out DbX441.out)
      have UX441 := hid (DX437.out.size)
      (try go_wp2_with fail)
      refine hK.out _ _ ?_ (fun hHeld => ?_)
      · (try dsimp only); exact ⟨row_cell r442.out 0, row_cell r442.out 1, row_cell r442.out 5, row_cell r443.out 0, row_cell r443.out 1⟩
      clear hK K
      try simp only [List.getElem_toArray, List.getElem_cons_succ, List.getElem_cons_zero, Act.put, List.setIfInBounds_toArray, List.set_cons_zero, List.set_cons_succ]
      refine wpAnyH_ready (rs := [13]) (by kernel_rfl) (by simp) ?_
      refine (AllReadyH.cons (o := _) rfl (fun K hK => ?_) AllReadyH.nil)
      refine step_store_row (by rfl) 38 (.tmp 7) (.tmp 33) (by rfl) g428 #[.int .i64 bo.qt, .int .u64 (hiW bo.co), .int .u64 (loW bo.co), .int .u64 (hiW bo.ga), .int .u64 (loW bo.ga)] (by rfl) (by rfl) 38 _ r444.out infoPo5 (by rfl) (by simp [Value.oneCell']) ?_
      obtain ⟨Y445, hY445⟩ : ∃ Y, X441.setRow g428 #[.int .i64 bo.qt, .int .u64 (hiW bo.co), .int .u64 (loW bo.co), .int .u64 (hiW bo.ga), .int .u64 (loW bo.ga)] = Y := ⟨_, rfl⟩
      have KY445 := hid (show Kp (fun j => j = g428) X441 Y445 from by rw [← hY445]; exact setRow_kp _ _ _)
      have AY445 := hid (show Y445.heap[g428]? = some (.cells #[.int .i64 bo.qt, .int .u64 (hiW bo.co), .int .u64 (loW bo.co), .int .u64 (hiW bo.ga), .int .u64 (loW bo.ga)] 38 (0, 0)) from by rw [← hY445]; exact setRow_heap X441 g428 _ _ 38 (0, 0) r444.out)
      have DY445 := hid (show Below X5.heap.size X5 Y445 from by rw [← hY445]; exact setRow_below DX441.out yg428)
      have r446 := hid (KY445.out.row r442.out (fun e => n431.symm e))
      have r447 := hid (KY445.out.row r443.out (fun e => n432.symm e))
      rw [hY445]
      refine hK.out _ _ ?_ (fun hHeld => ?_)
      · (try dsimp only); exact ⟨row_cell r446.out 0, row_cell r446.out 1, row_cell r446.out 5, row_cell r447.out 0, row_cell r447.out 1⟩
      clear hK K hY445
      try simp only [List.getElem_toArray, List.getElem_cons_succ, List.getElem_cons_zero, Act.put, List.setIfInBounds_toArray, List.set_cons_zero, List.set_cons_succ]
      refine wpAnyH_done (by kernel_rfl) ?_ _
      exact ⟨g428, by kernel_rfl, DY445, AY445, yg428⟩
  rintro t7 V5 ⟨B5, GB, N7⟩
  try simp only [List.getElem_toArray, List.getElem_cons_succ, List.getElem_cons_zero, Act.put, List.setIfInBounds_toArray, List.set_cons_zero, List.set_cons_succ]
  have W6 := hid (btr W5.out B5.out)
  have GD6 := hid (row_on GD.out B5.out)
  have GV6 := hid (row_on GV.out B5.out)
  have M7 := hid (show w.heap.size ≤ t7 from Nat.le_trans W5.out.size N7.out)
  clear GD GV N7
  go_upto_region 6 with fail
  have f0 := row_cell GD6.out 0
  have f2 := row_cell GD6.out 2
  simp only [List.getElem?_toArray, List.getElem?_cons_succ, List.getElem?_cons_zero] at f0 f2
  go_upto_region 7 with (first | (go_at_call 7; with_reducible refine (CPs.out V5 W6.out).mono ?_; rintro e w7 ⟨rfl, hb⟩; have HB7 := hid hb.out; have HZ7 := hid (World.alloc_heap_new w7 (.cells #[.int .i64 0, .int .u64 0, .int .u64 0, .int .u64 0, .int .u64 0] 38)); clear hb) | (refine wpList_store_row (by rfl) 38 (.tmp 8) (.tmp 39) (by rfl) w7.heap.size #[.int .i64 pb.qt, .int .u64 (hiW pb.co), .int .u64 (loW pb.co), .int .u64 (hiW pb.ga), .int .u64 (loW pb.ga)] (by rfl) (by rfl) 38 _ HZ7.out infoPo5 (by rfl) (by simp [Value.oneCell']) ?_))
  obtain ⟨X7, hX7⟩ : ∃ X, (w7.alloc (.cells #[.int .i64 0, .int .u64 0, .int .u64 0, .int .u64 0, .int .u64 0] 38)).setRow w7.heap.size #[.int .i64 pb.qt, .int .u64 (hiW pb.co), .int .u64 (loW pb.co), .int .u64 (hiW pb.ga), .int .u64 (loW pb.ga)] = X := ⟨_, rfl⟩
  have GP := hid (show X7.heap[w7.heap.size]? = some (.cells #[.int .i64 pb.qt, .int .u64 (hiW pb.co), .int .u64 (loW pb.co), .int .u64 (hiW pb.ga), .int .u64 (loW pb.ga)] 38 (0, 0)) from by rw [← hX7]; exact setRow_heap _ _ _ _ 38 (0, 0) HZ7.out)
  have BX7 := hid (show Below w7.heap.size w7 X7 from by rw [← hX7]; exact setRow_below (ball _ _) (Nat.le_refl _))
  rw [hX7]
  obtain ⟨t8, ht8⟩ : ∃ t, w7.heap.size = t := ⟨_, rfl⟩
  rw [ht8] at GP ⊢
  have BV7 := hid (btr HB7.out BX7.out)
  have W7 := hid (btr W6.out BV7.out)
  have GD7 := hid (row_on GD6.out BV7.out)
  have GV7 := hid (row_on GV6.out BV7.out)
  have GB7 := hid (row_on GB.out BV7.out)
  have N78 : t8 ≠ t7 := by have h1 := row_lt GB.out; have h2 := HB7.out.size; omega
  have N7D : t8 ≠ R := by have h1 := row_lt GD6.out; have h2 := HB7.out.size; omega
  have N7V : t8 ≠ a6 := by have h1 := row_lt GV6.out; have h2 := HB7.out.size; omega
  have NN8 := hid (show w.heap.size ≤ t8 from by have := W6.out.size; have := HB7.out.size; omega)
  have HN78 := hid N78
  have HN7D := hid N7D
  have HN7V := hid N7V
  clear hX7 HZ7 ht8 f0 f2 GD6 GV6 GB N78 N7D N7V
  have f1 := row_cell GD7.out 1
  have f2 := row_cell GD7.out 2
  simp only [List.getElem?_toArray, List.getElem?_cons_succ, List.getElem?_cons_zero] at f1 f2
  go_upto_region 9 with fail
  clear f1 f2
  obtain ⟨X8, hX8⟩ : ∃ X, X7 = X := ⟨_, rfl⟩
  rw [hX8] at GP GD7 GV7 GB7 W7 ⊢
  have GP8 := hid GP.out
  have GD8 := hid GD7.out
  have GV8 := hid GV7.out
  have GB8 := hid GB7.out
  have W8 := hid W7.out
  clear hX8
  have p0 := row_cell GP8.out 0
  have p1 := row_cell GP8.out 1
  have p2 := row_cell GP8.out 2
  have p3 := row_cell GP8.out 3
  have p4 := row_cell GP8.out 4
  simp only [List.getElem?_toArray, List.getElem?_cons_succ, List.getElem?_cons_zero] at p0 p1 p2 p3 p4
  have f5 := row_cell GD8.out 5
  simp only [List.getElem?_toArray, List.getElem?_cons_succ, List.getElem?_cons_zero] at f5
  have v0 := row_cell GV8.out 0
  have v1 := row_cell GV8.out 1
  simp only [List.getElem?_toArray, List.getElem?_cons_succ, List.getElem?_cons_zero] at v0 v1
  have CSo2 := hid (show ∀ U, Calls Try.prog 19 #[.agg #[.int .i64 pb.qt, .int .u64 (hiW pb.co), .int .u64 (loW pb.co), .int .u64 (hiW pb.ga), .int .u64 (loW pb.ga)], .int .i64 (-qt), .agg #[.int .u64 (hiW v), .int .u64 (loW v)]] U fun e w' => e = .returned (.agg #[.int .i64 so.qt, .int .u64 (hiW so.co), .int .u64 (loW so.co), .int .u64 (hiW so.ga), .int .u64 (loW so.ga)]) ∧ Hid (Below U.heap.size U w') from fun U => CSo.out U)
  go_upto_region 10 with (first | (go_at_call 19; with_reducible refine (CSo2.out _).mono ?_; rintro e w9 ⟨rfl, hb⟩; have HB9 := hid hb.out; have HZ9 := hid (World.alloc_heap_new w9 (.cells #[.int .i64 0, .int .u64 0, .int .u64 0, .int .u64 0, .int .u64 0] 38)); clear hb) | (refine wpList_store_row (by rfl) 38 (.tmp 9) (.tmp 52) (by rfl) w9.heap.size #[.int .i64 so.qt, .int .u64 (hiW so.co), .int .u64 (loW so.co), .int .u64 (hiW so.ga), .int .u64 (loW so.ga)] (by rfl) (by rfl) 38 _ HZ9.out infoPo5 (by rfl) (by simp [Value.oneCell']) ?_))
  obtain ⟨X9, hX9⟩ : ∃ X, (w9.alloc (.cells #[.int .i64 0, .int .u64 0, .int .u64 0, .int .u64 0, .int .u64 0] 38)).setRow w9.heap.size #[.int .i64 so.qt, .int .u64 (hiW so.co), .int .u64 (loW so.co), .int .u64 (hiW so.ga), .int .u64 (loW so.ga)] = X := ⟨_, rfl⟩
  have GS := hid (show X9.heap[w9.heap.size]? = some (.cells #[.int .i64 so.qt, .int .u64 (hiW so.co), .int .u64 (loW so.co), .int .u64 (hiW so.ga), .int .u64 (loW so.ga)] 38 (0, 0)) from by rw [← hX9]; exact setRow_heap _ _ _ _ 38 (0, 0) HZ9.out)
  have BX9 := hid (show Below w9.heap.size w9 X9 from by rw [← hX9]; exact setRow_below (ball _ _) (Nat.le_refl _))
  rw [hX9]
  obtain ⟨t9, ht9⟩ : ∃ t, w9.heap.size = t := ⟨_, rfl⟩
  rw [ht9] at GS ⊢
  have BV9 := hid (btr HB9.out BX9.out)
  have W9 := hid (btr W8.out BV9.out)
  have GD9 := hid (row_on GD8.out BV9.out)
  have GV9 := hid (row_on GV8.out BV9.out)
  have GB9 := hid (row_on GB8.out BV9.out)
  have M9 := hid (show w.heap.size ≤ t9 from by have := W8.out.size; have := HB9.out.size; omega)
  clear hX9 HZ9 ht9 p0 p1 p2 p3 p4 f5 v0 v1
  have b0 := row_cell GB9.out 0
  simp only [List.getElem?_toArray, List.getElem?_cons_succ, List.getElem?_cons_zero] at b0
  have c0 := row_cell GS.out 0
  simp only [List.getElem?_toArray, List.getElem?_cons_succ, List.getElem?_cons_zero] at c0
  go_upto_region 12 with (first | (go_at_call 21; with_reducible refine (CZb.out _).mono ?_; rintro e w10 ⟨rfl, h10⟩; have h10 := h10.symm; subst h10) | (go_at_call 21; with_reducible refine (CZs.out _).mono ?_; rintro e w11 ⟨rfl, h11⟩; have h11 := h11.symm; subst h11))
  clear b0 c0
  have CC := hid (show ∀ U m, Calls Try.prog 23 #[.int .u32 m] U fun e w' => e = .returned (.agg #[.int .u32 m, .int .i64 1]) ∧ Hid (Below U.heap.size U w') from fun U m => cash_any m U)
  have L9 := hid (HL.out.on W9.out)
  have HLW := hid HLT.out
  obtain ⟨V448, hV448⟩ : ∃ U, X9.drew = U := ⟨_, rfl⟩
  have BV448 := hid (show Below X9.heap.size X9 V448 from by rw [← hV448]; exact bdrew1 _)
  have r449 := hid (row_on GD9.out BV448.out)
  have r450 := hid (row_on GV9.out BV448.out)
  have r451 := hid (row_on GB9.out BV448.out)
  have r452 := hid (row_on GS.out BV448.out)
  refine wp_region_held_drew (S := fun U => U.cell? ⟨R, 1, none⟩ = some (.int .u32 bu) ∧ U.cell? ⟨R, 2, none⟩ = some (.int .u32 se) ∧ U.cell? ⟨a6, 0, none⟩ = some (.int .u64 (hiW v)) ∧ U.cell? ⟨a6, 1, none⟩ = some (.int .u64 (loW v))) (by kernel_rfl) ?_ (fun hHeld => ?_)
  · (try dsimp only); rw [hV448]; exact ⟨row_cell r449.out 1, row_cell r449.out 2, row_cell r450.out 0, row_cell r450.out 1⟩
  rw [hV448] at hHeld ⊢
  clear hV448
  refine' wpAnyH_take (i := 0) (oi := _) (v := _) rfl (by kernel_rfl) (by kernel_rfl) (by kernel_rfl) (fun _ _ _ h => h) (Or.inl ⟨by kernel_rfl, ?_⟩) (by assumption) ?_
  rotate_left
  · (intro w hSw; (try dsimp only at hSw); go_simp; try (with_reducible rfl))
  try simp only [List.getElem_toArray, List.getElem_cons_succ, List.getElem_cons_zero, Act.put, List.setIfInBounds_toArray, List.set_cons_zero, List.set_cons_succ]
  refine' wpAnyH_take (i := 1) (oi := _) (v := _) rfl (by kernel_rfl) (by kernel_rfl) (by kernel_rfl) (fun _ _ _ h => h) (Or.inl ⟨by kernel_rfl, ?_⟩) (by assumption) ?_
  rotate_left
  · (intro w hSw; (try dsimp only at hSw); go_simp; try (with_reducible rfl))
  try simp only [List.getElem_toArray, List.getElem_cons_succ, List.getElem_cons_zero, Act.put, List.setIfInBounds_toArray, List.set_cons_zero, List.set_cons_succ]
  refine' wpAnyH_take (i := 2) (oi := _) (v := _) rfl (by kernel_rfl) (by kernel_rfl) (by kernel_rfl) (fun _ _ _ h => h) (Or.inl ⟨by kernel_rfl, ?_⟩) (by assumption) ?_
  rotate_left
  · (intro w hSw; (try dsimp only at hSw); go_simp; try (with_reducible rfl))
  try simp only [List.getElem_toArray, List.getElem_cons_succ, List.getElem_cons_zero, Act.put, List.setIfInBounds_toArray, List.set_cons_zero, List.set_cons_succ]
  refine' wpAnyH_take (i := 4) (oi := _) (v := _) rfl (by kernel_rfl) (by kernel_rfl) (by kernel_rfl) (fun _ _ _ h => h) (Or.inl ⟨by kernel_rfl, ?_⟩) (by assumption) ?_
  rotate_left
  · (intro w hSw; (try dsimp only at hSw); go_simp; try (with_reducible rfl))
  try simp only [List.getElem_toArray, List.getElem_cons_succ, List.getElem_cons_zero, Act.put, List.setIfInBounds_toArray, List.set_cons_zero, List.set_cons_succ]
  refine' wpAnyH_take (i := 5) (oi := _) (v := _) rfl (by kernel_rfl) (by kernel_rfl) (by kernel_rfl) (fun _ _ _ h => h) (Or.inl ⟨by kernel_rfl, ?_⟩) (by assumption) ?_
  rotate_left
  · (intro w hSw; (try dsimp only at hSw); go_simp; try (with_reducible rfl))
  try simp only [List.getElem_toArray, List.getElem_cons_succ, List.getElem_cons_zero, Act.put, List.setIfInBounds_toArray, List.set_cons_zero, List.set_cons_succ]
  refine' wpAnyH_take (i := 7) (oi := _) (v := _) rfl (by kernel_rfl) (by kernel_rfl) (by kernel_rfl) (fun _ _ _ h => h) (Or.inl ⟨by kernel_rfl, ?_⟩) (by assumption) ?_
  rotate_left
  · (intro w hSw; (try dsimp only at hSw); go_simp; try (with_reducible rfl))
  try simp only [List.getElem_toArray, List.getElem_cons_succ, List.getElem_cons_zero, Act.put, List.setIfInBounds_toArray, List.set_cons_zero, List.set_cons_succ]
  refine wpAnyH_ready (rs := [3]) (by kernel_rfl) (by simp) ?_
  refine (AllReadyH.cons (o := _) rfl (fun K hK => ?_) AllReadyH.nil)
  go_simp
  go_at_call 23
  with_reducible refine (CC.out V448 _).mono ?_
  rintro e X453 ⟨rfl, DbX453⟩
  have r454 := hid (row_on r449.out DbX453.out)
  have r455 := hid (row_on r450.out DbX453.out)
  have r456 := hid (row_on r451.out DbX453.out)
  have r457 := hid (row_on r452.out DbX453.out)
  have DX453 := hid (btr BV448.out DbX453.out)
  (try go_wp2_with fail)
  refine hK.out _ _ ?_ (fun hHeld => ?_)
  · (try dsimp only); exact ⟨row_cell r454.out 1, row_cell r454.out 2, row_cell r455.out 0, row_cell r455.out 1⟩
  clear hK K
  try simp only [List.getElem_toArray, List.getElem_cons_succ, List.getElem_cons_zero, Act.put, List.setIfInBounds_toArray, List.set_cons_zero, List.set_cons_succ]
  refine wpAnyH_ready (rs := [6]) (by kernel_rfl) (by simp) ?_
  refine (AllReadyH.cons (o := _) rfl (fun K hK => ?_) AllReadyH.nil)
  go_simp
  go_at_call 23
  with_reducible refine (CC.out X453 _).mono ?_
  rintro e X458 ⟨rfl, DbX458⟩
  have r459 := hid (row_on r454.out DbX458.out)
  have r460 := hid (row_on r455.out DbX458.out)
  have r461 := hid (row_on r456.out DbX458.out)
  have r462 := hid (row_on r457.out DbX458.out)
  have DX458 := hid (btr DX453.out DbX458.out)
  (try go_wp2_with fail)
  refine hK.out _ _ ?_ (fun hHeld => ?_)
  · (try dsimp only); exact ⟨row_cell r459.out 1, row_cell r459.out 2, row_cell r460.out 0, row_cell r460.out 1⟩
  clear hK K
  try simp only [List.getElem_toArray, List.getElem_cons_succ, List.getElem_cons_zero, Act.put, List.setIfInBounds_toArray, List.set_cons_zero, List.set_cons_succ]
  refine wpAnyH_ready (rs := [8]) (by kernel_rfl) (by simp) ?_
  refine (AllReadyH.cons (o := _) rfl (fun K hK => ?_) AllReadyH.nil)
  have CE := enter_any (L9.out.on DX458.out) HBx.out bu 1 se 1 v HD.out.bu wf1 HD.out.se wf1 HV.out (by have := HKK.out; omega)
  rw [HS1.out] at CE
  unfold mv at CE
  have CE := hid CE
  go_simp
  go_at_call 22
  with_reducible refine CE.out.mono ?_
  rintro e Z1 ⟨rfl, O1, z1, z2, z3⟩
  have LZ1 := hid z1
  have KZ1 := hid z2
  have EZ1 := hid z3
  clear z1 z2 z3 CE
  have EW := hid ((Ex.refl w O).trans EZ1.out (btr W9.out DX458.out).size)
  have KW := hid ((Kp.of O (btr W9.out DX458.out)).trans KZ1.out (fun _ _ h => h))
  have r1D := hid (KZ1.out.row r459.out (fun e => by have h1 := HLT.out _ e; have h2 : w.heap.size ≤ R := (by have := HR.out; omega); omega))
  have qD := hid (row_lt r459.out)
  have r1V := hid (KZ1.out.row r460.out (fun e => by have h1 := HLT.out _ e; have h2 : w.heap.size ≤ a6 := N6.out; omega))
  have qV := hid (row_lt r460.out)
  have r1B := hid (KZ1.out.row r461.out (fun e => by have h1 := HLT.out _ e; have h2 : w.heap.size ≤ t7 := M7.out; omega))
  have qB := hid (row_lt r461.out)
  have r1S := hid (KZ1.out.row r462.out (fun e => by have h1 := HLT.out _ e; have h2 : w.heap.size ≤ t9 := M9.out; omega))
  have qS := hid (row_lt r462.out)
  (try go_wp2_with fail)
  refine hK.out _ _ ?_ (fun hHeld => ?_)
  · (try dsimp only); exact ⟨row_cell r1D.out 1, row_cell r1D.out 2, row_cell r1V.out 0, row_cell r1V.out 1⟩
  clear hK K
  try simp only [List.getElem_toArray, List.getElem_cons_succ, List.getElem_cons_zero, Act.put, List.setIfInBounds_toArray, List.set_cons_zero, List.set_cons_succ]
  refine wpAnyH_done (by kernel_rfl) ?_ _
  have f1 := row_cell r1D.out 1
  have f3 := row_cell r1D.out 3
  simp only [List.getElem?_toArray, List.getElem?_cons_succ, List.getElem?_cons_zero] at f1 f3
  have v0 := row_cell r1V.out 0
  have v1 := row_cell r1V.out 1
  simp only [List.getElem?_toArray, List.getElem?_cons_succ, List.getElem?_cons_zero] at v0 v1
  go_upto_region 13 with fail
  have CE := charge_any LZ1.out HB1.out bu v (ta == 1) HD.out.bu HV.out (by have := HKK.out; omega)
  rw [HS2.out] at CE
  unfold mv at CE
  have CE := hid CE
  go_upto_region 14 with (go_at_call 24; with_reducible refine CE.out.mono ?_; rintro e Z2 ⟨rfl, O2, z1, z2, z3⟩; have LZ2 := hid z1; have KZ2 := hid z2; have EZ2 := hid z3; clear z1 z2 z3)
  clear CE
  have EWZ2 := hid (EW.out.trans EZ2.out (Nat.le_trans (btr W9.out DX458.out).size KZ1.out.size))
  have KWZ2 := hid (KW.out.seq KZ2.out EW.out)
  have r2D := hid (KZ2.out.row r1D.out (Ex.out EZ1.out HLT.out (by have := HR.out; omega) qD.out))
  have r2V := hid (KZ2.out.row r1V.out (Ex.out EZ1.out HLT.out N6.out qV.out))
  have r2B := hid (KZ2.out.row r1B.out (Ex.out EZ1.out HLT.out M7.out qB.out))
  have r2S := hid (KZ2.out.row r1S.out (Ex.out EZ1.out HLT.out M9.out qS.out))
  have EXZ2 := hid (EZ1.out.trans EZ2.out KZ1.out.size)
  clear f1 f3 v0 v1
  have f2 := row_cell r2D.out 2
  have f3 := row_cell r2D.out 3
  simp only [List.getElem?_toArray, List.getElem?_cons_succ, List.getElem?_cons_zero] at f2 f3
  have v0 := row_cell r2V.out 0
  have v1 := row_cell r2V.out 1
  simp only [List.getElem?_toArray, List.getElem?_cons_succ, List.getElem?_cons_zero] at v0 v1
  have CE := charge_any LZ2.out HB2.out se v (ta == 2) HD.out.se HV.out (by have := HKK.out; omega)
  rw [HS3.out] at CE
  unfold mv at CE
  have CE := hid CE
  go_upto_region 15 with (go_at_call 24; with_reducible refine CE.out.mono ?_; rintro e Z3 ⟨rfl, O3, z1, z2, z3⟩; have LZ3 := hid z1; have KZ3 := hid z2; have EZ3 := hid z3; clear z1 z2 z3)
  clear CE
  have EWZ3 := hid (EWZ2.out.trans EZ3.out (Nat.le_trans (btr W9.out DX458.out).size (Nat.le_trans KZ1.out.size KZ2.out.size)))
  have KWZ3 := hid (KWZ2.out.seq KZ3.out EWZ2.out)
  have r3D := hid (KZ3.out.row r2D.out (Ex.out EXZ2.out HLT.out (by have := HR.out; omega) qD.out))
  have r3B := hid (KZ3.out.row r2B.out (Ex.out EXZ2.out HLT.out M7.out qB.out))
  have r3S := hid (KZ3.out.row r2S.out (Ex.out EXZ2.out HLT.out M9.out qS.out))
  have EXZ3 := hid (EXZ2.out.trans EZ3.out (Nat.le_trans KZ1.out.size KZ2.out.size))
  clear f2 f3 v0 v1
  have f0 := row_cell r3D.out 0
  have f1 := row_cell r3D.out 1
  simp only [List.getElem?_toArray, List.getElem?_cons_succ, List.getElem?_cons_zero] at f0 f1
  have b0 := row_cell r3B.out 0
  have b1 := row_cell r3B.out 1
  have b2 := row_cell r3B.out 2
  have b3 := row_cell r3B.out 3
  have b4 := row_cell r3B.out 4
  simp only [List.getElem?_toArray, List.getElem?_cons_succ, List.getElem?_cons_zero] at b0 b1 b2 b3 b4
  have CE := hold_any LZ3.out HB3.out bu it bo HD.out.bu HD.out.it HPO.out.1 HO1.out (by have := HKK.out; omega)
  unfold Po.row at CE
  have CE := hid CE
  go_upto_region 16 with (go_at_call 25; with_reducible refine CE.out.mono ?_; rintro e Z4 ⟨rfl, O4, z1, z2, z3⟩; have LZ4 := hid z1; have KZ4 := hid z2; have EZ4 := hid z3; clear z1 z2 z3)
  clear CE
  have EWZ4 := hid (EWZ3.out.trans EZ4.out (Nat.le_trans (btr W9.out DX458.out).size (Nat.le_trans (Nat.le_trans KZ1.out.size KZ2.out.size) KZ3.out.size)))
  have KWZ4 := hid (KWZ3.out.seq KZ4.out EWZ3.out)
  have r4D := hid (KZ4.out.row r3D.out (Ex.out EXZ3.out HLT.out (by have := HR.out; omega) qD.out))
  have r4S := hid (KZ4.out.row r3S.out (Ex.out EXZ3.out HLT.out M9.out qS.out))
  have EXZ4 := hid (EXZ3.out.trans EZ4.out (Nat.le_trans (Nat.le_trans KZ1.out.size KZ2.out.size) KZ3.out.size))
  clear f0 f1 b0 b1 b2 b3 b4
  have f0 := row_cell r4D.out 0
  have f2 := row_cell r4D.out 2
  simp only [List.getElem?_toArray, List.getElem?_cons_succ, List.getElem?_cons_zero] at f0 f2
  have b0 := row_cell r4S.out 0
  have b1 := row_cell r4S.out 1
  have b2 := row_cell r4S.out 2
  have b3 := row_cell r4S.out 3
  have b4 := row_cell r4S.out 4
  simp only [List.getElem?_toArray, List.getElem?_cons_succ, List.getElem?_cons_zero] at b0 b1 b2 b3 b4
  have HB4x := hid (show ∃ x, ({ s3 with g := gupd s3.g bu it bo } : Ls).f x ≠ none from HB3.out)
  have CE := hold_any LZ4.out HB4x.out se it so HD.out.se HD.out.it HPO.out.2 HO2.out (by have := HKK.out; omega)
  unfold Po.row at CE
  have CE := hid CE
  go_upto_region 17 with (go_at_call 25; with_reducible refine CE.out.mono ?_; rintro e Z5 ⟨rfl, O5, z1, z2, z3⟩; have LZ5 := hid z1; have KZ5 := hid z2; have EZ5 := hid z3; clear z1 z2 z3)
  clear CE
  have EWZ5 := hid (EWZ4.out.trans EZ5.out (Nat.le_trans (btr W9.out DX458.out).size (Nat.le_trans (Nat.le_trans (Nat.le_trans KZ1.out.size KZ2.out.size) KZ3.out.size) KZ4.out.size)))
  have KWZ5 := hid (KWZ4.out.seq KZ5.out EWZ4.out)
  have EXZ5 := hid (EXZ4.out.trans EZ5.out (Nat.le_trans (Nat.le_trans (Nat.le_trans KZ1.out.size KZ2.out.size) KZ3.out.size) KZ4.out.size))
  go_wp2
  go_ret
  exact ⟨rfl, O5, LZ5.out, KWZ5.out, EWZ5.out⟩
end Go.Proofs.Ytdbnkidfclgnfaa.Ac
