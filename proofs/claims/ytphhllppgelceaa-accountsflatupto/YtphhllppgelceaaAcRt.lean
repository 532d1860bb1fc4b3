/-
  A deal is booked.
-/
import Derived.Test.YtphhllppgelceaaAcR
namespace Go.Proofs.Ytphhllppgelceaa.Ac
open Go.RowKit Go.Deep Go.Maps Go.Proofs.Ytphhllppgelceaa.MonM
set_option linter.unusedVariables false
set_option linter.unusedSimpArgs false
set_option maxHeartbeats 8000000
set_option maxRecDepth 100000
attribute [local go_sem ↓] Go.wp_at_zero Go.wp_at_succ
theorem book_d {w : World} {G : Nat} {O : Nat → Prop} {k : Nat} {s : Ls} (h : Lg w G O k s) (it bu se ta pr qt : Int) (hd : DeOk ⟨it, bu, se, ta, pr, qt⟩) (h0 : bkc s ⟨it, bu, se, ta, pr, qt⟩ = 0) (hB : ∃ x, s.f x ≠ none) (hpr0 : 0 ≤ pr) (hpr1 : pr < 262144) (hqt0 : 0 < qt) (hqt1 : qt < 4294967296) (pa pb bo so : Po) (hpa : s.g bu it = pa) (hpb : s.g se it = pb)
    (CBo : Hid (∀ U, Calls Try.prog 29 #[.agg pa.row, .int .i64 qt, mv (-(pr * qt))] U fun e w' => e = .returned (.agg bo.row) ∧ Below U.heap.size U w')) (CSo : Hid (∀ U, Calls Try.prog 29 #[.agg pb.row, .int .i64 (-qt), mv (pr * qt)] U fun e w' => e = .returned (.agg so.row) ∧ Below U.heap.size U w'))
    (hbo : PoOk bo) (hso : PoOk so) (bb0 : absI bo.qt < 9223372036854775808) (bs0 : absI so.qt < 9223372036854775808) (hse : se ≠ bu) (hk : k + 13 ≤ 1000000000000) :
    Calls Try.prog 17 #[.pointer (some ⟨G, 0, none⟩), .agg #[.int .u32 it, .int .u32 bu, .int .u32 se, .int .i64 ta, .int .i64 pr, .int .u64 qt]] w fun e w' => (4294967295 < absI bo.qt ∨ 4294967295 < absI so.qt) ∧ e = .returned (.int .i64 10) ∧ Below w.heap.size w w' ∨ (absI bo.qt ≤ 4294967295 ∧ absI so.qt ≤ 4294967295) ∧ e = .returned (.int .i64 0) ∧ ∃ O', Lg w' G O' (k + 13) (bkd s ⟨it, bu, se, ta, pr, qt⟩ bo so) ∧ Kp O w w' ∧ Ex w O O' := by
  have hv0 : 0 ≤ pr * qt := Int.mul_nonneg hpr0 (by omega)
  have hv1 : pr * qt ≤ 262144 * 4294967296 := Int.mul_le_mul (by omega) (by omega) (by omega) (by omega)
  have HL := hid h
  have HLT := hid h.lt
  have HD := hid hd
  have HBx := hid hB
  have HKK := hid hk
  have HV := hid (show Amt (pr * qt) from by unfold Amt; omega)
  obtain ⟨Wa, hWa⟩ : ∃ W, w.alloc (.cells #[.int .u32 it, .int .u32 bu, .int .u32 se, .int .i64 ta, .int .i64 pr, .int .u64 qt] 53) = W := ⟨_, rfl⟩
  obtain ⟨R, hR⟩ : ∃ R, w.heap.size = R := ⟨_, rfl⟩
  have HBA := hid (show Below w.heap.size w Wa from by rw [← hWa]; exact ball _ _)
  have HRA := hid (show Wa.heap[R]? = some (.cells #[.int .u32 it, .int .u32 bu, .int .u32 se, .int .i64 ta, .int .i64 pr, .int .u64 qt] 53 (0, 0)) from by rw [← hWa, ← hR]; exact World.alloc_heap_new _ _)
  have CB := hid (show Calls Try.prog 27 #[.pointer (some ⟨G, 0, none⟩), .agg #[.int .u32 it, .int .u32 bu, .int .u32 se, .int .i64 ta, .int .i64 pr, .int .u64 qt]] Wa fun e w' => e = .returned (.int .i64 0) ∧ Below Wa.heap.size Wa w' from by have h1 := bookable_any (HL.out.on HBA.out) ⟨it, bu, se, ta, pr, qt⟩ HD.out; rw [h0] at h1; exact h1)
  have CT := hid (fun U => times_any pr qt U hpr0 hpr1 (by omega) hqt1)
  have CPb := hid (show ∀ U, Below w.heap.size w U → Calls Try.prog 18 #[.pointer (some ⟨G, 0, none⟩), .int .u32 bu, .int .u32 it] U fun e w' => e = .returned (.agg pa.row) ∧ Hid (Below U.heap.size U w') from fun U hU => by rw [← hpa]; exact position_any (HL.out.on hU) bu it HD.out.bu HD.out.it)
  have CPs := hid (show ∀ U, Below w.heap.size w U → Calls Try.prog 18 #[.pointer (some ⟨G, 0, none⟩), .int .u32 se, .int .u32 it] U fun e w' => e = .returned (.agg pb.row) ∧ Hid (Below U.heap.size U w') from fun U hU => by rw [← hpb]; exact position_any (HL.out.on hU) se it HD.out.se HD.out.it)
  have CN := hid (show ∀ U, Calls Try.prog 13 #[mv (pr * qt)] U fun e w' => e = .returned (mv (-(pr * qt))) ∧ Hid (Below U.heap.size U w') from fun U => neg_any (pr * qt) U)
  have CZb := hid (show ∀ U, Calls Try.prog 30 #[.int .i64 bo.qt] U fun e w' => e = .returned (.int .u64 (absI bo.qt)) ∧ w' = U from fun U => size_any bo.qt U (by unfold absI at bb0; split at bb0 <;> omega) (by unfold absI at bb0; split at bb0 <;> omega))
  have CZs := hid (show ∀ U, Calls Try.prog 30 #[.int .i64 so.qt] U fun e w' => e = .returned (.int .u64 (absI so.qt)) ∧ w' = U from fun U => size_any so.qt U (by unfold absI at bs0; split at bs0 <;> omega) (by unfold absI at bs0; split at bs0 <;> omega))
  have wpr : IntKind.u32.wrap pr = pr := by rw [IntKind.wrap_u32]; omega
  have wqt : IntKind.i64.wrap qt = qt := by rw [IntKind.wrap_i64]; omega
  have wnq : IntKind.i64.wrap (-qt) = -qt := by rw [IntKind.wrap_i64]; omega
  have hsb : (se == bu) = false := by simpa using hse
  have HPO := hid (And.intro hbo hso)
  unfold bkd
  simp only
  obtain ⟨v, hv⟩ : ∃ x, pr * qt = x := ⟨_, rfl⟩
  rw [hv] at CT CN CBo CSo HV ⊢
  obtain ⟨s1, hs1⟩ : ∃ x, ent s (bu, 1) (se, 1) v = x := ⟨_, rfl⟩
  rw [hs1]
  obtain ⟨s2, hs2⟩ : ∃ x, ent s1 (bu, 1) (0, 2) (fee s1 v (ta == 1)) = x := ⟨_, rfl⟩
  rw [hs2]
  obtain ⟨s3, hs3⟩ : ∃ x, ent s2 (se, 1) (0, 2) (fee s2 v (ta == 2)) = x := ⟨_, rfl⟩
  rw [hs3]
  have HS1 := hid hs1
  have HS2 := hid hs2
  have HS3 := hid hs3
  clear hs1 hs2 hs3
  have HB1 := hid (show ∃ x, s1.f x ≠ none from by rw [← HS1.out]; exact ent_B hB _ _ _)
  have HB2 := hid (show ∃ x, s2.f x ≠ none from by rw [← HS2.out]; exact ent_B HB1.out _ _ _)
  have HB3 := hid (show ∃ x, s3.f x ≠ none from by rw [← HS3.out]; exact ent_B HB2.out _ _ _)
  unfold mv at CT CN CBo CSo
  unfold Po.row at CPb CPs CBo CSo
  have d0 := row_cell HRA.out 0
  have d1 := row_cell HRA.out 1
  have d2 := row_cell HRA.out 2
  have d3 := row_cell HRA.out 3
  have d4 := row_cell HRA.out 4
  have d5 := row_cell HRA.out 5
  simp only [List.getElem?_toArray, List.getElem?_cons_succ, List.getElem?_cons_zero] at d0 d1 d2 d3 d4 d5
  have HWa := hid hWa
  have HR := hid hR
  clear hWa hR h hd h0 hB hk hpr0 hpr1 hqt0 hqt1 hpa hpb hbo hso bb0 bs0 hse hv hv0 hv1
  go_enter Try.func17, Try.ntmps17
  go_upto_region 1 with fail
  rw [HWa.out, HR.out]
  clear HWa
  go_upto_region 4 with (go_at_call 27; with_reducible refine CB.out.mono ?_; rintro e w4 ⟨rfl, hb⟩; have HB4 := hid (btr HBA.out hb); have HD4 := hid (row_on HRA.out hb); clear hb)
  clear d0 d1 d2 d3 d4 d5
  have f4 := row_cell HD4.out 4
  have f5 := row_cell HD4.out 5
  simp only [List.getElem?_toArray, List.getElem?_cons_succ, List.getElem?_cons_zero] at f4 f5
  go_upto_region 5 with (first | (go_at_call 28; with_reducible refine (CT.out _).mono ?_; rintro e w5 ⟨rfl, hb⟩; have HB5 := hid hb; have HZ5 := hid (World.alloc_heap_new w5 (.cells #[.int .u64 0, .int .u64 0] 40)); clear hb) | (refine wpList_store_row (by rfl) 40 (.tmp 6) (.tmp 21) (by rfl) w5.heap.size #[.int .u64 (hiW v), .int .u64 (loW v)] (by rfl) (by rfl) 40 _ HZ5.out infoM (by rfl) (by simp [Value.oneCell']) ?_))
  obtain ⟨X5, hX5⟩ : ∃ X, (w5.alloc (.cells #[.int .u64 0, .int .u64 0] 40)).setRow w5.heap.size #[.int .u64 (hiW v), .int .u64 (loW v)] = X := ⟨_, rfl⟩
  have GV := hid (show X5.heap[w5.heap.size]? = some (.cells #[.int .u64 (hiW v), .int .u64 (loW v)] 40 (0, 0)) from by rw [← hX5]; exact setRow_heap _ _ _ _ 40 (0, 0) HZ5.out)
  have BX5 := hid (show Below w5.heap.size w5 X5 from by rw [← hX5]; exact setRow_below (ball _ _) (Nat.le_refl _))
  rw [hX5]
  obtain ⟨a6, ha6⟩ : ∃ t, w5.heap.size = t := ⟨_, rfl⟩
  rw [ha6] at GV ⊢
  have N6 := hid (show w.heap.size ≤ a6 from by rw [← ha6]; exact Nat.le_trans HB4.out.size HB5.out.size)
  have W5 := hid (btr HB4.out (btr HB5.out BX5.out))
  have GD := hid (row_on (row_on HD4.out HB5.out) BX5.out)
  clear hX5 HZ5 ha6 f4 f5 BX5 HB5 HD4
  have CBo2 := hid (show ∀ U, Calls Try.prog 29 #[.agg #[.int .i64 pa.qt, .int .u64 (hiW pa.co), .int .u64 (loW pa.co), .int .u64 (hiW pa.ga), .int .u64 (loW pa.ga)], .int .i64 qt, .agg #[.int .u64 (hiW (-v)), .int .u64 (loW (-v))]] U fun e w' => e = .returned (.agg #[.int .i64 bo.qt, .int .u64 (hiW bo.co), .int .u64 (loW bo.co), .int .u64 (hiW bo.ga), .int .u64 (loW bo.ga)]) ∧ Hid (Below U.heap.size U w') from fun U => CBo.out U)
  refine reg_cut (X := Nat) (fun a t => (((((((((((((a.put (some 22) (.pointer (some ⟨G, 0, none⟩))).put (some 23) (.pointer (some ⟨R, 1, none⟩))).put (some 24) (.int .u32 bu)).put (some 25) (.pointer (some ⟨R, 0, none⟩))).put (some 26) (.int .u32 it)).put (some 27) (.agg #[.int .i64 pa.qt, .int .u64 (hiW pa.co), .int .u64 (loW pa.co), .int .u64 (hiW pa.ga), .int .u64 (loW pa.ga)])).put (some 28) (.pointer (some ⟨R, 5, none⟩))).put (some 29) (.int .u64 qt)).put (some 30) (.int .i64 qt)).put (some 31) (.agg #[.int .u64 (hiW v), .int .u64 (loW v)])).put (some 32) (.agg #[.int .u64 (hiW (-v)), .int .u64 (loW (-v))])).put (some 33) (.agg #[.int .i64 bo.qt, .int .u64 (hiW bo.co), .int .u64 (loW bo.co), .int .u64 (hiW bo.ga), .int .u64 (loW bo.ga)])).put (some 7) (.pointer (some ⟨t, 0, none⟩)))) (fun t V => Hid (Below X5.heap.size X5 V) ∧ Hid (V.heap[t]? = some (.cells #[.int .i64 bo.qt, .int .u64 (hiW bo.co), .int .u64 (loW bo.co), .int .u64 (hiW bo.ga), .int .u64 (loW bo.ga)] 55 (0, 0))) ∧ Hid (X5.heap.size ≤ t)) ?_ ?_
  · obtain ⟨V88, hV88⟩ : ∃ U, X5.drew = U := ⟨_, rfl⟩
    have BV88 := hid (show Below X5.heap.size X5 V88 from by rw [← hV88]; exact bdrew1 _)
    have r89 := hid (row_on GD.out BV88.out)
    have r90 := hid (row_on GV.out BV88.out)
    refine wp_region_held_drew (S := (fun U => U.cell? ⟨R, 0, none⟩ = some (.int .u32 it) ∧ U.cell? ⟨R, 1, none⟩ = some (.int .u32 bu) ∧ U.cell? ⟨R, 5, none⟩ = some (.int .u64 qt) ∧ U.cell? ⟨a6, 0, none⟩ = some (.int .u64 (hiW v)) ∧ U.cell? ⟨a6, 1, none⟩ = some (.int .u64 (loW v)))) (by kernel_rfl) ?_ (fun hHeld => ?_)
    · (try dsimp only); rw [hV88]; exact ⟨row_cell r89.out 0, row_cell r89.out 1, row_cell r89.out 5, row_cell r90.out 0, row_cell r90.out 1⟩
    rw [hV88] at hHeld ⊢
    clear hV88
    refine' wpAnyH_take (i := 0) (oi := _) (v := _) rfl (by kernel_rfl) (by kernel_rfl) (by kernel_rfl) (fun _ _ _ h => h) (Or.inl ⟨by kernel_rfl, ?_⟩) (by assumption) ?_
    rotate_left
    · (intro w hSw; (try dsimp only at hSw); go_simp; try (with_reducible rfl))
    try simp only [List.getElem_toArray, List.getElem_cons_succ, List.getElem_cons_zero, Act.put, List.setIfInBounds_toArray, List.set_cons_zero, List.set_cons_succ]
    refine' wpAnyH_take (i := 1) (oi := _) (v := _) rfl (by kernel_rfl) (by kernel_rfl) (by kernel_rfl) (fun _ _ _ h => h) (Or.inl ⟨by kernel_rfl, ?_⟩) (by assumption) ?_
    rotate_left
    · (intro w hSw; (try dsimp only at hSw); go_simp; try (with_reducible rfl))
    try simp only [List.getElem_toArray, List.getElem_cons_succ, List.getElem_cons_zero, Act.put, List.setIfInBounds_toArray, List.set_cons_zero, List.set_cons_succ]
    refine' wpAnyH_take (i := 2) (oi := _) (v := _) rfl (by kernel_rfl) (by kernel_rfl) (by kernel_rfl) (fun _ _ _ h => h) (Or.inl ⟨by kernel_rfl, ?_⟩) (by assumption) ?_
    rotate_left
    · (intro w hSw; (try dsimp only at hSw); go_simp; try (with_reducible rfl))
    try simp only [List.getElem_toArray, List.getElem_cons_succ, List.getElem_cons_zero, Act.put, List.setIfInBounds_toArray, List.set_cons_zero, List.set_cons_succ]
    refine' wpAnyH_take (i := 3) (oi := _) (v := _) rfl (by kernel_rfl) (by kernel_rfl) (by kernel_rfl) (fun _ _ _ h => h) (Or.inl ⟨by kernel_rfl, ?_⟩) (by assumption) ?_
    rotate_left
    · (intro w hSw; (try dsimp only at hSw); go_simp; try (with_reducible rfl))
    try simp only [List.getElem_toArray, List.getElem_cons_succ, List.getElem_cons_zero, Act.put, List.setIfInBounds_toArray, List.set_cons_zero, List.set_cons_succ]
    refine' wpAnyH_take (i := 4) (oi := _) (v := _) rfl (by kernel_rfl) (by kernel_rfl) (by kernel_rfl) (fun _ _ _ h => h) (Or.inl ⟨by kernel_rfl, ?_⟩) (by assumption) ?_
    rotate_left
    · (intro w hSw; (try dsimp only at hSw); go_simp; try (with_reducible rfl))
    try simp only [List.getElem_toArray, List.getElem_cons_succ, List.getElem_cons_zero, Act.put, List.setIfInBounds_toArray, List.set_cons_zero, List.set_cons_succ]
    refine' wpAnyH_take (i := 6) (oi := _) (v := _) rfl (by kernel_rfl) (by kernel_rfl) (by kernel_rfl) (fun _ _ _ h => h) (Or.inl ⟨by kernel_rfl, ?_⟩) (by assumption) ?_
    rotate_left
    · (intro w hSw; (try dsimp only at hSw); go_simp; try (with_reducible rfl))
    try simp only [List.getElem_toArray, List.getElem_cons_succ, List.getElem_cons_zero, Act.put, List.setIfInBounds_toArray, List.set_cons_zero, List.set_cons_succ]
    refine' wpAnyH_take (i := 7) (oi := _) (v := _) rfl (by kernel_rfl) (by kernel_rfl) (by kernel_rfl) (fun _ _ _ h => h) (Or.inl ⟨by kernel_rfl, ?_⟩) (by assumption) ?_
    rotate_left
    · (intro w hSw; (try dsimp only at hSw); go_simp; try (with_reducible rfl))
    try simp only [List.getElem_toArray, List.getElem_cons_succ, List.getElem_cons_zero, Act.put, List.setIfInBounds_toArray, List.set_cons_zero, List.set_cons_succ]
    refine' wpAnyH_take (i := 8) (oi := _) (v := _) rfl (by kernel_rfl) (by kernel_rfl) (by kernel_rfl) (fun _ _ _ h => h) (Or.inl ⟨by kernel_rfl, ?_⟩) (by assumption) ?_
    rotate_left
    · (intro w hSw; (try dsimp only at hSw); go_simp; try (with_reducible rfl))
    try simp only [List.getElem_toArray, List.getElem_cons_succ, List.getElem_cons_zero, Act.put, List.setIfInBounds_toArray, List.set_cons_zero, List.set_cons_succ]
    refine' wpAnyH_take (i := 9) (oi := _) (v := _) rfl (by kernel_rfl) (by kernel_rfl) (by kernel_rfl) (fun _ _ _ h => h) (Or.inl ⟨by kernel_rfl, ?_⟩) (by assumption) ?_
    rotate_left
    · (intro w hSw; (try dsimp only at hSw); go_simp; try (with_reducible rfl))
    try simp only [List.getElem_toArray, List.getElem_cons_succ, List.getElem_cons_zero, Act.put, List.setIfInBounds_toArray, List.set_cons_zero, List.set_cons_succ]
    refine wpAnyH_ready (rs := [5, 12]) (by kernel_rfl) (by simp) ?_
    refine (AllReadyH.cons (o := _) rfl (fun K hK => ?_) (AllReadyH.cons (o := _) rfl (fun K hK => ?_) AllReadyH.nil))
    · go_simp
      go_at_call 18
      with_reducible refine (CPb.out V88 (btr W5.out BV88.out)).mono ?_
      rintro e X91 ⟨rfl, DbX91⟩
      have r92 := hid (row_on r89.out DbX91.out)
      have r93 := hid (row_on r90.out DbX91.out)
      have DX91 := hid (btr BV88.out DbX91.out)
      have UX91 := hid (BV88.out.size)
      (try go_wp2_with fail)
      refine hK.out _ _ ?_ (fun hHeld => ?_)
      · (try dsimp only); exact ⟨row_cell r92.out 0, row_cell r92.out 1, row_cell r92.out 5, row_cell r93.out 0, row_cell r93.out 1⟩
      clear hK K
      try simp only [List.getElem_toArray, List.getElem_cons_succ, List.getElem_cons_zero, Act.put, List.setIfInBounds_toArray, List.set_cons_zero, List.set_cons_succ]
      refine wpAnyH_ready (rs := [10, 12]) (by kernel_rfl) (by simp) ?_
      refine (AllReadyH.cons (o := _) rfl (fun K hK => ?_) (AllReadyH.cons (o := _) rfl (fun K hK => ?_) AllReadyH.nil))
      · go_simp
        go_at_call 13
        with_reducible refine (CN.out X91).mono ?_
        rintro e X94 ⟨rfl, DbX94⟩
        have r95 := hid (row_on r92.out DbX94.out)
        have r96 := hid (row_on r93.out DbX94.out)
        have DX94 := hid (btr DX91.out DbX94.out)
        have UX94 := hid (DX91.out.size)
        (try go_wp2_with fail)
        refine hK.out _ _ ?_ (fun hHeld => ?_)
        · (try dsimp only); exact ⟨row_cell r95.out 0, row_cell r95.out 1, row_cell r95.out 5, row_cell r96.out 0, row_cell r96.out 1⟩
        clear hK K
        try simp only [List.getElem_toArray, List.getElem_cons_succ, List.getElem_cons_zero, Act.put, List.setIfInBounds_toArray, List.set_cons_zero, List.set_cons_succ]
        refine wpAnyH_ready (rs := [11, 12]) (by kernel_rfl) (by simp) ?_
        refine (AllReadyH.cons (o := _) rfl (fun K hK => ?_) (AllReadyH.cons (o := _) rfl (fun K hK => ?_) AllReadyH.nil))
        · go_simp
          go_at_call 29
          with_reducible refine (CBo2.out X94).mono ?_
          rintro e X97 ⟨rfl, DbX97⟩
          have r98 := hid (row_on r95.out DbX97.out)
          have r99 := hid (row_on r96.out DbX97.out)
          have DX97 := hid (btr DX94.out DbX97.out)
          have UX97 := hid (DX94.out.size)
          (try go_wp2_with fail)
          refine hK.out _ _ ?_ (fun hHeld => ?_)
          · (try dsimp only); exact ⟨row_cell r98.out 0, row_cell r98.out 1, row_cell r98.out 5, row_cell r99.out 0, row_cell r99.out 1⟩
          clear hK K
          try simp only [List.getElem_toArray, List.getElem_cons_succ, List.getElem_cons_zero, Act.put, List.setIfInBounds_toArray, List.set_cons_zero, List.set_cons_succ]
          refine wpAnyH_ready (rs := [12]) (by kernel_rfl) (by simp) ?_
          refine (AllReadyH.cons (o := _) rfl (fun K hK => ?_) AllReadyH.nil)
          go_simp
          obtain ⟨X100, hX100⟩ : ∃ X, X97.alloc (.cells #[.int .i64 0, .int .u64 0, .int .u64 0, .int .u64 0, .int .u64 0] 55) = X := ⟨_, rfl⟩
          have bX100 : Below X97.heap.size X97 X100 := by rw [← hX100]; exact ball _ _
          have r102 := hid (row_on r98.out bX100)
          have r103 := hid (row_on r99.out bX100)
          have DX100 := hid (btr DX97.out bX100)
          have zX100 : X100.heap[X97.heap.size]? = some (.cells #[.int .i64 0, .int .u64 0, .int .u64 0, .int .u64 0, .int .u64 0] 55 (0, 0)) := by rw [← hX100]; exact World.alloc_heap_new _ _
          have yg101 := DX97.out.size
          obtain ⟨g101, hg101⟩ : ∃ g, X97.heap.size = g := ⟨_, rfl⟩
          have n104 : g101 ≠ R := by have := row_lt r98.out; omega
          have n105 : g101 ≠ a6 := by have := row_lt r99.out; omega
          rw [hg101] at zX100 yg101
          have ZX100 := hid zX100
          rw [hX100, hg101]
          clear hX100 hg101 zX100 bX100
          refine hK.out _ _ ?_ (fun hHeld => ?_)
          · (try dsimp only); exact ⟨row_cell r102.out 0, row_cell r102.out 1, row_cell r102.out 5, row_cell r103.out 0, row_cell r103.out 1⟩
          clear hK K
          try simp only [List.getElem_toArray, List.getElem_cons_succ, List.getElem_cons_zero, Act.put, List.setIfInBounds_toArray, List.set_cons_zero, List.set_cons_succ]
          refine wpAnyH_ready (rs := [13]) (by kernel_rfl) (by simp) ?_
          refine (AllReadyH.cons (o := _) rfl (fun K hK => ?_) AllReadyH.nil)
          refine step_store_row (by rfl) 55 (.tmp 7) (.tmp 33) (by rfl) g101 #[.int .i64 bo.qt, .int .u64 (hiW bo.co), .int .u64 (loW bo.co), .int .u64 (hiW bo.ga), .int .u64 (loW bo.ga)] (by rfl) (by rfl) 55 _ ZX100.out infoPo5 (by rfl) (by simp [Value.oneCell']) ?_
          obtain ⟨Y106, hY106⟩ : ∃ Y, X100.setRow g101 #[.int .i64 bo.qt, .int .u64 (hiW bo.co), .int .u64 (loW bo.co), .int .u64 (hiW bo.ga), .int .u64 (loW bo.ga)] = Y := ⟨_, rfl⟩
          have KY106 := hid (show Kp (fun j => j = g101) X100 Y106 from by rw [← hY106]; exact setRow_kp _ _ _)
          have AY106 := hid (show Y106.heap[g101]? = some (.cells #[.int .i64 bo.qt, .int .u64 (hiW bo.co), .int .u64 (loW bo.co), .int .u64 (hiW bo.ga), .int .u64 (loW bo.ga)] 55 (0, 0)) from by rw [← hY106]; exact setRow_heap X100 g101 _ _ 55 (0, 0) ZX100.out)
          have DY106 := hid (show Below X5.heap.size X5 Y106 from by rw [← hY106]; exact setRow_below DX100.out yg101)
          have r107 := hid (KY106.out.row r102.out (fun e => n104.symm e))
          have r108 := hid (KY106.out.row r103.out (fun e => n105.symm e))
          rw [hY106]
          refine hK.out _ _ ?_ (fun hHeld => ?_)
          · (try dsimp only); exact ⟨row_cell r107.out 0, row_cell r107.out 1, row_cell r107.out 5, row_cell r108.out 0, row_cell r108.out 1⟩
          clear hK K hY106
          try simp only [List.getElem_toArray, List.getElem_cons_succ, List.getElem_cons_zero, Act.put, List.setIfInBounds_toArray, List.set_cons_zero, List.set_cons_succ]
          refine wpAnyH_done (by kernel_rfl) ?_ _
          exact ⟨g101, by kernel_rfl, DY106, AY106, yg101⟩
        · go_simp
          obtain ⟨X109, hX109⟩ : ∃ X, X94.alloc (.cells #[.int .i64 0, .int .u64 0, .int .u64 0, .int .u64 0, .int .u64 0] 55) = X := ⟨_, rfl⟩
          have bX109 : Below X94.heap.size X94 X109 := by rw [← hX109]; exact ball _ _
          have r111 := hid (row_on r95.out bX109)
          have r112 := hid (row_on r96.out bX109)
          have DX109 := hid (btr DX94.out bX109)
          have zX109 : X109.heap[X94.heap.size]? = some (.cells #[.int .i64 0, .int .u64 0, .int .u64 0, .int .u64 0, .int .u64 0] 55 (0, 0)) := by rw [← hX109]; exact World.alloc_heap_new _ _
          have yg110 := DX94.out.size
          obtain ⟨g110, hg110⟩ : ∃ g, X94.heap.size = g := ⟨_, rfl⟩
          have n113 : g110 ≠ R := by have := row_lt r95.out; omega
          have n114 : g110 ≠ a6 := by have := row_lt r96.out; omega
          rw [hg110] at zX109 yg110
          have ZX109 := hid zX109
          rw [hX109, hg110]
          clear hX109 hg110 zX109 bX109
          refine hK.out _ _ ?_ (fun hHeld => ?_)
          · (try dsimp only); exact ⟨row_cell r111.out 0, row_cell r111.out 1, row_cell r111.out 5, row_cell r112.out 0, row_cell r112.out 1⟩
          clear hK K
          try simp only [List.getElem_toArray, List.getElem_cons_succ, List.getElem_cons_zero, Act.put, List.setIfInBounds_toArray, List.set_cons_zero, List.set_cons_succ]
          refine wpAnyH_ready (rs := [11]) (by kernel_rfl) (by simp) ?_
          refine (AllReadyH.cons (o := _) rfl (fun K hK => ?_) AllReadyH.nil)
          go_simp
          go_at_call 29
          with_reducible refine (CBo2.out X109).mono ?_
          rintro e X115 ⟨rfl, DbX115⟩
          have r116 := hid (row_on r111.out DbX115.out)
          have r117 := hid (row_on r112.out DbX115.out)
          have r118 := hid (row_on ZX109.out DbX115.out)
          have DX115 := hid (btr DX109.out DbX115.out)
          have UX115 := hid (DX109.out.size)
          (try go_wp2_with fail)
          refine hK.out _ _ ?_ (fun hHeld => ?_)
          · (try dsimp only); exact ⟨row_cell r116.out 0, row_cell r116.out 1, row_cell r116.out 5, row_cell r117.out 0, row_cell r117.out 1⟩
          clear hK K
          try simp only [List.getElem_toArray, List.getElem_cons_succ, List.getElem_cons_zero, Act.put, List.setIfInBounds_toArray, List.set_cons_zero, List.set_cons_succ]
          refine wpAnyH_ready (rs := [13]) (by kernel_rfl) (by simp) ?_
          refine (AllReadyH.cons (o := _) rfl (fun K hK => ?_) AllReadyH.nil)
          refine step_store_row (by rfl) 55 (.tmp 7) (.tmp 33) (by rfl) g110 #[.int .i64 bo.qt, .int .u64 (hiW bo.co), .int .u64 (loW bo.co), .int .u64 (hiW bo.ga), .int .u64 (loW bo.ga)] (by rfl) (by rfl) 55 _ r118.out infoPo5 (by rfl) (by simp [Value.oneCell']) ?_
          obtain ⟨Y119, hY119⟩ : ∃ Y, X115.setRow g110 #[.int .i64 bo.qt, .int .u64 (hiW bo.co), .int .u64 (loW bo.co), .int .u64 (hiW bo.ga), .int .u64 (loW bo.ga)] = Y := ⟨_, rfl⟩
          have KY119 := hid (show Kp (fun j => j = g110) X115 Y119 from by rw [← hY119]; exact setRow_kp _ _ _)
          have AY119 := hid (show Y119.heap[g110]? = some (.cells #[.int .i64 bo.qt, .int .u64 (hiW bo.co), .int .u64 (loW bo.co), .int .u64 (hiW bo.ga), .int .u64 (loW bo.ga)] 55 (0, 0)) from by rw [← hY119]; exact setRow_heap X115 g110 _ _ 55 (0, 0) r118.out)
          have DY119 := hid (show Below X5.heap.size X5 Y119 from by rw [← hY119]; exact setRow_below DX115.out yg110)
          have r120 := hid (KY119.out.row r116.out (fun e => n113.symm e))
          have r121 := hid (KY119.out.row r117.out (fun e => n114.symm e))
          rw [hY119]
          refine hK.out _ _ ?_ (fun hHeld => ?_)
          · (try dsimp only); exact ⟨row_cell r120.out 0, row_cell r120.out 1, row_cell r120.out 5, row_cell r121.out 0, row_cell r121.out 1⟩
          clear hK K hY119
          try simp only [List.getElem_toArray, List.getElem_cons_succ, List.getElem_cons_zero, Act.put, List.setIfInBounds_toArray, List.set_cons_zero, List.set_cons_succ]
          refine wpAnyH_done (by kernel_rfl) ?_ _
          exact ⟨g110, by kernel_rfl, DY119, AY119, yg110⟩
      · go_simp
        obtain ⟨X122, hX122⟩ : ∃ X, X91.alloc (.cells #[.int .i64 0, .int .u64 0, .int .u64 0, .int .u64 0, .int .u64 0] 55) = X := ⟨_, rfl⟩
        have bX122 : Below X91.heap.size X91 X122 := by rw [← hX122]; exact ball _ _
        have r124 := hid (row_on r92.out bX122)
        have r125 := hid (row_on r93.out bX122)
        have DX122 := hid (btr DX91.out bX122)
        have zX122 : X122.heap[X91.heap.size]? = some (.cells #[.int .i64 0, .int .u64 0, .int .u64 0, .int .u64 0, .int .u64 0] 55 (0, 0)) := by rw [← hX122]; exact World.alloc_heap_new _ _
        have yg123 := DX91.out.size
        obtain ⟨g123, hg123⟩ : ∃ g, X91.heap.size = g := ⟨_, rfl⟩
        have n126 : g123 ≠ R := by have := row_lt r92.out; omega
        have n127 : g123 ≠ a6 := by have := row_lt r93.out; omega
        rw [hg123] at zX122 yg123
        have ZX122 := hid zX122
        rw [hX122, hg123]
        clear hX122 hg123 zX122 bX122
        refine hK.out _ _ ?_ (fun hHeld => ?_)
        · (try dsimp only); exact ⟨row_cell r124.out 0, row_cell r124.out 1, row_cell r124.out 5, row_cell r125.out 0, row_cell r125.out 1⟩
        clear hK K
        try simp only [List.getElem_toArray, List.getElem_cons_succ, List.getElem_cons_zero, Act.put, List.setIfInBounds_toArray, List.set_cons_zero, List.set_cons_succ]
        refine wpAnyH_ready (rs := [10]) (by kernel_rfl) (by simp) ?_
        refine (AllReadyH.cons (o := _) rfl (fun K hK => ?_) AllReadyH.nil)
        go_simp
        go_at_call 13
        with_reducible refine (CN.out X122).mono ?_
        rintro e X128 ⟨rfl, DbX128⟩
        have r129 := hid (row_on r124.out DbX128.out)
        have r130 := hid (row_on r125.out DbX128.out)
        have r131 := hid (row_on ZX122.out DbX128.out)
        have DX128 := hid (btr DX122.out DbX128.out)
        have UX128 := hid (DX122.out.size)
        (try go_wp2_with fail)
        refine hK.out _ _ ?_ (fun hHeld => ?_)
        · (try dsimp only); exact ⟨row_cell r129.out 0, row_cell r129.out 1, row_cell r129.out 5, row_cell r130.out 0, row_cell r130.out 1⟩
        clear hK K
        try simp only [List.getElem_toArray, List.getElem_cons_succ, List.getElem_cons_zero, Act.put, List.setIfInBounds_toArray, List.set_cons_zero, List.set_cons_succ]
        refine wpAnyH_ready (rs := [11]) (by kernel_rfl) (by simp) ?_
        refine (AllReadyH.cons (o := _) rfl (fun K hK => ?_) AllReadyH.nil)
        go_simp
        go_at_call 29
        with_reducible refine (CBo2.out X128).mono ?_
        rintro e X132 ⟨rfl, DbX132⟩
        have r133 := hid (row_on r129.out DbX132.out)
        have r134 := hid (row_on r130.out DbX132.out)
        have r135 := hid (row_on r131.out DbX132.out)
        have DX132 := hid (btr DX128.out DbX132.out)
        have UX132 := hid (DX128.out.size)
        (try go_wp2_with fail)
        refine hK.out _ _ ?_ (fun hHeld => ?_)
        · (try dsimp only); exact ⟨row_cell r133.out 0, row_cell r133.out 1, row_cell r133.out 5, row_cell r134.out 0, row_cell r134.out 1⟩
        clear hK K
        try simp only [List.getElem_toArray, List.getElem_cons_succ, List.getElem_cons_zero, Act.put, List.setIfInBounds_toArray, List.set_cons_zero, List.set_cons_succ]
        refine wpAnyH_ready (rs := [13]) (by kernel_rfl) (by simp) ?_
        refine (AllReadyH.cons (o := _) rfl (fun K hK => ?_) AllReadyH.nil)
        refine step_store_row (by rfl) 55 (.tmp 7) (.tmp 33) (by rfl) g123 #[.int .i64 bo.qt, .int .u64 (hiW bo.co), .int .u64 (loW bo.co), .int .u64 (hiW bo.ga), .int .u64 (loW bo.ga)] (by rfl) (by rfl) 55 _ r135.out infoPo5 (by rfl) (by simp [Value.oneCell']) ?_
        obtain ⟨Y136, hY136⟩ : ∃ Y, X132.setRow g123 #[.int .i64 bo.qt, .int .u64 (hiW bo.co), .int .u64 (loW bo.co), .int .u64 (hiW bo.ga), .int .u64 (loW bo.ga)] = Y := ⟨_, rfl⟩
        have KY136 := hid (show Kp (fun j => j = g123) X132 Y136 from by rw [← hY136]; exact setRow_kp _ _ _)
        have AY136 := hid (show Y136.heap[g123]? = some (.cells #[.int .i64 bo.qt, .int .u64 (hiW bo.co), .int .u64 (loW bo.co), .int .u64 (hiW bo.ga), .int .u64 (loW bo.ga)] 55 (0, 0)) from by rw [← hY136]; exact setRow_heap X132 g123 _ _ 55 (0, 0) r135.out)
        have DY136 := hid (show Below X5.heap.size X5 Y136 from by rw [← hY136]; exact setRow_below DX132.out yg123)
        have r137 := hid (KY136.out.row r133.out (fun e => n126.symm e))
        have r138 := hid (KY136.out.row r134.out (fun e => n127.symm e))
        rw [hY136]
        refine hK.out _ _ ?_ (fun hHeld => ?_)
        · (try dsimp only); exact ⟨row_cell r137.out 0, row_cell r137.out 1, row_cell r137.out 5, row_cell r138.out 0, row_cell r138.out 1⟩
        clear hK K hY136
        try simp only [List.getElem_toArray, List.getElem_cons_succ, List.getElem_cons_zero, Act.put, List.setIfInBounds_toArray, List.set_cons_zero, List.set_cons_succ]
        refine wpAnyH_done (by kernel_rfl) ?_ _
        exact ⟨g123, by kernel_rfl, DY136, AY136, yg123⟩
    · go_simp
      obtain ⟨X139, hX139⟩ : ∃ X, V88.alloc (.cells #[.int .i64 0, .int .u64 0, .int .u64 0, .int .u64 0, .int .u64 0] 55) = X := ⟨_, rfl⟩
      have bX139 : Below V88.heap.size V88 X139 := by rw [← hX139]; exact ball _ _
      have r141 := hid (row_on r89.out bX139)
      have r142 := hid (row_on r90.out bX139)
      have DX139 := hid (btr BV88.out bX139)
      have zX139 : X139.heap[V88.heap.size]? = some (.cells #[.int .i64 0, .int .u64 0, .int .u64 0, .int .u64 0, .int .u64 0] 55 (0, 0)) := by rw [← hX139]; exact World.alloc_heap_new _ _
      have yg140 := BV88.out.size
      obtain ⟨g140, hg140⟩ : ∃ g, V88.heap.size = g := ⟨_, rfl⟩
      have n143 : g140 ≠ R := by have := row_lt r89.out; omega
      have n144 : g140 ≠ a6 := by have := row_lt r90.out; omega
      rw [hg140] at zX139 yg140
      have ZX139 := hid zX139
      rw [hX139, hg140]
      clear hX139 hg140 zX139 bX139
      refine hK.out _ _ ?_ (fun hHeld => ?_)
      · (try dsimp only); exact ⟨row_cell r141.out 0, row_cell r141.out 1, row_cell r141.out 5, row_cell r142.out 0, row_cell r142.out 1⟩
      clear hK K
      try simp only [List.getElem_toArray, List.getElem_cons_succ, List.getElem_cons_zero, Act.put, List.setIfInBounds_toArray, List.set_cons_zero, List.set_cons_succ]
      refine wpAnyH_ready (rs := [5]) (by kernel_rfl) (by simp) ?_
      refine (AllReadyH.cons (o := _) rfl (fun K hK => ?_) AllReadyH.nil)
      go_simp
      go_at_call 18
      with_reducible refine (CPb.out X139 (btr W5.out DX139.out)).mono ?_
      rintro e X145 ⟨rfl, DbX145⟩
      have r146 := hid (row_on r141.out DbX145.out)
      have r147 := hid (row_on r142.out DbX145.out)
      have r148 := hid (row_on ZX139.out DbX145.out)
      have DX145 := hid (btr DX139.out DbX145.out)
      have UX145 := hid (DX139.out.size)
      (try go_wp2_with fail)
      refine hK.out _ _ ?_ (fun hHeld => ?_)
      · (try dsimp only); exact ⟨row_cell r146.out 0, row_cell r146.out 1, row_cell r146.out 5, row_cell r147.out 0, row_cell r147.out 1⟩
      clear hK K
      try simp only [List.getElem_toArray, List.getElem_cons_succ, List.getElem_cons_zero, Act.put, List.setIfInBounds_toArray, List.set_cons_zero, List.set_cons_succ]
      refine wpAnyH_ready (rs := [10]) (by kernel_rfl) (by simp) ?_
      refine (AllReadyH.cons (o := _) rfl (fun K hK => ?_) AllReadyH.nil)
      go_simp
      go_at_call 13
      with_reducible refine (CN.out X145).mono ?_
      rintro e X149 ⟨rfl, DbX149⟩
      have r150 := hid (row_on r146.out DbX149.out)
      have r151 := hid (row_on r147.out DbX149.out)
      have r152 := hid (row_on r148.out DbX149.out)
      have DX149 := hid (btr DX145.out DbX149.out)
      have UX149 := hid (DX145.out.size)
      (try go_wp2_with fail)
      refine hK.out _ _ ?_ (fun hHeld => ?_)
      · (try dsimp only); exact ⟨row_cell r150.out 0, row_cell r150.out 1, row_cell r150.out 5, row_cell r151.out 0, row_cell r151.out 1⟩
      clear hK K
      try simp only [List.getElem_toArray, List.getElem_cons_succ, List.getElem_cons_zero, Act.put, List.setIfInBounds_toArray, List.set_cons_zero, List.set_cons_succ]
      refine wpAnyH_ready (rs := [11]) (by kernel_rfl) (by simp) ?_
      refine (AllReadyH.cons (o := _) rfl (fun K hK => ?_) AllReadyH.nil)
      go_simp
      go_at_call 29
      with_reducible refine (CBo2.out X149).mono ?_
      rintro e X153 ⟨rfl, DbX153⟩
      have r154 := hid (row_on r150.out DbX153.out)
      have r155 := hid (row_on r151.out DbX153.out)
      have r156 := hid (row_on r152.out DbX153.out)
      have DX153 := hid (btr DX149.out DbX153.out)
      have UX153 := hid (DX149.out.size)
      (try go_wp2_with fail)
      refine hK.out _ _ ?_ (fun hHeld => ?_)
      · (try dsimp only); exact ⟨row_cell r154.out 0, row_cell r154.out 1, row_cell r154.out 5, row_cell r155.out 0, row_cell r155.out 1⟩
      clear hK K
      try simp only [List.getElem_toArray, List.getElem_cons_succ, List.getElem_cons_zero, Act.put, List.setIfInBounds_toArray, List.set_cons_zero, List.set_cons_succ]
      refine wpAnyH_ready (rs := [13]) (by kernel_rfl) (by simp) ?_
      refine (AllReadyH.cons (o := _) rfl (fun K hK => ?_) AllReadyH.nil)
      refine step_store_row (by rfl) 55 (.tmp 7) (.tmp 33) (by rfl) g140 #[.int .i64 bo.qt, .int .u64 (hiW bo.co), .int .u64 (loW bo.co), .int .u64 (hiW bo.ga), .int .u64 (loW bo.ga)] (by rfl) (by rfl) 55 _ r156.out infoPo5 (by rfl) (by simp [Value.oneCell']) ?_
      obtain ⟨Y157, hY157⟩ : ∃ Y, X153.setRow g140 #[.int .i64 bo.qt, .int .u64 (hiW bo.co), .int .u64 (loW bo.co), .int .u64 (hiW bo.ga), .int .u64 (loW bo.ga)] = Y := ⟨_, rfl⟩
      have KY157 := hid (show Kp (fun j => j = g140) X153 Y157 from by rw [← hY157]; exact setRow_kp _ _ _)
      have AY157 := hid (show Y157.heap[g140]? = some (.cells #[.int .i64 bo.qt, .int .u64 (hiW bo.co), .int .u64 (loW bo.co), .int .u64 (hiW bo.ga), .int .u64 (loW bo.ga)] 55 (0, 0)) from by rw [← hY157]; exact setRow_heap X153 g140 _ _ 55 (0, 0) r156.out)
      have DY157 := hid (show Below X5.heap.size X5 Y157 from by rw [← hY157]; exact setRow_below DX153.out yg140)
      have r158 := hid (KY157.out.row r154.out (fun e => n143.symm e))
      have r159 := hid (KY157.out.row r155.out (fun e => n144.symm e))
      rw [hY157]
      refine hK.out _ _ ?_ (fun hHeld => ?_)
      · (try dsimp only); exact ⟨row_cell r158.out 0, row_cell r158.out 1, row_cell r158.out 5, row_cell r159.out 0, row_cell r159.out 1⟩
      clear hK K hY157
      try simp only [List.getElem_toArray, List.getElem_cons_succ, List.getElem_cons_zero, Act.put, List.setIfInBounds_toArray, List.set_cons_zero, List.set_cons_succ]
      refine wpAnyH_done (by kernel_rfl) ?_ _
      exact ⟨g140, by kernel_rfl, DY157, AY157, yg140⟩
  rintro t7 V5 ⟨B5, GB, N7⟩
  try simp only [List.getElem_toArray, List.getElem_cons_succ, List.getElem_cons_zero, Act.put, List.setIfInBounds_toArray, List.set_cons_zero, List.set_cons_succ]
  have W6 := hid (btr W5.out B5.out)
  have GD6 := hid (row_on GD.out B5.out)
  have GV6 := hid (row_on GV.out B5.out)
  have M7 := hid (show w.heap.size ≤ t7 from Nat.le_trans W5.out.size N7.out)
  clear GD GV N7
  go_upto_region 6 with fail
  have f0 := row_cell GD6.out 0
  have f2 := row_cell GD6.out 2
  simp only [List.getElem?_toArray, List.getElem?_cons_succ, List.getElem?_cons_zero] at f0 f2
  go_upto_region 7 with (first | (go_at_call 18; with_reducible refine (CPs.out V5 W6.out).mono ?_; rintro e w7 ⟨rfl, hb⟩; have HB7 := hid hb.out; have HZ7 := hid (World.alloc_heap_new w7 (.cells #[.int .i64 0, .int .u64 0, .int .u64 0, .int .u64 0, .int .u64 0] 55)); clear hb) | (refine wpList_store_row (by rfl) 55 (.tmp 8) (.tmp 39) (by rfl) w7.heap.size #[.int .i64 pb.qt, .int .u64 (hiW pb.co), .int .u64 (loW pb.co), .int .u64 (hiW pb.ga), .int .u64 (loW pb.ga)] (by rfl) (by rfl) 55 _ HZ7.out infoPo5 (by rfl) (by simp [Value.oneCell']) ?_))
  obtain ⟨X7, hX7⟩ : ∃ X, (w7.alloc (.cells #[.int .i64 0, .int .u64 0, .int .u64 0, .int .u64 0, .int .u64 0] 55)).setRow w7.heap.size #[.int .i64 pb.qt, .int .u64 (hiW pb.co), .int .u64 (loW pb.co), .int .u64 (hiW pb.ga), .int .u64 (loW pb.ga)] = X := ⟨_, rfl⟩
  have GP := hid (show X7.heap[w7.heap.size]? = some (.cells #[.int .i64 pb.qt, .int .u64 (hiW pb.co), .int .u64 (loW pb.co), .int .u64 (hiW pb.ga), .int .u64 (loW pb.ga)] 55 (0, 0)) from by rw [← hX7]; exact setRow_heap _ _ _ _ 55 (0, 0) HZ7.out)
  have BX7 := hid (show Below w7.heap.size w7 X7 from by rw [← hX7]; exact setRow_below (ball _ _) (Nat.le_refl _))
  rw [hX7]
  obtain ⟨t8, ht8⟩ : ∃ t, w7.heap.size = t := ⟨_, rfl⟩
  rw [ht8] at GP ⊢
  have BV7 := hid (btr HB7.out BX7.out)
  have W7 := hid (btr W6.out BV7.out)
  have GD7 := hid (row_on GD6.out BV7.out)
  have GV7 := hid (row_on GV6.out BV7.out)
  have GB7 := hid (row_on GB.out BV7.out)
  have N78 : t8 ≠ t7 := by have h1 := row_lt GB.out; have h2 := HB7.out.size; omega
  have N7D : t8 ≠ R := by have h1 := row_lt GD6.out; have h2 := HB7.out.size; omega
  have N7V : t8 ≠ a6 := by have h1 := row_lt GV6.out; have h2 := HB7.out.size; omega
  have NN8 := hid (show w.heap.size ≤ t8 from by have := W6.out.size; have := HB7.out.size; omega)
  have HN78 := hid N78
  have HN7D := hid N7D
  have HN7V := hid N7V
  clear hX7 HZ7 ht8 f0 f2 GD6 GV6 GB N78 N7D N7V
  have f1 := row_cell GD7.out 1
  have f2 := row_cell GD7.out 2
  simp only [List.getElem?_toArray, List.getElem?_cons_succ, List.getElem?_cons_zero] at f1 f2
  go_upto_region 9 with fail
  clear f1 f2
  obtain ⟨X8, hX8⟩ : ∃ X, X7 = X := ⟨_, rfl⟩
  rw [hX8] at GP GD7 GV7 GB7 W7 ⊢
  have GP8 := hid GP.out
  have GD8 := hid GD7.out
  have GV8 := hid GV7.out
  have GB8 := hid GB7.out
  have W8 := hid W7.out
  clear hX8
  have p0 := row_cell GP8.out 0
  have p1 := row_cell GP8.out 1
  have p2 := row_cell GP8.out 2
  have p3 := row_cell GP8.out 3
  have p4 := row_cell GP8.out 4
  simp only [List.getElem?_toArray, List.getElem?_cons_succ, List.getElem?_cons_zero] at p0 p1 p2 p3 p4
  have f5 := row_cell GD8.out 5
  simp only [List.getElem?_toArray, List.getElem?_cons_succ, List.getElem?_cons_zero] at f5
  have v0 := row_cell GV8.out 0
  have v1 := row_cell GV8.out 1
  simp only [List.getElem?_toArray, List.getElem?_cons_succ, List.getElem?_cons_zero] at v0 v1
  have CSo2 := hid (show ∀ U, Calls Try.prog 29 #[.agg #[.int .i64 pb.qt, .int .u64 (hiW pb.co), .int .u64 (loW pb.co), .int .u64 (hiW pb.ga), .int .u64 (loW pb.ga)], .int .i64 (-qt), .agg #[.int .u64 (hiW v), .int .u64 (loW v)]] U fun e w' => e = .returned (.agg #[.int .i64 so.qt, .int .u64 (hiW so.co), .int .u64 (loW so.co), .int .u64 (hiW so.ga), .int .u64 (loW so.ga)]) ∧ Hid (Below U.heap.size U w') from fun U => CSo.out U)
  go_upto_region 10 with (first | (go_at_call 29; with_reducible refine (CSo2.out _).mono ?_; rintro e w9 ⟨rfl, hb⟩; have HB9 := hid hb.out; have HZ9 := hid (World.alloc_heap_new w9 (.cells #[.int .i64 0, .int .u64 0, .int .u64 0, .int .u64 0, .int .u64 0] 55)); clear hb) | (refine wpList_store_row (by rfl) 55 (.tmp 9) (.tmp 52) (by rfl) w9.heap.size #[.int .i64 so.qt, .int .u64 (hiW so.co), .int .u64 (loW so.co), .int .u64 (hiW so.ga), .int .u64 (loW so.ga)] (by rfl) (by rfl) 55 _ HZ9.out infoPo5 (by rfl) (by simp [Value.oneCell']) ?_))
  obtain ⟨X9, hX9⟩ : ∃ X, (w9.alloc (.cells #[.int .i64 0, .int .u64 0, .int .u64 0, .int .u64 0, .int .u64 0] 55)).setRow w9.heap.size #[.int .i64 so.qt, .int .u64 (hiW so.co), .int .u64 (loW so.co), .int .u64 (hiW so.ga), .int .u64 (loW so.ga)] = X := ⟨_, rfl⟩
  have GS := hid (show X9.heap[w9.heap.size]? = some (.cells #[.int .i64 so.qt, .int .u64 (hiW so.co), .int .u64 (loW so.co), .int .u64 (hiW so.ga), .int .u64 (loW so.ga)] 55 (0, 0)) from by rw [← hX9]; exact setRow_heap _ _ _ _ 55 (0, 0) HZ9.out)
  have BX9 := hid (show Below w9.heap.size w9 X9 from by rw [← hX9]; exact setRow_below (ball _ _) (Nat.le_refl _))
  rw [hX9]
  obtain ⟨t9, ht9⟩ : ∃ t, w9.heap.size = t := ⟨_, rfl⟩
  rw [ht9] at GS ⊢
  have BV9 := hid (btr HB9.out BX9.out)
  have W9 := hid (btr W8.out BV9.out)
  have GD9 := hid (row_on GD8.out BV9.out)
  have GV9 := hid (row_on GV8.out BV9.out)
  have GB9 := hid (row_on GB8.out BV9.out)
  have M9 := hid (show w.heap.size ≤ t9 from by have := W8.out.size; have := HB9.out.size; omega)
  clear hX9 HZ9 ht9 p0 p1 p2 p3 p4 f5 v0 v1
  have b0 := row_cell GB9.out 0
  simp only [List.getElem?_toArray, List.getElem?_cons_succ, List.getElem?_cons_zero] at b0
  have c0 := row_cell GS.out 0
  simp only [List.getElem?_toArray, List.getElem?_cons_succ, List.getElem?_cons_zero] at c0
  by_cases hov : 4294967295 < absI bo.qt
  · have hoa : decide (4294967295 < absI bo.qt) = true := by simpa using hov
    have HV1 := hid hov
    clear hov
    go_wp2_with (first | (go_at_call 30; with_reducible refine (CZb.out _).mono ?_; rintro e w10 ⟨rfl, rfl⟩) | (go_at_call 30; with_reducible refine (CZs.out _).mono ?_; rintro e w11 ⟨rfl, rfl⟩))
    go_ret
    exact .inl ⟨.inl HV1.out, rfl, W9.out⟩
  have hoa : decide (4294967295 < absI bo.qt) = false := by simpa using hov
  have HO1 := hid (show absI bo.qt ≤ 4294967295 from by omega)
  clear hov
  by_cases hov : 4294967295 < absI so.qt
  · have hob : decide (4294967295 < absI so.qt) = true := by simpa using hov
    have HV1 := hid hov
    clear hov
    go_wp2_with (first | (go_at_call 30; with_reducible refine (CZb.out _).mono ?_; rintro e w10 ⟨rfl, rfl⟩) | (go_at_call 30; with_reducible refine (CZs.out _).mono ?_; rintro e w11 ⟨rfl, rfl⟩))
    go_ret
    exact .inl ⟨.inr HV1.out, rfl, W9.out⟩
  have hob : decide (4294967295 < absI so.qt) = false := by simpa using hov
  have HO2 := hid (show absI so.qt ≤ 4294967295 from by omega)
  clear hov
  go_upto_region 12 with (first | (go_at_call 30; with_reducible refine (CZb.out _).mono ?_; rintro e w10 ⟨rfl, h10⟩; have h10 := h10.symm; subst h10) | (go_at_call 30; with_reducible refine (CZs.out _).mono ?_; rintro e w11 ⟨rfl, h11⟩; have h11 := h11.symm; subst h11))
  clear b0 c0
  have CC := hid (show ∀ U m, Calls Try.prog 32 #[.int .u32 m] U fun e w' => e = .returned (.agg #[.int .u32 m, .int .i64 1]) ∧ Hid (Below U.heap.size U w') from fun U m => cash_any m U)
  have L9 := hid (HL.out.on W9.out)
  have HLW := hid HLT.out
  obtain ⟨V160, hV160⟩ : ∃ U, X9.drew = U := ⟨_, rfl⟩
  have BV160 := hid (show Below X9.heap.size X9 V160 from by rw [← hV160]; exact bdrew1 _)
  have r161 := hid (row_on GD9.out BV160.out)
  have r162 := hid (row_on GV9.out BV160.out)
  have r163 := hid (row_on GB9.out BV160.out)
  have r164 := hid (row_on GS.out BV160.out)
  refine wp_region_held_drew (S := fun U => U.cell? ⟨R, 1, none⟩ = some (.int .u32 bu) ∧ U.cell? ⟨R, 2, none⟩ = some (.int .u32 se) ∧ U.cell? ⟨a6, 0, none⟩ = some (.int .u64 (hiW v)) ∧ U.cell? ⟨a6, 1, none⟩ = some (.int .u64 (loW v))) (by kernel_rfl) ?_ (fun hHeld => ?_)
  · (try dsimp only); rw [hV160]; exact ⟨row_cell r161.out 1, row_cell r161.out 2, row_cell r162.out 0, row_cell r162.out 1⟩
  rw [hV160] at hHeld ⊢
  clear hV160
  refine' wpAnyH_take (i := 0) (oi := _) (v := _) rfl (by kernel_rfl) (by kernel_rfl) (by kernel_rfl) (fun _ _ _ h => h) (Or.inl ⟨by kernel_rfl, ?_⟩) (by assumption) ?_
  rotate_left
  · (intro w hSw; (try dsimp only at hSw); go_simp; try (with_reducible rfl))
  try simp only [List.getElem_toArray, List.getElem_cons_succ, List.getElem_cons_zero, Act.put, List.setIfInBounds_toArray, List.set_cons_zero, List.set_cons_succ]
  refine' wpAnyH_take (i := 1) (oi := _) (v := _) rfl (by kernel_rfl) (by kernel_rfl) (by kernel_rfl) (fun _ _ _ h => h) (Or.inl ⟨by kernel_rfl, ?_⟩) (by assumption) ?_
  rotate_left
  · (intro w hSw; (try dsimp only at hSw); go_simp; try (with_reducible rfl))
  try simp only [List.getElem_toArray, List.getElem_cons_succ, List.getElem_cons_zero, Act.put, List.setIfInBounds_toArray, List.set_cons_zero, List.set_cons_succ]
  refine' wpAnyH_take (i := 2) (oi := _) (v := _) rfl (by kernel_rfl) (by kernel_rfl) (by kernel_rfl) (fun _ _ _ h => h) (Or.inl ⟨by kernel_rfl, ?_⟩) (by assumption) ?_
  rotate_left
  · (intro w hSw; (try dsimp only at hSw); go_simp; try (with_reducible rfl))
  try simp only [List.getElem_toArray, List.getElem_cons_succ, List.getElem_cons_zero, Act.put, List.setIfInBounds_toArray, List.set_cons_zero, List.set_cons_succ]
  refine' wpAnyH_take (i := 4) (oi := _) (v := _) rfl (by kernel_rfl) (by kernel_rfl) (by kernel_rfl) (fun _ _ _ h => h) (Or.inl ⟨by kernel_rfl, ?_⟩) (by assumption) ?_
  rotate_left
  · (intro w hSw; (try dsimp only at hSw); go_simp; try (with_reducible rfl))
  try simp only [List.getElem_toArray, List.getElem_cons_succ, List.getElem_cons_zero, Act.put, List.setIfInBounds_toArray, List.set_cons_zero, List.set_cons_succ]
  refine' wpAnyH_take (i := 5) (oi := _) (v := _) rfl (by kernel_rfl) (by kernel_rfl) (by kernel_rfl) (fun _ _ _ h => h) (Or.inl ⟨by kernel_rfl, ?_⟩) (by assumption) ?_
  rotate_left
  · (intro w hSw; (try dsimp only at hSw); go_simp; try (with_reducible rfl))
  try simp only [List.getElem_toArray, List.getElem_cons_succ, List.getElem_cons_zero, Act.put, List.setIfInBounds_toArray, List.set_cons_zero, List.set_cons_succ]
  refine' wpAnyH_take (i := 7) (oi := _) (v := _) rfl (by kernel_rfl) (by kernel_rfl) (by kernel_rfl) (fun _ _ _ h => h) (Or.inl ⟨by kernel_rfl, ?_⟩) (by assumption) ?_
  rotate_left
  · (intro w hSw; (try dsimp only at hSw); go_simp; try (with_reducible rfl))
  try simp only [List.getElem_toArray, List.getElem_cons_succ, List.getElem_cons_zero, Act.put, List.setIfInBounds_toArray, List.set_cons_zero, List.set_cons_succ]
  refine wpAnyH_ready (rs := [3]) (by kernel_rfl) (by simp) ?_
  refine (AllReadyH.cons (o := _) rfl (fun K hK => ?_) AllReadyH.nil)
  go_simp
  go_at_call 32
  with_reducible refine (CC.out V160 _).mono ?_
  rintro e X165 ⟨rfl, DbX165⟩
  have r166 := hid (row_on r161.out DbX165.out)
  have r167 := hid (row_on r162.out DbX165.out)
  have r168 := hid (row_on r163.out DbX165.out)
  have r169 := hid (row_on r164.out DbX165.out)
  have DX165 := hid (btr BV160.out DbX165.out)
  (try go_wp2_with fail)
  refine hK.out _ _ ?_ (fun hHeld => ?_)
  · (try dsimp only); exact ⟨row_cell r166.out 1, row_cell r166.out 2, row_cell r167.out 0, row_cell r167.out 1⟩
  clear hK K
  try simp only [List.getElem_toArray, List.getElem_cons_succ, List.getElem_cons_zero, Act.put, List.setIfInBounds_toArray, List.set_cons_zero, List.set_cons_succ]
  refine wpAnyH_ready (rs := [6]) (by kernel_rfl) (by simp) ?_
  refine (AllReadyH.cons (o := _) rfl (fun K hK => ?_) AllReadyH.nil)
  go_simp
  go_at_call 32
  with_reducible refine (CC.out X165 _).mono ?_
  rintro e X170 ⟨rfl, DbX170⟩
  have r171 := hid (row_on r166.out DbX170.out)
  have r172 := hid (row_on r167.out DbX170.out)
  have r173 := hid (row_on r168.out DbX170.out)
  have r174 := hid (row_on r169.out DbX170.out)
  have DX170 := hid (btr DX165.out DbX170.out)
  (try go_wp2_with fail)
  refine hK.out _ _ ?_ (fun hHeld => ?_)
  · (try dsimp only); exact ⟨row_cell r171.out 1, row_cell r171.out 2, row_cell r172.out 0, row_cell r172.out 1⟩
  clear hK K
  try simp only [List.getElem_toArray, List.getElem_cons_succ, List.getElem_cons_zero, Act.put, List.setIfInBounds_toArray, List.set_cons_zero, List.set_cons_succ]
  refine wpAnyH_ready (rs := [8]) (by kernel_rfl) (by simp) ?_
  refine (AllReadyH.cons (o := _) rfl (fun K hK => ?_) AllReadyH.nil)
  have CE := enter_any (L9.out.on DX170.out) HBx.out bu 1 se 1 v HD.out.bu wf1 HD.out.se wf1 HV.out (by have := HKK.out; omega)
  rw [HS1.out] at CE
  unfold mv at CE
  have CE := hid CE
  go_simp
  go_at_call 31
  with_reducible refine CE.out.mono ?_
  rintro e Z1 ⟨rfl, O1, z1, z2, z3⟩
  have LZ1 := hid z1
  have KZ1 := hid z2
  have EZ1 := hid z3
  clear z1 z2 z3 CE
  have EW := hid ((Ex.refl w O).trans EZ1.out (btr W9.out DX170.out).size)
  have KW := hid ((Kp.of O (btr W9.out DX170.out)).trans KZ1.out (fun _ _ h => h))
  have r1D := hid (KZ1.out.row r171.out (fun e => by have h1 := HLT.out _ e; have h2 : w.heap.size ≤ R := (by have := HR.out; omega); omega))
  have qD := hid (row_lt r171.out)
  have r1V := hid (KZ1.out.row r172.out (fun e => by have h1 := HLT.out _ e; have h2 : w.heap.size ≤ a6 := N6.out; omega))
  have qV := hid (row_lt r172.out)
  have r1B := hid (KZ1.out.row r173.out (fun e => by have h1 := HLT.out _ e; have h2 : w.heap.size ≤ t7 := M7.out; omega))
  have qB := hid (row_lt r173.out)
  have r1S := hid (KZ1.out.row r174.out (fun e => by have h1 := HLT.out _ e; have h2 : w.heap.size ≤ t9 := M9.out; omega))
  have qS := hid (row_lt r174.out)
  (try go_wp2_with fail)
  refine hK.out _ _ ?_ (fun hHeld => ?_)
  · (try dsimp only); exact ⟨row_cell r1D.out 1, row_cell r1D.out 2, row_cell r1V.out 0, row_cell r1V.out 1⟩
  clear hK K
  try simp only [List.getElem_toArray, List.getElem_cons_succ, List.getElem_cons_zero, Act.put, List.setIfInBounds_toArray, List.set_cons_zero, List.set_cons_succ]
  refine wpAnyH_done (by kernel_rfl) ?_ _
  have f1 := row_cell r1D.out 1
  have f3 := row_cell r1D.out 3
  simp only [List.getElem?_toArray, List.getElem?_cons_succ, List.getElem?_cons_zero] at f1 f3
  have v0 := row_cell r1V.out 0
  have v1 := row_cell r1V.out 1
  simp only [List.getElem?_toArray, List.getElem?_cons_succ, List.getElem?_cons_zero] at v0 v1
  go_upto_region 13 with fail
  have CE := charge_any LZ1.out HB1.out bu v (ta == 1) HD.out.bu HV.out (by have := HKK.out; omega)
  rw [HS2.out] at CE
  unfold mv at CE
  have CE := hid CE
  go_upto_region 14 with (go_at_call 33; with_reducible refine CE.out.mono ?_; rintro e Z2 ⟨rfl, O2, z1, z2, z3⟩; have LZ2 := hid z1; have KZ2 := hid z2; have EZ2 := hid z3; clear z1 z2 z3)
  clear CE
  have EWZ2 := hid (EW.out.trans EZ2.out (Nat.le_trans (btr W9.out DX170.out).size KZ1.out.size))
  have KWZ2 := hid (KW.out.seq KZ2.out EW.out)
  have r2D := hid (KZ2.out.row r1D.out (Ex.out EZ1.out HLT.out (by have := HR.out; omega) qD.out))
  have r2V := hid (KZ2.out.row r1V.out (Ex.out EZ1.out HLT.out N6.out qV.out))
  have r2B := hid (KZ2.out.row r1B.out (Ex.out EZ1.out HLT.out M7.out qB.out))
  have r2S := hid (KZ2.out.row r1S.out (Ex.out EZ1.out HLT.out M9.out qS.out))
  have EXZ2 := hid (EZ1.out.trans EZ2.out KZ1.out.size)
  clear f1 f3 v0 v1
  have f2 := row_cell r2D.out 2
  have f3 := row_cell r2D.out 3
  simp only [List.getElem?_toArray, List.getElem?_cons_succ, List.getElem?_cons_zero] at f2 f3
  have v0 := row_cell r2V.out 0
  have v1 := row_cell r2V.out 1
  simp only [List.getElem?_toArray, List.getElem?_cons_succ, List.getElem?_cons_zero] at v0 v1
  have CE := charge_any LZ2.out HB2.out se v (ta == 2) HD.out.se HV.out (by have := HKK.out; omega)
  rw [HS3.out] at CE
  unfold mv at CE
  have CE := hid CE
  go_upto_region 15 with (go_at_call 33; with_reducible refine CE.out.mono ?_; rintro e Z3 ⟨rfl, O3, z1, z2, z3⟩; have LZ3 := hid z1; have KZ3 := hid z2; have EZ3 := hid z3; clear z1 z2 z3)
  clear CE
  have EWZ3 := hid (EWZ2.out.trans EZ3.out (Nat.le_trans (btr W9.out DX170.out).size (Nat.le_trans KZ1.out.size KZ2.out.size)))
  have KWZ3 := hid (KWZ2.out.seq KZ3.out EWZ2.out)
  have r3D := hid (KZ3.out.row r2D.out (Ex.out EXZ2.out HLT.out (by have := HR.out; omega) qD.out))
  have r3B := hid (KZ3.out.row r2B.out (Ex.out EXZ2.out HLT.out M7.out qB.out))
  have r3S := hid (KZ3.out.row r2S.out (Ex.out EXZ2.out HLT.out M9.out qS.out))
  have EXZ3 := hid (EXZ2.out.trans EZ3.out (Nat.le_trans KZ1.out.size KZ2.out.size))
  clear f2 f3 v0 v1
  have f0 := row_cell r3D.out 0
  have f1 := row_cell r3D.out 1
  simp only [List.getElem?_toArray, List.getElem?_cons_succ, List.getElem?_cons_zero] at f0 f1
  have b0 := row_cell r3B.out 0
  have b1 := row_cell r3B.out 1
  have b2 := row_cell r3B.out 2
  have b3 := row_cell r3B.out 3
  have b4 := row_cell r3B.out 4
  simp only [List.getElem?_toArray, List.getElem?_cons_succ, List.getElem?_cons_zero] at b0 b1 b2 b3 b4
  have CE := hold_any LZ3.out HB3.out bu it bo HD.out.bu HD.out.it HPO.out.1 HO1.out (by have := HKK.out; omega)
  unfold Po.row at CE
  have CE := hid CE
  go_upto_region 16 with (go_at_call 34; with_reducible refine CE.out.mono ?_; rintro e Z4 ⟨rfl, O4, z1, z2, z3⟩; have LZ4 := hid z1; have KZ4 := hid z2; have EZ4 := hid z3; clear z1 z2 z3)
  clear CE
  have EWZ4 := hid (EWZ3.out.trans EZ4.out (Nat.le_trans (btr W9.out DX170.out).size (Nat.le_trans (Nat.le_trans KZ1.out.size KZ2.out.size) KZ3.out.size)))
  have KWZ4 := hid (KWZ3.out.seq KZ4.out EWZ3.out)
  have r4D := hid (KZ4.out.row r3D.out (Ex.out EXZ3.out HLT.out (by have := HR.out; omega) qD.out))
  have r4S := hid (KZ4.out.row r3S.out (Ex.out EXZ3.out HLT.out M9.out qS.out))
  have EXZ4 := hid (EXZ3.out.trans EZ4.out (Nat.le_trans (Nat.le_trans KZ1.out.size KZ2.out.size) KZ3.out.size))
  clear f0 f1 b0 b1 b2 b3 b4
  have f0 := row_cell r4D.out 0
  have f2 := row_cell r4D.out 2
  simp only [List.getElem?_toArray, List.getElem?_cons_succ, List.getElem?_cons_zero] at f0 f2
  have b0 := row_cell r4S.out 0
  have b1 := row_cell r4S.out 1
  have b2 := row_cell r4S.out 2
  have b3 := row_cell r4S.out 3
  have b4 := row_cell r4S.out 4
  simp only [List.getElem?_toArray, List.getElem?_cons_succ, List.getElem?_cons_zero] at b0 b1 b2 b3 b4
  have HB4x := hid (show ∃ x, ({ s3 with g := gupd s3.g bu it bo } : Ls).f x ≠ none from HB3.out)
  have CE := hold_any LZ4.out HB4x.out se it so HD.out.se HD.out.it HPO.out.2 HO2.out (by have := HKK.out; omega)
  unfold Po.row at CE
  have CE := hid CE
  go_upto_region 17 with (go_at_call 34; with_reducible refine CE.out.mono ?_; rintro e Z5 ⟨rfl, O5, z1, z2, z3⟩; have LZ5 := hid z1; have KZ5 := hid z2; have EZ5 := hid z3; clear z1 z2 z3)
  clear CE
  have EWZ5 := hid (EWZ4.out.trans EZ5.out (Nat.le_trans (btr W9.out DX170.out).size (Nat.le_trans (Nat.le_trans (Nat.le_trans KZ1.out.size KZ2.out.size) KZ3.out.size) KZ4.out.size)))
  have KWZ5 := hid (KWZ4.out.seq KZ5.out EWZ4.out)
  have EXZ5 := hid (EXZ4.out.trans EZ5.out (Nat.le_trans (Nat.le_trans (Nat.le_trans KZ1.out.size KZ2.out.size) KZ3.out.size) KZ4.out.size))
  go_wp2
  go_ret
  exact .inr ⟨⟨HO1.out, HO2.out⟩, rfl, O5, LZ5.out, KWZ5.out, EWZ5.out⟩
end Go.Proofs.Ytphhllppgelceaa.Ac
