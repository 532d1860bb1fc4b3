/-
  A deal is booked.
-/
import Derived.Test.YtdbnkidfclgnfaaAcR
namespace Go.Proofs.Ytdbnkidfclgnfaa.Ac
open Go.RowKit Go.Deep Go.Maps Go.Proofs.Ytdbnkidfclgnfaa.MonM
set_option linter.unusedVariables false
set_option linter.unusedSimpArgs false
set_option maxHeartbeats 8000000
set_option maxRecDepth 100000
attribute [local go_sem ↓] Go.wp_at_zero Go.wp_at_succ
theorem book_over_da {w : World} {G : Nat} {O : Nat → Prop} {k : Nat} {s : Ls} (h : Lg w G O k s) (it bu se ta pr qt : Int) (hd : DeOk ⟨it, bu, se, ta, pr, qt⟩) (h0 : bkc s ⟨it, bu, se, ta, pr, qt⟩ = 0) (hB : ∃ x, s.f x ≠ none) (hpr0 : 0 ≤ pr) (hpr1 : pr < 262144) (hqt0 : 0 < qt) (hqt1 : qt < 4294967296) (pa pb bo so : Po) (hpa : s.g bu it = pa) (hpb : s.g se it = pb)
    (CBo : Hid (∀ U, Calls Try.prog 19 #[.agg pa.row, .int .i64 qt, mv (-(pr * qt))] U fun e w' => e = .returned (.agg bo.row) ∧ Below U.heap.size U w')) (CSo : Hid (∀ U, Calls Try.prog 19 #[.agg pb.row, .int .i64 (-qt), mv (pr * qt)] U fun e w' => e = .returned (.agg so.row) ∧ Below U.heap.size U w'))
    (hbo : PoOk bo) (hso : PoOk so) (bb0 : absI bo.qt < 9223372036854775808) (bs0 : absI so.qt < 9223372036854775808) (hse : se ≠ bu) (hov : 4294967295 < absI bo.qt) (hk : k + 13 ≤ 1000000000000) :
    Calls Try.prog 8 #[.pointer (some ⟨G, 0, none⟩), .agg #[.int .u32 it, .int .u32 bu, .int .u32 se, .int .i64 ta, .int .i64 pr, .int .u64 qt]] w fun e w' => e = .returned (.int .i64 10) ∧ Below w.heap.size w w' := by
  have hv0 : 0 ≤ pr * qt := Int.mul_nonneg hpr0 (by omega)
  have hv1 : pr * qt ≤ 262144 * 4294967296 := Int.mul_le_mul (by omega) (by omega) (by omega) (by omega)
  have HL := hid h
  have HLT := hid h.lt
  have HD := hid hd
  have HBx := hid hB
  have HKK := hid hk
  have HV := hid (show Amt (pr * qt) from by unfold Amt; omega)
  obtain ⟨Wa, hWa⟩ : ∃ W, w.alloc (.cells #[.int .u32 it, .int .u32 bu, .int .u32 se, .int .i64 ta, .int .i64 pr, .int .u64 qt] 32) = W := ⟨_, rfl⟩
  obtain ⟨R, hR⟩ : ∃ R, w.heap.size = R := ⟨_, rfl⟩
  have HBA := hid (show Below w.heap.size w Wa from by rw [← hWa]; exact ball _ _)
  have HRA := hid (show Wa.heap[R]? = some (.cells #[.int .u32 it, .int .u32 bu, .int .u32 se, .int .i64 ta, .int .i64 pr, .int .u64 qt] 32 (0, 0)) from by rw [← hWa, ← hR]; exact World.alloc_heap_new _ _)
  have CB := hid (show Calls Try.prog 17 #[.pointer (some ⟨G, 0, none⟩), .agg #[.int .u32 it, .int .u32 bu, .int .u32 se, .int .i64 ta, .int .i64 pr, .int .u64 qt]] Wa fun e w' => e = .returned (.int .i64 0) ∧ Below Wa.heap.size Wa w' from by have h1 := bookable_any (HL.out.on HBA.out) ⟨it, bu, se, ta, pr, qt⟩ HD.out; rw [h0] at h1; exact h1)
  have CT := hid (fun U => times_any pr qt U hpr0 hpr1 (by omega) hqt1)
  have CPb := hid (show ∀ U, Below w.heap.size w U → Calls Try.prog 7 #[.pointer (some ⟨G, 0, none⟩), .int .u32 bu, .int .u32 it] U fun e w' => e = .returned (.agg pa.row) ∧ Hid (Below U.heap.size U w') from fun U hU => by rw [← hpa]; exact position_any (HL.out.on hU) bu it HD.out.bu HD.out.it)
  have CPs := hid (show ∀ U, Below w.heap.size w U → Calls Try.prog 7 #[.pointer (some ⟨G, 0, none⟩), .int .u32 se, .int .u32 it] U fun e w' => e = .returned (.agg pb.row) ∧ Hid (Below U.heap.size U w') from fun U hU => by rw [← hpb]; exact position_any (HL.out.on hU) se it HD.out.se HD.out.it)
  have CN := hid (show ∀ U, Calls Try.prog 20 #[mv (pr * qt)] U fun e w' => e = .returned (mv (-(pr * qt))) ∧ Hid (Below U.heap.size U w') from fun U => neg_any (pr * qt) U)
  have CZb := hid (show ∀ U, Calls Try.prog 21 #[.int .i64 bo.qt] U fun e w' => e = .returned (.int .u64 (absI bo.qt)) ∧ w' = U from fun U => size_any bo.qt U (by unfold absI at bb0; split at bb0 <;> omega) (by unfold absI at bb0; split at bb0 <;> omega))
  have CZs := hid (show ∀ U, Calls Try.prog 21 #[.int .i64 so.qt] U fun e w' => e = .returned (.int .u64 (absI so.qt)) ∧ w' = U from fun U => size_any so.qt U (by unfold absI at bs0; split at bs0 <;> omega) (by unfold absI at bs0; split at bs0 <;> omega))
  have wpr : IntKind.u32.wrap pr = pr := by rw [IntKind.wrap_u32]; omega
  have wqt : IntKind.i64.wrap qt = qt := by rw [IntKind.wrap_i64]; omega
  have wnq : IntKind.i64.wrap (-qt) = -qt := by rw [IntKind.wrap_i64]; omega
  have hsb : (se == bu) = false := by simpa using hse
  have hoa : decide (4294967295 < absI bo.qt) = true := by simpa using hov
  obtain ⟨v, hv⟩ : ∃ x, pr * qt = x := ⟨_, rfl⟩
  rw [hv] at CT CN CBo CSo HV
  unfold mv at CT CN CBo CSo
  unfold Po.row at CPb CPs CBo CSo
  have d0 := row_cell HRA.out 0
  have d1 := row_cell HRA.out 1
  have d2 := row_cell HRA.out 2
  have d3 := row_cell HRA.out 3
  have d4 := row_cell HRA.out 4
  have d5 := row_cell HRA.out 5
  simp only [List.getElem?_toArray, List.getElem?_cons_succ, List.getElem?_cons_zero] at d0 d1 d2 d3 d4 d5
  have HWa := hid hWa
  have HR := hid hR
  clear hWa hR h hd h0 hB hk hpr0 hpr1 hqt0 hqt1 hpa hpb hbo hso bb0 bs0 hse hov hv hv0 hv1
  go_enter Try.func8, Try.ntmps8
  go_upto_region 1 with fail
  rw [HWa.out, HR.out]
  clear HWa
  go_upto_region 4 with (go_at_call 17; with_reducible refine CB.out.mono ?_; rintro e w4 ⟨rfl, hb⟩; have HB4 := hid (btr HBA.out hb); have HD4 := hid (row_on HRA.out hb); clear hb)
  clear d0 d1 d2 d3 d4 d5
  have f4 := row_cell HD4.out 4
  have f5 := row_cell HD4.out 5
  simp only [List.getElem?_toArray, List.getElem?_cons_succ, List.getElem?_cons_zero] at f4 f5
  go_upto_region 5 with (first | (go_at_call 18; with_reducible refine (CT.out _).mono ?_; rintro e w5 ⟨rfl, hb⟩; have HB5 := hid hb; have HZ5 := hid (World.alloc_heap_new w5 (.cells #[.int .u64 0, .int .u64 0] 36)); clear hb) | (refine wpList_store_row (by rfl) 36 (.tmp 6) (.tmp 21) (by rfl) w5.heap.size #[.int .u64 (hiW v), .int .u64 (loW v)] (by rfl) (by rfl) 36 _ HZ5.out infoM (by rfl) (by simp [Value.oneCell']) ?_))
  obtain ⟨X5, hX5⟩ : ∃ X, (w5.alloc (.cells #[.int .u64 0, .int .u64 0] 36)).setRow w5.heap.size #[.int .u64 (hiW v), .int .u64 (loW v)] = X := ⟨_, rfl⟩
  have GV := hid (show X5.heap[w5.heap.size]? = some (.cells #[.int .u64 (hiW v), .int .u64 (loW v)] 36 (0, 0)) from by rw [← hX5]; exact setRow_heap _ _ _ _ 36 (0, 0) HZ5.out)
  have BX5 := hid (show Below w5.heap.size w5 X5 from by rw [← hX5]; exact setRow_below (ball _ _) (Nat.le_refl _))
  rw [hX5]
  obtain ⟨a6, ha6⟩ : ∃ t, w5.heap.size = t := ⟨_, rfl⟩
  rw [ha6] at GV ⊢
  have N6 := hid (show w.heap.size ≤ a6 from by rw [← ha6]; exact Nat.le_trans HB4.out.size HB5.out.size)
  have W5 := hid (btr HB4.out (btr HB5.out BX5.out))
  have GD := hid (row_on (row_on HD4.out HB5.out) BX5.out)
  clear hX5 HZ5 ha6 f4 f5 BX5 HB5 HD4
  have CBo2 := hid (show ∀ U, Calls Try.prog 19 #[.agg #[.int .i64 pa.qt, .int .u64 (hiW pa.co), .int .u64 (loW pa.co), .int .u64 (hiW pa.ga), .int .u64 (loW pa.ga)], .int .i64 qt, .agg #[.int .u64 (hiW (-v)), .int .u64 (loW (-v))]] U fun e w' => e = .returned (.agg #[.int .i64 bo.qt, .int .u64 (hiW bo.co), .int .u64 (loW bo.co), .int .u64 (hiW bo.ga), .int .u64 (loW bo.ga)]) ∧ Hid (Below U.heap.size U w') from fun U => CBo.out U)
  refine reg_cut (X := Nat) (fun a t => (((((((((((((a.put (some 22) (.pointer (some ⟨G, 0, none⟩))).put (some 23) (.pointer (some ⟨R, 1, none⟩))).put (some 24) (.int .u32 bu)).put (some 25) (.pointer (some ⟨R, 0, none⟩))).put (some 26) (.int .u32 it)).put (some 27) (.agg #[.int .i64 pa.qt, .int .u64 (hiW pa.co), .int .u64 (loW pa.co), .int .u64 (hiW pa.ga), .int .u64 (loW pa.ga)])).put (some 28) (.pointer (some ⟨R, 5, none⟩))).put (some 29) (.int .u64 qt)).put (some 30) (.int .i64 qt)).put (some 31) (.agg #[.int .u64 (hiW v), .int .u64 (loW v)])).put (some 32) (.agg #[.int .u64 (hiW (-v)), .int .u64 (loW (-v))])).put (some 33) (.agg #[.int .i64 bo.qt, .int .u64 (hiW bo.co), .int .u64 (loW bo.co), .int .u64 (hiW bo.ga), .int .u64 (loW bo.ga)])).put (some 7) (.pointer (some ⟨t, 0, none⟩)))) (fun t V => Hid (Below X5.heap.size X5 V) ∧ Hid (V.heap[t]? = some (.cells #[.int .i64 bo.qt, .int .u64 (hiW bo.co), .int .u64 (loW bo.co), .int .u64 (hiW bo.ga), .int .u64 (loW bo.ga)] 38 (0, 0))) ∧ Hid (X5.heap.size ≤ t)) ?_ ?_
  · obtain ⟨V145, hV145⟩ : ∃ U, X5.drew = U := ⟨_, rfl⟩
    have BV145 := hid (show Below X5.heap.size X5 V145 from by rw [← hV145]; exact bdrew1 _)
    have r146 := hid (row_on GD.out BV145.out)
    have r147 := hid (row_on GV.out BV145.out)
    refine wp_region_held_drew (S := (fun U => U.cell? ⟨R, 0, none⟩ = some (.int .u32 it) ∧ U.cell? ⟨R, 1, none⟩ = some (.int .u32 bu) ∧ U.cell? ⟨R, 5, none⟩ = some (.int .u64 qt) ∧ U.cell? ⟨a6, 0, none⟩ = some (.int .u64 (hiW v)) ∧ U.cell? ⟨a6, 1, none⟩ = some (.int .u64 (loW v)))) (by kernel_rfl) ?_ (fun hHeld => ?_)
    · (try dsimp only); rw [hV145]; exact ⟨row_cell r146.out 0, row_cell r146.out 1, row_cell r146.out 5, row_cell r147.out 0, row_cell r147.out 1⟩
    rw [hV145] at hHeld ⊢
    clear hV145
    refine' wpAnyH_take (i := 0) (oi := _) (v := _) rfl (by kernel_rfl) (by kernel_rfl) (by kernel_rfl) (fun _ _ _ h => h) (Or.inl ⟨by kernel_rfl, ?_⟩) (by assumption) ?_
    rotate_left
    · (intro w hSw; (try dsimp only at hSw); go_simp; try (with_reducible rfl))
    try simp only [List.getElem_toArray, List.getElem_cons_succ, List.getElem_cons_zero, Act.put, List.setIfInBounds_toArray, List.set_cons_zero, List.set_cons_succ]
    refine' wpAnyH_take (i := 1) (oi := _) (v := _) rfl (by kernel_rfl) (by kernel_rfl) (by kernel_rfl) (fun _ _ _ h => h) (Or.inl ⟨by kernel_rfl, ?_⟩) (by assumption) ?_
    rotate_left
    · (intro w hSw; (try dsimp only at hSw); go_simp; try (with_reducible rfl))
    try simp only [List.getElem_toArray, List.getElem_cons_succ, List.getElem_cons_zero, Act.put, List.setIfInBounds_toArray, List.set_cons_zero, List.set_cons_succ]
    refine' wpAnyH_take (i := 2) (oi := _) (v := _) rfl (by kernel_rfl) (by kernel_rfl) (by kernel_rfl) (fun _ _ _ h => h) (Or.inl ⟨by kernel_rfl, ?_⟩) (by assumption) ?_
    rotate_left
    · (intro w hSw; (try dsimp only at hSw); go_simp; try (with_reducible rfl))
    try simp only [List.getElem_toArray, List.getElem_cons_succ, List.getElem_cons_zero, Act.put, List.setIfInBounds_toArray, List.set_cons_zero, List.set_cons_succ]
    refine' wpAnyH_take (i := 3) (oi := _) (v := _) rfl (by kernel_rfl) (by kernel_rfl) (by kernel_rfl) (fun _ _ _ h => h) (Or.inl ⟨by kernel_rfl, ?_⟩) (by assumption) ?_
    rotate_left
    · (intro w hSw; (try dsimp only at hSw); go_simp; try (with_reducible rfl))
    try simp only [List.getElem_toArray, List.getElem_cons_succ, List.getElem_cons_zero, Act.put, List.setIfInBounds_toArray, List.set_cons_zero, List.set_cons_succ]
    refine' wpAnyH_take (i := 4) (oi := _) (v := _) rfl (by kernel_rfl) (by kernel_rfl) (by kernel_rfl) (fun _ _ _ h => h) (Or.inl ⟨by kernel_rfl, ?_⟩) (by assumption) ?_
    rotate_left
    · (intro w hSw; (try dsimp only at hSw); go_simp; try (with_reducible rfl))
    try simp only [List.getElem_toArray, List.getElem_cons_succ, List.getElem_cons_zero, Act.put, List.setIfInBounds_toArray, List.set_cons_zero, List.set_cons_succ]
    refine' wpAnyH_take (i := 6) (oi := _) (v := _) rfl (by kernel_rfl) (by kernel_rfl) (by kernel_rfl) (fun _ _ _ h => h) (Or.inl ⟨by kernel_rfl, ?_⟩) (by assumption) ?_
    rotate_left
    · (intro w hSw; (try dsimp only at hSw); go_simp; try (with_reducible rfl))
    try simp only [List.getElem_toArray, List.getElem_cons_succ, List.getElem_cons_zero, Act.put, List.setIfInBounds_toArray, List.set_cons_zero, List.set_cons_succ]
    refine' wpAnyH_take (i := 7) (oi := _) (v := _) rfl (by kernel_rfl) (by kernel_rfl) (by kernel_rfl) (fun _ _ _ h => h) (Or.inl ⟨by kernel_rfl, ?_⟩) (by assumption) ?_
    rotate_left
    · (intro w hSw; (try dsimp only at hSw); go_simp; try (with_reducible rfl))
    try simp only [List.getElem_toArray, List.getElem_cons_succ, List.getElem_cons_zero, Act.put, List.setIfInBounds_toArray, List.set_cons_zero, List.set_cons_succ]
    refine' wpAnyH_take (i := 8) (oi := _) (v := _) rfl (by kernel_rfl) (by kernel_rfl) (by kernel_rfl) (fun _ _ _ h => h) (Or.inl ⟨by kernel_rfl, ?_⟩) (by assumption) ?_
    rotate_left
    · (intro w hSw; (try dsimp only at hSw); go_simp; try (with_reducible rfl))
    try simp only [List.getElem_toArray, List.getElem_cons_succ, List.getElem_cons_zero, Act.put, List.setIfInBounds_toArray, List.set_cons_zero, List.set_cons_succ]
    refine' wpAnyH_take (i := 9) (oi := _) (v := _) rfl (by kernel_rfl) (by kernel_rfl) (by kernel_rfl) (fun _ _ _ h => h) (Or.inl ⟨by kernel_rfl, ?_⟩) (by assumption) ?_
    rotate_left
    · (intro w hSw; (try dsimp only at hSw); go_simp; try (with_reducible rfl))
    try simp only [List.getElem_toArray, List.getElem_cons_succ, List.getElem_cons_zero, Act.put, List.setIfInBounds_toArray, List.set_cons_zero, List.set_cons_succ]
    refine wpAnyH_ready (rs := [5, 12]) (by kernel_rfl) (by simp) ?_
    refine (AllReadyH.cons (o := _) rfl (fun K hK => ?_) (AllReadyH.cons (o := _) rfl (fun K hK => ?_) AllReadyH.nil))
    · go_simp
      go_at_call 7
      with_reducible refine (CPb.out V145 (btr W5.out BV145.out)).mono ?_
      rintro e X148 ⟨rfl, DbX148⟩
      have r149 := hid (row_on r146.out DbX148.out)
      have r150 := hid (row_on r147.out DbX148.out)
      have DX148 := hid (btr BV145.out DbX148.out)
      have UX148 := hid (BV145.out.size)
      (try go_wp2_with fail)
      refine hK.out _ _ ?_ (fun hHeld => ?_)
      · (try dsimp only); exact ⟨row_cell r149.out 0, row_cell r149.out 1, row_cell r149.out 5, row_cell r150.out 0, row_cell r150.out 1⟩
      clear hK K
      try simp only [List.getElem_toArray, List.getElem_cons_succ, List.getElem_cons_zero, Act.put, List.setIfInBounds_toArray, List.set_cons_zero, List.set_cons_succ]
      refine wpAnyH_ready (rs := [10, 12]) (by kernel_rfl) (by simp) ?_
      refine (AllReadyH.cons (o := _) rfl (fun K hK => ?_) (AllReadyH.cons (o := _) rfl (fun K hK => ?_) AllReadyH.nil))
      · go_simp
        go_at_call 20
        with_reducible refine (CN.out X148).mono ?_
        rintro e X151 ⟨rfl, DbX151⟩
        have r152 := hid (row_on r149.out DbX151.out)
        have r153 := hid (row_on r150.out DbX151.out)
        have DX151 := hid (btr DX148.out DbX151.out)
        have UX151 := hid (DX148.out.size)
        (try go_wp2_with fail)
        refine hK.out _ _ ?_ (fun hHeld => ?_)
        · (try dsimp only); exact ⟨row_cell r152.out 0, row_cell r152.out 1, row_cell r152.out 5, row_cell r153.out 0, row_cell r153.out 1⟩
        clear hK K
        try simp only [List.getElem_toArray, List.getElem_cons_succ, List.getElem_cons_zero, Act.put, List.setIfInBounds_toArray, List.set_cons_zero, List.set_cons_succ]
        refine wpAnyH_ready (rs := [11, 12]) (by kernel_rfl) (by simp) ?_
        refine (AllReadyH.cons (o := _) rfl (fun K hK => ?_) (AllReadyH.cons (o := _) rfl (fun K hK => ?_) AllReadyH.nil))
        · go_simp
          go_at_call 19
          with_reducible refine (CBo2.out X151).mono ?_
          rintro e X154 ⟨rfl, DbX154⟩
          have r155 := hid (row_on r152.out DbX154.out)
          have r156 := hid (row_on r153.out DbX154.out)
          have DX154 := hid (btr DX151.out DbX154.out)
          have UX154 := hid (DX151.out.size)
          (try go_wp2_with fail)
          refine hK.out _ _ ?_ (fun hHeld => ?_)
          · (try dsimp only); exact ⟨row_cell r155.out 0, row_cell r155.out 1, row_cell r155.out 5, row_cell r156.out 0, row_cell r156.out 1⟩
          clear hK K
          try simp only [List.getElem_toArray, List.getElem_cons_succ, List.getElem_cons_zero, Act.put, List.setIfInBounds_toArray, List.set_cons_zero, List.set_cons_succ]
          refine wpAnyH_ready (rs := [12]) (by kernel_rfl) (by simp) ?_
          refine (AllReadyH.cons (o := _) rfl (fun K hK => ?_) AllReadyH.nil)
          go_simp
          obtain ⟨X157, hX157⟩ : ∃ X, X154.alloc (.cells #[.int .i64 0, .int .u64 0, .int .u64 0, .int .u64 0, .int .u64 0] 38) = X := ⟨_, rfl⟩
          have bX157 : Below X154.heap.size X154 X157 := by rw [← hX157]; exact ball _ _
          have r159 := hid (row_on r155.out bX157)
          have r160 := hid (row_on r156.out bX157)
          have DX157 := hid (btr DX154.out bX157)
          have zX157 : X157.heap[X154.heap.size]? = some (.cells #[.int .i64 0, .int .u64 0, .int .u64 0, .int .u64 0, .int .u64 0] 38 (0, 0)) := by rw [← hX157]; exact World.alloc_heap_new _ _
          have yg158 := DX154.out.size
          obtain ⟨g158, hg158⟩ : ∃ g, X154.heap.size = g := ⟨_, rfl⟩
          have n161 : g158 ≠ R := by have := row_lt r155.out; omega
          have n162 : g158 ≠ a6 := by have := row_lt r156.out; omega
          rw [hg158] at zX157 yg158
          have ZX157 := hid zX157
          rw [hX157, hg158]
          clear hX157 hg158 zX157 bX157
          refine hK.out _ _ ?_ (fun hHeld => ?_)
          · (try dsimp only); exact ⟨row_cell r159.out 0, row_cell r159.out 1, row_cell r159.out 5, row_cell r160.out 0, row_cell r160.out 1⟩
          clear hK K
          try simp only [List.getElem_toArray, List.getElem_cons_succ, List.getElem_cons_zero, Act.put, List.setIfInBounds_toArray, List.set_cons_zero, List.set_cons_succ]
          refine wpAnyH_ready (rs := [13]) (by kernel_rfl) (by simp) ?_
          refine (AllReadyH.cons (o := _) rfl (fun K hK => ?_) AllReadyH.nil)
          refine step_store_row (by rfl) 38 (.tmp 7) (.tmp 33) (by rfl) g158 #[.int .i64 bo.qt, .int .u64 (hiW bo.co), .int .u64 (loW bo.co), .int .u64 (hiW bo.ga), .int .u64 (loW bo.ga)] (by rfl) (by rfl) 38 _ ZX157.out infoPo5 (by rfl) (by simp [Value.oneCell']) ?_
          obtain ⟨Y163, hY163⟩ : ∃ Y, X157.setRow g158 #[.int .i64 bo.qt, .int .u64 (hiW bo.co), .int .u64 (loW bo.co), .int .u64 (hiW bo.ga), .int .u64 (loW bo.ga)] = Y := ⟨_, rfl⟩
          have KY163 := hid (show Kp (fun j => j = g158) X157 Y163 from by rw [← hY163]; exact setRow_kp _ _ _)
          have AY163 := hid (show Y163.heap[g158]? = some (.cells #[.int .i64 bo.qt, .int .u64 (hiW bo.co), .int .u64 (loW bo.co), .int .u64 (hiW bo.ga), .int .u64 (loW bo.ga)] 38 (0, 0)) from by rw [← hY163]; exact setRow_heap X157 g158 _ _ 38 (0, 0) ZX157.out)
          have DY163 := hid (show Below X5.heap.size X5 Y163 from by rw [← hY163]; exact setRow_below DX157.out yg158)
          have r164 := hid (KY163.out.row r159.out (fun e => n161.symm e))
          have r165 := hid (KY163.out.row r160.out (fun e => n162.symm e))
          rw [hY163]
          refine hK.out _ _ ?_ (fun hHeld => ?_)
          · (try dsimp only); exact ⟨row_cell r164.out 0, row_cell r164.out 1, row_cell r164.out 5, row_cell r165.out 0, row_cell r165.out 1⟩
          clear hK K hY163
          try simp only [List.getElem_toArray, List.getElem_cons_succ, List.getElem_cons_zero, Act.put, List.setIfInBounds_toArray, List.set_cons_zero, List.set_cons_succ]
          refine wpAnyH_done (by kernel_rfl) ?_ _
          exact ⟨g158, by kernel_rfl, DY163, AY163, yg158⟩
        · go_simp
          obtain ⟨X166, hX166⟩ : ∃ X, X151.alloc (.cells #[.int .i64 0, .int .u64 0, .int .u64 0, .int .u64 0, .int .u64 0] 38) = X := ⟨_, rfl⟩
          have bX166 : Below X151.heap.size X151 X166 := by rw [← hX166]; exact ball _ _
          have r168 := hid (row_on r152.out bX166)
          have r169 := hid (row_on r153.out bX166)
          have DX166 := hid (btr DX151.out bX166)
          have zX166 : X166.heap[X151.heap.size]? = some (.cells #[.int .i64 0, .int .u64 0, .int .u64 0, .int .u64 0, .int .u64 0] 38 (0, 0)) := by rw [← hX166]; exact World.alloc_heap_new _ _
          have yg167 := DX151.out.size
          obtain ⟨g167, hg167⟩ : ∃ g, X151.heap.size = g := ⟨_, rfl⟩
          have n170 : g167 ≠ R := by have := row_lt r152.out; omega
          have n171 : g167 ≠ a6 := by have := row_lt r153.out; omega
          rw [hg167] at zX166 yg167
          have ZX166 := hid zX166
          rw [hX166, hg167]
          clear hX166 hg167 zX166 bX166
          refine hK.out _ _ ?_ (fun hHeld => ?_)
          · (try dsimp only); exact ⟨row_cell r168.out 0, row_cell r168.out 1, row_cell r168.out 5, row_cell r169.out 0, row_cell r169.out 1⟩
          clear hK K
          try simp only [List.getElem_toArray, List.getElem_cons_succ, List.getElem_cons_zero, Act.put, List.setIfInBounds_toArray, List.set_cons_zero, List.set_cons_succ]
          refine wpAnyH_ready (rs := [11]) (by kernel_rfl) (by simp) ?_
          refine (AllReadyH.cons (o := _) rfl (fun K hK => ?_) AllReadyH.nil)
          go_simp
          go_at_call 19
          with_reducible refine (CBo2.out X166).mono ?_
          rintro e X172 ⟨rfl, DbX172⟩
          have r173 := hid (row_on r168.out DbX172.out)
          have r174 := hid (row_on r169.out DbX172.out)
          have r175 := hid (row_on ZX166.out DbX172.out)
          have DX172 := hid (btr DX166.out DbX172.out)
          have UX172 := hid (DX166.out.size)
          (try go_wp2_with fail)
          refine hK.out _ _ ?_ (fun hHeld => ?_)
          · (try dsimp only); exact ⟨row_cell r173.out 0, row_cell r173.out 1, row_cell r173.out 5, row_cell r174.out 0, row_cell r174.out 1⟩
          clear hK K
          try simp only [List.getElem_toArray, List.getElem_cons_succ, List.getElem_cons_zero, Act.put, List.setIfInBounds_toArray, List.set_cons_zero, List.set_cons_succ]
          refine wpAnyH_ready (rs := [13]) (by kernel_rfl) (by simp) ?_
          refine (AllReadyH.cons (o := _) rfl (fun K hK => ?_) AllReadyH.nil)
          refine step_store_row (by rfl) 38 (.tmp 7) (.tmp 33) (by rfl) g167 #[.int .i64 bo.qt, .int .u64 (hiW bo.co), .int .u64 (loW bo.co), .int .u64 (hiW bo.ga), .int .u64 (loW bo.ga)] (by rfl) (by rfl) 38 _ r175.out infoPo5 (by rfl) (by simp [Value.oneCell']) ?_
          obtain ⟨Y176, hY176⟩ : ∃ Y, X172.setRow g167 #[.int .i64 bo.qt, .int .u64 (hiW bo.co), .int .u64 (loW bo.co), .int .u64 (hiW bo.ga), .int .u64 (loW bo.ga)] = Y := ⟨_, rfl⟩
          have KY176 := hid (show Kp (fun j => j = g167) X172 Y176 from by rw [← hY176]; exact setRow_kp _ _ _)
          have AY176 := hid (show Y176.heap[g167]? = some (.cells #[.int .i64 bo.qt, .int .u64 (hiW bo.co), .int .u64 (loW bo.co), .int .u64 (hiW bo.ga), .int .u64 (loW bo.ga)] 38 (0, 0)) from by rw [← hY176]; exact setRow_heap X172 g167 _ _ 38 (0, 0) r175.out)
          have DY176 := hid (show Below X5.heap.size X5 Y176 from by rw [← hY176]; exact setRow_below DX172.out yg167)
          have r177 := hid (KY176.out.row r173.out (fun e => n170.symm e))
          have r178 := hid (KY176.out.row r174.out (fun e => n171.symm e))
          rw [hY176]
          refine hK.out _ _ ?_ (fun hHeld => ?_)
          · (try dsimp only); exact ⟨row_cell r177.out 0, row_cell r177.out 1, row_cell r177.out 5, row_cell r178.out 0, row_cell r178.out 1⟩
          clear hK K hY176
          try simp only [List.getElem_toArray, List.getElem_cons_succ, List.getElem_cons_zero, Act.put, List.setIfInBounds_toArray, List.set_cons_zero, List.set_cons_succ]
          refine wpAnyH_done (by kernel_rfl) ?_ _
          exact ⟨g167, by kernel_rfl, DY176, AY176, yg167⟩
      · go_simp
        obtain ⟨X179, hX179⟩ : ∃ X, X148.alloc (.cells #[.int .i64 0, .int .u64 0, .int .u64 0, .int .u64 0, .int .u64 0] 38) = X := ⟨_, rfl⟩
        have bX179 : Below X148.heap.size X148 X179 := by rw [← hX179]; exact ball _ _
        have r181 := hid (row_on r149.out bX179)
        have r182 := hid (row_on r150.out bX179)
        have DX179 := hid (btr DX148.out bX179)
        have zX179 : X179.heap[X148.heap.size]? = some (.cells #[.int .i64 0, .int .u64 0, .int .u64 0, .int .u64 0, .int .u64 0] 38 (0, 0)) := by rw [← hX179]; exact World.alloc_heap_new _ _
        have yg180 := DX148.out.size
        obtain ⟨g180, hg180⟩ : ∃ g, X148.heap.size = g := ⟨_, rfl⟩
        have n183 : g180 ≠ R := by have := row_lt r149.out; omega
        have n184 : g180 ≠ a6 := by have := row_lt r150.out; omega
        rw [hg180] at zX179 yg180
        have ZX179 := hid zX179
        rw [hX179, hg180]
        clear hX179 hg180 zX179 bX179
        refine hK.out _ _ ?_ (fun hHeld => ?_)
        · (try dsimp only); exact ⟨row_cell r181.out 0, row_cell r181.out 1, row_cell r181.out 5, row_cell r182.out 0, row_cell r182.out 1⟩
        clear hK K
        try simp only [List.getElem_toArray, List.getElem_cons_succ, List.getElem_cons_zero, Act.put, List.setIfInBounds_toArray, List.set_cons_zero, List.set_cons_succ]
        refine wpAnyH_ready (rs := [10]) (by kernel_rfl) (by simp) ?_
        refine (AllReadyH.cons (o := _) rfl (fun K hK => ?_) AllReadyH.nil)
        go_simp
        go_at_call 20
        with_reducible refine (CN.out X179).mono ?_
        rintro e X185 ⟨rfl, DbX185⟩
        have r186 := hid (row_on r181.out DbX185.out)
        have r187 := hid (row_on r182.out DbX185.out)
        have r188 := hid (row_on ZX179.out DbX185.out)
        have DX185 := hid (btr DX179.out DbX185.out)
        have UX185 := hid (DX179.out.size)
        (try go_wp2_with fail)
        refine hK.out _ _ ?_ (fun hHeld => ?_)
        · (try dsimp only); exact ⟨row_cell r186.out 0, row_cell r186.out 1, row_cell r186.out 5, row_cell r187.out 0, row_cell r187.out 1⟩
        clear hK K
        try simp only [List.getElem_toArray, List.getElem_cons_succ, List.getElem_cons_zero, Act.put, List.setIfInBounds_toArray, List.set_cons_zero, List.set_cons_succ]
        refine wpAnyH_ready (rs := [11]) (by kernel_rfl) (by simp) ?_
        refine (AllReadyH.cons (o := _) rfl (fun K hK => ?_) AllReadyH.nil)
        go_simp
        go_at_call 19
        with_reducible refine (CBo2.out X185).mono ?_
        rintro e X189 ⟨rfl, DbX189⟩
        have r190 := hid (row_on r186.out DbX189.out)
        have r191 := hid (row_on r187.out DbX189.out)
        have r192 := hid (row_on r188.out DbX189.out)
        have DX189 := hid (btr DX185.out DbX189.out)
        have UX189 := hid (DX185.out.size)
        (try go_wp2_with fail)
        refine hK.out _ _ ?_ (fun hHeld => ?_)
        · (try dsimp only); exact ⟨row_cell r190.out 0, row_cell r190.out 1, row_cell r190.out 5, row_cell r191.out 0, row_cell r191.out 1⟩
        clear hK K
        try simp only [List.getElem_toArray, List.getElem_cons_succ, List.getElem_cons_zero, Act.put, List.setIfInBounds_toArray, List.set_cons_zero, List.set_cons_succ]
        refine wpAnyH_ready (rs := [13]) (by kernel_rfl) (by simp) ?_
        refine (AllReadyH.cons (o := _) rfl (fun K hK => ?_) AllReadyH.nil)
        refine step_store_row (by rfl) 38 (.tmp 7) (.tmp 33) (by rfl) g180 #[.int .i64 bo.qt, .int .u64 (hiW bo.co), .int .u64 (loW bo.co), .int .u64 (hiW bo.ga), .int .u64 (loW bo.ga)] (by rfl) (by rfl) 38 _ r192.out infoPo5 (by rfl) (by simp [Value.oneCell']) ?_
        obtain ⟨Y193, hY193⟩ : ∃ Y, X189.setRow g180 #[.int .i64 bo.qt, .int .u64 (hiW bo.co), .int .u64 (loW bo.co), .int .u64 (hiW bo.ga), .int .u64 (loW bo.ga)] = Y := ⟨_, rfl⟩
        have KY193 := hid (show Kp (fun j => j = g180) X189 Y193 from by rw [← hY193]; exact setRow_kp _ _ _)
        have AY193 := hid (show Y193.heap[g180]? = some (.cells #[.int .i64 bo.qt, .int .u64 (hiW bo.co), .int .u64 (loW bo.co), .int .u64 (hiW bo.ga), .int .u64 (loW bo.ga)] 38 (0, 0)) from by rw [← hY193]; exact setRow_heap X189 g180 _ _ 38 (0, 0) r192.out)
        have DY193 := hid (show Below X5.heap.size X5 Y193 from by rw [← hY193]; exact setRow_below DX189.out yg180)
        have r194 := hid (KY193.out.row r190.out (fun e => n183.symm e))
        have r195 := hid (KY193.out.row r191.out (fun e => n184.symm e))
        rw [hY193]
        refine hK.out _ _ ?_ (fun hHeld => ?_)
        · (try dsimp only); exact ⟨row_cell r194.out 0, row_cell r194.out 1, row_cell r194.out 5, row_cell r195.out 0, row_cell r195.out 1⟩
        clear hK K hY193
        try simp only [List.getElem_toArray, List.getElem_cons_succ, List.getElem_cons_zero, Act.put, List.setIfInBounds_toArray, List.set_cons_zero, List.set_cons_succ]
        refine wpAnyH_done (by kernel_rfl) ?_ _
        exact ⟨g180, by kernel_rfl, DY193, AY193, yg180⟩
    · go_simp
      obtain ⟨X196, hX196⟩ : ∃ X, V145.alloc (.cells #[.int .i64 0, .int .u64 0, .int .u64 0, .int .u64 0, .int .u64 0] 38) = X := ⟨_, rfl⟩
      have bX196 : Below V145.heap.size V145 X196 := by rw [← hX196]; exact ball _ _
      have r198 := hid (row_on r146.out bX196)
      have r199 := hid (row_on r147.out bX196)
      have DX196 := hid (btr BV145.out bX196)
      have zX196 : X196.heap[V145.heap.size]? = some (.cells #[.int .i64 0, .int .u64 0, .int .u64 0, .int .u64 0, .int .u64 0] 38 (0, 0)) := by rw [← hX196]; exact World.alloc_heap_new _ _
      have yg197 := BV145.out.size
      obtain ⟨g197, hg197⟩ : ∃ g, V145.heap.size = g := ⟨_, rfl⟩
      have n200 : g197 ≠ R := by have := row_lt r146.out; omega
      have n201 : g197 ≠ a6 := by have := row_lt r147.out; omega
      rw [hg197] at zX196 yg197
      have ZX196 := hid zX196
      rw [hX196, hg197]
      clear hX196 hg197 zX196 bX196
      refine hK.out _ _ ?_ (fun hHeld => ?_)
      · (try dsimp only); exact ⟨row_cell r198.out 0, row_cell r198.out 1, row_cell r198.out 5, row_cell r199.out 0, row_cell r199.out 1⟩
      clear hK K
      try simp only [List.getElem_toArray, List.getElem_cons_succ, List.getElem_cons_zero, Act.put, List.setIfInBounds_toArray, List.set_cons_zero, List.set_cons_succ]
      refine wpAnyH_ready (rs := [5]) (by kernel_rfl) (by simp) ?_
      refine (AllReadyH.cons (o := _) rfl (fun K hK => ?_) AllReadyH.nil)
      go_simp
      go_at_call 7
      with_reducible refine (CPb.out X196 (btr W5.out DX196.out)).mono ?_
      rintro e X202 ⟨rfl, DbX202⟩
      have r203 := hid (row_on r198.out DbX202.out)
      have r204 := hid (row_on r199.out DbX202.out)
      have r205 := hid (row_on ZX196.out DbX202.out)
      have DX202 := hid (btr DX196.out DbX202.out)
      have UX202 := hid (DX196.out.size)
      (try go_wp2_with fail)
      refine hK.out _ _ ?_ (fun hHeld => ?_)
      · (try dsimp only); exact ⟨row_cell r203.out 0, row_cell r203.out 1, row_cell r203.out 5, row_cell r204.out 0, row_cell r204.out 1⟩
      clear hK K
      try simp only [List.getElem_toArray, List.getElem_cons_succ, List.getElem_cons_zero, Act.put, List.setIfInBounds_toArray, List.set_cons_zero, List.set_cons_succ]
      refine wpAnyH_ready (rs := [10]) (by kernel_rfl) (by simp) ?_
      refine (AllReadyH.cons (o := _) rfl (fun K hK => ?_) AllReadyH.nil)
      go_simp
      go_at_call 20
      with_reducible refine (CN.out X202).mono ?_
      rintro e X206 ⟨rfl, DbX206⟩
      have r207 := hid (row_on r203.out DbX206.out)
      have r208 := hid (row_on r204.out DbX206.out)
      have r209 := hid (row_on r205.out DbX206.out)
      have DX206 := hid (btr DX202.out DbX206.out)
      have UX206 := hid (DX202.out.size)
      (try go_wp2_with fail)
      refine hK.out _ _ ?_ (fun hHeld => ?_)
      · (try dsimp only); exact ⟨row_cell r207.out 0, row_cell r207.out 1, row_cell r207.out 5, row_cell r208.out 0, row_cell r208.out 1⟩
      clear hK K
      try simp only [List.getElem_toArray, List.getElem_cons_succ, List.getElem_cons_zero, Act.put, List.setIfInBounds_toArray, List.set_cons_zero, List.set_cons_succ]
      refine wpAnyH_ready (rs := [11]) (by kernel_rfl) (by simp) ?_
      refine (AllReadyH.cons (o := _) rfl (fun K hK => ?_) AllReadyH.nil)
      go_simp
      go_at_call 19
      with_reducible refine (CBo2.out X206).mono ?_
      rintro e X210 ⟨rfl, DbX210⟩
      have r211 := hid (row_on r207.out DbX210.out)
      have r212 := hid (row_on r208.out DbX210.out)
      have r213 := hid (row_on r209.out DbX210.out)
      have DX210 := hid (btr DX206.out DbX210.out)
      have UX210 := hid (DX206.out.size)
      (try go_wp2_with fail)
      refine hK.out _ _ ?_ (fun hHeld => ?_)
      · (try dsimp only); exact ⟨row_cell r211.out 0, row_cell r211.out 1, row_cell r211.out 5, row_cell r212.out 0, row_cell r212.out 1⟩
      clear hK K
      try simp only [List.getElem_toArray, List.getElem_cons_succ, List.getElem_cons_zero, Act.put, List.setIfInBounds_toArray, List.set_cons_zero, List.set_cons_succ]
      refine wpAnyH_ready (rs := [13]) (by kernel_rfl) (by simp) ?_
      refine (AllReadyH.cons (o := _) rfl (fun K hK => ?_) AllReadyH.nil)
      refine step_store_row (by rfl) 38 (.tmp 7) (.tmp 33) (by rfl) g197 #[.int .i64 bo.qt, .int .u64 (hiW bo.co), .int .u64 (loW bo.co), .int .u64 (hiW bo.ga), .int .u64 (loW bo.ga)] (by rfl) (by rfl) 38 _ r213.out infoPo5 (by rfl) (by simp [Value.oneCell']) ?_
      obtain ⟨Y214, hY214⟩ : ∃ Y, X210.setRow g197 #[.int .i64 bo.qt, .int .u64 (hiW bo.co), .int .u64 (loW bo.co), .int .u64 (hiW bo.ga), .int .u64 (loW bo.ga)] = Y := ⟨_, rfl⟩
      have KY214 := hid (show Kp (fun j => j = g197) X210 Y214 from by rw [← hY214]; exact setRow_kp _ _ _)
      have AY214 := hid (show Y214.heap[g197]? = some (.cells #[.int .i64 bo.qt, .int .u64 (hiW bo.co), .int .u64 (loW bo.co), .int .u64 (hiW bo.ga), .int .u64 (loW bo.ga)] 38 (0, 0)) from by rw [← hY214]; exact setRow_heap X210 g197 _ _ 38 (0, 0) r213.out)
      have DY214 := hid (show Below X5.heap.size X5 Y214 from by rw [← hY214]; exact setRow_below DX210.out yg197)
      have r215 := hid (KY214.out.row r211.out (fun e => n200.symm e))
      have r216 := hid (KY214.out.row r212.out (fun e => n201.symm e))
      rw [hY214]
      refine hK.out _ _ ?_ (fun hHeld => ?_)
      · (try dsimp only); exact ⟨row_cell r215.out 0, row_cell r215.out 1, row_cell r215.out 5, row_cell r216.out 0, row_cell r216.out 1⟩
      clear hK K hY214
      try simp only [List.getElem_toArray, List.getElem_cons_succ, List.getElem_cons_zero, Act.put, List.setIfInBounds_toArray, List.set_cons_zero, List.set_cons_succ]
      refine wpAnyH_done (by kernel_rfl) ?_ _
      exact ⟨g197, by kernel_rfl, DY214, AY214, yg197⟩
  rintro t7 V5 ⟨B5, GB, N7⟩
  try simp only [List.getElem_toArray, List.getElem_cons_succ, List.getElem_cons_zero, Act.put, List.setIfInBounds_toArray, List.set_cons_zero, List.set_cons_succ]
  have W6 := hid (btr W5.out B5.out)
  have GD6 := hid (row_on GD.out B5.out)
  have GV6 := hid (row_on GV.out B5.out)
  have M7 := hid (show w.heap.size ≤ t7 from Nat.le_trans W5.out.size N7.out)
  clear GD GV N7
  go_upto_region 6 with fail
  have f0 := row_cell GD6.out 0
  have f2 := row_cell GD6.out 2
  simp only [List.getElem?_toArray, List.getElem?_cons_succ, List.getElem?_cons_zero] at f0 f2
  go_upto_region 7 with (first | (go_at_call 7; with_reducible refine (CPs.out V5 W6.out).mono ?_; rintro e w7 ⟨rfl, hb⟩; have HB7 := hid hb.out; have HZ7 := hid (World.alloc_heap_new w7 (.cells #[.int .i64 0, .int .u64 0, .int .u64 0, .int .u64 0, .int .u64 0] 38)); clear hb) | (refine wpList_store_row (by rfl) 38 (.tmp 8) (.tmp 39) (by rfl) w7.heap.size #[.int .i64 pb.qt, .int .u64 (hiW pb.co), .int .u64 (loW pb.co), .int .u64 (hiW pb.ga), .int .u64 (loW pb.ga)] (by rfl) (by rfl) 38 _ HZ7.out infoPo5 (by rfl) (by simp [Value.oneCell']) ?_))
  obtain ⟨X7, hX7⟩ : ∃ X, (w7.alloc (.cells #[.int .i64 0, .int .u64 0, .int .u64 0, .int .u64 0, .int .u64 0] 38)).setRow w7.heap.size #[.int .i64 pb.qt, .int .u64 (hiW pb.co), .int .u64 (loW pb.co), .int .u64 (hiW pb.ga), .int .u64 (loW pb.ga)] = X := ⟨_, rfl⟩
  have GP := hid (show X7.heap[w7.heap.size]? = some (.cells #[.int .i64 pb.qt, .int .u64 (hiW pb.co), .int .u64 (loW pb.co), .int .u64 (hiW pb.ga), .int .u64 (loW pb.ga)] 38 (0, 0)) from by rw [← hX7]; exact setRow_heap _ _ _ _ 38 (0, 0) HZ7.out)
  have BX7 := hid (show Below w7.heap.size w7 X7 from by rw [← hX7]; exact setRow_below (ball _ _) (Nat.le_refl _))
  rw [hX7]
  obtain ⟨t8, ht8⟩ : ∃ t, w7.heap.size = t := ⟨_, rfl⟩
  rw [ht8] at GP ⊢
  have BV7 := hid (btr HB7.out BX7.out)
  have W7 := hid (btr W6.out BV7.out)
  have GD7 := hid (row_on GD6.out BV7.out)
  have GV7 := hid (row_on GV6.out BV7.out)
  have GB7 := hid (row_on GB.out BV7.out)
  have N78 : t8 ≠ t7 := by have h1 := row_lt GB.out; have h2 := HB7.out.size; omega
  have N7D : t8 ≠ R := by have h1 := row_lt GD6.out; have h2 := HB7.out.size; omega
  have N7V : t8 ≠ a6 := by have h1 := row_lt GV6.out; have h2 := HB7.out.size; omega
  have NN8 := hid (show w.heap.size ≤ t8 from by have := W6.out.size; have := HB7.out.size; omega)
  have HN78 := hid N78
  have HN7D := hid N7D
  have HN7V := hid N7V
  clear hX7 HZ7 ht8 f0 f2 GD6 GV6 GB N78 N7D N7V
  have f1 := row_cell GD7.out 1
  have f2 := row_cell GD7.out 2
  simp only [List.getElem?_toArray, List.getElem?_cons_succ, List.getElem?_cons_zero] at f1 f2
  go_upto_region 9 with fail
  clear f1 f2
  obtain ⟨X8, hX8⟩ : ∃ X, X7 = X := ⟨_, rfl⟩
  rw [hX8] at GP GD7 GV7 GB7 W7 ⊢
  have GP8 := hid GP.out
  have GD8 := hid GD7.out
  have GV8 := hid GV7.out
  have GB8 := hid GB7.out
  have W8 := hid W7.out
  clear hX8
  have p0 := row_cell GP8.out 0
  have p1 := row_cell GP8.out 1
  have p2 := row_cell GP8.out 2
  have p3 := row_cell GP8.out 3
  have p4 := row_cell GP8.out 4
  simp only [List.getElem?_toArray, List.getElem?_cons_succ, List.getElem?_cons_zero] at p0 p1 p2 p3 p4
  have f5 := row_cell GD8.out 5
  simp only [List.getElem?_toArray, List.getElem?_cons_succ, List.getElem?_cons_zero] at f5
  have v0 := row_cell GV8.out 0
  have v1 := row_cell GV8.out 1
  simp only [List.getElem?_toArray, List.getElem?_cons_succ, List.getElem?_cons_zero] at v0 v1
  have CSo2 := hid (show ∀ U, Calls Try.prog 19 #[.agg #[.int .i64 pb.qt, .int .u64 (hiW pb.co), .int .u64 (loW pb.co), .int .u64 (hiW pb.ga), .int .u64 (loW pb.ga)], .int .i64 (-qt), .agg #[.int .u64 (hiW v), .int .u64 (loW v)]] U fun e w' => e = .returned (.agg #[.int .i64 so.qt, .int .u64 (hiW so.co), .int .u64 (loW so.co), .int .u64 (hiW so.ga), .int .u64 (loW so.ga)]) ∧ Hid (Below U.heap.size U w') from fun U => CSo.out U)
  go_upto_region 10 with (first | (go_at_call 19; with_reducible refine (CSo2.out _).mono ?_; rintro e w9 ⟨rfl, hb⟩; have HB9 := hid hb.out; have HZ9 := hid (World.alloc_heap_new w9 (.cells #[.int .i64 0, .int .u64 0, .int .u64 0, .int .u64 0, .int .u64 0] 38)); clear hb) | (refine wpList_store_row (by rfl) 38 (.tmp 9) (.tmp 52) (by rfl) w9.heap.size #[.int .i64 so.qt, .int .u64 (hiW so.co), .int .u64 (loW so.co), .int .u64 (hiW so.ga), .int .u64 (loW so.ga)] (by rfl) (by rfl) 38 _ HZ9.out infoPo5 (by rfl) (by simp [Value.oneCell']) ?_))
  obtain ⟨X9, hX9⟩ : ∃ X, (w9.alloc (.cells #[.int .i64 0, .int .u64 0, .int .u64 0, .int .u64 0, .int .u64 0] 38)).setRow w9.heap.size #[.int .i64 so.qt, .int .u64 (hiW so.co), .int .u64 (loW so.co), .int .u64 (hiW so.ga), .int .u64 (loW so.ga)] = X := ⟨_, rfl⟩
  have GS := hid (show X9.heap[w9.heap.size]? = some (.cells #[.int .i64 so.qt, .int .u64 (hiW so.co), .int .u64 (loW so.co), .int .u64 (hiW so.ga), .int .u64 (loW so.ga)] 38 (0, 0)) from by rw [← hX9]; exact setRow_heap _ _ _ _ 38 (0, 0) HZ9.out)
  have BX9 := hid (show Below w9.heap.size w9 X9 from by rw [← hX9]; exact setRow_below (ball _ _) (Nat.le_refl _))
  rw [hX9]
  obtain ⟨t9, ht9⟩ : ∃ t, w9.heap.size = t := ⟨_, rfl⟩
  rw [ht9] at GS ⊢
  have BV9 := hid (btr HB9.out BX9.out)
  have W9 := hid (btr W8.out BV9.out)
  have GD9 := hid (row_on GD8.out BV9.out)
  have GV9 := hid (row_on GV8.out BV9.out)
  have GB9 := hid (row_on GB8.out BV9.out)
  have M9 := hid (show w.heap.size ≤ t9 from by have := W8.out.size; have := HB9.out.size; omega)
  clear hX9 HZ9 ht9 p0 p1 p2 p3 p4 f5 v0 v1
  have b0 := row_cell GB9.out 0
  simp only [List.getElem?_toArray, List.getElem?_cons_succ, List.getElem?_cons_zero] at b0
  have c0 := row_cell GS.out 0
  simp only [List.getElem?_toArray, List.getElem?_cons_succ, List.getElem?_cons_zero] at c0
  go_wp2_with (first | (go_at_call 21; with_reducible refine (CZb.out _).mono ?_; rintro e w10 ⟨rfl, rfl⟩) | (go_at_call 21; with_reducible refine (CZs.out _).mono ?_; rintro e w11 ⟨rfl, rfl⟩))
  go_ret
  exact ⟨rfl, W9.out⟩
end Go.Proofs.Ytdbnkidfclgnfaa.Ac
