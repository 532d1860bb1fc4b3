/-
  A deal is booked.
-/
import Derived.Test.YtdbnkidfclgnfaaAcR
namespace Go.Proofs.Ytdbnkidfclgnfaa.Ac
open Go.RowKit Go.Deep Go.Maps Go.Proofs.Ytdbnkidfclgnfaa.MonM
set_option linter.unusedVariables false
set_option linter.unusedSimpArgs false
set_option maxHeartbeats 8000000
set_option maxRecDepth 100000
attribute [local go_sem ↓] Go.wp_at_zero Go.wp_at_succ
theorem book_over_db {w : World} {G : Nat} {O : Nat → Prop} {k : Nat} {s : Ls} (h : Lg w G O k s) (it bu se ta pr qt : Int) (hd : DeOk ⟨it, bu, se, ta, pr, qt⟩) (h0 : bkc s ⟨it, bu, se, ta, pr, qt⟩ = 0) (hB : ∃ x, s.f x ≠ none) (hpr0 : 0 ≤ pr) (hpr1 : pr < 262144) (hqt0 : 0 < qt) (hqt1 : qt < 4294967296) (pa pb bo so : Po) (hpa : s.g bu it = pa) (hpb : s.g se it = pb)
    (CBo : Hid (∀ U, Calls Try.prog 19 #[.agg pa.row, .int .i64 qt, mv (-(pr * qt))] U fun e w' => e = .returned (.agg bo.row) ∧ Below U.heap.size U w')) (CSo : Hid (∀ U, Calls Try.prog 19 #[.agg pb.row, .int .i64 (-qt), mv (pr * qt)] U fun e w' => e = .returned (.agg so.row) ∧ Below U.heap.size U w'))
    (hbo : PoOk bo) (hso : PoOk so) (bb0 : absI bo.qt < 9223372036854775808) (bs0 : absI so.qt < 9223372036854775808) (hse : se ≠ bu) (hov : absI bo.qt ≤ 4294967295) (hov2 : 4294967295 < absI so.qt) (hk : k + 13 ≤ 1000000000000) :
    Calls Try.prog 8 #[.pointer (some ⟨G, 0, none⟩), .agg #[.int .u32 it, .int .u32 bu, .int .u32 se, .int .i64 ta, .int .i64 pr, .int .u64 qt]] w fun e w' => e = .returned (.int .i64 10) ∧ Below w.heap.size w w' := by
  have hv0 : 0 ≤ pr * qt := Int.mul_nonneg hpr0 (by omega)
  have hv1 : pr * qt ≤ 262144 * 4294967296 := Int.mul_le_mul (by omega) (by omega) (by omega) (by omega)
  have HL := hid h
  have HLT := hid h.lt
  have HD := hid hd
  have HBx := hid hB
  have HKK := hid hk
  have HV := hid (show Amt (pr * qt) from by unfold Amt; omega)
  obtain ⟨Wa, hWa⟩ : ∃ W, w.alloc (.cells #[.int .u32 it, .int .u32 bu, .int .u32 se, .int .i64 ta, .int .i64 pr, .int .u64 qt] 32) = W := ⟨_, rfl⟩
  obtain ⟨R, hR⟩ : ∃ R, w.heap.size = R := ⟨_, rfl⟩
  have HBA := hid (show Below w.heap.size w Wa from by rw [← hWa]; exact ball _ _)
  have HRA := hid (show Wa.heap[R]? = some (.cells #[.int .u32 it, .int .u32 bu, .int .u32 se, .int .i64 ta, .int .i64 pr, .int .u64 qt] 32 (0, 0)) from by rw [← hWa, ← hR]; exact World.alloc_heap_new _ _)
  have CB := hid (show Calls Try.prog 17 #[.pointer (some ⟨G, 0, none⟩), .agg #[.int .u32 it, .int .u32 bu, .int .u32 se, .int .i64 ta, .int .i64 pr, .int .u64 qt]] Wa fun e w' => e = .returned (.int .i64 0) ∧ Below Wa.heap.size Wa w' from by have h1 := bookable_any (HL.out.on HBA.out) ⟨it, bu, se, ta, pr, qt⟩ HD.out; rw [h0] at h1; exact h1)
  have CT := hid (fun U => times_any pr qt U hpr0 hpr1 (by omega) hqt1)
  have CPb := hid (show ∀ U, Below w.heap.size w U → Calls Try.prog 7 #[.pointer (some ⟨G, 0, none⟩), .int .u32 bu, .int .u32 it] U fun e w' => e = .returned (.agg pa.row) ∧ Hid (Below U.heap.size U w') from fun U hU => by rw [← hpa]; exact position_any (HL.out.on hU) bu it HD.out.bu HD.out.it)
  have CPs := hid (show ∀ U, Below w.heap.size w U → Calls Try.prog 7 #[.pointer (some ⟨G, 0, none⟩), .int .u32 se, .int .u32 it] U fun e w' => e = .returned (.agg pb.row) ∧ Hid (Below U.heap.size U w') from fun U hU => by rw [← hpb]; exact position_any (HL.out.on hU) se it HD.out.se HD.out.it)
  have CN := hid (show ∀ U, Calls Try.prog 20 #[mv (pr * qt)] U fun e w' => e = .returned (mv (-(pr * qt))) ∧ Hid (Below U.heap.size U w') from fun U => neg_any (pr * qt) U)
  have CZb := hid (show ∀ U, Calls Try.prog 21 #[.int .i64 bo.qt] U fun e w' => e = .returned (.int .u64 (absI bo.qt)) ∧ w' = U from fun U => size_any bo.qt U (by unfold absI at bb0; split at bb0 <;> omega) (by unfold absI at bb0; split at bb0 <;> omega))
  have CZs := hid (show ∀ U, Calls Try.prog 21 #[.int .i64 so.qt] U fun e w' => e = .returned (.int .u64 (absI so.qt)) ∧ w' = U from fun U => size_any so.qt U (by unfold absI at bs0; split at bs0 <;> omega) (by unfold absI at bs0; split at bs0 <;> omega))
  have wpr : IntKind.u32.wrap pr = pr := by rw [IntKind.wrap_u32]; omega
  have wqt : IntKind.i64.wrap qt = qt := by rw [IntKind.wrap_i64]; omega
  have wnq : IntKind.i64.wrap (-qt) = -qt := by rw [IntKind.wrap_i64]; omega
  have hsb : (se == bu) = false := by simpa using hse
  have hoa : decide (4294967295 < absI bo.qt) = false := by simp; omega
  have hob : decide (4294967295 < absI so.qt) = true := by simpa using hov2
  obtain ⟨v, hv⟩ : ∃ x, pr * qt = x := ⟨_, rfl⟩
  rw [hv] at CT CN CBo CSo HV
  unfold mv at CT CN CBo CSo
  unfold Po.row at CPb CPs CBo CSo
  have d0 := row_cell HRA.out 0
  have d1 := row_cell HRA.out 1
  have d2 := row_cell HRA.out 2
  have d3 := row_cell HRA.out 3
  have d4 := row_cell HRA.out 4
  have d5 := row_cell HRA.out 5
  simp only [List.getElem?_toArray, List.getElem?_cons_succ, List.getElem?_cons_zero] at d0 d1 d2 d3 d4 d5
  have HWa := hid hWa
  have HR := hid hR
  clear hWa hR h hd h0 hB hk hpr0 hpr1 hqt0 hqt1 hpa hpb hbo hso bb0 bs0 hse hov hv hv0 hv1 hov2
  go_enter Try.func8, Try.ntmps8
  go_upto_region 1 with fail
  rw [HWa.out, HR.out]
  clear HWa
  go_upto_region 4 with (go_at_call 17; with_reducible refine CB.out.mono ?_; rintro e w4 ⟨rfl, hb⟩; have HB4 := hid (btr HBA.out hb); have HD4 := hid (row_on HRA.out hb); clear hb)
  clear d0 d1 d2 d3 d4 d5
  have f4 := row_cell HD4.out 4
  have f5 := row_cell HD4.out 5
  simp only [List.getElem?_toArray, List.getElem?_cons_succ, List.getElem?_cons_zero] at f4 f5
  go_upto_region 5 with (first | (go_at_call 18; with_reducible refine (CT.out _).mono ?_; rintro e w5 ⟨rfl, hb⟩; have HB5 := hid hb; have HZ5 := hid (World.alloc_heap_new w5 (.cells #[.int .u64 0, .int .u64 0] 36)); clear hb) | (refine wpList_store_row (by rfl) 36 (.tmp 6) (.tmp 21) (by rfl) w5.heap.size #[.int .u64 (hiW v), .int .u64 (loW v)] (by rfl) (by rfl) 36 _ HZ5.out infoM (by rfl) (by simp [Value.oneCell']) ?_))
  obtain ⟨X5, hX5⟩ : ∃ X, (w5.alloc (.cells #[.int .u64 0, .int .u64 0] 36)).setRow w5.heap.size #[.int .u64 (hiW v), .int .u64 (loW v)] = X := ⟨_, rfl⟩
  have GV := hid (show X5.heap[w5.heap.size]? = some (.cells #[.int .u64 (hiW v), .int .u64 (loW v)] 36 (0, 0)) from by rw [← hX5]; exact setRow_heap _ _ _ _ 36 (0, 0) HZ5.out)
  have BX5 := hid (show Below w5.heap.size w5 X5 from by rw [← hX5]; exact setRow_below (ball _ _) (Nat.le_refl _))
  rw [hX5]
  obtain ⟨a6, ha6⟩ : ∃ t, w5.heap.size = t := ⟨_, rfl⟩
  rw [ha6] at GV ⊢
  have N6 := hid (show w.heap.size ≤ a6 from by rw [← ha6]; exact Nat.le_trans HB4.out.size HB5.out.size)
  have W5 := hid (btr HB4.out (btr HB5.out BX5.out))
  have GD := hid (row_on (row_on HD4.out HB5.out) BX5.out)
  clear hX5 HZ5 ha6 f4 f5 BX5 HB5 HD4
  have CBo2 := hid (show ∀ U, Calls Try.prog 19 #[.agg #[.int .i64 pa.qt, .int .u64 (hiW pa.co), .int .u64 (loW pa.co), .int .u64 (hiW pa.ga), .int .u64 (loW pa.ga)], .int .i64 qt, .agg #[.int .u64 (hiW (-v)), .int .u64 (loW (-v))]] U fun e w' => e = .returned (.agg #[.int .i64 bo.qt, .int .u64 (hiW bo.co), .int .u64 (loW bo.co), .int .u64 (hiW bo.ga), .int .u64 (loW bo.ga)]) ∧ Hid (Below U.heap.size U w') from fun U => CBo.out U)
  refine reg_cut (X := Nat) (fun a t => (((((((((((((a.put (some 22) (.pointer (some ⟨G, 0, none⟩))).put (some 23) (.pointer (some ⟨R, 1, none⟩))).put (some 24) (.int .u32 bu)).put (some 25) (.pointer (some ⟨R, 0, none⟩))).put (some 26) (.int .u32 it)).put (some 27) (.agg #[.int .i64 pa.qt, .int .u64 (hiW pa.co), .int .u64 (loW pa.co), .int .u64 (hiW pa.ga), .int .u64 (loW pa.ga)])).put (some 28) (.pointer (some ⟨R, 5, none⟩))).put (some 29) (.int .u64 qt)).put (some 30) (.int .i64 qt)).put (some 31) (.agg #[.int .u64 (hiW v), .int .u64 (loW v)])).put (some 32) (.agg #[.int .u64 (hiW (-v)), .int .u64 (loW (-v))])).put (some 33) (.agg #[.int .i64 bo.qt, .int .u64 (hiW bo.co), .int .u64 (loW bo.co), .int .u64 (hiW bo.ga), .int .u64 (loW bo.ga)])).put (some 7) (.pointer (some ⟨t, 0, none⟩)))) (fun t V => Hid (Below X5.heap.size X5 V) ∧ Hid (V.heap[t]? = some (.cells #[.int .i64 bo.qt, .int .u64 (hiW bo.co), .int .u64 (loW bo.co), .int .u64 (hiW bo.ga), .int .u64 (loW bo.ga)] 38 (0, 0))) ∧ Hid (X5.heap.size ≤ t)) ?_ ?_
  · obtain ⟨V217, hV217⟩ : ∃ U, X5.drew = U := ⟨_, rfl⟩
    have BV217 := hid (show Below X5.heap.size X5 V217 from by rw [← hV217]; exact bdrew1 _)
    have r218 := hid (row_on GD.out BV217.out)
    have r219 := hid (row_on GV.out BV217.out)
    refine wp_region_held_drew (S := (fun U => U.cell? ⟨R, 0, none⟩ = some (.int .u32 it) ∧ U.cell? ⟨R, 1, none⟩ = some (.int .u32 bu) ∧ U.cell? ⟨R, 5, none⟩ = some (.int .u64 qt) ∧ U.cell? ⟨a6, 0, none⟩ = some (.int .u64 (hiW v)) ∧ U.cell? ⟨a6, 1, none⟩ = some (.int .u64 (loW v)))) (by kernel_rfl) ?_ (fun hHeld => ?_)
    · (try dsimp only); rw [hV217]; exact ⟨row_cell r218.out 0, row_cell r218.out 1, row_cell r218.out 5, row_cell r219.out 0, row_cell r219.out 1⟩
    rw [hV217] at hHeld ⊢
    clear hV217
    refine' wpAnyH_take (i := 0) (oi := _) (v := _) rfl (by kernel_rfl) (by kernel_rfl) (by kernel_rfl) (fun _ _ _ h => h) (Or.inl ⟨by kernel_rfl, ?_⟩) (by assumption) ?_
    rotate_left
    · (intro w hSw; (try dsimp only at hSw); go_simp; try (with_reducible rfl))
    try simp only [List.getElem_toArray, List.getElem_cons_succ, List.getElem_cons_zero, Act.put, List.setIfInBounds_toArray, List.set_cons_zero, List.set_cons_succ]
    refine' wpAnyH_take (i := 1) (oi := _) (v := _) rfl (by kernel_rfl) (by kernel_rfl) (by kernel_rfl) (fun _ _ _ h => h) (Or.inl ⟨by kernel_rfl, ?_⟩) (by assumption) ?_
    rotate_left
    · (intro w hSw; (try dsimp only at hSw); go_simp; try (with_reducible rfl))
    try simp only [List.getElem_toArray, List.getElem_cons_succ, List.getElem_cons_zero, Act.put, List.setIfInBounds_toArray, List.set_cons_zero, List.set_cons_succ]
    refine' wpAnyH_take (i := 2) (oi := _) (v := _) rfl (by kernel_rfl) (by kernel_rfl) (by kernel_rfl) (fun _ _ _ h => h) (Or.inl ⟨by kernel_rfl, ?_⟩) (by assumption) ?_
    rotate_left
    · (intro w hSw; (try dsimp only at hSw); go_simp; try (with_reducible rfl))
    try simp only [List.getElem_toArray, List.getElem_cons_succ, List.getElem_cons_zero, Act.put, List.setIfInBounds_toArray, List.set_cons_zero, List.set_cons_succ]
    refine' wpAnyH_take (i := 3) (oi := _) (v := _) rfl (by kernel_rfl) (by kernel_rfl) (by kernel_rfl) (fun _ _ _ h => h) (Or.inl ⟨by kernel_rfl, ?_⟩) (by assumption) ?_
    rotate_left
    · (intro w hSw; (try dsimp only at hSw); go_simp; try (with_reducible rfl))
    try simp only [List.getElem_toArray, List.getElem_cons_succ, List.getElem_cons_zero, Act.put, List.setIfInBounds_toArray, List.set_cons_zero, List.set_cons_succ]
    refine' wpAnyH_take (i := 4) (oi := _) (v := _) rfl (by kernel_rfl) (by kernel_rfl) (by kernel_rfl) (fun _ _ _ h => h) (Or.inl ⟨by kernel_rfl, ?_⟩) (by assumption) ?_
    rotate_left
    · (intro w hSw; (try dsimp only at hSw); go_simp; try (with_reducible rfl))
    try simp only [List.getElem_toArray, List.getElem_cons_succ, List.getElem_cons_zero, Act.put, List.setIfInBounds_toArray, List.set_cons_zero, List.set_cons_succ]
    refine' wpAnyH_take (i := 6) (oi := _) (v := _) rfl (by kernel_rfl) (by kernel_rfl) (by kernel_rfl) (fun _ _ _ h => h) (Or.inl ⟨by kernel_rfl, ?_⟩) (by assumption) ?_
    rotate_left
    · (intro w hSw; (try dsimp only at hSw); go_simp; try (with_reducible rfl))
    try simp only [List.getElem_toArray, List.getElem_cons_succ, List.getElem_cons_zero, Act.put, List.setIfInBounds_toArray, List.set_cons_zero, List.set_cons_succ]
    refine' wpAnyH_take (i := 7) (oi := _) (v := _) rfl (by kernel_rfl) (by kernel_rfl) (by kernel_rfl) (fun _ _ _ h => h) (Or.inl ⟨by kernel_rfl, ?_⟩) (by assumption) ?_
    rotate_left
    · (intro w hSw; (try dsimp only at hSw); go_simp; try (with_reducible rfl))
    try simp only [List.getElem_toArray, List.getElem_cons_succ, List.getElem_cons_zero, Act.put, List.setIfInBounds_toArray, List.set_cons_zero, List.set_cons_succ]
    refine' wpAnyH_take (i := 8) (oi := _) (v := _) rfl (by kernel_rfl) (by kernel_rfl) (by kernel_rfl) (fun _ _ _ h => h) (Or.inl ⟨by kernel_rfl, ?_⟩) (by assumption) ?_
    rotate_left
    · (intro w hSw; (try dsimp only at hSw); go_simp; try (with_reducible rfl))
    try simp only [List.getElem_toArray, List.getElem_cons_succ, List.getElem_cons_zero, Act.put, List.setIfInBounds_toArray, List.set_cons_zero, List.set_cons_succ]
    refine' wpAnyH_take (i := 9) (oi := _) (v := _) rfl (by kernel_rfl) (by kernel_rfl) (by kernel_rfl) (fun _ _ _ h => h) (Or.inl ⟨by kernel_rfl, ?_⟩) (by assumption) ?_
    rotate_left
    · (intro w hSw; (try dsimp only at hSw); go_simp; try (with_reducible rfl))
    try simp only [List.getElem_toArray, List.getElem_cons_succ, List.getElem_cons_zero, Act.put, List.setIfInBounds_toArray, List.set_cons_zero, List.set_cons_succ]
    refine wpAnyH_ready (rs := [5, 12]) (by kernel_rfl) (by simp) ?_
    refine (AllReadyH.cons (o := _) rfl (fun K hK => ?_) (AllReadyH.cons (o := _) rfl (fun K hK => ?_) AllReadyH.nil))
    · go_simp
      go_at_call 7
      with_reducible refine (CPb.out V217 (btr W5.out BV217.out)).mono ?_
      rintro e X220 ⟨rfl, DbX220⟩
      have r221 := hid (row_on r218.out DbX220.out)
      have r222 := hid (row_on r219.out DbX220.out)
      have DX220 := hid (btr BV217.out DbX220.out)
      have UX220 := hid (BV217.out.size)
      (try go_wp2_with fail)
      refine hK.out _ _ ?_ (fun hHeld => ?_)
      · (try dsimp only); exact ⟨row_cell r221.out 0, row_cell r221.out 1, row_cell r221.out 5, row_cell r222.out 0, row_cell r222.out 1⟩
      clear hK K
      try simp only [List.getElem_toArray, List.getElem_cons_succ, List.getElem_cons_zero, Act.put, List.setIfInBounds_toArray, List.set_cons_zero, List.set_cons_succ]
      refine wpAnyH_ready (rs := [10, 12]) (by kernel_rfl) (by simp) ?_
      refine (AllReadyH.cons (o := _) rfl (fun K hK => ?_) (AllReadyH.cons (o := _) rfl (fun K hK => ?_) AllReadyH.nil))
      · go_simp
        go_at_call 20
        with_reducible refine (CN.out X220).mono ?_
        rintro e X223 ⟨rfl, DbX223⟩
        have r224 := hid (row_on r221.out DbX223.out)
        have r225 := hid (row_on r222.out DbX223.out)
        have DX223 := hid (btr DX220.out DbX223.out)
        have UX223 := hid (DX220.out.size)
        (try go_wp2_with fail)
        refine hK.out _ _ ?_ (fun hHeld => ?_)
        · (try dsimp only); exact ⟨row_cell r224.out 0, row_cell r224.out 1, row_cell r224.out 5, row_cell r225.out 0, row_cell r225.out 1⟩
        clear hK K
        try simp only [List.getElem_toArray, List.getElem_cons_succ, List.getElem_cons_zero, Act.put, List.setIfInBounds_toArray, List.set_cons_zero, List.set_cons_succ]
        refine wpAnyH_ready (rs := [11, 12]) (by kernel_rfl) (by simp) ?_
        refine (AllReadyH.cons (o := _) rfl (fun K hK => ?_) (AllReadyH.cons (o := _) rfl (fun K hK => ?_) AllReadyH.nil))
        · go_simp
          go_at_call 19
          with_reducible refine (CBo2.out X223).mono ?_
          rintro e X226 ⟨rfl, DbX226⟩
          have r227 := hid (row_on r224.out DbX226.out)
          have r228 := hid (row_on r225.out DbX226.out)
          have DX226 := hid (btr DX223.out DbX226.out)
          have UX226 := hid (DX223.out.size)
          (try go_wp2_with fail)
          refine hK.out _ _ ?_ (fun hHeld => ?_)
          · (try dsimp only); exact ⟨row_cell r227.out 0, row_cell r227.out 1, row_cell r227.out 5, row_cell r228.out 0, row_cell r228.out 1⟩
          clear hK K
          try simp only [List.getElem_toArray, List.getElem_cons_succ, List.getElem_cons_zero, Act.put, List.setIfInBounds_toArray, List.set_cons_zero, List.set_cons_succ]
          refine wpAnyH_ready (rs := [12]) (by kernel_rfl) (by simp) ?_
          refine (AllReadyH.cons (o := _) rfl (fun K hK => ?_) AllReadyH.nil)
          go_simp
          obtain ⟨X229, hX229⟩ : ∃ X, X226.alloc (.cells #[.int .i64 0, .int .u64 0, .int .u64 0, .int .u64 0, .int .u64 0] 38) = X := ⟨_, rfl⟩
          have bX229 : Below X226.heap.size X226 X229 := by rw [← hX229]; exact ball _ _
          have r231 := hid (row_on r227.out bX229)
          have r232 := hid (row_on r228.out bX229)
          have DX229 := hid (btr DX226.out bX229)
          have zX229 : X229.heap[X226.heap.size]? = some (.cells #[.int .i64 0, .int .u64 0, .int .u64 0, .int .u64 0, .int .u64 0] 38 (0, 0)) := by rw [← hX229]; exact World.alloc_heap_new _ _
          have yg230 := DX226.out.size
          obtain ⟨g230, hg230⟩ : ∃ g, X226.heap.size = g := ⟨_, rfl⟩
          have n233 : g230 ≠ R := by have := row_lt r227.out; omega
          have n234 : g230 ≠ a6 := by have := row_lt r228.out; omega
          rw [hg230] at zX229 yg230
          have ZX229 := hid zX229
          rw [hX229, hg230]
          clear hX229 hg230 zX229 bX229
          refine hK.out _ _ ?_ (fun hHeld => ?_)
          · (try dsimp only); exact ⟨row_cell r231.out 0, row_cell r231.out 1, row_cell r231.out 5, row_cell r232.out 0, row_cell r232.out 1⟩
          clear hK K
          try simp only [List.getElem_toArray, List.getElem_cons_succ, List.getElem_cons_zero, Act.put, List.setIfInBounds_toArray, List.set_cons_zero, List.set_cons_succ]
          refine wpAnyH_ready (rs := [13]) (by kernel_rfl) (by simp) ?_
          refine (AllReadyH.cons (o := _) rfl (fun K hK => ?_) AllReadyH.nil)
          refine step_store_row (by rfl) 38 (.tmp 7) (.tmp 33) (by rfl) g230 #[.int .i64 bo.qt, .int .u64 (hiW bo.co), .int .u64 (loW bo.co), .int .u64 (hiW bo.ga), .int .u64 (loW bo.ga)] (by rfl) (by rfl) 38 _ ZX229.out infoPo5 (by rfl) (by simp [Value.oneCell']) ?_
          obtain ⟨Y235, hY235⟩ : ∃ Y, X229.setRow g230 #[.int .i64 bo.qt, .int .u64 (hiW bo.co), .int .u64 (loW bo.co), .int .u64 (hiW bo.ga), .int .u64 (loW bo.ga)] = Y := ⟨_, rfl⟩
          have KY235 := hid (show Kp (fun j => j = g230) X229 Y235 from by rw [← hY235]; exact setRow_kp _ _ _)
          have AY235 := hid (show Y235.heap[g230]? = some (.cells #[.int .i64 bo.qt, .int .u64 (hiW bo.co), .int .u64 (loW bo.co), .int .u64 (hiW bo.ga), .int .u64 (loW bo.ga)] 38 (0, 0)) from by rw [← hY235]; exact setRow_heap X229 g230 _ _ 38 (0, 0) ZX229.out)
          have DY235 := hid (show Below X5.heap.size X5 Y235 from by rw [← hY235]; exact setRow_below DX229.out yg230)
          have r236 := hid (KY235.out.row r231.out (fun e => n233.symm e))
          have r237 := hid (KY235.out.row r232.out (fun e => n234.symm e))
          rw [hY235]
          refine hK.out _ _ ?_ (fun hHeld => ?_)
          · (try dsimp only); exact ⟨row_cell r236.out 0, row_cell r236.out 1, row_cell r236.out 5, row_cell r237.out 0, row_cell r237.out 1⟩
          clear hK K hY235
          try simp only [List.getElem_toArray, List.getElem_cons_succ, List.getElem_cons_zero, Act.put, List.setIfInBounds_toArray, List.set_cons_zero, List.set_cons_succ]
          refine wpAnyH_done (by kernel_rfl) ?_ _
          exact ⟨g230, by kernel_rfl, DY235, AY235, yg230⟩
        · go_simp
          obtain ⟨X238, hX238⟩ : ∃ X, X223.alloc (.cells #[.int .i64 0, .int .u64 0, .int .u64 0, .int .u64 0, .int .u64 0] 38) = X := ⟨_, rfl⟩
          have bX238 : Below X223.heap.size X223 X238 := by rw [← hX238]; exact ball _ _
          have r240 := hid (row_on r224.out bX238)
          have r241 := hid (row_on r225.out bX238)
          have DX238 := hid (btr DX223.out bX238)
          have zX238 : X238.heap[X223.heap.size]? = some (.cells #[.int .i64 0, .int .u64 0, .int .u64 0, .int .u64 0, .int .u64 0] 38 (0, 0)) := by rw [← hX238]; exact World.alloc_heap_new _ _
          have yg239 := DX223.out.size
          obtain ⟨g239, hg239⟩ : ∃ g, X223.heap.size = g := ⟨_, rfl⟩
          have n242 : g239 ≠ R := by have := row_lt r224.out; omega
          have n243 : g239 ≠ a6 := by have := row_lt r225.out; omega
          rw [hg239] at zX238 yg239
          have ZX238 := hid zX238
          rw [hX238, hg239]
          clear hX238 hg239 zX238 bX238
          refine hK.out _ _ ?_ (fun hHeld => ?_)
          · (try dsimp only); exact ⟨row_cell r240.out 0, row_cell r240.out 1, row_cell r240.out 5, row_cell r241.out 0, row_cell r241.out 1⟩
          clear hK K
          try simp only [List.getElem_toArray, List.getElem_cons_succ, List.getElem_cons_zero, Act.put, List.setIfInBounds_toArray, List.set_cons_zero, List.set_cons_succ]
          refine wpAnyH_ready (rs := [11]) (by kernel_rfl) (by simp) ?_
          refine (AllReadyH.cons (o := _) rfl (fun K hK => ?_) AllReadyH.nil)
          go_simp
          go_at_call 19
          with_reducible refine (CBo2.out X238).mono ?_
          rintro e X244 ⟨rfl, DbX244⟩
          have r245 := hid (row_on r240.out DbX244.out)
          have r246 := hid (row_on r241.out DbX244.out)
          have r247 := hid (row_on ZX238.out DbX244.out)
          have DX244 := hid (btr DX238.out DbX244.out)
          have UX244 := hid (DX238.out.size)
          (try go_wp2_with fail)
          refine hK.out _ _ ?_ (fun hHeld => ?_)
          · (try dsimp only); exact ⟨row_cell r245.out 0, row_cell r245.out 1, row_cell r245.out 5, row_cell r246.out 0, row_cell r246.out 1⟩
          clear hK K
          try simp only [List.getElem_toArray, List.getElem_cons_succ, List.getElem_cons_zero, Act.put, List.setIfInBounds_toArray, List.set_cons_zero, List.set_cons_succ]
          refine wpAnyH_ready (rs := [13]) (by kernel_rfl) (by simp) ?_
          refine (AllReadyH.cons (o := _) rfl (fun K hK => ?_) AllReadyH.nil)
          refine step_store_row (by rfl) 38 (.tmp 7) (.tmp 33) (by rfl) g239 #[.int .i64 bo.qt, .int .u64 (hiW bo.co), .int .u64 (loW bo.co), .int .u64 (hiW bo.ga), .int .u64 (loW bo.ga)] (by rfl) (by rfl) 38 _ r247.out infoPo5 (by rfl) (by simp [Value.oneCell']) ?_
          obtain ⟨Y248, hY248⟩ : ∃ Y, X244.setRow g239 #[.int .i64 bo.qt, .int .u64 (hiW bo.co), .int .u64 (loW bo.co), .int .u64 (hiW bo.ga), .int .u64 (loW bo.ga)] = Y := ⟨_, rfl⟩
          have KY248 := hid (show Kp (fun j => j = g239) X244 Y248 from by rw [← hY248]; exact setRow_kp _ _ _)
          have AY248 := hid (show Y248.heap[g239]? = some (.cells #[.int .i64 bo.qt, .int .u64 (hiW bo.co), .int .u64 (loW bo.co), .int .u64 (hiW bo.ga), .int .u64 (loW bo.ga)] 38 (0, 0)) from by rw [← hY248]; exact setRow_heap X244 g239 _ _ 38 (0, 0) r247.out)
          have DY248 := hid (show Below X5.heap.size X5 Y248 from by rw [← hY248]; exact setRow_below DX244.out yg239)
          have r249 := hid (KY248.out.row r245.out (fun e => n242.symm e))
          have r250 := hid (KY248.out.row r246.out (fun e => n243.symm e))
          rw [hY248]
          refine hK.out _ _ ?_ (fun hHeld => ?_)
          · (try dsimp only); exact ⟨row_cell r249.out 0, row_cell r249.out 1, row_cell r249.out 5, row_cell r250.out 0, row_cell r250.out 1⟩
          clear hK K hY248
          try simp only [List.getElem_toArray, List.getElem_cons_succ, List.getElem_cons_zero, Act.put, List.setIfInBounds_toArray, List.set_cons_zero, List.set_cons_succ]
          refine wpAnyH_done (by kernel_rfl) ?_ _
          exact ⟨g239, by kernel_rfl, DY248, AY248, yg239⟩
      · go_simp
        obtain ⟨X251, hX251⟩ : ∃ X, X220.alloc (.cells #[.int .i64 0, .int .u64 0, .int .u64 0, .int .u64 0, .int .u64 0] 38) = X := ⟨_, rfl⟩
        have bX251 : Below X220.heap.size X220 X251 := by rw [← hX251]; exact ball _ _
        have r253 := hid (row_on r221.out bX251)
        have r254 := hid (row_on r222.out bX251)
        have DX251 := hid (btr DX220.out bX251)
        have zX251 : X251.heap[X220.heap.size]? = some (.cells #[.int .i64 0, .int .u64 0, .int .u64 0, .int .u64 0, .int .u64 0] 38 (0, 0)) := by rw [← hX251]; exact World.alloc_heap_new _ _
        have yg252 := DX220.out.size
        obtain ⟨g252, hg252⟩ : ∃ g, X220.heap.size = g := ⟨_, rfl⟩
        have n255 : g252 ≠ R := by have := row_lt r221.out; omega
        have n256 : g252 ≠ a6 := by have := row_lt r222.out; omega
        rw [hg252] at zX251 yg252
        have ZX251 := hid zX251
        rw [hX251, hg252]
        clear hX251 hg252 zX251 bX251
        refine hK.out _ _ ?_ (fun hHeld => ?_)
        · (try dsimp only); exact ⟨row_cell r253.out 0, row_cell r253.out 1, row_cell r253.out 5, row_cell r254.out 0, row_cell r254.out 1⟩
        clear hK K
        try simp only [List.getElem_toArray, List.getElem_cons_succ, List.getElem_cons_zero, Act.put, List.setIfInBounds_toArray, List.set_cons_zero, List.set_cons_succ]
        refine wpAnyH_ready (rs := [10]) (by kernel_rfl) (by simp) ?_
        refine (AllReadyH.cons (o := _) rfl (fun K hK => ?_) AllReadyH.nil)
        go_simp
        go_at_call 20
        with_reducible refine (CN.out X251).mono ?_
        rintro e X257 ⟨rfl, DbX257⟩
        have r258 := hid (row_on r253.out DbX257.out)
        have r259 := hid (row_on r254.out DbX257.out)
        have r260 := hid (row_on ZX251.out DbX257.out)
        have DX257 := hid (btr DX251.out DbX257.out)
        have UX257 := hid (DX251.out.size)
        (try go_wp2_with fail)
        refine hK.out _ _ ?_ (fun hHeld => ?_)
        · (try dsimp only); exact ⟨row_cell r258.out 0, row_cell r258.out 1, row_cell r258.out 5, row_cell r259.out 0, row_cell r259.out 1⟩
        clear hK K
        try simp only [List.getElem_toArray, List.getElem_cons_succ, List.getElem_cons_zero, Act.put, List.setIfInBounds_toArray, List.set_cons_zero, List.set_cons_succ]
        refine wpAnyH_ready (rs := [11]) (by kernel_rfl) (by simp) ?_
        refine (AllReadyH.cons (o := _) rfl (fun K hK => ?_) AllReadyH.nil)
        go_simp
        go_at_call 19
        with_reducible refine (CBo2.out X257).mono ?_
        rintro e X261 ⟨rfl, DbX261⟩
        have r262 := hid (row_on r258.out DbX261.out)
        have r263 := hid (row_on r259.out DbX261.out)
        have r264 := hid (row_on r260.out DbX261.out)
        have DX261 := hid (btr DX257.out DbX261.out)
        have UX261 := hid (DX257.out.size)
        (try go_wp2_with fail)
        refine hK.out _ _ ?_ (fun hHeld => ?_)
        · (try dsimp only); exact ⟨row_cell r262.out 0, row_cell r262.out 1, row_cell r262.out 5, row_cell r263.out 0, row_cell r263.out 1⟩
        clear hK K
        try simp only [List.getElem_toArray, List.getElem_cons_succ, List.getElem_cons_zero, Act.put, List.setIfInBounds_toArray, List.set_cons_zero, List.set_cons_succ]
        refine wpAnyH_ready (rs := [13]) (by kernel_rfl) (by simp) ?_
        refine (AllReadyH.cons (o := _) rfl (fun K hK => ?_) AllReadyH.nil)
        refine step_store_row (by rfl) 38 (.tmp 7) (.tmp 33) (by rfl) g252 #[.int .i64 bo.qt, .int .u64 (hiW bo.co), .int .u64 (loW bo.co), .int .u64 (hiW bo.ga), .int .u64 (loW bo.ga)] (by rfl) (by rfl) 38 _ r264.out infoPo5 (by rfl) (by simp [Value.oneCell']) ?_
        obtain ⟨Y265, hY265⟩ : ∃ Y, X261.setRow g252 #[.int .i64 bo.qt, .int .u64 (hiW bo.co), .int .u64 (loW bo.co), .int .u64 (hiW bo.ga), .int .u64 (loW bo.ga)] = Y := ⟨_, rfl⟩
        have KY265 := hid (show Kp (fun j => j = g252) X261 Y265 from by rw [← hY265]; exact setRow_kp _ _ _)
        have AY265 := hid (show Y265.heap[g252]? = some (.cells #[.int .i64 bo.qt, .int .u64 (hiW bo.co), .int .u64 (loW bo.co), .int .u64 (hiW bo.ga), .int .u64 (loW bo.ga)] 38 (0, 0)) from by rw [← hY265]; exact setRow_heap X261 g252 _ _ 38 (0, 0) r264.out)
        have DY265 := hid (show Below X5.heap.size X5 Y265 from by rw [← hY265]; exact setRow_below DX261.out yg252)
        have r266 := hid (KY265.out.row r262.out (fun e => n255.symm e))
        have r267 := hid (KY265.out.row r263.out (fun e => n256.symm e))
        rw [hY265]
        refine hK.out _ _ ?_ (fun hHeld => ?_)
        · (try dsimp only); exact ⟨row_cell r266.out 0, row_cell r266.out 1, row_cell r266.out 5, row_cell r267.out 0, row_cell r267.out 1⟩
        clear hK K hY265
        try simp only [List.getElem_toArray, List.getElem_cons_succ, List.getElem_cons_zero, Act.put, List.setIfInBounds_toArray, List.set_cons_zero, List.set_cons_succ]
        refine wpAnyH_done (by kernel_rfl) ?_ _
        exact ⟨g252, by kernel_rfl, DY265, AY265, yg252⟩
    · go_simp
      obtain ⟨X268, hX268⟩ : ∃ X, V217.alloc (.cells #[.int .i64 0, .int .u64 0, .int .u64 0, .int .u64 0, .int .u64 0] 38) = X := ⟨_, rfl⟩
      have bX268 : Below V217.heap.size V217 X268 := by rw [← hX268]; exact ball _ _
      have r270 := hid (row_on r218.out bX268)
      have r271 := hid (row_on r219.out bX268)
      have DX268 := hid (btr BV217.out bX268)
      have zX268 : X268.heap[V217.heap.size]? = some (.cells #[.int .i64 0, .int .u64 0, .int .u64 0, .int .u64 0, .int .u64 0] 38 (0, 0)) := by rw [← hX268]; exact World.alloc_heap_new _ _
      have yg269 := BV217.out.size
      obtain ⟨g269, hg269⟩ : ∃ g, V217.heap.size = g := ⟨_, rfl⟩
      have n272 : g269 ≠ R := by have := row_lt r218.out; omega
      have n273 : g269 ≠ a6 := by have := row_lt r219.out; omega
      rw [hg269] at zX268 yg269
      have ZX268 := hid zX268
      rw [hX268, hg269]
      clear hX268 hg269 zX268 bX268
      refine hK.out _ _ ?_ (fun hHeld => ?_)
      · (try dsimp only); exact ⟨row_cell r270.out 0, row_cell r270.out 1, row_cell r270.out 5, row_cell r271.out 0, row_cell r271.out 1⟩
      clear hK K
      try simp only [List.getElem_toArray, List.getElem_cons_succ, List.getElem_cons_zero, Act.put, List.setIfInBounds_toArray, List.set_cons_zero, List.set_cons_succ]
      refine wpAnyH_ready (rs := [5]) (by kernel_rfl) (by simp) ?_
      refine (AllReadyH.cons (o := _) rfl (fun K hK => ?_) AllReadyH.nil)
      go_simp
      go_at_call 7
      with_reducible refine (CPb.out X268 (btr W5.out DX268.out)).mono ?_
      rintro e X274 ⟨rfl, DbX274⟩
      have r275 := hid (row_on r270.out DbX274.out)
      have r276 := hid (row_on r271.out DbX274.out)
      have r277 := hid (row_on ZX268.out DbX274.out)
      have DX274 := hid (btr DX268.out DbX274.out)
      have UX274 := hid (DX268.out.size)
      (try go_wp2_with fail)
      refine hK.out _ _ ?_ (fun hHeld => ?_)
      · (try dsimp only); exact ⟨row_cell r275.out 0, row_cell r275.out 1, row_cell r275.out 5, row_cell r276.out 0, row_cell r276.out 1⟩
      clear hK K
      try simp only [List.getElem_toArray, List.getElem_cons_succ, List.getElem_cons_zero, Act.put, List.setIfInBounds_toArray, List.set_cons_zero, List.set_cons_succ]
      refine wpAnyH_ready (rs := [10]) (by kernel_rfl) (by simp) ?_
      refine (AllReadyH.cons (o := _) rfl (fun K hK => ?_) AllReadyH.nil)
      go_simp
      go_at_call 20
      with_reducible refine (CN.out X274).mono ?_
      rintro e X278 ⟨rfl, DbX278⟩
      have r279 := hid (row_on r275.out DbX278.out)
      have r280 := hid (row_on r276.out DbX278.out)
      have r281 := hid (row_on r277.out DbX278.out)
      have DX278 := hid (btr DX274.out DbX278.out)
      have UX278 := hid (DX274.out.size)
      (try go_wp2_with fail)
      refine hK.out _ _ ?_ (fun hHeld => ?_)
      · (try dsimp only); exact ⟨row_cell r279.out 0, row_cell r279.out 1, row_cell r279.out 5, row_cell r280.out 0, row_cell r280.out 1⟩
      clear hK K
      try simp only [List.getElem_toArray, List.getElem_cons_succ, List.getElem_cons_zero, Act.put, List.setIfInBounds_toArray, List.set_cons_zero, List.set_cons_succ]
      refine wpAnyH_ready (rs := [11]) (by kernel_rfl) (by simp) ?_
      refine (AllReadyH.cons (o := _) rfl (fun K hK => ?_) AllReadyH.nil)
      go_simp
      go_at_call 19
      with_reducible refine (CBo2.out X278).mono ?_
      rintro e X282 ⟨rfl, DbX282⟩
      have r283 := hid (row_on r279.out DbX282.out)
      have r284 := hid (row_on r280.out DbX282.out)
      have r285 := hid (row_on r281.out DbX282.out)
      have DX282 := hid (btr DX278.out DbX282.out)
      have UX282 := hid (DX278.out.size)
      (try go_wp2_with fail)
      refine hK.out _ _ ?_ (fun hHeld => ?_)
      · (try dsimp only); exact ⟨row_cell r283.out 0, row_cell r283.out 1, row_cell r283.out 5, row_cell r284.out 0, row_cell r284.out 1⟩
      clear hK K
      try simp only [List.getElem_toArray, List.getElem_cons_succ, List.getElem_cons_zero, Act.put, List.setIfInBounds_toArray, List.set_cons_zero, List.set_cons_succ]
      refine wpAnyH_ready (rs := [13]) (by kernel_rfl) (by simp) ?_
      refine (AllReadyH.cons (o := _) rfl (fun K hK => ?_) AllReadyH.nil)
      refine step_store_row (by rfl) 38 (.tmp 7) (.tmp 33) (by rfl) g269 #[.int .i64 bo.qt, .int .u64 (hiW bo.co), .int .u64 (loW bo.co), .int .u64 (hiW bo.ga), .int .u64 (loW bo.ga)] (by rfl) (by rfl) 38 _ r285.out infoPo5 (by rfl) (by simp [Value.oneCell']) ?_
      obtain ⟨Y286, hY286⟩ : ∃ Y, X282.setRow g269 #[.int .i64 bo.qt, .int .u64 (hiW bo.co), .int .u64 (loW bo.co), .int .u64 (hiW bo.ga), .int .u64 (loW bo.ga)] = Y := ⟨_, rfl⟩
      have KY286 := hid (show Kp (fun j => j = g269) X282 Y286 from by rw [← hY286]; exact setRow_kp _ _ _)
      have AY286 := hid (show Y286.heap[g269]? = some (.cells #[.int .i64 bo.qt, .int .u64 (hiW bo.co), .int .u64 (loW bo.co), .int .u64 (hiW bo.ga), .int .u64 (loW bo.ga)] 38 (0, 0)) from by rw [← hY286]; exact setRow_heap X282 g269 _ _ 38 (0, 0) r285.out)
      have DY286 := hid (show Below X5.heap.size X5 Y286 from by rw [← hY286]; exact setRow_below DX282.out yg269)
      have r287 := hid (KY286.out.row r283.out (fun e => n272.symm e))
      have r288 := hid (KY286.out.row r284.out (fun e => n273.symm e))
      rw [hY286]
      refine hK.out _ _ ?_ (fun hHeld => ?_)
      · (try dsimp only); exact ⟨row_cell r287.out 0, row_cell r287.out 1, row_cell r287.out 5, row_cell r288.out 0, row_cell r288.out 1⟩
      clear hK K hY286
      try simp only [List.getElem_toArray, List.getElem_cons_succ, List.getElem_cons_zero, Act.put, List.setIfInBounds_toArray, List.set_cons_zero, List.set_cons_succ]
      refine wpAnyH_done (by kernel_rfl) ?_ _
      exact ⟨g269, by kernel_rfl, DY286, AY286, yg269⟩
  rintro t7 V5 ⟨B5, GB, N7⟩
  try simp only [List.getElem_toArray, List.getElem_cons_succ, List.getElem_cons_zero, Act.put, List.setIfInBounds_toArray, List.set_cons_zero, List.set_cons_succ]
  have W6 := hid (btr W5.out B5.out)
  have GD6 := hid (row_on GD.out B5.out)
  have GV6 := hid (row_on GV.out B5.out)
  have M7 := hid (show w.heap.size ≤ t7 from Nat.le_trans W5.out.size N7.out)
  clear GD GV N7
  go_upto_region 6 with fail
  have f0 := row_cell GD6.out 0
  have f2 := row_cell GD6.out 2
  simp only [List.getElem?_toArray, List.getElem?_cons_succ, List.getElem?_cons_zero] at f0 f2
  go_upto_region 7 with (first | (go_at_call 7; with_reducible refine (CPs.out V5 W6.out).mono ?_; rintro e w7 ⟨rfl, hb⟩; have HB7 := hid hb.out; have HZ7 := hid (World.alloc_heap_new w7 (.cells #[.int .i64 0, .int .u64 0, .int .u64 0, .int .u64 0, .int .u64 0] 38)); clear hb) | (refine wpList_store_row (by rfl) 38 (.tmp 8) (.tmp 39) (by rfl) w7.heap.size #[.int .i64 pb.qt, .int .u64 (hiW pb.co), .int .u64 (loW pb.co), .int .u64 (hiW pb.ga), .int .u64 (loW pb.ga)] (by rfl) (by rfl) 38 _ HZ7.out infoPo5 (by rfl) (by simp [Value.oneCell']) ?_))
  obtain ⟨X7, hX7⟩ : ∃ X, (w7.alloc (.cells #[.int .i64 0, .int .u64 0, .int .u64 0, .int .u64 0, .int .u64 0] 38)).setRow w7.heap.size #[.int .i64 pb.qt, .int .u64 (hiW pb.co), .int .u64 (loW pb.co), .int .u64 (hiW pb.ga), .int .u64 (loW pb.ga)] = X := ⟨_, rfl⟩
  have GP := hid (show X7.heap[w7.heap.size]? = some (.cells #[.int .i64 pb.qt, .int .u64 (hiW pb.co), .int .u64 (loW pb.co), .int .u64 (hiW pb.ga), .int .u64 (loW pb.ga)] 38 (0, 0)) from by rw [← hX7]; exact setRow_heap _ _ _ _ 38 (0, 0) HZ7.out)
  have BX7 := hid (show Below w7.heap.size w7 X7 from by rw [← hX7]; exact setRow_below (ball _ _) (Nat.le_refl _))
  rw [hX7]
  obtain ⟨t8, ht8⟩ : ∃ t, w7.heap.size = t := ⟨_, rfl⟩
  rw [ht8] at GP ⊢
  have BV7 := hid (btr HB7.out BX7.out)
  have W7 := hid (btr W6.out BV7.out)
  have GD7 := hid (row_on GD6.out BV7.out)
  have GV7 := hid (row_on GV6.out BV7.out)
  have GB7 := hid (row_on GB.out BV7.out)
  have N78 : t8 ≠ t7 := by have h1 := row_lt GB.out; have h2 := HB7.out.size; omega
  have N7D : t8 ≠ R := by have h1 := row_lt GD6.out; have h2 := HB7.out.size; omega
  have N7V : t8 ≠ a6 := by have h1 := row_lt GV6.out; have h2 := HB7.out.size; omega
  have NN8 := hid (show w.heap.size ≤ t8 from by have := W6.out.size; have := HB7.out.size; omega)
  have HN78 := hid N78
  have HN7D := hid N7D
  have HN7V := hid N7V
  clear hX7 HZ7 ht8 f0 f2 GD6 GV6 GB N78 N7D N7V
  have f1 := row_cell GD7.out 1
  have f2 := row_cell GD7.out 2
  simp only [List.getElem?_toArray, List.getElem?_cons_succ, List.getElem?_cons_zero] at f1 f2
  go_upto_region 9 with fail
  clear f1 f2
  obtain ⟨X8, hX8⟩ : ∃ X, X7 = X := ⟨_, rfl⟩
  rw [hX8] at GP GD7 GV7 GB7 W7 ⊢
  have GP8 := hid GP.out
  have GD8 := hid GD7.out
  have GV8 := hid GV7.out
  have GB8 := hid GB7.out
  have W8 := hid W7.out
  clear hX8
  have p0 := row_cell GP8.out 0
  have p1 := row_cell GP8.out 1
  have p2 := row_cell GP8.out 2
  have p3 := row_cell GP8.out 3
  have p4 := row_cell GP8.out 4
  simp only [List.getElem?_toArray, List.getElem?_cons_succ, List.getElem?_cons_zero] at p0 p1 p2 p3 p4
  have f5 := row_cell GD8.out 5
  simp only [List.getElem?_toArray, List.getElem?_cons_succ, List.getElem?_cons_zero] at f5
  have v0 := row_cell GV8.out 0
  have v1 := row_cell GV8.out 1
  simp only [List.getElem?_toArray, List.getElem?_cons_succ, List.getElem?_cons_zero] at v0 v1
  have CSo2 := hid (show ∀ U, Calls Try.prog 19 #[.agg #[.int .i64 pb.qt, .int .u64 (hiW pb.co), .int .u64 (loW pb.co), .int .u64 (hiW pb.ga), .int .u64 (loW pb.ga)], .int .i64 (-qt), .agg #[.int .u64 (hiW v), .int .u64 (loW v)]] U fun e w' => e = .returned (.agg #[.int .i64 so.qt, .int .u64 (hiW so.co), .int .u64 (loW so.co), .int .u64 (hiW so.ga), .int .u64 (loW so.ga)]) ∧ Hid (Below U.heap.size U w') from fun U => CSo.out U)
  go_upto_region 10 with (first | (go_at_call 19; with_reducible refine (CSo2.out _).mono ?_; rintro e w9 ⟨rfl, hb⟩; have HB9 := hid hb.out; have HZ9 := hid (World.alloc_heap_new w9 (.cells #[.int .i64 0, .int .u64 0, .int .u64 0, .int .u64 0, .int .u64 0] 38)); clear hb) | (refine wpList_store_row (by rfl) 38 (.tmp 9) (.tmp 52) (by rfl) w9.heap.size #[.int .i64 so.qt, .int .u64 (hiW so.co), .int .u64 (loW so.co), .int .u64 (hiW so.ga), .int .u64 (loW so.ga)] (by rfl) (by rfl) 38 _ HZ9.out infoPo5 (by rfl) (by simp [Value.oneCell']) ?_))
  obtain ⟨X9, hX9⟩ : ∃ X, (w9.alloc (.cells #[.int .i64 0, .int .u64 0, .int .u64 0, .int .u64 0, .int .u64 0] 38)).setRow w9.heap.size #[.int .i64 so.qt, .int .u64 (hiW so.co), .int .u64 (loW so.co), .int .u64 (hiW so.ga), .int .u64 (loW so.ga)] = X := ⟨_, rfl⟩
  have GS := hid (show X9.heap[w9.heap.size]? = some (.cells #[.int .i64 so.qt, .int .u64 (hiW so.co), .int .u64 (loW so.co), .int .u64 (hiW so.ga), .int .u64 (loW so.ga)] 38 (0, 0)) from by rw [← hX9]; exact setRow_heap _ _ _ _ 38 (0, 0) HZ9.out)
  have BX9 := hid (show Below w9.heap.size w9 X9 from by rw [← hX9]; exact setRow_below (ball _ _) (Nat.le_refl _))
  rw [hX9]
  obtain ⟨t9, ht9⟩ : ∃ t, w9.heap.size = t := ⟨_, rfl⟩
  rw [ht9] at GS ⊢
  have BV9 := hid (btr HB9.out BX9.out)
  have W9 := hid (btr W8.out BV9.out)
  have GD9 := hid (row_on GD8.out BV9.out)
  have GV9 := hid (row_on GV8.out BV9.out)
  have GB9 := hid (row_on GB8.out BV9.out)
  have M9 := hid (show w.heap.size ≤ t9 from by have := W8.out.size; have := HB9.out.size; omega)
  clear hX9 HZ9 ht9 p0 p1 p2 p3 p4 f5 v0 v1
  have b0 := row_cell GB9.out 0
  simp only [List.getElem?_toArray, List.getElem?_cons_succ, List.getElem?_cons_zero] at b0
  have c0 := row_cell GS.out 0
  simp only [List.getElem?_toArray, List.getElem?_cons_succ, List.getElem?_cons_zero] at c0
  go_wp2_with (first | (go_at_call 21; with_reducible refine (CZb.out _).mono ?_; rintro e w10 ⟨rfl, rfl⟩) | (go_at_call 21; with_reducible refine (CZs.out _).mono ?_; rintro e w11 ⟨rfl, rfl⟩))
  go_ret
  exact ⟨rfl, W9.out⟩
end Go.Proofs.Ytdbnkidfclgnfaa.Ac
