/-
  Portion and part of whatever.
-/
import Derived.Test.YtphhllppgelceaaAcC
namespace Go.Proofs.Ytphhllppgelceaa.Ac
open List renaming getElem?_toArray → lqA, getElem?_cons_succ → lqB, getElem?_cons_zero → lqC
open List renaming getElem_toArray → lgA, getElem_cons_succ → lgB, getElem_cons_zero → lgC, setIfInBounds_toArray → lsA, set_cons_zero → lsB, set_cons_succ → lsC
open Go.RowKit Go.Deep Go.Proofs.Ytphhllppgelceaa.MonM
set_option linter.unusedVariables false
set_option linter.unusedSimpArgs false
set_option maxHeartbeats 4000000
set_option maxRecDepth 100000
attribute [local go_sem ↓] Go.wp_at_zero Go.wp_at_succ
theorem portion_gen (m a b round : Int) (w : World) (hm : Amt m) (ha0 : 0 ≤ a) (ha1 : a < 4294967296) (hfit : absI m * a / b ≤ 170141183460469231731687303715884105727) (hb0 : 0 < b) (hb1 : b < 4294967296) (hr0 : round = 0) :
    Calls Try.prog 48 #[mv m, .int .u32 a, .int .u32 b, .int .i64 round] w fun e w' => e = .returned (.tuple #[mv (ptn m a b round), .int .i64 0]) ∧ Below w.heap.size w w' := by
  have hr : round = 0 ∨ round = 1 := .inl hr0
  have q0 : 0 ≤ absI m * a / b := Int.ediv_nonneg (Int.mul_nonneg (absI_nn m) ha0) (by omega)
  have q1 := hfit
  have p0 : 0 ≤ ptq m a b round := by unfold ptq; rw [if_neg (by omega)]; omega
  have p1 : ptq m a b round ≤ 170141183460469231731687303715884105727 := by unfold ptq; rw [if_neg (by omega)]; omega
  clear hfit
  have hAm : absI m ≤ 170141183460469231731687303715884105727 := by unfold Amt at hm; unfold absI; split <;> omega
  have hA0 := absI_nn m
  have hok : okRound round := by rcases hr with h | h; exact .inl h; exact .inr (.inl h)
  have CD := hid (show ∀ U, Calls Try.prog 61 #[.int .u64 b, .int .i64 round] U _ from fun U => divisible_ok b round U hok (by simp; omega))
  have CZ := hid (fun U => msize_any m U hm)
  obtain ⟨A, hA⟩ : ∃ A, absI m = A := ⟨_, rfl⟩
  obtain ⟨r, hre⟩ : ∃ r, A * a % b = r := ⟨_, rfl⟩
  obtain ⟨q, hqe⟩ : ∃ q, A * a / b = q := ⟨_, rfl⟩
  have r0 : 0 ≤ r := by rw [← hre]; exact Int.emod_nonneg _ (by omega)
  have r1 : r < b := by rw [← hre]; exact Int.emod_lt_of_pos _ hb0
  unfold ptn
  have hQ : ptq m a b round = q + (if round = 1 ∧ 0 < r then 1 else 0) := by unfold ptq; rw [hA, hre, hqe]
  rw [hA] at CZ q0 q1 hAm hA0
  rw [hqe] at q0 q1
  obtain ⟨Q, hQe⟩ : ∃ Q, ptq m a b round = Q := ⟨_, rfl⟩
  rw [hQe] at hQ p0 p1 ⊢
  have CC := hid (show ∀ U, Calls Try.prog 62 #[mv A, .int .u64 a, .int .u64 b] U fun e w' => e = .returned (.tuple #[mv q, .int .u64 r, .bool true]) ∧ Below U.heap.size U w' from fun U => by
    refine (scaled_any A a b U hA0 hAm ha0 (by omega) hb0 hb1).mono ?_
    rintro e w' ⟨h | h, hb⟩
    · rw [hqe, hre] at h; exact ⟨h.2, hb⟩
    · rw [hqe] at h; omega)
  have CG := hid (show ∀ U, Calls Try.prog 63 #[.int .u64 (loW q), .int .u64 r, .int .u64 b, .int .i64 round] U fun e w' => e = .returned (.bool (decide (round = 1 ∧ 0 < r))) ∧ w' = U from fun U => by
    have h := goesUp_any (loW q) r b round U hok (loW_word q) r0 r1 (by omega)
    rw [show upB (loW q) r b round = decide (round = 1 ∧ 0 < r) from by
      rcases hr with rfl | rfl
      · simp [upB]
      · simp [upB]] at h
    exact h)
  have CE := hid (show ∀ U, Calls Try.prog 11 #[.int .i64 1] U fun e w' => e = .returned (mv 1) ∧ Below U.heap.size U w' from fun U => cents_any 1 U (by omega) (by omega))
  have CA := hid (show ∀ U, q + 1 ≤ 170141183460469231731687303715884105727 → Calls Try.prog 25 #[mv q, mv 1] U fun e w' => e = .returned (.tuple #[mv (q + 1), .int .i64 0]) ∧ Below U.heap.size U w' from fun U hu => by
    have h := madd_any q 1 U (by unfold Amt; omega) (by unfold Amt; omega)
    rw [show maddV q 1 = q + 1 from if_pos (by omega), show maddE q 1 = 0 from if_pos (by omega)] at h
    exact h)
  have CS := hid (fun U => sign_any m U hm)
  have CN := hid (fun U => neg_any Q U)
  unfold mv at CZ CC CE CA CS CN ⊢
  have wa : IntKind.u64.wrap a = a := by rw [IntKind.wrap_u64]; omega
  have wb : IntKind.u64.wrap b = b := by rw [IntKind.wrap_u64]; omega
  obtain ⟨Wa, hWa⟩ : ∃ W, w.alloc (.cells #[.int .u64 (hiW m), .int .u64 (loW m)] 40) = W := ⟨_, rfl⟩
  obtain ⟨Wb, hWb⟩ : ∃ W, Wa.alloc (.cells #[.int .u64 0, .int .u64 0] 40) = W := ⟨_, rfl⟩
  obtain ⟨R, hR⟩ : ∃ R, w.heap.size = R := ⟨_, rfl⟩
  have sa : Wa.heap.size = R + 1 := by rw [← hWa, ← hR]; exact Array.size_push _
  have ba : Below w.heap.size w Wa := by rw [← hWa]; exact ball _ _
  have bb : Below Wa.heap.size Wa Wb := by rw [← hWb]; exact ball _ _
  have ra : Wb.heap[R]? = some (.cells #[.int .u64 (hiW m), .int .u64 (loW m)] 40 (0, 0)) := row_on (by rw [← hWa, ← hR]; exact World.alloc_heap_new _ _) bb
  have rb : Wb.heap[R + 1]? = some (.cells #[.int .u64 0, .int .u64 0] 40 (0, 0)) := by rw [← hWb, ← sa]; exact World.alloc_heap_new _ _
  have HBB := hid (btr ba bb)
  have HRA := hid ra
  have HRB := hid rb
  have HWa := hid hWa
  have HWb := hid hWb
  have HR := hid hR
  have HQ := hid hQ
  have HP := hid (And.intro p1 hAm)
  have a0 := row_cell ra 0
  have a1 := row_cell ra 1
  simp only [lqA, lqB, lqC] at a0 a1
  clear hWa hWb hR sa ba bb ra rb hA hre hqe hQ hQe q0 q1 p0 p1 hAm hA0 r0 r1 hok ha0 ha1 hb0 hb1 hr0
  go_enter Try.func48, Try.ntmps48
  go_upto_region 1 with fail
  rw [HWa.out, HWb.out, HR.out]
  clear HWa HWb
  go_upto_region 5 with (go_at_call 61; with_reducible refine (CD.out _).mono ?_; rintro e w2 ⟨rfl, rfl⟩)
  go_upto_region 6 with (first | (go_at_call 37; with_reducible refine (CZ.out _).mono ?_; rintro e w3 ⟨rfl, hb⟩; have B3 := hid hb; clear hb) | (go_at_call 62; with_reducible refine (CC.out _).mono ?_; rintro e w4 ⟨rfl, hb⟩; have B4 := hid hb; have HZ4 := hid (World.alloc_heap_new w4 (.cells #[.int .u64 0, .int .u64 0] 40)); clear hb) | (refine wpList_store_row (by rfl) 40 (.tmp 12) (.tmp 32) (by rfl) w4.heap.size #[.int .u64 (hiW q), .int .u64 (loW q)] (by rfl) (by rfl) 40 _ HZ4.out infoM (by rfl) (by simp [Value.oneCell']) ?_))
  obtain ⟨X, hX⟩ : ∃ X, (w4.alloc (.cells #[.int .u64 0, .int .u64 0] 40)).setRow w4.heap.size #[.int .u64 (hiW q), .int .u64 (loW q)] = X := ⟨_, rfl⟩
  have GX := hid (show X.heap[w4.heap.size]? = some (.cells #[.int .u64 (hiW q), .int .u64 (loW q)] 40 (0, 0)) from by rw [← hX]; exact setRow_heap _ _ _ _ 40 (0, 0) HZ4.out)
  have BX := hid (show Below w4.heap.size w4 X from by rw [← hX]; exact setRow_below (ball _ _) (Nat.le_refl _))
  rw [hX]
  clear hX HZ4 a0 a1
  have BA := hid (btr (btr B3.out B4.out) BX.out)
  have TR := hid (show R + 1 < w4.heap.size from by have h1 := row_lt HRB.out; have h2 := B3.out.size; have h3 := B4.out.size; omega)
  obtain ⟨t, ht⟩ : ∃ t, w4.heap.size = t := ⟨_, rfl⟩
  rw [ht] at GX TR ⊢
  clear ht B3 B4 BX
  have c0 := row_cell GX.out 0
  have c1 := row_cell GX.out 1
  simp only [lqA, lqB, lqC] at c0 c1
  by_cases hup : round = 1 ∧ 0 < r
  · rw [decide_eq_true hup] at CG
    have hQ := HQ.out
    rw [if_pos hup] at hQ
    have CA' := hid (fun U => CA.out U (by have := HP.out; omega))
    clear HQ
    subst hQ
    obtain ⟨hr1, hr0⟩ := hup
    clear hr
    subst hr1
    clear hr0
    go_upto_region 10 with (go_at_call 63; with_reducible refine (CG.out _).mono ?_; rintro e w5 ⟨rfl, rfl⟩)
    clear c0 c1
    obtain ⟨V0, hV0⟩ : ∃ U, w5.drew = U := ⟨_, rfl⟩
    have D0 := hid (show Below w5.heap.size w5 V0 from by rw [← hV0]; exact bdrew1 _)
    refine wp_region_held_drew (S := fun _ => True) (by kernel_rfl) trivial (fun hHeld => ?_)
    rw [hV0]
    clear hV0
    refine wpAnyH_ready (rs := [0, 1]) (by kernel_rfl) (by simp) ?_
    refine (AllReadyH.cons rfl (fun K hK => ?_) (AllReadyH.cons rfl (fun K hK => ?_) AllReadyH.nil))
    · have u0 := row_cell (row_on GX.out D0.out) 0
      have u1 := row_cell (row_on GX.out D0.out) 1
      simp only [lqA, lqB, lqC] at u0 u1
      go_simp
      clear u0 u1
      refine hK.out _ _ trivial (fun hHeld => ?_)
      clear hK K
      try simp only [lgA, lgB, lgC, Act.put, lsA, lsB, lsC]
      refine wpAnyH_ready (rs := [1]) (by kernel_rfl) (by simp) ?_
      refine (AllReadyH.cons rfl (fun K hK => ?_) AllReadyH.nil)
      go_simp
      go_at_call 11
      with_reducible refine (CE.out V0).mono ?_
      rintro e Y1 ⟨rfl, hb⟩
      have D1 := hid (btr D0.out hb)
      clear hb
      (try go_wp2_with fail)
      refine hK.out _ _ trivial (fun hHeld => ?_)
      clear hK K
      try simp only [lgA, lgB, lgC, Act.put, lsA, lsB, lsC]
      refine wpAnyH_ready (rs := [2]) (by kernel_rfl) (by simp) ?_
      refine (AllReadyH.cons rfl (fun K hK => ?_) AllReadyH.nil)
      go_simp
      go_at_call 25
      with_reducible refine (CA'.out Y1).mono ?_
      rintro e Y2 ⟨rfl, hb⟩
      have D2 := hid (btr D1.out hb)
      clear hb
      (try go_wp2_with fail)
      refine hK.out _ _ trivial (fun hHeld => ?_)
      clear hK K
      try simp only [lgA, lgB, lgC, Act.put, lsA, lsB, lsC]
      refine' wpAnyH_take (i := 3) rfl (by kernel_rfl) (by kernel_rfl) (by kernel_rfl) (fun _ _ _ h => h) (Or.inl ⟨by kernel_rfl, ?hyq1⟩) (by assumption) ?restq1
      case hyq1 => (intro w hSw; (try dsimp only at hSw); go_simp; try (with_reducible rfl))
      try simp only [lgA, lgB, lgC, Act.put, lsA, lsB, lsC]
      refine' wpAnyH_take (i := 4) rfl (by kernel_rfl) (by kernel_rfl) (by kernel_rfl) (fun _ _ _ h => h) (Or.inl ⟨by kernel_rfl, ?hyq2⟩) (by assumption) ?restq2
      case hyq2 => (intro w hSw; (try dsimp only at hSw); go_simp; try (with_reducible rfl))
      try simp only [lgA, lgB, lgC, Act.put, lsA, lsB, lsC]
      refine' wpAnyH_take (i := 5) rfl (by kernel_rfl) (by kernel_rfl) (by kernel_rfl) (fun _ _ _ h => h) (Or.inl ⟨by kernel_rfl, ?hyq3⟩) (by assumption) ?restq3
      case hyq3 => (intro w hSw; (try dsimp only at hSw); go_simp; try (with_reducible rfl))
      try simp only [lgA, lgB, lgC, Act.put, lsA, lsB, lsC]
      refine wpAnyH_ready (rs := [6]) (by kernel_rfl) (by simp) ?_
      refine (AllReadyH.cons rfl (fun K hK => ?_) AllReadyH.nil)
      have hrow := row_on GX.out D2.out
      refine step_store_row (by rfl) 40 (.tmp 12) (.tmp 48) (by rfl) t #[.int .u64 (hiW (q + 1)), .int .u64 (loW (q + 1))] (by rfl) (by rfl) 40 _ hrow infoM (by rfl) (by simp [Value.oneCell']) ?_
      obtain ⟨V, hV⟩ : ∃ Y, Y2.setRow t #[.int .u64 (hiW (q + 1)), .int .u64 (loW (q + 1))] = Y := ⟨_, rfl⟩
      have GV := hid (show V.heap[t]? = some (.cells #[.int .u64 (hiW (q + 1)), .int .u64 (loW (q + 1))] 40 (0, 0)) from by rw [← hV]; exact setRow_heap _ _ _ _ 40 (0, 0) hrow)
      have KV := hid (show Kp (fun j => j = t) Y2 V from by rw [← hV]; exact setRow_kp _ _ _)
      rw [hV]
      clear hV hrow
      refine hK.out _ _ trivial (fun hHeld => ?_)
      clear hK K
      try simp only [lgA, lgB, lgC, Act.put, lsA, lsB, lsC]
      refine' wpAnyH_take (i := 7) rfl (by kernel_rfl) (by kernel_rfl) (by kernel_rfl) (fun _ _ _ h => h) (Or.inl ⟨by kernel_rfl, ?hyq4⟩) (by assumption) ?restq4
      case hyq4 => (intro w hSw; (try dsimp only at hSw); go_simp; try (with_reducible rfl))
      try simp only [lgA, lgB, lgC, Act.put, lsA, lsB, lsC]
      refine wpAnyH_done (by kernel_rfl) ?_ _
      have HRA' := hid (KV.out.row (row_on HRA.out (btr BA.out D2.out)) (fun e => by have := TR.out; omega))
      have HRB' := hid (KV.out.row (row_on HRB.out (btr BA.out D2.out)) (fun e => by have := TR.out; omega))
      have HBV := hid (show Below w.heap.size w V from (btr HBB.out (btr BA.out D2.out)).trans (KV.out.below (btr HBB.out (btr BA.out D2.out)).size (fun j hj e => by have h1 := TR.out; have h2 := HR.out; omega)))
      clear HRA HRB HBB GX BA D1 D2 KV
      have HRA := HRA'
      have HRB := HRB'
      have HBB := HBV
      clear HRA' HRB' HBV
      have BV := hid (Below.refl V.heap.size V)
      go_upto_region 13 with fail
      have x0 := row_cell (row_on HRA.out BV.out) 0
      have x1 := row_cell (row_on HRA.out BV.out) 1
      simp only [lqA, lqB, lqC] at x0 x1
      by_cases hneg : m < 0
      · have hsg : sgn m = -1 := if_pos hneg
        rw [hsg] at CS
        go_upto_region 14 with (go_at_call 16; with_reducible refine (CS.out _).mono ?_; rintro e V2 ⟨rfl, hb⟩; have BV2 := hid hb; clear hb)
        have GV2 := hid (row_on GV.out BV2.out)
        have y0 := row_cell GV2.out 0
        have y1 := row_cell GV2.out 1
        simp only [lqA, lqB, lqC] at y0 y1
        go_upto_region 15 with (first | (go_at_call 13; with_reducible refine (CN.out _).mono ?_; rintro e V3 ⟨rfl, hb⟩; have BV3 := hid hb; have GV3 := hid (row_on GV2.out hb); clear hb) | (refine wpList_store_row (by rfl) 40 (.tmp 12) (.tmp 58) (by rfl) t #[.int .u64 (hiW (-(q + 1))), .int .u64 (loW (-(q + 1)))] (by rfl) (by rfl) 40 _ GV3.out infoM (by rfl) (by simp [Value.oneCell']) ?_))
        obtain ⟨V4, hV4⟩ : ∃ X, V3.setRow t #[.int .u64 (hiW (-(q + 1))), .int .u64 (loW (-(q + 1)))] = X := ⟨_, rfl⟩
        have GV4 := hid (show V4.heap[t]? = some (.cells #[.int .u64 (hiW (-(q + 1))), .int .u64 (loW (-(q + 1)))] 40 (0, 0)) from by rw [← hV4]; exact setRow_heap _ _ _ _ 40 (0, 0) GV3.out)
        have KV4 := hid (show Kp (fun j => j = t) V3 V4 from by rw [← hV4]; exact setRow_kp _ _ _)
        rw [hV4]
        clear hV4 y0 y1 x0 x1
        have BV5 := hid (btr (btr BV.out BV2.out) BV3.out)
        have HR4 := hid (KV4.out.row (row_on HRB.out BV5.out) (fun e => by have := TR.out; omega))
        have z0 := row_cell GV4.out 0
        have z1 := row_cell GV4.out 1
        simp only [lqA, lqB, lqC] at z0 z1
        go_wp2_with (refine wpList_store_row (by rfl) 40 (.tmp 8) (.tmp 59) (by rfl) (R + 1) #[.int .u64 (hiW (-(q + 1))), .int .u64 (loW (-(q + 1)))] (by rfl) (by rfl) 40 _ HR4.out infoM (by rfl) (by simp [Value.oneCell']) ?_)
        obtain ⟨V6, hV6⟩ : ∃ X, V4.setRow (R + 1) #[.int .u64 (hiW (-(q + 1))), .int .u64 (loW (-(q + 1)))] = X := ⟨_, rfl⟩
        have GV6 := hid (show V6.heap[R + 1]? = some (.cells #[.int .u64 (hiW (-(q + 1))), .int .u64 (loW (-(q + 1)))] 40 (0, 0)) from by rw [← hV6]; exact setRow_heap _ _ _ _ 40 (0, 0) HR4.out)
        have BW4 := hid (show Below w.heap.size w V4 from (btr HBB.out BV5.out).trans (KV4.out.below (btr HBB.out BV5.out).size (fun j hj e => by have h1 := TR.out; have h2 := HR.out; omega)))
        have BV6 := hid (show Below w.heap.size w V6 from by rw [← hV6]; exact setRow_below BW4.out (by have := HR.out; omega))
        rw [hV6]
        clear hV6
        have d0 := row_cell GV6.out 0
        have d1 := row_cell GV6.out 1
        simp only [lqA, lqB, lqC] at d0 d1
        exact bodyPost_ret (v := .tuple #[.agg #[.int .u64 (hiW (-(q + 1))), .int .u64 (loW (-(q + 1)))], .int .i64 0]) (by simp [results, Try.results48, go_sem, d0, d1]) rfl ⟨rfl, BV6.out⟩
      · obtain ⟨sg, hsg, hs0⟩ : ∃ x, sgn m = x ∧ decide (x < 0) = false := ⟨sgn m, rfl, by unfold sgn; rw [if_neg hneg]; split <;> decide⟩
        rw [hsg] at CS
        clear hsg
        go_upto_region 15 with (go_at_call 16; with_reducible refine (CS.out _).mono ?_; rintro e V2 ⟨rfl, hb⟩; have BV2 := hid hb; clear hb)
        have GV2 := hid (row_on GV.out BV2.out)
        have y0 := row_cell GV2.out 0
        have y1 := row_cell GV2.out 1
        simp only [lqA, lqB, lqC] at y0 y1
        have HR4 := hid (row_on HRB.out (btr BV.out BV2.out))
        go_wp2_with (refine wpList_store_row (by rfl) 40 (.tmp 8) (.tmp 59) (by rfl) (R + 1) #[.int .u64 (hiW (q + 1)), .int .u64 (loW (q + 1))] (by rfl) (by rfl) 40 _ HR4.out infoM (by rfl) (by simp [Value.oneCell']) ?_)
        obtain ⟨V6, hV6⟩ : ∃ X, V2.setRow (R + 1) #[.int .u64 (hiW (q + 1)), .int .u64 (loW (q + 1))] = X := ⟨_, rfl⟩
        have GV6 := hid (show V6.heap[R + 1]? = some (.cells #[.int .u64 (hiW (q + 1)), .int .u64 (loW (q + 1))] 40 (0, 0)) from by rw [← hV6]; exact setRow_heap _ _ _ _ 40 (0, 0) HR4.out)
        have BV6 := hid (show Below w.heap.size w V6 from by rw [← hV6]; exact setRow_below (btr HBB.out (btr BV.out BV2.out)) (by have := HR.out; omega))
        rw [hV6]
        clear hV6
        have d0 := row_cell GV6.out 0
        have d1 := row_cell GV6.out 1
        simp only [lqA, lqB, lqC] at d0 d1
        exact bodyPost_ret (v := .tuple #[.agg #[.int .u64 (hiW (q + 1)), .int .u64 (loW (q + 1))], .int .i64 0]) (by simp [results, Try.results48, go_sem, d0, d1]) rfl ⟨rfl, BV6.out⟩
    · go_simp
      go_at_call 11
      with_reducible refine (CE.out V0).mono ?_
      rintro e Y1 ⟨rfl, hb⟩
      have D1 := hid (btr D0.out hb)
      clear hb
      (try go_wp2_with fail)
      refine hK.out _ _ trivial (fun hHeld => ?_)
      clear hK K
      try simp only [lgA, lgB, lgC, Act.put, lsA, lsB, lsC]
      refine wpAnyH_ready (rs := [0]) (by kernel_rfl) (by simp) ?_
      refine (AllReadyH.cons rfl (fun K hK => ?_) AllReadyH.nil)
      have u0 := row_cell (row_on GX.out D1.out) 0
      have u1 := row_cell (row_on GX.out D1.out) 1
      simp only [lqA, lqB, lqC] at u0 u1
      go_simp
      clear u0 u1
      refine hK.out _ _ trivial (fun hHeld => ?_)
      clear hK K
      try simp only [lgA, lgB, lgC, Act.put, lsA, lsB, lsC]
      refine wpAnyH_ready (rs := [2]) (by kernel_rfl) (by simp) ?_
      refine (AllReadyH.cons rfl (fun K hK => ?_) AllReadyH.nil)
      go_simp
      go_at_call 25
      with_reducible refine (CA'.out Y1).mono ?_
      rintro e Y2 ⟨rfl, hb⟩
      have D2 := hid (btr D1.out hb)
      clear hb
      (try go_wp2_with fail)
      refine hK.out _ _ trivial (fun hHeld => ?_)
      clear hK K
      try simp only [lgA, lgB, lgC, Act.put, lsA, lsB, lsC]
      refine' wpAnyH_take (i := 3) rfl (by kernel_rfl) (by kernel_rfl) (by kernel_rfl) (fun _ _ _ h => h) (Or.inl ⟨by kernel_rfl, ?hyq5⟩) (by assumption) ?restq5
      case hyq5 => (intro w hSw; (try dsimp only at hSw); go_simp; try (with_reducible rfl))
      try simp only [lgA, lgB, lgC, Act.put, lsA, lsB, lsC]
      refine' wpAnyH_take (i := 4) rfl (by kernel_rfl) (by kernel_rfl) (by kernel_rfl) (fun _ _ _ h => h) (Or.inl ⟨by kernel_rfl, ?hyq6⟩) (by assumption) ?restq6
      case hyq6 => (intro w hSw; (try dsimp only at hSw); go_simp; try (with_reducible rfl))
      try simp only [lgA, lgB, lgC, Act.put, lsA, lsB, lsC]
      refine' wpAnyH_take (i := 5) rfl (by kernel_rfl) (by kernel_rfl) (by kernel_rfl) (fun _ _ _ h => h) (Or.inl ⟨by kernel_rfl, ?hyq7⟩) (by assumption) ?restq7
      case hyq7 => (intro w hSw; (try dsimp only at hSw); go_simp; try (with_reducible rfl))
      try simp only [lgA, lgB, lgC, Act.put, lsA, lsB, lsC]
      refine wpAnyH_ready (rs := [6]) (by kernel_rfl) (by simp) ?_
      refine (AllReadyH.cons rfl (fun K hK => ?_) AllReadyH.nil)
      have hrow := row_on GX.out D2.out
      refine step_store_row (by rfl) 40 (.tmp 12) (.tmp 48) (by rfl) t #[.int .u64 (hiW (q + 1)), .int .u64 (loW (q + 1))] (by rfl) (by rfl) 40 _ hrow infoM (by rfl) (by simp [Value.oneCell']) ?_
      obtain ⟨V, hV⟩ : ∃ Y, Y2.setRow t #[.int .u64 (hiW (q + 1)), .int .u64 (loW (q + 1))] = Y := ⟨_, rfl⟩
      have GV := hid (show V.heap[t]? = some (.cells #[.int .u64 (hiW (q + 1)), .int .u64 (loW (q + 1))] 40 (0, 0)) from by rw [← hV]; exact setRow_heap _ _ _ _ 40 (0, 0) hrow)
      have KV := hid (show Kp (fun j => j = t) Y2 V from by rw [← hV]; exact setRow_kp _ _ _)
      rw [hV]
      clear hV hrow
      refine hK.out _ _ trivial (fun hHeld => ?_)
      clear hK K
      try simp only [lgA, lgB, lgC, Act.put, lsA, lsB, lsC]
      refine' wpAnyH_take (i := 7) rfl (by kernel_rfl) (by kernel_rfl) (by kernel_rfl) (fun _ _ _ h => h) (Or.inl ⟨by kernel_rfl, ?hyq8⟩) (by assumption) ?restq8
      case hyq8 => (intro w hSw; (try dsimp only at hSw); go_simp; try (with_reducible rfl))
      try simp only [lgA, lgB, lgC, Act.put, lsA, lsB, lsC]
      refine wpAnyH_done (by kernel_rfl) ?_ _
      have HRA' := hid (KV.out.row (row_on HRA.out (btr BA.out D2.out)) (fun e => by have := TR.out; omega))
      have HRB' := hid (KV.out.row (row_on HRB.out (btr BA.out D2.out)) (fun e => by have := TR.out; omega))
      have HBV := hid (show Below w.heap.size w V from (btr HBB.out (btr BA.out D2.out)).trans (KV.out.below (btr HBB.out (btr BA.out D2.out)).size (fun j hj e => by have h1 := TR.out; have h2 := HR.out; omega)))
      clear HRA HRB HBB GX BA D1 D2 KV
      have HRA := HRA'
      have HRB := HRB'
      have HBB := HBV
      clear HRA' HRB' HBV
      have BV := hid (Below.refl V.heap.size V)
      go_upto_region 13 with fail
      have x0 := row_cell (row_on HRA.out BV.out) 0
      have x1 := row_cell (row_on HRA.out BV.out) 1
      simp only [lqA, lqB, lqC] at x0 x1
      by_cases hneg : m < 0
      · have hsg : sgn m = -1 := if_pos hneg
        rw [hsg] at CS
        go_upto_region 14 with (go_at_call 16; with_reducible refine (CS.out _).mono ?_; rintro e V2 ⟨rfl, hb⟩; have BV2 := hid hb; clear hb)
        have GV2 := hid (row_on GV.out BV2.out)
        have y0 := row_cell GV2.out 0
        have y1 := row_cell GV2.out 1
        simp only [lqA, lqB, lqC] at y0 y1
        go_upto_region 15 with (first | (go_at_call 13; with_reducible refine (CN.out _).mono ?_; rintro e V3 ⟨rfl, hb⟩; have BV3 := hid hb; have GV3 := hid (row_on GV2.out hb); clear hb) | (refine wpList_store_row (by rfl) 40 (.tmp 12) (.tmp 58) (by rfl) t #[.int .u64 (hiW (-(q + 1))), .int .u64 (loW (-(q + 1)))] (by rfl) (by rfl) 40 _ GV3.out infoM (by rfl) (by simp [Value.oneCell']) ?_))
        obtain ⟨V4, hV4⟩ : ∃ X, V3.setRow t #[.int .u64 (hiW (-(q + 1))), .int .u64 (loW (-(q + 1)))] = X := ⟨_, rfl⟩
        have GV4 := hid (show V4.heap[t]? = some (.cells #[.int .u64 (hiW (-(q + 1))), .int .u64 (loW (-(q + 1)))] 40 (0, 0)) from by rw [← hV4]; exact setRow_heap _ _ _ _ 40 (0, 0) GV3.out)
        have KV4 := hid (show Kp (fun j => j = t) V3 V4 from by rw [← hV4]; exact setRow_kp _ _ _)
        rw [hV4]
        clear hV4 y0 y1 x0 x1
        have BV5 := hid (btr (btr BV.out BV2.out) BV3.out)
        have HR4 := hid (KV4.out.row (row_on HRB.out BV5.out) (fun e => by have := TR.out; omega))
        have z0 := row_cell GV4.out 0
        have z1 := row_cell GV4.out 1
        simp only [lqA, lqB, lqC] at z0 z1
        go_wp2_with (refine wpList_store_row (by rfl) 40 (.tmp 8) (.tmp 59) (by rfl) (R + 1) #[.int .u64 (hiW (-(q + 1))), .int .u64 (loW (-(q + 1)))] (by rfl) (by rfl) 40 _ HR4.out infoM (by rfl) (by simp [Value.oneCell']) ?_)
        obtain ⟨V6, hV6⟩ : ∃ X, V4.setRow (R + 1) #[.int .u64 (hiW (-(q + 1))), .int .u64 (loW (-(q + 1)))] = X := ⟨_, rfl⟩
        have GV6 := hid (show V6.heap[R + 1]? = some (.cells #[.int .u64 (hiW (-(q + 1))), .int .u64 (loW (-(q + 1)))] 40 (0, 0)) from by rw [← hV6]; exact setRow_heap _ _ _ _ 40 (0, 0) HR4.out)
        have BW4 := hid (show Below w.heap.size w V4 from (btr HBB.out BV5.out).trans (KV4.out.below (btr HBB.out BV5.out).size (fun j hj e => by have h1 := TR.out; have h2 := HR.out; omega)))
        have BV6 := hid (show Below w.heap.size w V6 from by rw [← hV6]; exact setRow_below BW4.out (by have := HR.out; omega))
        rw [hV6]
        clear hV6
        have d0 := row_cell GV6.out 0
        have d1 := row_cell GV6.out 1
        simp only [lqA, lqB, lqC] at d0 d1
        exact bodyPost_ret (v := .tuple #[.agg #[.int .u64 (hiW (-(q + 1))), .int .u64 (loW (-(q + 1)))], .int .i64 0]) (by simp [results, Try.results48, go_sem, d0, d1]) rfl ⟨rfl, BV6.out⟩
      · obtain ⟨sg, hsg, hs0⟩ : ∃ x, sgn m = x ∧ decide (x < 0) = false := ⟨sgn m, rfl, by unfold sgn; rw [if_neg hneg]; split <;> decide⟩
        rw [hsg] at CS
        clear hsg
        go_upto_region 15 with (go_at_call 16; with_reducible refine (CS.out _).mono ?_; rintro e V2 ⟨rfl, hb⟩; have BV2 := hid hb; clear hb)
        have GV2 := hid (row_on GV.out BV2.out)
        have y0 := row_cell GV2.out 0
        have y1 := row_cell GV2.out 1
        simp only [lqA, lqB, lqC] at y0 y1
        have HR4 := hid (row_on HRB.out (btr BV.out BV2.out))
        go_wp2_with (refine wpList_store_row (by rfl) 40 (.tmp 8) (.tmp 59) (by rfl) (R + 1) #[.int .u64 (hiW (q + 1)), .int .u64 (loW (q + 1))] (by rfl) (by rfl) 40 _ HR4.out infoM (by rfl) (by simp [Value.oneCell']) ?_)
        obtain ⟨V6, hV6⟩ : ∃ X, V2.setRow (R + 1) #[.int .u64 (hiW (q + 1)), .int .u64 (loW (q + 1))] = X := ⟨_, rfl⟩
        have GV6 := hid (show V6.heap[R + 1]? = some (.cells #[.int .u64 (hiW (q + 1)), .int .u64 (loW (q + 1))] 40 (0, 0)) from by rw [← hV6]; exact setRow_heap _ _ _ _ 40 (0, 0) HR4.out)
        have BV6 := hid (show Below w.heap.size w V6 from by rw [← hV6]; exact setRow_below (btr HBB.out (btr BV.out BV2.out)) (by have := HR.out; omega))
        rw [hV6]
        clear hV6
        have d0 := row_cell GV6.out 0
        have d1 := row_cell GV6.out 1
        simp only [lqA, lqB, lqC] at d0 d1
        exact bodyPost_ret (v := .tuple #[.agg #[.int .u64 (hiW (q + 1)), .int .u64 (loW (q + 1))], .int .i64 0]) (by simp [results, Try.results48, go_sem, d0, d1]) rfl ⟨rfl, BV6.out⟩
  · rw [decide_eq_false hup] at CG
    have hQ := HQ.out
    rw [if_neg hup] at hQ
    have hQq : Q = q := by omega
    clear hQ HQ
    subst hQq
    go_upto_region 13 with (go_at_call 63; with_reducible refine (CG.out _).mono ?_; rintro e w5 ⟨rfl, rfl⟩)
    clear c0 c1
    obtain ⟨V, hV⟩ : ∃ V, w5 = V := ⟨_, rfl⟩
    have GV := hid GX.out
    have BV := hid BA.out
    rw [hV] at GV BV ⊢
    clear hV GX BA
    have x0 := row_cell (row_on HRA.out BV.out) 0
    have x1 := row_cell (row_on HRA.out BV.out) 1
    simp only [lqA, lqB, lqC] at x0 x1
    by_cases hneg : m < 0
    · have hsg : sgn m = -1 := if_pos hneg
      rw [hsg] at CS
      go_upto_region 14 with (go_at_call 16; with_reducible refine (CS.out _).mono ?_; rintro e V2 ⟨rfl, hb⟩; have BV2 := hid hb; clear hb)
      have GV2 := hid (row_on GV.out BV2.out)
      have y0 := row_cell GV2.out 0
      have y1 := row_cell GV2.out 1
      simp only [lqA, lqB, lqC] at y0 y1
      go_upto_region 15 with (first | (go_at_call 13; with_reducible refine (CN.out _).mono ?_; rintro e V3 ⟨rfl, hb⟩; have BV3 := hid hb; have GV3 := hid (row_on GV2.out hb); clear hb) | (refine wpList_store_row (by rfl) 40 (.tmp 12) (.tmp 58) (by rfl) t #[.int .u64 (hiW (-Q)), .int .u64 (loW (-Q))] (by rfl) (by rfl) 40 _ GV3.out infoM (by rfl) (by simp [Value.oneCell']) ?_))
      obtain ⟨V4, hV4⟩ : ∃ X, V3.setRow t #[.int .u64 (hiW (-Q)), .int .u64 (loW (-Q))] = X := ⟨_, rfl⟩
      have GV4 := hid (show V4.heap[t]? = some (.cells #[.int .u64 (hiW (-Q)), .int .u64 (loW (-Q))] 40 (0, 0)) from by rw [← hV4]; exact setRow_heap _ _ _ _ 40 (0, 0) GV3.out)
      have KV4 := hid (show Kp (fun j => j = t) V3 V4 from by rw [← hV4]; exact setRow_kp _ _ _)
      rw [hV4]
      clear hV4 y0 y1 x0 x1
      have BV5 := hid (btr (btr BV.out BV2.out) BV3.out)
      have HR4 := hid (KV4.out.row (row_on HRB.out BV5.out) (fun e => by have := TR.out; omega))
      have z0 := row_cell GV4.out 0
      have z1 := row_cell GV4.out 1
      simp only [lqA, lqB, lqC] at z0 z1
      go_wp2_with (refine wpList_store_row (by rfl) 40 (.tmp 8) (.tmp 59) (by rfl) (R + 1) #[.int .u64 (hiW (-Q)), .int .u64 (loW (-Q))] (by rfl) (by rfl) 40 _ HR4.out infoM (by rfl) (by simp [Value.oneCell']) ?_)
      obtain ⟨V6, hV6⟩ : ∃ X, V4.setRow (R + 1) #[.int .u64 (hiW (-Q)), .int .u64 (loW (-Q))] = X := ⟨_, rfl⟩
      have GV6 := hid (show V6.heap[R + 1]? = some (.cells #[.int .u64 (hiW (-Q)), .int .u64 (loW (-Q))] 40 (0, 0)) from by rw [← hV6]; exact setRow_heap _ _ _ _ 40 (0, 0) HR4.out)
      have BW4 := hid (show Below w.heap.size w V4 from (btr HBB.out BV5.out).trans (KV4.out.below (btr HBB.out BV5.out).size (fun j hj e => by have h1 := TR.out; have h2 := HR.out; omega)))
      have BV6 := hid (show Below w.heap.size w V6 from by rw [← hV6]; exact setRow_below BW4.out (by have := HR.out; omega))
      rw [hV6]
      clear hV6
      have d0 := row_cell GV6.out 0
      have d1 := row_cell GV6.out 1
      simp only [lqA, lqB, lqC] at d0 d1
      exact bodyPost_ret (v := .tuple #[.agg #[.int .u64 (hiW (-Q)), .int .u64 (loW (-Q))], .int .i64 0]) (by simp [results, Try.results48, go_sem, d0, d1]) rfl ⟨rfl, BV6.out⟩
    · obtain ⟨sg, hsg, hs0⟩ : ∃ x, sgn m = x ∧ decide (x < 0) = false := ⟨sgn m, rfl, by unfold sgn; rw [if_neg hneg]; split <;> decide⟩
      rw [hsg] at CS
      clear hsg
      go_upto_region 15 with (go_at_call 16; with_reducible refine (CS.out _).mono ?_; rintro e V2 ⟨rfl, hb⟩; have BV2 := hid hb; clear hb)
      have GV2 := hid (row_on GV.out BV2.out)
      have y0 := row_cell GV2.out 0
      have y1 := row_cell GV2.out 1
      simp only [lqA, lqB, lqC] at y0 y1
      have HR4 := hid (row_on HRB.out (btr BV.out BV2.out))
      go_wp2_with (refine wpList_store_row (by rfl) 40 (.tmp 8) (.tmp 59) (by rfl) (R + 1) #[.int .u64 (hiW Q), .int .u64 (loW Q)] (by rfl) (by rfl) 40 _ HR4.out infoM (by rfl) (by simp [Value.oneCell']) ?_)
      obtain ⟨V6, hV6⟩ : ∃ X, V2.setRow (R + 1) #[.int .u64 (hiW Q), .int .u64 (loW Q)] = X := ⟨_, rfl⟩
      have GV6 := hid (show V6.heap[R + 1]? = some (.cells #[.int .u64 (hiW Q), .int .u64 (loW Q)] 40 (0, 0)) from by rw [← hV6]; exact setRow_heap _ _ _ _ 40 (0, 0) HR4.out)
      have BV6 := hid (show Below w.heap.size w V6 from by rw [← hV6]; exact setRow_below (btr HBB.out (btr BV.out BV2.out)) (by have := HR.out; omega))
      rw [hV6]
      clear hV6
      have d0 := row_cell GV6.out 0
      have d1 := row_cell GV6.out 1
      simp only [lqA, lqB, lqC] at d0 d1
      exact bodyPost_ret (v := .tuple #[.agg #[.int .u64 (hiW Q), .int .u64 (loW Q)], .int .i64 0]) (by simp [results, Try.results48, go_sem, d0, d1]) rfl ⟨rfl, BV6.out⟩
theorem part_gen (m a b a1 b1 v y : Int) (w : World) (wa : IntKind.u32.wrap a = a1) (wb : IntKind.u32.wrap b = b1) (CP : Hid (∀ U, Calls Try.prog 48 #[mv m, .int .u32 a1, .int .u32 b1, .int .i64 0] U fun e w' => e = .returned (.tuple #[mv v, .int .i64 y]) ∧ Below U.heap.size U w')) :
    Calls Try.prog 46 #[mv m, .int .u64 a, .int .u64 b] w fun e w' => e = .returned (mv v) ∧ Below w.heap.size w w' := by
  unfold mv at CP ⊢
  obtain ⟨Wa, hWa⟩ : ∃ W, w.alloc (.cells #[.int .u64 (hiW m), .int .u64 (loW m)] 40) = W := ⟨_, rfl⟩
  obtain ⟨Wb, hWb⟩ : ∃ W, Wa.alloc (.cells #[.int .u64 0, .int .u64 0] 40) = W := ⟨_, rfl⟩
  obtain ⟨R, hR⟩ : ∃ R, w.heap.size = R := ⟨_, rfl⟩
  have sa : Wa.heap.size = R + 1 := by rw [← hWa, ← hR]; exact Array.size_push _
  have ba : Below w.heap.size w Wa := by rw [← hWa]; exact ball _ _
  have bb : Below Wa.heap.size Wa Wb := by rw [← hWb]; exact ball _ _
  have ra : Wb.heap[R]? = some (.cells #[.int .u64 (hiW m), .int .u64 (loW m)] 40 (0, 0)) := row_on (by rw [← hWa, ← hR]; exact World.alloc_heap_new _ _) bb
  have rb : Wb.heap[R + 1]? = some (.cells #[.int .u64 0, .int .u64 0] 40 (0, 0)) := by rw [← hWb, ← sa]; exact World.alloc_heap_new _ _
  have HBB := hid (btr ba bb)
  have HRB := hid rb
  have HWa := hid hWa
  have HWb := hid hWb
  have HR := hid hR
  have a0 := row_cell ra 0
  have a1 := row_cell ra 1
  simp only [lqA, lqB, lqC] at a0 a1
  clear hWa hWb hR sa ba bb ra rb
  go_enter Try.func46, Try.ntmps46
  go_upto_region 1 with fail
  rw [HWa.out, HWb.out, HR.out]
  clear HWa HWb
  go_upto_region 2 with (first | (go_at_call 48; with_reducible refine (CP.out _).mono ?_; rintro e w4 ⟨rfl, hb⟩; have HB4 := hid hb; have HZ4 := hid (World.alloc_heap_new w4 (.cells #[.int .u64 0, .int .u64 0] 40)); clear hb) | (refine wpList_store_row (by rfl) 40 (.tmp 7) (.tmp 16) (by rfl) w4.heap.size #[.int .u64 (hiW v), .int .u64 (loW v)] (by rfl) (by rfl) 40 _ HZ4.out infoM (by rfl) (by simp [Value.oneCell']) ?_))
  obtain ⟨X, hX⟩ : ∃ X, (w4.alloc (.cells #[.int .u64 0, .int .u64 0] 40)).setRow w4.heap.size #[.int .u64 (hiW v), .int .u64 (loW v)] = X := ⟨_, rfl⟩
  have GX := hid (show X.heap[w4.heap.size]? = some (.cells #[.int .u64 (hiW v), .int .u64 (loW v)] 40 (0, 0)) from by rw [← hX]; exact setRow_heap _ _ _ _ 40 (0, 0) HZ4.out)
  have BX := hid (show Below w4.heap.size w4 X from by rw [← hX]; exact setRow_below (ball _ _) (Nat.le_refl _))
  rw [hX]
  clear hX HZ4 a0 a1
  have c0 := row_cell GX.out 0
  have c1 := row_cell GX.out 1
  simp only [lqA, lqB, lqC] at c0 c1
  have HRX := hid (row_on (row_on HRB.out HB4.out) BX.out)
  go_wp2_with (refine wpList_store_row (by rfl) 40 (.tmp 6) (.tmp 18) (by rfl) (R + 1) #[.int .u64 (hiW v), .int .u64 (loW v)] (by rfl) (by rfl) 40 _ HRX.out infoM (by rfl) (by simp [Value.oneCell']) ?_)
  refine bodyPost_ret (results_cell_row (fn := Try.f46) Try.results46 _ _ (R + 1) 40 #[.int .u64 (hiW v), .int .u64 (loW v)] (0, 0) _ (by rfl) (setRow_heap _ _ _ _ 40 (0, 0) HRX.out) Try.underlying40 rfl infoM) rfl ⟨rfl, ?_⟩
  exact setRow_below (btr (btr HBB.out HB4.out) BX.out) (by have := HR.out; omega)
/-- a part of whatever. -/
theorem part_wild (m a b : Int) (hm : Amt m) (ha0 : 0 ≤ a) (ha1 : a < 4294967296) (hb0 : 0 ≤ b) : ∃ v, Amt v ∧ ∀ w, Calls Try.prog 46 #[mv m, .int .u64 a, .int .u64 b] w fun e w' => e = .returned (mv v) ∧ Below w.heap.size w w' := by
  have wa : IntKind.u32.wrap a = a := by rw [IntKind.wrap_u32]; omega
  obtain ⟨b1, hb1⟩ : ∃ x, b % 4294967296 = x := ⟨_, rfl⟩
  have wb : IntKind.u32.wrap b = b1 := by rw [IntKind.wrap_u32, ← hb1]
  have n0 : 0 ≤ b1 := by omega
  have n1 : b1 < 4294967296 := by omega
  have hok : okRound 0 := .inl rfl
  by_cases h0 : b1 = 0
  · subst h0
    refine ⟨0, ⟨by decide, by decide⟩, fun w => part_gen m a b a 0 0 11 w wa wb (hid (fun U => ?_))⟩
    exact portion_why _ _ a 0 0 11 U (by decide) (by decide) (by decide) (hid (fun U => divisible_zero 0 U hok))
  · have hA0 := absI_nn m
    have hAm : absI m ≤ 170141183460469231731687303715884105727 := by unfold Amt at hm; unfold absI; split <;> omega
    by_cases h1 : absI m * a / b1 ≤ 170141183460469231731687303715884105727
    · refine ⟨ptn m a b1 0, ?_, fun w => part_gen m a b a b1 _ 0 w wa wb (hid (fun U => portion_gen m a b1 0 U hm ha0 ha1 h1 (by omega) n1 rfl))⟩
      have q0 : 0 ≤ absI m * a / b1 := Int.ediv_nonneg (Int.mul_nonneg hA0 ha0) (by omega)
      unfold ptn ptq Amt
      rw [if_neg (show ¬ ((0 : Int) = 1 ∧ 0 < absI m * a % b1) from fun h => absurd h.1 (by decide))]
      split <;> omega
    · refine ⟨0, ⟨by decide, by decide⟩, fun w => part_gen m a b a b1 0 10 w wa wb (hid (fun U => ?_))⟩
      refine portion_not _ _ a b1 0 (hiW (absI m)) (loW (absI m)) U n0 n1 ha0 ha1 (hid (fun U => divisible_ok b1 0 U hok (by simpa using h0))) (hid (fun U => msize_any m U hm)) (hid (fun U => ?_))
      refine (scaled_any (absI m) a b1 U hA0 hAm ha0 ha1 (by omega) n1).mono ?_
      rintro e w' ⟨h | h, hb⟩
      · exact absurd h.1 h1
      · exact ⟨h.2, hb⟩
end Go.Proofs.Ytphhllppgelceaa.Ac
