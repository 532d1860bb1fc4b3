/-
  A part of an amount; a position that goes on.
-/
import Derived.Test.YtphhllppgelceaaAcB
namespace Go.Proofs.Ytphhllppgelceaa.Ac
open List renaming getElem?_toArray → lqA, getElem?_cons_succ → lqB, getElem?_cons_zero → lqC
open List renaming getElem_toArray → lgA, getElem_cons_succ → lgB, getElem_cons_zero → lgC, setIfInBounds_toArray → lsA, set_cons_zero → lsB, set_cons_succ → lsC
open Go.RowKit Go.Deep Go.Proofs.Ytphhllppgelceaa.MonM
set_option linter.unusedVariables false
set_option linter.unusedSimpArgs false
set_option maxHeartbeats 4000000
set_option maxRecDepth 100000
attribute [local go_sem ↓] Go.wp_at_zero Go.wp_at_succ
theorem infoPo : (Try.prog.info? 55).map (·.size) = some 5 := by kernel_rfl
theorem part_any (m a b : Int) (w : World) (hm : Amt m) (ha0 : 0 ≤ a) (hab : a ≤ b) (hb0 : 0 < b) (hb1 : b < 4294967296) :
    Calls Try.prog 46 #[mv m, .int .u64 a, .int .u64 b] w fun e w' => e = .returned (mv (ptn m a b 0)) ∧ Below w.heap.size w w' := by
  have CP := hid (fun U => portion_any m a b 0 U hm ha0 hab hb0 hb1 (.inl rfl))
  have wa : IntKind.u32.wrap a = a := by rw [IntKind.wrap_u32]; omega
  have wb : IntKind.u32.wrap b = b := by rw [IntKind.wrap_u32]; omega
  obtain ⟨v, hv⟩ : ∃ v, ptn m a b 0 = v := ⟨_, rfl⟩
  rw [hv] at CP ⊢
  unfold mv at CP ⊢
  obtain ⟨Wa, hWa⟩ : ∃ W, w.alloc (.cells #[.int .u64 (hiW m), .int .u64 (loW m)] 40) = W := ⟨_, rfl⟩
  obtain ⟨Wb, hWb⟩ : ∃ W, Wa.alloc (.cells #[.int .u64 0, .int .u64 0] 40) = W := ⟨_, rfl⟩
  obtain ⟨R, hR⟩ : ∃ R, w.heap.size = R := ⟨_, rfl⟩
  have sa : Wa.heap.size = R + 1 := by rw [← hWa, ← hR]; exact Array.size_push _
  have ba : Below w.heap.size w Wa := by rw [← hWa]; exact ball _ _
  have bb : Below Wa.heap.size Wa Wb := by rw [← hWb]; exact ball _ _
  have ra : Wb.heap[R]? = some (.cells #[.int .u64 (hiW m), .int .u64 (loW m)] 40 (0, 0)) := row_on (by rw [← hWa, ← hR]; exact World.alloc_heap_new _ _) bb
  have rb : Wb.heap[R + 1]? = some (.cells #[.int .u64 0, .int .u64 0] 40 (0, 0)) := by rw [← hWb, ← sa]; exact World.alloc_heap_new _ _
  have HBB := hid (btr ba bb)
  have HRB := hid rb
  have HWa := hid hWa
  have HWb := hid hWb
  have HR := hid hR
  have a0 := row_cell ra 0
  have a1 := row_cell ra 1
  simp only [lqA, lqB, lqC] at a0 a1
  clear hWa hWb hR sa ba bb ra rb hv ha0 hab hb0 hb1 hm
  go_enter Try.func46, Try.ntmps46
  go_upto_region 1 with fail
  rw [HWa.out, HWb.out, HR.out]
  clear HWa HWb
  go_upto_region 2 with (first | (go_at_call 48; with_reducible refine (CP.out _).mono ?_; rintro e w4 ⟨rfl, hb⟩; have HB4 := hid hb; have HZ4 := hid (World.alloc_heap_new w4 (.cells #[.int .u64 0, .int .u64 0] 40)); clear hb) | (refine wpList_store_row (by rfl) 40 (.tmp 7) (.tmp 16) (by rfl) w4.heap.size #[.int .u64 (hiW v), .int .u64 (loW v)] (by rfl) (by rfl) 40 _ HZ4.out infoM (by rfl) (by simp [Value.oneCell']) ?_))
  obtain ⟨X, hX⟩ : ∃ X, (w4.alloc (.cells #[.int .u64 0, .int .u64 0] 40)).setRow w4.heap.size #[.int .u64 (hiW v), .int .u64 (loW v)] = X := ⟨_, rfl⟩
  have GX := hid (show X.heap[w4.heap.size]? = some (.cells #[.int .u64 (hiW v), .int .u64 (loW v)] 40 (0, 0)) from by rw [← hX]; exact setRow_heap _ _ _ _ 40 (0, 0) HZ4.out)
  have BX := hid (show Below w4.heap.size w4 X from by rw [← hX]; exact setRow_below (ball _ _) (Nat.le_refl _))
  rw [hX]
  clear hX HZ4 a0 a1
  have c0 := row_cell GX.out 0
  have c1 := row_cell GX.out 1
  simp only [lqA, lqB, lqC] at c0 c1
  have HRX := hid (row_on (row_on HRB.out HB4.out) BX.out)
  go_wp2_with (refine wpList_store_row (by rfl) 40 (.tmp 6) (.tmp 18) (by rfl) (R + 1) #[.int .u64 (hiW v), .int .u64 (loW v)] (by rfl) (by rfl) 40 _ HRX.out infoM (by rfl) (by simp [Value.oneCell']) ?_)
  refine bodyPost_ret (results_cell_row (fn := Try.f46) Try.results46 _ _ (R + 1) 40 #[.int .u64 (hiW v), .int .u64 (loW v)] (0, 0) _ (by rfl) (setRow_heap _ _ _ _ 40 (0, 0) HRX.out) Try.underlying40 rfl infoM) rfl ⟨rfl, ?_⟩
  exact setRow_below (btr (btr HBB.out HB4.out) BX.out) (by have := HR.out; omega)
/-- a position, plainly: how many, what they cost, what was gained. -/
structure Po where
  qt : Int
  co : Int
  ga : Int
def Po.row (p : Po) : Array Value := #[.int .i64 p.qt, .int .u64 (hiW p.co), .int .u64 (loW p.co), .int .u64 (hiW p.ga), .int .u64 (loW p.ga)]
structure PoOk (p : Po) : Prop where
  co : Amt p.co
  ga : Amt p.ga
theorem maddV_amt (m n : Int) : Amt (maddV m n) := by unfold maddV Amt; split <;> omega
/-- more of the same. -/
theorem behind_open (p : Po) (d money : Int) (w : World) (hp : PoOk p) (hm : Amt money) (hd : p.qt = 0 ∨ (decide (0 < p.qt) = decide (0 < d))) (hq0 : -9223372036854775808 ≤ p.qt + d) (hq1 : p.qt + d < 9223372036854775808) :
    Calls Try.prog 29 #[.agg p.row, .int .i64 d, mv money] w fun e w' => e = .returned (.agg (Po.row ⟨p.qt + d, maddV p.co (-money), p.ga⟩)) ∧ Below w.heap.size w w' := by
  obtain ⟨qt, co, ga⟩ := p
  have CL := hid (fun U => less_any co money U hp.co hm)
  unfold Po.row
  simp only at hd hq0 hq1 ⊢
  obtain ⟨v, hv⟩ : ∃ v, maddV co (-money) = v := ⟨_, rfl⟩
  rw [hv] at CL ⊢
  unfold mv at CL ⊢
  obtain ⟨s, hs⟩ : ∃ s, qt + d = s := ⟨_, rfl⟩
  have wq : IntKind.i64.wrap (qt + d) = s := by rw [IntKind.wrap_i64]; omega
  rw [hs]
  obtain ⟨Wa, hWa⟩ : ∃ W, w.alloc (.cells #[.int .i64 qt, .int .u64 (hiW co), .int .u64 (loW co), .int .u64 (hiW ga), .int .u64 (loW ga)] 55) = W := ⟨_, rfl⟩
  obtain ⟨Wb, hWb⟩ : ∃ W, Wa.alloc (.cells #[.int .u64 (hiW money), .int .u64 (loW money)] 40) = W := ⟨_, rfl⟩
  obtain ⟨Wc, hWc⟩ : ∃ W, Wb.alloc (.cells #[.int .i64 0, .int .u64 0, .int .u64 0, .int .u64 0, .int .u64 0] 55) = W := ⟨_, rfl⟩
  obtain ⟨R, hR⟩ : ∃ R, w.heap.size = R := ⟨_, rfl⟩
  have sa : Wa.heap.size = R + 1 := by rw [← hWa, ← hR]; exact Array.size_push _
  have sb : Wb.heap.size = R + 1 + 1 := by rw [← hWb]; exact (Array.size_push _).trans (by rw [sa])
  have ba : Below w.heap.size w Wa := by rw [← hWa]; exact ball _ _
  have bb : Below Wa.heap.size Wa Wb := by rw [← hWb]; exact ball _ _
  have bc : Below Wb.heap.size Wb Wc := by rw [← hWc]; exact ball _ _
  have HRA := hid (show Wc.heap[R]? = some (.cells #[.int .i64 qt, .int .u64 (hiW co), .int .u64 (loW co), .int .u64 (hiW ga), .int .u64 (loW ga)] 55 (0, 0)) from row_on (row_on (by rw [← hWa, ← hR]; exact World.alloc_heap_new _ _) bb) bc)
  have HRB := hid (show Wc.heap[R + 1]? = some (.cells #[.int .u64 (hiW money), .int .u64 (loW money)] 40 (0, 0)) from row_on (by rw [← hWb, ← sa]; exact World.alloc_heap_new _ _) bc)
  have HRC := hid (show Wc.heap[R + 1 + 1]? = some (.cells #[.int .i64 0, .int .u64 0, .int .u64 0, .int .u64 0, .int .u64 0] 55 (0, 0)) from by rw [← hWc, ← sb]; exact World.alloc_heap_new _ _)
  have HBC := hid (btr (btr ba bb) bc)
  have HWa := hid hWa
  have HWb := hid hWb
  have HWc := hid hWc
  have HR := hid hR
  have a0 := row_cell HRA.out 0
  simp only [lqA, lqB, lqC] at a0
  clear hWa hWb hWc hR sa sb ba bb bc hv hs hp hm hq0 hq1
  have hc : (qt = 0) ∨ (¬ qt = 0 ∧ decide (0 < qt) = true ∧ decide (0 < d) = true) ∨ (¬ qt = 0 ∧ decide (0 < qt) = false ∧ decide (0 < d) = false) := by
    by_cases h0 : qt = 0
    · exact .inl h0
    · rcases hd with h | h
      · exact absurd h h0
      · cases h2 : decide (0 < qt) with
        | true => exact .inr (.inl ⟨h0, rfl, by rw [← h, h2]⟩)
        | false => exact .inr (.inr ⟨h0, rfl, by rw [← h, h2]⟩)
  clear hd
  have HS := hid (show ∀ U, Below Wc.heap.size Wc U → U.cell? ⟨R, 0, none⟩ = some (.int .i64 qt) ∧ U.cell? ⟨R, 1, none⟩ = some (.int .u64 (hiW co)) ∧ U.cell? ⟨R, 2, none⟩ = some (.int .u64 (loW co)) ∧ U.cell? ⟨R, 3, none⟩ = some (.int .u64 (hiW ga)) ∧ U.cell? ⟨R, 4, none⟩ = some (.int .u64 (loW ga)) ∧ U.cell? ⟨R + 1, 0, none⟩ = some (.int .u64 (hiW money)) ∧ U.cell? ⟨R + 1, 1, none⟩ = some (.int .u64 (loW money)) from fun U hU => ⟨row_cell (row_on HRA.out hU) 0, row_cell (row_on HRA.out hU) 1, row_cell (row_on HRA.out hU) 2, row_cell (row_on HRA.out hU) 3, row_cell (row_on HRA.out hU) 4, row_cell (row_on HRB.out hU) 0, row_cell (row_on HRB.out hU) 1⟩)
  rcases hc with h0 | ⟨h0, h1, h2⟩ | ⟨h0, h1, h2⟩
  · have h9 : (qt == 0) = true := by simpa using h0
    clear h0
    go_enter Try.func29, Try.ntmps29
    go_upto_region 1 with fail
    rw [HWa.out, HWb.out, HWc.out, HR.out]
    clear HWa HWb HWc
    go_upto_region 2 with fail
    clear a0 h9
    obtain ⟨V0, hV0⟩ : ∃ U, Wc.drew = U := ⟨_, rfl⟩
    have DV0 := hid (show Below Wc.heap.size Wc V0 from by rw [← hV0]; exact bdrew1 _)
    refine wp_region_held_drew (S := fun U => U.cell? ⟨R, 0, none⟩ = some (.int .i64 qt) ∧ U.cell? ⟨R, 1, none⟩ = some (.int .u64 (hiW co)) ∧ U.cell? ⟨R, 2, none⟩ = some (.int .u64 (loW co)) ∧ U.cell? ⟨R, 3, none⟩ = some (.int .u64 (hiW ga)) ∧ U.cell? ⟨R, 4, none⟩ = some (.int .u64 (loW ga)) ∧ U.cell? ⟨R + 1, 0, none⟩ = some (.int .u64 (hiW money)) ∧ U.cell? ⟨R + 1, 1, none⟩ = some (.int .u64 (loW money))) (by kernel_rfl) ?_ (fun hHeld => ?_)
    · (try dsimp only); rw [hV0]; exact HS.out _ DV0.out
    rw [hV0] at hHeld ⊢
    clear hV0
    refine' wpAnyH_take (i := 0) rfl (by kernel_rfl) (by kernel_rfl) (by kernel_rfl) (fun _ _ _ h => h) (Or.inl ⟨by kernel_rfl, ?hyq1⟩) (by assumption) ?restq1
    case hyq1 => (intro w hSw; (try dsimp only at hSw); go_simp; try (with_reducible rfl))
    try simp only [lgA, lgB, lgC, Act.put, lsA, lsB, lsC]
    refine' wpAnyH_take (i := 1) rfl (by kernel_rfl) (by kernel_rfl) (by kernel_rfl) (fun _ _ _ h => h) (Or.inl ⟨by kernel_rfl, ?hyq2⟩) (by assumption) ?restq2
    case hyq2 => (intro w hSw; (try dsimp only at hSw); go_simp; try (with_reducible rfl))
    try simp only [lgA, lgB, lgC, Act.put, lsA, lsB, lsC]
    refine' wpAnyH_take (i := 2) rfl (by kernel_rfl) (by kernel_rfl) (by kernel_rfl) (fun _ _ _ h => h) (Or.inl ⟨by kernel_rfl, ?hyq3⟩) (by assumption) ?restq3
    case hyq3 => (intro w hSw; (try dsimp only at hSw); go_simp; try (with_reducible rfl))
    try simp only [lgA, lgB, lgC, Act.put, lsA, lsB, lsC]
    refine' wpAnyH_take (i := 3) rfl (by kernel_rfl) (by kernel_rfl) (by kernel_rfl) (fun _ _ _ h => h) (Or.inl ⟨by kernel_rfl, ?hyq4⟩) (by assumption) ?restq4
    case hyq4 => (intro w hSw; (try dsimp only at hSw); go_simp; try (with_reducible rfl))
    try simp only [lgA, lgB, lgC, Act.put, lsA, lsB, lsC]
    refine' wpAnyH_take (i := 4) rfl (by kernel_rfl) (by kernel_rfl) (by kernel_rfl) (fun _ _ _ h => h) (Or.inl ⟨by kernel_rfl, ?hyq5⟩) (by assumption) ?restq5
    case hyq5 => (intro w hSw; (try dsimp only at hSw); go_simp; try (with_reducible rfl))
    try simp only [lgA, lgB, lgC, Act.put, lsA, lsB, lsC]
    refine' wpAnyH_take (i := 5) rfl (by kernel_rfl) (by kernel_rfl) (by kernel_rfl) (fun _ _ _ h => h) (Or.inl ⟨by kernel_rfl, ?hyq6⟩) (by assumption) ?restq6
    case hyq6 => (intro w hSw; (try dsimp only at hSw); go_simp; try (with_reducible rfl))
    try simp only [lgA, lgB, lgC, Act.put, lsA, lsB, lsC]
    refine' wpAnyH_take (i := 6) rfl (by kernel_rfl) (by kernel_rfl) (by kernel_rfl) (fun _ _ _ h => h) (Or.inl ⟨by kernel_rfl, ?hyq7⟩) (by assumption) ?restq7
    case hyq7 => (intro w hSw; (try dsimp only at hSw); go_simp; try (with_reducible rfl))
    try simp only [lgA, lgB, lgC, Act.put, lsA, lsB, lsC]
    refine' wpAnyH_take (i := 8) rfl (by kernel_rfl) (by kernel_rfl) (by kernel_rfl) (fun _ _ _ h => h) (Or.inl ⟨by kernel_rfl, ?hyq8⟩) (by assumption) ?restq8
    case hyq8 => (intro w hSw; (try dsimp only at hSw); go_simp; try (with_reducible rfl))
    try simp only [lgA, lgB, lgC, Act.put, lsA, lsB, lsC]
    refine' wpAnyH_take (i := 9) rfl (by kernel_rfl) (by kernel_rfl) (by kernel_rfl) (fun _ _ _ h => h) (Or.inl ⟨by kernel_rfl, ?hyq9⟩) (by assumption) ?restq9
    case hyq9 => (intro w hSw; (try dsimp only at hSw); go_simp; try (with_reducible rfl))
    try simp only [lgA, lgB, lgC, Act.put, lsA, lsB, lsC]
    refine wpAnyH_ready (rs := [7]) (by kernel_rfl) (by simp) ?_
    refine (AllReadyH.cons rfl (fun K hK => ?_) AllReadyH.nil)
    go_simp
    go_at_call 45
    with_reducible refine (CL.out V0).mono ?_
    rintro e Y2 ⟨rfl, hb⟩
    have D2 := hid (btr DV0.out hb)
    clear hb
    (try go_wp2_with fail)
    refine hK.out _ _ ?_ (fun hHeld => ?_)
    · (try dsimp only); exact HS.out _ D2.out
    clear hK K
    try simp only [lgA, lgB, lgC, Act.put, lsA, lsB, lsC]
    refine' wpAnyH_take (i := 10) rfl (by kernel_rfl) (by kernel_rfl) (by kernel_rfl) (fun _ _ _ h => h) (Or.inl ⟨by kernel_rfl, ?hyq10⟩) (by assumption) ?restq10
    case hyq10 => (intro w hSw; (try dsimp only at hSw); go_simp; try (with_reducible rfl))
    try simp only [lgA, lgB, lgC, Act.put, lsA, lsB, lsC]
    refine wpAnyH_ready (rs := [11]) (by kernel_rfl) (by simp) ?_
    refine (AllReadyH.cons rfl (fun K hK => ?_) AllReadyH.nil)
    have hrow := row_on HRC.out D2.out
    refine step_store_row (by rfl) 55 (.tmp 6) (.tmp 33) (by rfl) (R + 1 + 1) #[.int .i64 s, .int .u64 (hiW v), .int .u64 (loW v), .int .u64 (hiW ga), .int .u64 (loW ga)] (by rfl) (by rfl) 55 _ hrow infoPo (by rfl) (by simp [Value.oneCell']) ?_
    obtain ⟨Y3, hY3⟩ : ∃ Y, Y2.setRow (R + 1 + 1) #[.int .i64 s, .int .u64 (hiW v), .int .u64 (loW v), .int .u64 (hiW ga), .int .u64 (loW ga)] = Y := ⟨_, rfl⟩
    have GY := hid (show Y3.heap[R + 1 + 1]? = some (.cells #[.int .i64 s, .int .u64 (hiW v), .int .u64 (loW v), .int .u64 (hiW ga), .int .u64 (loW ga)] 55 (0, 0)) from by rw [← hY3]; exact setRow_heap _ _ _ _ 55 (0, 0) hrow)
    have KY := hid (show Kp (fun j => j = R + 1 + 1) Y2 Y3 from by rw [← hY3]; exact setRow_kp _ _ _)
    have BY3 := hid (show Below w.heap.size w Y3 from by rw [← hY3]; exact setRow_below (btr HBC.out D2.out) (by have := HR.out; omega))
    have RA3 := hid (KY.out.row (row_on HRA.out D2.out) (fun e => by omega))
    have RB3 := hid (KY.out.row (row_on HRB.out D2.out) (fun e => by omega))
    rw [hY3]
    clear hY3 hrow
    refine hK.out _ _ ?_ (fun hHeld => ?_)
    · (try dsimp only); exact ⟨row_cell RA3.out 0, row_cell RA3.out 1, row_cell RA3.out 2, row_cell RA3.out 3, row_cell RA3.out 4, row_cell RB3.out 0, row_cell RB3.out 1⟩
    clear hK K
    try simp only [lgA, lgB, lgC, Act.put, lsA, lsB, lsC]
    refine wpAnyH_done (by kernel_rfl) ?_ _
    go_wp2
    exact bodyPost_ret (results_cell_row (fn := Try.f29) Try.results29 _ _ (R + 1 + 1) 55 #[.int .i64 s, .int .u64 (hiW v), .int .u64 (loW v), .int .u64 (hiW ga), .int .u64 (loW ga)] (0, 0) _ (by rfl) GY.out Try.underlying55 rfl infoPo) rfl ⟨rfl, BY3.out⟩
  · have h9 : (qt == 0) = false := by simpa using h0
    clear h0
    go_enter Try.func29, Try.ntmps29
    go_upto_region 1 with fail
    rw [HWa.out, HWb.out, HWc.out, HR.out]
    clear HWa HWb HWc
    go_upto_region 2 with fail
    clear a0 h9 h1 h2
    obtain ⟨V0, hV0⟩ : ∃ U, Wc.drew = U := ⟨_, rfl⟩
    have DV0 := hid (show Below Wc.heap.size Wc V0 from by rw [← hV0]; exact bdrew1 _)
    refine wp_region_held_drew (S := fun U => U.cell? ⟨R, 0, none⟩ = some (.int .i64 qt) ∧ U.cell? ⟨R, 1, none⟩ = some (.int .u64 (hiW co)) ∧ U.cell? ⟨R, 2, none⟩ = some (.int .u64 (loW co)) ∧ U.cell? ⟨R, 3, none⟩ = some (.int .u64 (hiW ga)) ∧ U.cell? ⟨R, 4, none⟩ = some (.int .u64 (loW ga)) ∧ U.cell? ⟨R + 1, 0, none⟩ = some (.int .u64 (hiW money)) ∧ U.cell? ⟨R + 1, 1, none⟩ = some (.int .u64 (loW money))) (by kernel_rfl) ?_ (fun hHeld => ?_)
    · (try dsimp only); rw [hV0]; exact HS.out _ DV0.out
    rw [hV0] at hHeld ⊢
    clear hV0
    refine' wpAnyH_take (i := 0) rfl (by kernel_rfl) (by kernel_rfl) (by kernel_rfl) (fun _ _ _ h => h) (Or.inl ⟨by kernel_rfl, ?hyq11⟩) (by assumption) ?restq11
    case hyq11 => (intro w hSw; (try dsimp only at hSw); go_simp; try (with_reducible rfl))
    try simp only [lgA, lgB, lgC, Act.put, lsA, lsB, lsC]
    refine' wpAnyH_take (i := 1) rfl (by kernel_rfl) (by kernel_rfl) (by kernel_rfl) (fun _ _ _ h => h) (Or.inl ⟨by kernel_rfl, ?hyq12⟩) (by assumption) ?restq12
    case hyq12 => (intro w hSw; (try dsimp only at hSw); go_simp; try (with_reducible rfl))
    try simp only [lgA, lgB, lgC, Act.put, lsA, lsB, lsC]
    refine' wpAnyH_take (i := 2) rfl (by kernel_rfl) (by kernel_rfl) (by kernel_rfl) (fun _ _ _ h => h) (Or.inl ⟨by kernel_rfl, ?hyq13⟩) (by assumption) ?restq13
    case hyq13 => (intro w hSw; (try dsimp only at hSw); go_simp; try (with_reducible rfl))
    try simp only [lgA, lgB, lgC, Act.put, lsA, lsB, lsC]
    refine' wpAnyH_take (i := 3) rfl (by kernel_rfl) (by kernel_rfl) (by kernel_rfl) (fun _ _ _ h => h) (Or.inl ⟨by kernel_rfl, ?hyq14⟩) (by assumption) ?restq14
    case hyq14 => (intro w hSw; (try dsimp only at hSw); go_simp; try (with_reducible rfl))
    try simp only [lgA, lgB, lgC, Act.put, lsA, lsB, lsC]
    refine' wpAnyH_take (i := 4) rfl (by kernel_rfl) (by kernel_rfl) (by kernel_rfl) (fun _ _ _ h => h) (Or.inl ⟨by kernel_rfl, ?hyq15⟩) (by assumption) ?restq15
    case hyq15 => (intro w hSw; (try dsimp only at hSw); go_simp; try (with_reducible rfl))
    try simp only [lgA, lgB, lgC, Act.put, lsA, lsB, lsC]
    refine' wpAnyH_take (i := 5) rfl (by kernel_rfl) (by kernel_rfl) (by kernel_rfl) (fun _ _ _ h => h) (Or.inl ⟨by kernel_rfl, ?hyq16⟩) (by assumption) ?restq16
    case hyq16 => (intro w hSw; (try dsimp only at hSw); go_simp; try (with_reducible rfl))
    try simp only [lgA, lgB, lgC, Act.put, lsA, lsB, lsC]
    refine' wpAnyH_take (i := 6) rfl (by kernel_rfl) (by kernel_rfl) (by kernel_rfl) (fun _ _ _ h => h) (Or.inl ⟨by kernel_rfl, ?hyq17⟩) (by assumption) ?restq17
    case hyq17 => (intro w hSw; (try dsimp only at hSw); go_simp; try (with_reducible rfl))
    try simp only [lgA, lgB, lgC, Act.put, lsA, lsB, lsC]
    refine' wpAnyH_take (i := 8) rfl (by kernel_rfl) (by kernel_rfl) (by kernel_rfl) (fun _ _ _ h => h) (Or.inl ⟨by kernel_rfl, ?hyq18⟩) (by assumption) ?restq18
    case hyq18 => (intro w hSw; (try dsimp only at hSw); go_simp; try (with_reducible rfl))
    try simp only [lgA, lgB, lgC, Act.put, lsA, lsB, lsC]
    refine' wpAnyH_take (i := 9) rfl (by kernel_rfl) (by kernel_rfl) (by kernel_rfl) (fun _ _ _ h => h) (Or.inl ⟨by kernel_rfl, ?hyq19⟩) (by assumption) ?restq19
    case hyq19 => (intro w hSw; (try dsimp only at hSw); go_simp; try (with_reducible rfl))
    try simp only [lgA, lgB, lgC, Act.put, lsA, lsB, lsC]
    refine wpAnyH_ready (rs := [7]) (by kernel_rfl) (by simp) ?_
    refine (AllReadyH.cons rfl (fun K hK => ?_) AllReadyH.nil)
    go_simp
    go_at_call 45
    with_reducible refine (CL.out V0).mono ?_
    rintro e Y2 ⟨rfl, hb⟩
    have D2 := hid (btr DV0.out hb)
    clear hb
    (try go_wp2_with fail)
    refine hK.out _ _ ?_ (fun hHeld => ?_)
    · (try dsimp only); exact HS.out _ D2.out
    clear hK K
    try simp only [lgA, lgB, lgC, Act.put, lsA, lsB, lsC]
    refine' wpAnyH_take (i := 10) rfl (by kernel_rfl) (by kernel_rfl) (by kernel_rfl) (fun _ _ _ h => h) (Or.inl ⟨by kernel_rfl, ?hyq20⟩) (by assumption) ?restq20
    case hyq20 => (intro w hSw; (try dsimp only at hSw); go_simp; try (with_reducible rfl))
    try simp only [lgA, lgB, lgC, Act.put, lsA, lsB, lsC]
    refine wpAnyH_ready (rs := [11]) (by kernel_rfl) (by simp) ?_
    refine (AllReadyH.cons rfl (fun K hK => ?_) AllReadyH.nil)
    have hrow := row_on HRC.out D2.out
    refine step_store_row (by rfl) 55 (.tmp 6) (.tmp 33) (by rfl) (R + 1 + 1) #[.int .i64 s, .int .u64 (hiW v), .int .u64 (loW v), .int .u64 (hiW ga), .int .u64 (loW ga)] (by rfl) (by rfl) 55 _ hrow infoPo (by rfl) (by simp [Value.oneCell']) ?_
    obtain ⟨Y3, hY3⟩ : ∃ Y, Y2.setRow (R + 1 + 1) #[.int .i64 s, .int .u64 (hiW v), .int .u64 (loW v), .int .u64 (hiW ga), .int .u64 (loW ga)] = Y := ⟨_, rfl⟩
    have GY := hid (show Y3.heap[R + 1 + 1]? = some (.cells #[.int .i64 s, .int .u64 (hiW v), .int .u64 (loW v), .int .u64 (hiW ga), .int .u64 (loW ga)] 55 (0, 0)) from by rw [← hY3]; exact setRow_heap _ _ _ _ 55 (0, 0) hrow)
    have KY := hid (show Kp (fun j => j = R + 1 + 1) Y2 Y3 from by rw [← hY3]; exact setRow_kp _ _ _)
    have BY3 := hid (show Below w.heap.size w Y3 from by rw [← hY3]; exact setRow_below (btr HBC.out D2.out) (by have := HR.out; omega))
    have RA3 := hid (KY.out.row (row_on HRA.out D2.out) (fun e => by omega))
    have RB3 := hid (KY.out.row (row_on HRB.out D2.out) (fun e => by omega))
    rw [hY3]
    clear hY3 hrow
    refine hK.out _ _ ?_ (fun hHeld => ?_)
    · (try dsimp only); exact ⟨row_cell RA3.out 0, row_cell RA3.out 1, row_cell RA3.out 2, row_cell RA3.out 3, row_cell RA3.out 4, row_cell RB3.out 0, row_cell RB3.out 1⟩
    clear hK K
    try simp only [lgA, lgB, lgC, Act.put, lsA, lsB, lsC]
    refine wpAnyH_done (by kernel_rfl) ?_ _
    go_wp2
    exact bodyPost_ret (results_cell_row (fn := Try.f29) Try.results29 _ _ (R + 1 + 1) 55 #[.int .i64 s, .int .u64 (hiW v), .int .u64 (loW v), .int .u64 (hiW ga), .int .u64 (loW ga)] (0, 0) _ (by rfl) GY.out Try.underlying55 rfl infoPo) rfl ⟨rfl, BY3.out⟩
  · have h9 : (qt == 0) = false := by simpa using h0
    clear h0
    go_enter Try.func29, Try.ntmps29
    go_upto_region 1 with fail
    rw [HWa.out, HWb.out, HWc.out, HR.out]
    clear HWa HWb HWc
    go_upto_region 2 with fail
    clear a0 h9 h1 h2
    obtain ⟨V0, hV0⟩ : ∃ U, Wc.drew = U := ⟨_, rfl⟩
    have DV0 := hid (show Below Wc.heap.size Wc V0 from by rw [← hV0]; exact bdrew1 _)
    refine wp_region_held_drew (S := fun U => U.cell? ⟨R, 0, none⟩ = some (.int .i64 qt) ∧ U.cell? ⟨R, 1, none⟩ = some (.int .u64 (hiW co)) ∧ U.cell? ⟨R, 2, none⟩ = some (.int .u64 (loW co)) ∧ U.cell? ⟨R, 3, none⟩ = some (.int .u64 (hiW ga)) ∧ U.cell? ⟨R, 4, none⟩ = some (.int .u64 (loW ga)) ∧ U.cell? ⟨R + 1, 0, none⟩ = some (.int .u64 (hiW money)) ∧ U.cell? ⟨R + 1, 1, none⟩ = some (.int .u64 (loW money))) (by kernel_rfl) ?_ (fun hHeld => ?_)
    · (try dsimp only); rw [hV0]; exact HS.out _ DV0.out
    rw [hV0] at hHeld ⊢
    clear hV0
    refine' wpAnyH_take (i := 0) rfl (by kernel_rfl) (by kernel_rfl) (by kernel_rfl) (fun _ _ _ h => h) (Or.inl ⟨by kernel_rfl, ?hyq21⟩) (by assumption) ?restq21
    case hyq21 => (intro w hSw; (try dsimp only at hSw); go_simp; try (with_reducible rfl))
    try simp only [lgA, lgB, lgC, Act.put, lsA, lsB, lsC]
    refine' wpAnyH_take (i := 1) rfl (by kernel_rfl) (by kernel_rfl) (by kernel_rfl) (fun _ _ _ h => h) (Or.inl ⟨by kernel_rfl, ?hyq22⟩) (by assumption) ?restq22
    case hyq22 => (intro w hSw; (try dsimp only at hSw); go_simp; try (with_reducible rfl))
    try simp only [lgA, lgB, lgC, Act.put, lsA, lsB, lsC]
    refine' wpAnyH_take (i := 2) rfl (by kernel_rfl) (by kernel_rfl) (by kernel_rfl) (fun _ _ _ h => h) (Or.inl ⟨by kernel_rfl, ?hyq23⟩) (by assumption) ?restq23
    case hyq23 => (intro w hSw; (try dsimp only at hSw); go_simp; try (with_reducible rfl))
    try simp only [lgA, lgB, lgC, Act.put, lsA, lsB, lsC]
    refine' wpAnyH_take (i := 3) rfl (by kernel_rfl) (by kernel_rfl) (by kernel_rfl) (fun _ _ _ h => h) (Or.inl ⟨by kernel_rfl, ?hyq24⟩) (by assumption) ?restq24
    case hyq24 => (intro w hSw; (try dsimp only at hSw); go_simp; try (with_reducible rfl))
    try simp only [lgA, lgB, lgC, Act.put, lsA, lsB, lsC]
    refine' wpAnyH_take (i := 4) rfl (by kernel_rfl) (by kernel_rfl) (by kernel_rfl) (fun _ _ _ h => h) (Or.inl ⟨by kernel_rfl, ?hyq25⟩) (by assumption) ?restq25
    case hyq25 => (intro w hSw; (try dsimp only at hSw); go_simp; try (with_reducible rfl))
    try simp only [lgA, lgB, lgC, Act.put, lsA, lsB, lsC]
    refine' wpAnyH_take (i := 5) rfl (by kernel_rfl) (by kernel_rfl) (by kernel_rfl) (fun _ _ _ h => h) (Or.inl ⟨by kernel_rfl, ?hyq26⟩) (by assumption) ?restq26
    case hyq26 => (intro w hSw; (try dsimp only at hSw); go_simp; try (with_reducible rfl))
    try simp only [lgA, lgB, lgC, Act.put, lsA, lsB, lsC]
    refine' wpAnyH_take (i := 6) rfl (by kernel_rfl) (by kernel_rfl) (by kernel_rfl) (fun _ _ _ h => h) (Or.inl ⟨by kernel_rfl, ?hyq27⟩) (by assumption) ?restq27
    case hyq27 => (intro w hSw; (try dsimp only at hSw); go_simp; try (with_reducible rfl))
    try simp only [lgA, lgB, lgC, Act.put, lsA, lsB, lsC]
    refine' wpAnyH_take (i := 8) rfl (by kernel_rfl) (by kernel_rfl) (by kernel_rfl) (fun _ _ _ h => h) (Or.inl ⟨by kernel_rfl, ?hyq28⟩) (by assumption) ?restq28
    case hyq28 => (intro w hSw; (try dsimp only at hSw); go_simp; try (with_reducible rfl))
    try simp only [lgA, lgB, lgC, Act.put, lsA, lsB, lsC]
    refine' wpAnyH_take (i := 9) rfl (by kernel_rfl) (by kernel_rfl) (by kernel_rfl) (fun _ _ _ h => h) (Or.inl ⟨by kernel_rfl, ?hyq29⟩) (by assumption) ?restq29
    case hyq29 => (intro w hSw; (try dsimp only at hSw); go_simp; try (with_reducible rfl))
    try simp only [lgA, lgB, lgC, Act.put, lsA, lsB, lsC]
    refine wpAnyH_ready (rs := [7]) (by kernel_rfl) (by simp) ?_
    refine (AllReadyH.cons rfl (fun K hK => ?_) AllReadyH.nil)
    go_simp
    go_at_call 45
    with_reducible refine (CL.out V0).mono ?_
    rintro e Y2 ⟨rfl, hb⟩
    have D2 := hid (btr DV0.out hb)
    clear hb
    (try go_wp2_with fail)
    refine hK.out _ _ ?_ (fun hHeld => ?_)
    · (try dsimp only); exact HS.out _ D2.out
    clear hK K
    try simp only [lgA, lgB, lgC, Act.put, lsA, lsB, lsC]
    refine' wpAnyH_take (i := 10) rfl (by kernel_rfl) (by kernel_rfl) (by kernel_rfl) (fun _ _ _ h => h) (Or.inl ⟨by kernel_rfl, ?hyq30⟩) (by assumption) ?restq30
    case hyq30 => (intro w hSw; (try dsimp only at hSw); go_simp; try (with_reducible rfl))
    try simp only [lgA, lgB, lgC, Act.put, lsA, lsB, lsC]
    refine wpAnyH_ready (rs := [11]) (by kernel_rfl) (by simp) ?_
    refine (AllReadyH.cons rfl (fun K hK => ?_) AllReadyH.nil)
    have hrow := row_on HRC.out D2.out
    refine step_store_row (by rfl) 55 (.tmp 6) (.tmp 33) (by rfl) (R + 1 + 1) #[.int .i64 s, .int .u64 (hiW v), .int .u64 (loW v), .int .u64 (hiW ga), .int .u64 (loW ga)] (by rfl) (by rfl) 55 _ hrow infoPo (by rfl) (by simp [Value.oneCell']) ?_
    obtain ⟨Y3, hY3⟩ : ∃ Y, Y2.setRow (R + 1 + 1) #[.int .i64 s, .int .u64 (hiW v), .int .u64 (loW v), .int .u64 (hiW ga), .int .u64 (loW ga)] = Y := ⟨_, rfl⟩
    have GY := hid (show Y3.heap[R + 1 + 1]? = some (.cells #[.int .i64 s, .int .u64 (hiW v), .int .u64 (loW v), .int .u64 (hiW ga), .int .u64 (loW ga)] 55 (0, 0)) from by rw [← hY3]; exact setRow_heap _ _ _ _ 55 (0, 0) hrow)
    have KY := hid (show Kp (fun j => j = R + 1 + 1) Y2 Y3 from by rw [← hY3]; exact setRow_kp _ _ _)
    have BY3 := hid (show Below w.heap.size w Y3 from by rw [← hY3]; exact setRow_below (btr HBC.out D2.out) (by have := HR.out; omega))
    have RA3 := hid (KY.out.row (row_on HRA.out D2.out) (fun e => by omega))
    have RB3 := hid (KY.out.row (row_on HRB.out D2.out) (fun e => by omega))
    rw [hY3]
    clear hY3 hrow
    refine hK.out _ _ ?_ (fun hHeld => ?_)
    · (try dsimp only); exact ⟨row_cell RA3.out 0, row_cell RA3.out 1, row_cell RA3.out 2, row_cell RA3.out 3, row_cell RA3.out 4, row_cell RB3.out 0, row_cell RB3.out 1⟩
    clear hK K
    try simp only [lgA, lgB, lgC, Act.put, lsA, lsB, lsC]
    refine wpAnyH_done (by kernel_rfl) ?_ _
    go_wp2
    exact bodyPost_ret (results_cell_row (fn := Try.f29) Try.results29 _ _ (R + 1 + 1) 55 #[.int .i64 s, .int .u64 (hiW v), .int .u64 (loW v), .int .u64 (hiW ga), .int .u64 (loW ga)] (0, 0) _ (by rfl) GY.out Try.underlying55 rfl infoPo) rfl ⟨rfl, BY3.out⟩
end Go.Proofs.Ytphhllppgelceaa.Ac
