/-
  A position that is closed, and opened on the other side.
-/
import Derived.Test.YtphhllppgelceaaAcD
namespace Go.Proofs.Ytphhllppgelceaa.Ac
open List renaming getElem_toArray → lgA, getElem_cons_succ → lgB, getElem_cons_zero → lgC, setIfInBounds_toArray → lsA, set_cons_zero → lsB, set_cons_succ → lsC
open Go.RowKit Go.Deep Go.Proofs.Ytphhllppgelceaa.MonM
set_option linter.unusedVariables false
set_option linter.unusedSimpArgs false
set_option maxHeartbeats 8000000
set_option maxRecDepth 100000
attribute [local go_sem ↓] Go.wp_at_zero Go.wp_at_succ
/-- the position behind what closes it whole and goes beyond. -/
def clv (p : Po) (d money : Int) : Po :=
  ⟨d + p.qt, maddV (maddV p.co (-(ptn p.co (absI p.qt) (absI p.qt) 0))) (-(maddV money (-(ptn money (absI p.qt) (absI d) 0)))), maddV p.ga (maddV (ptn money (absI p.qt) (absI d) 0) (-(ptn p.co (absI p.qt) (absI p.qt) 0)))⟩
theorem behind_over (p : Po) (d money : Int) (w : World) (hp : PoOk p) (hm : Amt money) (hq : p.qt ≠ 0) (hd : d ≠ 0) (hs : decide (0 < p.qt) ≠ decide (0 < d)) (hq1 : absI p.qt < 4294967296) (hd1 : absI d < 4294967296) (hcl : absI p.qt < absI d) :
    Calls Try.prog 29 #[.agg p.row, .int .i64 d, mv money] w fun e w' => e = .returned (.agg (clv p d money).row) ∧ Below w.heap.size w w' := by
  obtain ⟨qt, co, ga⟩ := p
  simp only at hq hs hq1 hcl
  obtain ⟨nq, hnq⟩ : ∃ x, absI qt = x := ⟨_, rfl⟩
  obtain ⟨nd, hnd⟩ : ∃ x, absI d = x := ⟨_, rfl⟩
  have hnq0 : 0 < nq := by rw [← hnq]; unfold absI; split <;> omega
  have hnd0 : 0 < nd := by rw [← hnd]; unfold absI; split <;> omega
  unfold clv Po.row
  simp only
  rw [hnq] at hq1 hcl ⊢
  rw [hnd] at hd1 hcl ⊢
  have hmin : min nd nq = nq := by omega
  have hmin2 : min nq nd = nq := by omega
  obtain ⟨st, hst⟩ : ∃ x, -qt = x := ⟨_, rfl⟩
  have CSd := hid (show ∀ U, Calls Try.prog 30 #[.int .i64 d] U fun e w' => e = .returned (.int .u64 nd) ∧ Hid (Below U.heap.size U w') from fun U => by
    have hb : -9223372036854775808 < d ∧ d < 9223372036854775808 := by rw [← hnd] at hd1; unfold absI at hd1; split at hd1 <;> omega
    have h := size_any d U hb.1 hb.2
    rw [hnd] at h
    exact h.mono (fun e w' hh => ⟨hh.1, by rw [hh.2]; exact Below.refl _ _⟩))
  have CSq := hid (show ∀ U, Calls Try.prog 30 #[.int .i64 qt] U fun e w' => e = .returned (.int .u64 nq) ∧ Hid (Below U.heap.size U w') from fun U => by
    have hb : -9223372036854775808 < qt ∧ qt < 9223372036854775808 := by rw [← hnq] at hq1; unfold absI at hq1; split at hq1 <;> omega
    have h := size_any qt U hb.1 hb.2
    rw [hnq] at h
    exact h.mono (fun e w' hh => ⟨hh.1, by rw [hh.2]; exact Below.refl _ _⟩))
  have hcoA := ptn_amt co nq nq 0 hp.co (by omega) (by omega) hnq0
  have hflA := ptn_amt money nq nd 0 hm (by omega) (by omega) hnd0
  have CPc := hid (show ∀ U, Calls Try.prog 46 #[mv co, .int .u64 nq, .int .u64 nq] U fun e w' => e = .returned (mv (ptn co nq nq 0)) ∧ Hid (Below U.heap.size U w') from fun U => part_any co nq nq U hp.co (by omega) (by omega) hnq0 hq1)
  have CPm := hid (show ∀ U, Calls Try.prog 46 #[mv money, .int .u64 nq, .int .u64 nd] U fun e w' => e = .returned (mv (ptn money nq nd 0)) ∧ Hid (Below U.heap.size U w') from fun U => part_any money nq nd U hm (by omega) (by omega) hnd0 hd1)
  obtain ⟨cost, hcost⟩ : ∃ x, ptn co nq nq 0 = x := ⟨_, rfl⟩
  obtain ⟨flow, hflow⟩ : ∃ x, ptn money nq nd 0 = x := ⟨_, rfl⟩
  rw [hcost] at CPc hcoA ⊢
  rw [hflow] at CPm hflA ⊢
  have CL1 := hid (show ∀ U, Calls Try.prog 45 #[mv co, mv cost] U fun e w' => e = .returned (mv (maddV co (-cost))) ∧ Hid (Below U.heap.size U w') from fun U => less_any co cost U hp.co hcoA)
  have CL2 := hid (show ∀ U, Calls Try.prog 45 #[mv flow, mv cost] U fun e w' => e = .returned (mv (maddV flow (-cost))) ∧ Hid (Below U.heap.size U w') from fun U => less_any flow cost U hflA hcoA)
  have CPl := hid (show ∀ U, Calls Try.prog 47 #[mv ga, mv (maddV flow (-cost))] U fun e w' => e = .returned (mv (maddV ga (maddV flow (-cost)))) ∧ Hid (Below U.heap.size U w') from fun U => plus_any ga _ U hp.ga (maddV_amt _ _))
  obtain ⟨v1, hv1⟩ : ∃ x, maddV co (-cost) = x := ⟨_, rfl⟩
  obtain ⟨v2, hv2⟩ : ∃ x, maddV flow (-cost) = x := ⟨_, rfl⟩
  rw [hv1] at CL1 ⊢
  rw [hv2] at CL2 CPl ⊢
  obtain ⟨v3, hv3⟩ : ∃ x, maddV ga v2 = x := ⟨_, rfl⟩
  rw [hv3] at CPl ⊢
  have CL3 := hid (show ∀ U, Calls Try.prog 45 #[mv money, mv flow] U fun e w' => e = .returned (mv (maddV money (-flow))) ∧ Hid (Below U.heap.size U w') from fun U => less_any money flow U hm hflA)
  have hv1A : Amt v1 := by rw [← hv1]; exact maddV_amt _ _
  have hv3A : Amt v3 := by rw [← hv3]; exact maddV_amt _ _
  have hv4A : Amt (maddV money (-flow)) := maddV_amt _ _
  obtain ⟨v4, hv4⟩ : ∃ x, maddV money (-flow) = x := ⟨_, rfl⟩
  rw [hv4] at CL3 hv4A ⊢
  have hdq : -8589934592 < d + qt ∧ d + qt < 8589934592 := by rw [← hnq] at hq1; rw [← hnd] at hd1; unfold absI at hq1 hd1; split at hq1 <;> split at hd1 <;> omega
  have CBO := hid (show ∀ U, Calls Try.prog 29 #[.agg (Po.row ⟨0, v1, v3⟩), .int .i64 (d + qt), mv v4] U fun e w' => e = .returned (.agg (Po.row ⟨0 + (d + qt), maddV v1 (-v4), v3⟩)) ∧ Hid (Below U.heap.size U w') from fun U => behind_open ⟨0, v1, v3⟩ (d + qt) v4 U ⟨hv1A, hv3A⟩ hv4A (.inl rfl) (by show _ ≤ 0 + (d + qt); omega) (by show 0 + (d + qt) < _; omega))
  rw [Int.zero_add] at CBO
  obtain ⟨v5, hv5⟩ : ∃ x, maddV v1 (-v4) = x := ⟨_, rfl⟩
  rw [hv5] at CBO ⊢
  unfold Po.row at CBO
  simp only at CBO
  unfold mv at CPc CPm CL1 CL2 CPl CL3 CBO ⊢
  obtain ⟨dq, hdqe⟩ : ∃ x, d + qt = x := ⟨_, rfl⟩
  rw [hdqe] at CBO ⊢
  have wq : IntKind.i64.wrap (qt + st) = 0 := by rw [IntKind.wrap_i64]; omega
  have wd : IntKind.i64.wrap (d - st) = dq := by rw [IntKind.wrap_i64]; omega
  have z1 : (st == d) = false := by
    have : st ≠ d := fun e => by rw [← hnq, ← hnd] at hcl; unfold absI at hcl; split at hcl <;> split at hcl <;> omega
    simpa using this
  have HST := hid hst
  have HNQ := hid (And.intro hnq0 hq1)
  obtain ⟨Wa, hWa⟩ : ∃ W, w.alloc (.cells #[.int .i64 qt, .int .u64 (hiW co), .int .u64 (loW co), .int .u64 (hiW ga), .int .u64 (loW ga)] 55) = W := ⟨_, rfl⟩
  obtain ⟨Wb, hWb⟩ : ∃ W, Wa.alloc (.cells #[.int .u64 (hiW money), .int .u64 (loW money)] 40) = W := ⟨_, rfl⟩
  obtain ⟨Wc, hWc⟩ : ∃ W, Wb.alloc (.cells #[.int .i64 0, .int .u64 0, .int .u64 0, .int .u64 0, .int .u64 0] 55) = W := ⟨_, rfl⟩
  obtain ⟨R, hR⟩ : ∃ R, w.heap.size = R := ⟨_, rfl⟩
  have sa : Wa.heap.size = R + 1 := by rw [← hWa, ← hR]; exact Array.size_push _
  have sb : Wb.heap.size = R + 1 + 1 := by rw [← hWb]; exact (Array.size_push _).trans (by rw [sa])
  have ba : Below w.heap.size w Wa := by rw [← hWa]; exact ball _ _
  have bb : Below Wa.heap.size Wa Wb := by rw [← hWb]; exact ball _ _
  have bc : Below Wb.heap.size Wb Wc := by rw [← hWc]; exact ball _ _
  have HRA := hid (show Wc.heap[R]? = some (.cells #[.int .i64 qt, .int .u64 (hiW co), .int .u64 (loW co), .int .u64 (hiW ga), .int .u64 (loW ga)] 55 (0, 0)) from row_on (row_on (by rw [← hWa, ← hR]; exact World.alloc_heap_new _ _) bb) bc)
  have HRB := hid (show Wc.heap[R + 1]? = some (.cells #[.int .u64 (hiW money), .int .u64 (loW money)] 40 (0, 0)) from row_on (by rw [← hWb, ← sa]; exact World.alloc_heap_new _ _) bc)
  have HRC := hid (show Wc.heap[R + 1 + 1]? = some (.cells #[.int .i64 0, .int .u64 0, .int .u64 0, .int .u64 0, .int .u64 0] 55 (0, 0)) from by rw [← hWc, ← sb]; exact World.alloc_heap_new _ _)
  have HBC := hid (btr (btr ba bb) bc)
  have HWa := hid hWa
  have HWb := hid hWb
  have HWc := hid hWc
  have HR := hid hR
  have a0 := row_cell HRA.out 0
  simp only [List.getElem?_toArray, List.getElem?_cons_succ, List.getElem?_cons_zero] at a0
  have h9 : (qt == 0) = false := by simpa using hq
  have HND := hid (And.intro hnd0 hd1)
  have HQ0 := hid hq
  clear hWa hWb hWc hR sa sb ba bb bc hv1 hv2 hv3 hcost hflow hp hm hq hq1 hd1 hcl hnq0 hdq hdqe hst hcoA hflA hv4 hv5 hv1A hv3A hv4A
  have hc : (decide (0 < qt) = true ∧ decide (0 < d) = false) ∨ (decide (0 < qt) = false ∧ decide (0 < d) = true) := by
    cases h1 : decide (0 < qt) <;> cases h2 : decide (0 < d)
    · exact absurd (h1.trans h2.symm) hs
    · exact .inr ⟨rfl, rfl⟩
    · exact .inl ⟨rfl, rfl⟩
    · exact absurd (h1.trans h2.symm) hs
  clear hs
  rcases hc with ⟨h1, h2⟩ | ⟨h1, h2⟩
  · have hdn : decide (d < 0) = true := by simp at h2 ⊢; omega
    go_enter Try.func29, Try.ntmps29
    go_upto_region 1 with fail
    rw [HWa.out, HWb.out, HWc.out, HR.out]
    clear HWa HWb HWc
    go_upto_region 3 with fail
    have hqp := h1
    clear a0 h9 h1 h2
    obtain ⟨V0, hV0⟩ : ∃ U, Wc.drew = U := ⟨_, rfl⟩
    have DV0 := hid (show Below Wc.heap.size Wc V0 from by rw [← hV0]; exact bdrew1 _)
    refine wp_region_held_drew (S := fun U => U.cell? ⟨R, 0, none⟩ = some (.int .i64 qt)) (by kernel_rfl) ?_ (fun hHeld => ?_)
    · (try dsimp only); rw [hV0]; exact row_cell (row_on HRA.out DV0.out) 0
    rw [hV0] at hHeld ⊢
    clear hV0
    refine' wpAnyH_take (i := 0) rfl (by kernel_rfl) (by kernel_rfl) (by kernel_rfl) (fun _ _ _ h => h) (Or.inl ⟨by kernel_rfl, ?_⟩) (by assumption) ?_
    rotate_left
    · (intro w hSw; (try dsimp only at hSw); go_simp; try (with_reducible rfl))
    try simp only [lgA, lgB, lgC, Act.put, lsA, lsB, lsC]
    refine' wpAnyH_take (i := 2) rfl (by kernel_rfl) (by kernel_rfl) (by kernel_rfl) (fun _ _ _ h => h) (Or.inl ⟨by kernel_rfl, ?_⟩) (by assumption) ?_
    rotate_left
    · (intro w hSw; (try dsimp only at hSw); go_simp; try (with_reducible rfl))
    try simp only [lgA, lgB, lgC, Act.put, lsA, lsB, lsC]
    refine' wpAnyH_take (i := 3) rfl (by kernel_rfl) (by kernel_rfl) (by kernel_rfl) (fun _ _ _ h => h) (Or.inl ⟨by kernel_rfl, ?_⟩) (by assumption) ?_
    rotate_left
    · (intro w hSw; (try dsimp only at hSw); go_simp; try (with_reducible rfl))
    try simp only [lgA, lgB, lgC, Act.put, lsA, lsB, lsC]
    refine wpAnyH_ready (rs := [1]) (by kernel_rfl) (by simp) ?_
    refine (AllReadyH.cons rfl (fun K hK => ?_) AllReadyH.nil)
    go_simp
    go_at_call 30
    with_reducible refine (CSd.out V0).mono ?_
    rintro e Y1 ⟨rfl, hb⟩
    have D1 := hid (btr DV0.out hb.out)
    clear hb
    (try go_wp2_with fail)
    refine hK.out _ _ ?_ (fun hHeld => ?_)
    · (try dsimp only); exact row_cell (row_on HRA.out D1.out) 0
    clear hK K
    try simp only [lgA, lgB, lgC, Act.put, lsA, lsB, lsC]
    refine wpAnyH_ready (rs := [4]) (by kernel_rfl) (by simp) ?_
    refine (AllReadyH.cons rfl (fun K hK => ?_) AllReadyH.nil)
    go_simp
    go_at_call 30
    with_reducible refine (CSq.out Y1).mono ?_
    rintro e Y2 ⟨rfl, hb⟩
    have D2 := hid (btr D1.out hb.out)
    clear hb
    (try go_wp2_with fail)
    refine hK.out _ _ ?_ (fun hHeld => ?_)
    · (try dsimp only); exact row_cell (row_on HRA.out D2.out) 0
    clear hK K
    try simp only [lgA, lgB, lgC, Act.put, lsA, lsB, lsC]
    refine' wpAnyH_take (i := 5) rfl (by kernel_rfl) (by kernel_rfl) (by kernel_rfl) (fun _ _ _ h => h) (Or.inl ⟨by kernel_rfl, ?_⟩) (by assumption) ?_
    rotate_left
    · (intro w hSw; (try dsimp only at hSw); go_simp; try (with_reducible rfl))
    try simp only [lgA, lgB, lgC, Act.put, lsA, lsB, lsC]
    refine' wpAnyH_take (i := 6) rfl (by kernel_rfl) (by kernel_rfl) (by kernel_rfl) (fun _ _ _ h => h) (Or.inl ⟨by kernel_rfl, ?_⟩) (by assumption) ?_
    rotate_left
    · (intro w hSw; (try dsimp only at hSw); go_simp; try (with_reducible rfl))
    try simp only [lgA, lgB, lgC, Act.put, lsA, lsB, lsC]
    refine wpAnyH_done (by kernel_rfl) ?_ _
    clear D1 DV0
    have QA := hid (row_on HRA.out D2.out)
    have QB := hid (row_on HRB.out D2.out)
    go_upto_region 4 with fail
    refine reg_cut (X := Nat) (fun a t => ((((((((a.put (some 40) (.pointer (some ⟨R, 1, none⟩))).put (some 41) (.agg #[.int .u64 (hiW co), .int .u64 (loW co)])).put (some 42) (.int .u64 nq)).put (some 43) (.pointer (some ⟨R, 0, none⟩))).put (some 44) (.int .i64 qt)).put (some 45) (.int .u64 nq)).put (some 46) (.agg #[.int .u64 (hiW cost), .int .u64 (loW cost)])).put (some 8) (.pointer (some ⟨t, 0, none⟩)))) (fun t V => Hid (Below Y2.heap.size Y2 V) ∧ Hid (V.heap[t]? = some (.cells #[.int .u64 (hiW cost), .int .u64 (loW cost)] 40 (0, 0)))) ?_ ?_
    · obtain ⟨V1, hV1⟩ : ∃ U, Y2.drew = U := ⟨_, rfl⟩
      have BV1 := hid (show Below Y2.heap.size Y2 V1 from by rw [← hV1]; exact bdrew1 _)
      have r2 := hid (row_on QA.out BV1.out)
      refine wp_region_held_drew (S := (fun U => U.cell? ⟨R, 0, none⟩ = some (.int .i64 qt) ∧ U.cell? ⟨R, 1, none⟩ = some (.int .u64 (hiW co)) ∧ U.cell? ⟨R, 2, none⟩ = some (.int .u64 (loW co)))) (by kernel_rfl) ?_ (fun hHeld => ?_)
      · (try dsimp only); rw [hV1]; exact ⟨row_cell r2.out 0, row_cell r2.out 1, row_cell r2.out 2⟩
      rw [hV1] at hHeld ⊢
      clear hV1
      refine' wpAnyH_take (i := 0) rfl (by kernel_rfl) (by kernel_rfl) (by kernel_rfl) (fun _ _ _ h => h) (Or.inl ⟨by kernel_rfl, ?_⟩) (by assumption) ?_
      rotate_left
      · (intro w hSw; (try dsimp only at hSw); go_simp; try (with_reducible rfl))
      try simp only [lgA, lgB, lgC, Act.put, lsA, lsB, lsC]
      refine' wpAnyH_take (i := 1) rfl (by kernel_rfl) (by kernel_rfl) (by kernel_rfl) (fun _ _ _ h => h) (Or.inl ⟨by kernel_rfl, ?_⟩) (by assumption) ?_
      rotate_left
      · (intro w hSw; (try dsimp only at hSw); go_simp; try (with_reducible rfl))
      try simp only [lgA, lgB, lgC, Act.put, lsA, lsB, lsC]
      refine' wpAnyH_take (i := 2) rfl (by kernel_rfl) (by kernel_rfl) (by kernel_rfl) (fun _ _ _ h => h) (Or.inl ⟨by kernel_rfl, ?_⟩) (by assumption) ?_
      rotate_left
      · (intro w hSw; (try dsimp only at hSw); go_simp; try (with_reducible rfl))
      try simp only [lgA, lgB, lgC, Act.put, lsA, lsB, lsC]
      refine' wpAnyH_take (i := 3) rfl (by kernel_rfl) (by kernel_rfl) (by kernel_rfl) (fun _ _ _ h => h) (Or.inl ⟨by kernel_rfl, ?_⟩) (by assumption) ?_
      rotate_left
      · (intro w hSw; (try dsimp only at hSw); go_simp; try (with_reducible rfl))
      try simp only [lgA, lgB, lgC, Act.put, lsA, lsB, lsC]
      refine' wpAnyH_take (i := 4) rfl (by kernel_rfl) (by kernel_rfl) (by kernel_rfl) (fun _ _ _ h => h) (Or.inl ⟨by kernel_rfl, ?_⟩) (by assumption) ?_
      rotate_left
      · (intro w hSw; (try dsimp only at hSw); go_simp; try (with_reducible rfl))
      try simp only [lgA, lgB, lgC, Act.put, lsA, lsB, lsC]
      refine wpAnyH_ready (rs := [5, 7]) (by kernel_rfl) (by simp) ?_
      refine (AllReadyH.cons rfl (fun K hK => ?_) (AllReadyH.cons rfl (fun K hK => ?_) AllReadyH.nil))
      · go_simp
        go_at_call 30
        with_reducible refine (CSq.out V1).mono ?_
        rintro e X3 ⟨rfl, DbX3⟩
        have r4 := hid (row_on r2.out DbX3.out)
        have DX3 := hid (btr BV1.out DbX3.out)
        have UX3 := hid (BV1.out.size)
        (try go_wp2_with fail)
        refine hK.out _ _ ?_ (fun hHeld => ?_)
        · (try dsimp only); exact ⟨row_cell r4.out 0, row_cell r4.out 1, row_cell r4.out 2⟩
        clear hK K
        try simp only [lgA, lgB, lgC, Act.put, lsA, lsB, lsC]
        refine wpAnyH_ready (rs := [6, 7]) (by kernel_rfl) (by simp) ?_
        refine (AllReadyH.cons rfl (fun K hK => ?_) (AllReadyH.cons rfl (fun K hK => ?_) AllReadyH.nil))
        · go_simp
          go_at_call 46
          with_reducible refine (CPc.out X3).mono ?_
          rintro e X5 ⟨rfl, DbX5⟩
          have r6 := hid (row_on r4.out DbX5.out)
          have DX5 := hid (btr DX3.out DbX5.out)
          have UX5 := hid (DX3.out.size)
          (try go_wp2_with fail)
          refine hK.out _ _ ?_ (fun hHeld => ?_)
          · (try dsimp only); exact ⟨row_cell r6.out 0, row_cell r6.out 1, row_cell r6.out 2⟩
          clear hK K
          try simp only [lgA, lgB, lgC, Act.put, lsA, lsB, lsC]
          refine wpAnyH_ready (rs := [7]) (by kernel_rfl) (by simp) ?_
          refine (AllReadyH.cons rfl (fun K hK => ?_) AllReadyH.nil)
          go_simp
          obtain ⟨X7, hX7⟩ : ∃ X, X5.alloc (.cells #[.int .u64 0, .int .u64 0] 40) = X := ⟨_, rfl⟩
          have bX7 : Below X5.heap.size X5 X7 := by rw [← hX7]; exact ball _ _
          have r9 := hid (row_on r6.out bX7)
          have DX7 := hid (btr DX5.out bX7)
          have zX7 : X7.heap[X5.heap.size]? = some (.cells #[.int .u64 0, .int .u64 0] 40 (0, 0)) := by rw [← hX7]; exact World.alloc_heap_new _ _
          have yg8 := DX5.out.size
          obtain ⟨g8, hg8⟩ : ∃ g, X5.heap.size = g := ⟨_, rfl⟩
          have n10 : g8 ≠ R := by have := row_lt r6.out; omega
          rw [hg8] at zX7 yg8
          have ZX7 := hid zX7
          rw [hX7, hg8]
          clear hX7 hg8 zX7 bX7
          refine hK.out _ _ ?_ (fun hHeld => ?_)
          · (try dsimp only); exact ⟨row_cell r9.out 0, row_cell r9.out 1, row_cell r9.out 2⟩
          clear hK K
          try simp only [lgA, lgB, lgC, Act.put, lsA, lsB, lsC]
          refine wpAnyH_ready (rs := [8]) (by kernel_rfl) (by simp) ?_
          refine (AllReadyH.cons rfl (fun K hK => ?_) AllReadyH.nil)
          refine step_store_row (by rfl) 40 (.tmp 8) (.tmp 46) (by rfl) g8 #[.int .u64 (hiW cost), .int .u64 (loW cost)] (by rfl) (by rfl) 40 _ ZX7.out infoM (by rfl) (by simp [Value.oneCell']) ?_
          obtain ⟨Y11, hY11⟩ : ∃ Y, X7.setRow g8 #[.int .u64 (hiW cost), .int .u64 (loW cost)] = Y := ⟨_, rfl⟩
          have KY11 := hid (show Kp (fun j => j = g8) X7 Y11 from by rw [← hY11]; exact setRow_kp _ _ _)
          have AY11 := hid (show Y11.heap[g8]? = some (.cells #[.int .u64 (hiW cost), .int .u64 (loW cost)] 40 (0, 0)) from by rw [← hY11]; exact setRow_heap X7 g8 _ _ 40 (0, 0) ZX7.out)
          have DY11 := hid (show Below Y2.heap.size Y2 Y11 from by rw [← hY11]; exact setRow_below DX7.out yg8)
          have r12 := hid (KY11.out.row r9.out (fun e => n10.symm e))
          rw [hY11]
          refine hK.out _ _ ?_ (fun hHeld => ?_)
          · (try dsimp only); exact ⟨row_cell r12.out 0, row_cell r12.out 1, row_cell r12.out 2⟩
          clear hK K hY11
          try simp only [lgA, lgB, lgC, Act.put, lsA, lsB, lsC]
          refine wpAnyH_done (by kernel_rfl) ?_ _
          exact ⟨g8, by kernel_rfl, DY11, AY11⟩
        · go_simp
          obtain ⟨X13, hX13⟩ : ∃ X, X3.alloc (.cells #[.int .u64 0, .int .u64 0] 40) = X := ⟨_, rfl⟩
          have bX13 : Below X3.heap.size X3 X13 := by rw [← hX13]; exact ball _ _
          have r15 := hid (row_on r4.out bX13)
          have DX13 := hid (btr DX3.out bX13)
          have zX13 : X13.heap[X3.heap.size]? = some (.cells #[.int .u64 0, .int .u64 0] 40 (0, 0)) := by rw [← hX13]; exact World.alloc_heap_new _ _
          have yg14 := DX3.out.size
          obtain ⟨g14, hg14⟩ : ∃ g, X3.heap.size = g := ⟨_, rfl⟩
          have n16 : g14 ≠ R := by have := row_lt r4.out; omega
          rw [hg14] at zX13 yg14
          have ZX13 := hid zX13
          rw [hX13, hg14]
          clear hX13 hg14 zX13 bX13
          refine hK.out _ _ ?_ (fun hHeld => ?_)
          · (try dsimp only); exact ⟨row_cell r15.out 0, row_cell r15.out 1, row_cell r15.out 2⟩
          clear hK K
          try simp only [lgA, lgB, lgC, Act.put, lsA, lsB, lsC]
          refine wpAnyH_ready (rs := [6]) (by kernel_rfl) (by simp) ?_
          refine (AllReadyH.cons rfl (fun K hK => ?_) AllReadyH.nil)
          go_simp
          go_at_call 46
          with_reducible refine (CPc.out X13).mono ?_
          rintro e X17 ⟨rfl, DbX17⟩
          have r18 := hid (row_on r15.out DbX17.out)
          have r19 := hid (row_on ZX13.out DbX17.out)
          have DX17 := hid (btr DX13.out DbX17.out)
          have UX17 := hid (DX13.out.size)
          (try go_wp2_with fail)
          refine hK.out _ _ ?_ (fun hHeld => ?_)
          · (try dsimp only); exact ⟨row_cell r18.out 0, row_cell r18.out 1, row_cell r18.out 2⟩
          clear hK K
          try simp only [lgA, lgB, lgC, Act.put, lsA, lsB, lsC]
          refine wpAnyH_ready (rs := [8]) (by kernel_rfl) (by simp) ?_
          refine (AllReadyH.cons rfl (fun K hK => ?_) AllReadyH.nil)
          refine step_store_row (by rfl) 40 (.tmp 8) (.tmp 46) (by rfl) g14 #[.int .u64 (hiW cost), .int .u64 (loW cost)] (by rfl) (by rfl) 40 _ r19.out infoM (by rfl) (by simp [Value.oneCell']) ?_
          obtain ⟨Y20, hY20⟩ : ∃ Y, X17.setRow g14 #[.int .u64 (hiW cost), .int .u64 (loW cost)] = Y := ⟨_, rfl⟩
          have KY20 := hid (show Kp (fun j => j = g14) X17 Y20 from by rw [← hY20]; exact setRow_kp _ _ _)
          have AY20 := hid (show Y20.heap[g14]? = some (.cells #[.int .u64 (hiW cost), .int .u64 (loW cost)] 40 (0, 0)) from by rw [← hY20]; exact setRow_heap X17 g14 _ _ 40 (0, 0) r19.out)
          have DY20 := hid (show Below Y2.heap.size Y2 Y20 from by rw [← hY20]; exact setRow_below DX17.out yg14)
          have r21 := hid (KY20.out.row r18.out (fun e => n16.symm e))
          rw [hY20]
          refine hK.out _ _ ?_ (fun hHeld => ?_)
          · (try dsimp only); exact ⟨row_cell r21.out 0, row_cell r21.out 1, row_cell r21.out 2⟩
          clear hK K hY20
          try simp only [lgA, lgB, lgC, Act.put, lsA, lsB, lsC]
          refine wpAnyH_done (by kernel_rfl) ?_ _
          exact ⟨g14, by kernel_rfl, DY20, AY20⟩
      · go_simp
        obtain ⟨X22, hX22⟩ : ∃ X, V1.alloc (.cells #[.int .u64 0, .int .u64 0] 40) = X := ⟨_, rfl⟩
        have bX22 : Below V1.heap.size V1 X22 := by rw [← hX22]; exact ball _ _
        have r24 := hid (row_on r2.out bX22)
        have DX22 := hid (btr BV1.out bX22)
        have zX22 : X22.heap[V1.heap.size]? = some (.cells #[.int .u64 0, .int .u64 0] 40 (0, 0)) := by rw [← hX22]; exact World.alloc_heap_new _ _
        have yg23 := BV1.out.size
        obtain ⟨g23, hg23⟩ : ∃ g, V1.heap.size = g := ⟨_, rfl⟩
        have n25 : g23 ≠ R := by have := row_lt r2.out; omega
        rw [hg23] at zX22 yg23
        have ZX22 := hid zX22
        rw [hX22, hg23]
        clear hX22 hg23 zX22 bX22
        refine hK.out _ _ ?_ (fun hHeld => ?_)
        · (try dsimp only); exact ⟨row_cell r24.out 0, row_cell r24.out 1, row_cell r24.out 2⟩
        clear hK K
        try simp only [lgA, lgB, lgC, Act.put, lsA, lsB, lsC]
        refine wpAnyH_ready (rs := [5]) (by kernel_rfl) (by simp) ?_
        refine (AllReadyH.cons rfl (fun K hK => ?_) AllReadyH.nil)
        go_simp
        go_at_call 30
        with_reducible refine (CSq.out X22).mono ?_
        rintro e X26 ⟨rfl, DbX26⟩
        have r27 := hid (row_on r24.out DbX26.out)
        have r28 := hid (row_on ZX22.out DbX26.out)
        have DX26 := hid (btr DX22.out DbX26.out)
        have UX26 := hid (DX22.out.size)
        (try go_wp2_with fail)
        refine hK.out _ _ ?_ (fun hHeld => ?_)
        · (try dsimp only); exact ⟨row_cell r27.out 0, row_cell r27.out 1, row_cell r27.out 2⟩
        clear hK K
        try simp only [lgA, lgB, lgC, Act.put, lsA, lsB, lsC]
        refine wpAnyH_ready (rs := [6]) (by kernel_rfl) (by simp) ?_
        refine (AllReadyH.cons rfl (fun K hK => ?_) AllReadyH.nil)
        go_simp
        go_at_call 46
        with_reducible refine (CPc.out X26).mono ?_
        rintro e X29 ⟨rfl, DbX29⟩
        have r30 := hid (row_on r27.out DbX29.out)
        have r31 := hid (row_on r28.out DbX29.out)
        have DX29 := hid (btr DX26.out DbX29.out)
        have UX29 := hid (DX26.out.size)
        (try go_wp2_with fail)
        refine hK.out _ _ ?_ (fun hHeld => ?_)
        · (try dsimp only); exact ⟨row_cell r30.out 0, row_cell r30.out 1, row_cell r30.out 2⟩
        clear hK K
        try simp only [lgA, lgB, lgC, Act.put, lsA, lsB, lsC]
        refine wpAnyH_ready (rs := [8]) (by kernel_rfl) (by simp) ?_
        refine (AllReadyH.cons rfl (fun K hK => ?_) AllReadyH.nil)
        refine step_store_row (by rfl) 40 (.tmp 8) (.tmp 46) (by rfl) g23 #[.int .u64 (hiW cost), .int .u64 (loW cost)] (by rfl) (by rfl) 40 _ r31.out infoM (by rfl) (by simp [Value.oneCell']) ?_
        obtain ⟨Y32, hY32⟩ : ∃ Y, X29.setRow g23 #[.int .u64 (hiW cost), .int .u64 (loW cost)] = Y := ⟨_, rfl⟩
        have KY32 := hid (show Kp (fun j => j = g23) X29 Y32 from by rw [← hY32]; exact setRow_kp _ _ _)
        have AY32 := hid (show Y32.heap[g23]? = some (.cells #[.int .u64 (hiW cost), .int .u64 (loW cost)] 40 (0, 0)) from by rw [← hY32]; exact setRow_heap X29 g23 _ _ 40 (0, 0) r31.out)
        have DY32 := hid (show Below Y2.heap.size Y2 Y32 from by rw [← hY32]; exact setRow_below DX29.out yg23)
        have r33 := hid (KY32.out.row r30.out (fun e => n25.symm e))
        rw [hY32]
        refine hK.out _ _ ?_ (fun hHeld => ?_)
        · (try dsimp only); exact ⟨row_cell r33.out 0, row_cell r33.out 1, row_cell r33.out 2⟩
        clear hK K hY32
        try simp only [lgA, lgB, lgC, Act.put, lsA, lsB, lsC]
        refine wpAnyH_done (by kernel_rfl) ?_ _
        exact ⟨g23, by kernel_rfl, DY32, AY32⟩
    rintro tc V4 ⟨B4, GC⟩
    try simp only [lgA, lgB, lgC, Act.put, lsA, lsB, lsC]
    have QB4 := hid (row_on QB.out B4.out)
    have QA4 := hid (row_on QA.out B4.out)
    clear QA QB
    go_upto_region 5 with fail
    refine reg_cut (X := Nat) (fun a t => ((((((a.put (some 47) (.agg #[.int .u64 (hiW money), .int .u64 (loW money)])).put (some 48) (.int .u64 nq)).put (some 49) (.int .i64 d)).put (some 50) (.int .u64 nd)).put (some 51) (.agg #[.int .u64 (hiW flow), .int .u64 (loW flow)])).put (some 9) (.pointer (some ⟨t, 0, none⟩)))) (fun t V => Hid (Below V4.heap.size V4 V) ∧ Hid (V.heap[t]? = some (.cells #[.int .u64 (hiW flow), .int .u64 (loW flow)] 40 (0, 0)))) ?_ ?_
    · obtain ⟨V34, hV34⟩ : ∃ U, V4.drew = U := ⟨_, rfl⟩
      have BV34 := hid (show Below V4.heap.size V4 V34 from by rw [← hV34]; exact bdrew1 _)
      have r35 := hid (row_on QB4.out BV34.out)
      refine wp_region_held_drew (S := (fun U => U.cell? ⟨R + 1, 0, none⟩ = some (.int .u64 (hiW money)) ∧ U.cell? ⟨R + 1, 1, none⟩ = some (.int .u64 (loW money)))) (by kernel_rfl) ?_ (fun hHeld => ?_)
      · (try dsimp only); rw [hV34]; exact ⟨row_cell r35.out 0, row_cell r35.out 1⟩
      rw [hV34] at hHeld ⊢
      clear hV34
      refine' wpAnyH_take (i := 0) rfl (by kernel_rfl) (by kernel_rfl) (by kernel_rfl) (fun _ _ _ h => h) (Or.inl ⟨by kernel_rfl, ?_⟩) (by assumption) ?_
      rotate_left
      · (intro w hSw; (try dsimp only at hSw); go_simp; try (with_reducible rfl))
      try simp only [lgA, lgB, lgC, Act.put, lsA, lsB, lsC]
      refine' wpAnyH_take (i := 1) rfl (by kernel_rfl) (by kernel_rfl) (by kernel_rfl) (fun _ _ _ h => h) (Or.inl ⟨by kernel_rfl, ?_⟩) (by assumption) ?_
      rotate_left
      · (intro w hSw; (try dsimp only at hSw); go_simp; try (with_reducible rfl))
      try simp only [lgA, lgB, lgC, Act.put, lsA, lsB, lsC]
      refine' wpAnyH_take (i := 2) rfl (by kernel_rfl) (by kernel_rfl) (by kernel_rfl) (fun _ _ _ h => h) (Or.inl ⟨by kernel_rfl, ?_⟩) (by assumption) ?_
      rotate_left
      · (intro w hSw; (try dsimp only at hSw); go_simp; try (with_reducible rfl))
      try simp only [lgA, lgB, lgC, Act.put, lsA, lsB, lsC]
      refine wpAnyH_ready (rs := [3, 5]) (by kernel_rfl) (by simp) ?_
      refine (AllReadyH.cons rfl (fun K hK => ?_) (AllReadyH.cons rfl (fun K hK => ?_) AllReadyH.nil))
      · go_simp
        go_at_call 30
        with_reducible refine (CSd.out V34).mono ?_
        rintro e X36 ⟨rfl, DbX36⟩
        have r37 := hid (row_on r35.out DbX36.out)
        have DX36 := hid (btr BV34.out DbX36.out)
        have UX36 := hid (BV34.out.size)
        (try go_wp2_with fail)
        refine hK.out _ _ ?_ (fun hHeld => ?_)
        · (try dsimp only); exact ⟨row_cell r37.out 0, row_cell r37.out 1⟩
        clear hK K
        try simp only [lgA, lgB, lgC, Act.put, lsA, lsB, lsC]
        refine wpAnyH_ready (rs := [4, 5]) (by kernel_rfl) (by simp) ?_
        refine (AllReadyH.cons rfl (fun K hK => ?_) (AllReadyH.cons rfl (fun K hK => ?_) AllReadyH.nil))
        · go_simp
          go_at_call 46
          with_reducible refine (CPm.out X36).mono ?_
          rintro e X38 ⟨rfl, DbX38⟩
          have r39 := hid (row_on r37.out DbX38.out)
          have DX38 := hid (btr DX36.out DbX38.out)
          have UX38 := hid (DX36.out.size)
          (try go_wp2_with fail)
          refine hK.out _ _ ?_ (fun hHeld => ?_)
          · (try dsimp only); exact ⟨row_cell r39.out 0, row_cell r39.out 1⟩
          clear hK K
          try simp only [lgA, lgB, lgC, Act.put, lsA, lsB, lsC]
          refine wpAnyH_ready (rs := [5]) (by kernel_rfl) (by simp) ?_
          refine (AllReadyH.cons rfl (fun K hK => ?_) AllReadyH.nil)
          go_simp
          obtain ⟨X40, hX40⟩ : ∃ X, X38.alloc (.cells #[.int .u64 0, .int .u64 0] 40) = X := ⟨_, rfl⟩
          have bX40 : Below X38.heap.size X38 X40 := by rw [← hX40]; exact ball _ _
          have r42 := hid (row_on r39.out bX40)
          have DX40 := hid (btr DX38.out bX40)
          have zX40 : X40.heap[X38.heap.size]? = some (.cells #[.int .u64 0, .int .u64 0] 40 (0, 0)) := by rw [← hX40]; exact World.alloc_heap_new _ _
          have yg41 := DX38.out.size
          obtain ⟨g41, hg41⟩ : ∃ g, X38.heap.size = g := ⟨_, rfl⟩
          have n43 : g41 ≠ R + 1 := by have := row_lt r39.out; omega
          rw [hg41] at zX40 yg41
          have ZX40 := hid zX40
          rw [hX40, hg41]
          clear hX40 hg41 zX40 bX40
          refine hK.out _ _ ?_ (fun hHeld => ?_)
          · (try dsimp only); exact ⟨row_cell r42.out 0, row_cell r42.out 1⟩
          clear hK K
          try simp only [lgA, lgB, lgC, Act.put, lsA, lsB, lsC]
          refine wpAnyH_ready (rs := [6]) (by kernel_rfl) (by simp) ?_
          refine (AllReadyH.cons rfl (fun K hK => ?_) AllReadyH.nil)
          refine step_store_row (by rfl) 40 (.tmp 9) (.tmp 51) (by rfl) g41 #[.int .u64 (hiW flow), .int .u64 (loW flow)] (by rfl) (by rfl) 40 _ ZX40.out infoM (by rfl) (by simp [Value.oneCell']) ?_
          obtain ⟨Y44, hY44⟩ : ∃ Y, X40.setRow g41 #[.int .u64 (hiW flow), .int .u64 (loW flow)] = Y := ⟨_, rfl⟩
          have KY44 := hid (show Kp (fun j => j = g41) X40 Y44 from by rw [← hY44]; exact setRow_kp _ _ _)
          have AY44 := hid (show Y44.heap[g41]? = some (.cells #[.int .u64 (hiW flow), .int .u64 (loW flow)] 40 (0, 0)) from by rw [← hY44]; exact setRow_heap X40 g41 _ _ 40 (0, 0) ZX40.out)
          have DY44 := hid (show Below V4.heap.size V4 Y44 from by rw [← hY44]; exact setRow_below DX40.out yg41)
          have r45 := hid (KY44.out.row r42.out (fun e => n43.symm e))
          rw [hY44]
          refine hK.out _ _ ?_ (fun hHeld => ?_)
          · (try dsimp only); exact ⟨row_cell r45.out 0, row_cell r45.out 1⟩
          clear hK K hY44
          try simp only [lgA, lgB, lgC, Act.put, lsA, lsB, lsC]
          refine wpAnyH_done (by kernel_rfl) ?_ _
          exact ⟨g41, by kernel_rfl, DY44, AY44⟩
        · go_simp
          obtain ⟨X46, hX46⟩ : ∃ X, X36.alloc (.cells #[.int .u64 0, .int .u64 0] 40) = X := ⟨_, rfl⟩
          have bX46 : Below X36.heap.size X36 X46 := by rw [← hX46]; exact ball _ _
          have r48 := hid (row_on r37.out bX46)
          have DX46 := hid (btr DX36.out bX46)
          have zX46 : X46.heap[X36.heap.size]? = some (.cells #[.int .u64 0, .int .u64 0] 40 (0, 0)) := by rw [← hX46]; exact World.alloc_heap_new _ _
          have yg47 := DX36.out.size
          obtain ⟨g47, hg47⟩ : ∃ g, X36.heap.size = g := ⟨_, rfl⟩
          have n49 : g47 ≠ R + 1 := by have := row_lt r37.out; omega
          rw [hg47] at zX46 yg47
          have ZX46 := hid zX46
          rw [hX46, hg47]
          clear hX46 hg47 zX46 bX46
          refine hK.out _ _ ?_ (fun hHeld => ?_)
          · (try dsimp only); exact ⟨row_cell r48.out 0, row_cell r48.out 1⟩
          clear hK K
          try simp only [lgA, lgB, lgC, Act.put, lsA, lsB, lsC]
          refine wpAnyH_ready (rs := [4]) (by kernel_rfl) (by simp) ?_
          refine (AllReadyH.cons rfl (fun K hK => ?_) AllReadyH.nil)
          go_simp
          go_at_call 46
          with_reducible refine (CPm.out X46).mono ?_
          rintro e X50 ⟨rfl, DbX50⟩
          have r51 := hid (row_on r48.out DbX50.out)
          have r52 := hid (row_on ZX46.out DbX50.out)
          have DX50 := hid (btr DX46.out DbX50.out)
          have UX50 := hid (DX46.out.size)
          (try go_wp2_with fail)
          refine hK.out _ _ ?_ (fun hHeld => ?_)
          · (try dsimp only); exact ⟨row_cell r51.out 0, row_cell r51.out 1⟩
          clear hK K
          try simp only [lgA, lgB, lgC, Act.put, lsA, lsB, lsC]
          refine wpAnyH_ready (rs := [6]) (by kernel_rfl) (by simp) ?_
          refine (AllReadyH.cons rfl (fun K hK => ?_) AllReadyH.nil)
          refine step_store_row (by rfl) 40 (.tmp 9) (.tmp 51) (by rfl) g47 #[.int .u64 (hiW flow), .int .u64 (loW flow)] (by rfl) (by rfl) 40 _ r52.out infoM (by rfl) (by simp [Value.oneCell']) ?_
          obtain ⟨Y53, hY53⟩ : ∃ Y, X50.setRow g47 #[.int .u64 (hiW flow), .int .u64 (loW flow)] = Y := ⟨_, rfl⟩
          have KY53 := hid (show Kp (fun j => j = g47) X50 Y53 from by rw [← hY53]; exact setRow_kp _ _ _)
          have AY53 := hid (show Y53.heap[g47]? = some (.cells #[.int .u64 (hiW flow), .int .u64 (loW flow)] 40 (0, 0)) from by rw [← hY53]; exact setRow_heap X50 g47 _ _ 40 (0, 0) r52.out)
          have DY53 := hid (show Below V4.heap.size V4 Y53 from by rw [← hY53]; exact setRow_below DX50.out yg47)
          have r54 := hid (KY53.out.row r51.out (fun e => n49.symm e))
          rw [hY53]
          refine hK.out _ _ ?_ (fun hHeld => ?_)
          · (try dsimp only); exact ⟨row_cell r54.out 0, row_cell r54.out 1⟩
          clear hK K hY53
          try simp only [lgA, lgB, lgC, Act.put, lsA, lsB, lsC]
          refine wpAnyH_done (by kernel_rfl) ?_ _
          exact ⟨g47, by kernel_rfl, DY53, AY53⟩
      · go_simp
        obtain ⟨X55, hX55⟩ : ∃ X, V34.alloc (.cells #[.int .u64 0, .int .u64 0] 40) = X := ⟨_, rfl⟩
        have bX55 : Below V34.heap.size V34 X55 := by rw [← hX55]; exact ball _ _
        have r57 := hid (row_on r35.out bX55)
        have DX55 := hid (btr BV34.out bX55)
        have zX55 : X55.heap[V34.heap.size]? = some (.cells #[.int .u64 0, .int .u64 0] 40 (0, 0)) := by rw [← hX55]; exact World.alloc_heap_new _ _
        have yg56 := BV34.out.size
        obtain ⟨g56, hg56⟩ : ∃ g, V34.heap.size = g := ⟨_, rfl⟩
        have n58 : g56 ≠ R + 1 := by have := row_lt r35.out; omega
        rw [hg56] at zX55 yg56
        have ZX55 := hid zX55
        rw [hX55, hg56]
        clear hX55 hg56 zX55 bX55
        refine hK.out _ _ ?_ (fun hHeld => ?_)
        · (try dsimp only); exact ⟨row_cell r57.out 0, row_cell r57.out 1⟩
        clear hK K
        try simp only [lgA, lgB, lgC, Act.put, lsA, lsB, lsC]
        refine wpAnyH_ready (rs := [3]) (by kernel_rfl) (by simp) ?_
        refine (AllReadyH.cons rfl (fun K hK => ?_) AllReadyH.nil)
        go_simp
        go_at_call 30
        with_reducible refine (CSd.out X55).mono ?_
        rintro e X59 ⟨rfl, DbX59⟩
        have r60 := hid (row_on r57.out DbX59.out)
        have r61 := hid (row_on ZX55.out DbX59.out)
        have DX59 := hid (btr DX55.out DbX59.out)
        have UX59 := hid (DX55.out.size)
        (try go_wp2_with fail)
        refine hK.out _ _ ?_ (fun hHeld => ?_)
        · (try dsimp only); exact ⟨row_cell r60.out 0, row_cell r60.out 1⟩
        clear hK K
        try simp only [lgA, lgB, lgC, Act.put, lsA, lsB, lsC]
        refine wpAnyH_ready (rs := [4]) (by kernel_rfl) (by simp) ?_
        refine (AllReadyH.cons rfl (fun K hK => ?_) AllReadyH.nil)
        go_simp
        go_at_call 46
        with_reducible refine (CPm.out X59).mono ?_
        rintro e X62 ⟨rfl, DbX62⟩
        have r63 := hid (row_on r60.out DbX62.out)
        have r64 := hid (row_on r61.out DbX62.out)
        have DX62 := hid (btr DX59.out DbX62.out)
        have UX62 := hid (DX59.out.size)
        (try go_wp2_with fail)
        refine hK.out _ _ ?_ (fun hHeld => ?_)
        · (try dsimp only); exact ⟨row_cell r63.out 0, row_cell r63.out 1⟩
        clear hK K
        try simp only [lgA, lgB, lgC, Act.put, lsA, lsB, lsC]
        refine wpAnyH_ready (rs := [6]) (by kernel_rfl) (by simp) ?_
        refine (AllReadyH.cons rfl (fun K hK => ?_) AllReadyH.nil)
        refine step_store_row (by rfl) 40 (.tmp 9) (.tmp 51) (by rfl) g56 #[.int .u64 (hiW flow), .int .u64 (loW flow)] (by rfl) (by rfl) 40 _ r64.out infoM (by rfl) (by simp [Value.oneCell']) ?_
        obtain ⟨Y65, hY65⟩ : ∃ Y, X62.setRow g56 #[.int .u64 (hiW flow), .int .u64 (loW flow)] = Y := ⟨_, rfl⟩
        have KY65 := hid (show Kp (fun j => j = g56) X62 Y65 from by rw [← hY65]; exact setRow_kp _ _ _)
        have AY65 := hid (show Y65.heap[g56]? = some (.cells #[.int .u64 (hiW flow), .int .u64 (loW flow)] 40 (0, 0)) from by rw [← hY65]; exact setRow_heap X62 g56 _ _ 40 (0, 0) r64.out)
        have DY65 := hid (show Below V4.heap.size V4 Y65 from by rw [← hY65]; exact setRow_below DX62.out yg56)
        have r66 := hid (KY65.out.row r63.out (fun e => n58.symm e))
        rw [hY65]
        refine hK.out _ _ ?_ (fun hHeld => ?_)
        · (try dsimp only); exact ⟨row_cell r66.out 0, row_cell r66.out 1⟩
        clear hK K hY65
        try simp only [lgA, lgB, lgC, Act.put, lsA, lsB, lsC]
        refine wpAnyH_done (by kernel_rfl) ?_ _
        exact ⟨g56, by kernel_rfl, DY65, AY65⟩
    rintro tf V5 ⟨B5, GF⟩
    try simp only [lgA, lgB, lgC, Act.put, lsA, lsB, lsC]
    have QA5 := hid (row_on QA4.out B5.out)
    have GC5 := hid (row_on GC.out B5.out)
    clear QA4 QB4 GC
    have h3 : nq = -st := by have h4 := HST.out; rw [← hnq, ← h4]; unfold absI; rw [if_neg (by simp at hqp; omega)]; omega
    have wn : IntKind.i64.wrap nq = nq := by have h1 := HNQ.out; rw [IntKind.wrap_i64]; omega
    have wm : IntKind.i64.wrap (-nq) = st := by have h1 := HNQ.out; rw [IntKind.wrap_i64]; omega
    clear h3
    clear hnd hnq hqp
    go_upto_region 9 with fail
    refine reg_cut (X := Nat) (fun a t => ((((((((((((((((a.put (some 58) (.pointer (some ⟨R, 0, none⟩))).put (some 59) (.int .i64 qt)).put (some 60) (.int .i64 st)).put (some 61) (.int .i64 0)).put (some 62) (.pointer (some ⟨R, 1, none⟩))).put (some 63) (.agg #[.int .u64 (hiW co), .int .u64 (loW co)])).put (some 64) (.agg #[.int .u64 (hiW cost), .int .u64 (loW cost)])).put (some 65) (.agg #[.int .u64 (hiW v1), .int .u64 (loW v1)])).put (some 66) (.pointer (some ⟨R, 3, none⟩))).put (some 67) (.agg #[.int .u64 (hiW ga), .int .u64 (loW ga)])).put (some 68) (.agg #[.int .u64 (hiW flow), .int .u64 (loW flow)])).put (some 69) (.agg #[.int .u64 (hiW cost), .int .u64 (loW cost)])).put (some 70) (.agg #[.int .u64 (hiW v2), .int .u64 (loW v2)])).put (some 71) (.agg #[.int .u64 (hiW v3), .int .u64 (loW v3)])).put (some 72) (.agg #[.int .i64 0, .int .u64 (hiW v1), .int .u64 (loW v1), .int .u64 (hiW v3), .int .u64 (loW v3)])).put (some 11) (.pointer (some ⟨t, 0, none⟩)))) (fun t V => Hid (Below V5.heap.size V5 V) ∧ Hid (V5.heap.size ≤ t) ∧ Hid (V.heap[t]? = some (.cells #[.int .i64 0, .int .u64 (hiW v1), .int .u64 (loW v1), .int .u64 (hiW v3), .int .u64 (loW v3)] 55 (0, 0)))) ?_ ?_
    · obtain ⟨V67, hV67⟩ : ∃ U, V5.drew = U := ⟨_, rfl⟩
      have BV67 := hid (show Below V5.heap.size V5 V67 from by rw [← hV67]; exact bdrew1 _)
      have r68 := hid (row_on QA5.out BV67.out)
      have r69 := hid (row_on GC5.out BV67.out)
      have r70 := hid (row_on GF.out BV67.out)
      refine wp_region_held_drew (S := (fun U => U.cell? ⟨R, 0, none⟩ = some (.int .i64 qt) ∧ U.cell? ⟨R, 1, none⟩ = some (.int .u64 (hiW co)) ∧ U.cell? ⟨R, 2, none⟩ = some (.int .u64 (loW co)) ∧ U.cell? ⟨R, 3, none⟩ = some (.int .u64 (hiW ga)) ∧ U.cell? ⟨R, 4, none⟩ = some (.int .u64 (loW ga)) ∧ U.cell? ⟨tc, 0, none⟩ = some (.int .u64 (hiW cost)) ∧ U.cell? ⟨tc, 1, none⟩ = some (.int .u64 (loW cost)) ∧ U.cell? ⟨tf, 0, none⟩ = some (.int .u64 (hiW flow)) ∧ U.cell? ⟨tf, 1, none⟩ = some (.int .u64 (loW flow)))) (by kernel_rfl) ?_ (fun hHeld => ?_)
      · (try dsimp only); rw [hV67]; exact ⟨row_cell r68.out 0, row_cell r68.out 1, row_cell r68.out 2, row_cell r68.out 3, row_cell r68.out 4, row_cell r69.out 0, row_cell r69.out 1, row_cell r70.out 0, row_cell r70.out 1⟩
      rw [hV67] at hHeld ⊢
      clear hV67
      refine' wpAnyH_take (i := 0) rfl (by kernel_rfl) (by kernel_rfl) (by kernel_rfl) (fun _ _ _ h => h) (Or.inl ⟨by kernel_rfl, ?_⟩) (by assumption) ?_
      rotate_left
      · (intro w hSw; (try dsimp only at hSw); go_simp; try (with_reducible rfl))
      try simp only [lgA, lgB, lgC, Act.put, lsA, lsB, lsC]
      refine' wpAnyH_take (i := 1) rfl (by kernel_rfl) (by kernel_rfl) (by kernel_rfl) (fun _ _ _ h => h) (Or.inl ⟨by kernel_rfl, ?_⟩) (by assumption) ?_
      rotate_left
      · (intro w hSw; (try dsimp only at hSw); go_simp; try (with_reducible rfl))
      try simp only [lgA, lgB, lgC, Act.put, lsA, lsB, lsC]
      refine' wpAnyH_take (i := 2) rfl (by kernel_rfl) (by kernel_rfl) (by kernel_rfl) (fun _ _ _ h => h) (Or.inl ⟨by kernel_rfl, ?_⟩) (by assumption) ?_
      rotate_left
      · (intro w hSw; (try dsimp only at hSw); go_simp; try (with_reducible rfl))
      try simp only [lgA, lgB, lgC, Act.put, lsA, lsB, lsC]
      refine' wpAnyH_take (i := 3) rfl (by kernel_rfl) (by kernel_rfl) (by kernel_rfl) (fun _ _ _ h => h) (Or.inl ⟨by kernel_rfl, ?_⟩) (by assumption) ?_
      rotate_left
      · (intro w hSw; (try dsimp only at hSw); go_simp; try (with_reducible rfl))
      try simp only [lgA, lgB, lgC, Act.put, lsA, lsB, lsC]
      refine' wpAnyH_take (i := 4) rfl (by kernel_rfl) (by kernel_rfl) (by kernel_rfl) (fun _ _ _ h => h) (Or.inl ⟨by kernel_rfl, ?_⟩) (by assumption) ?_
      rotate_left
      · (intro w hSw; (try dsimp only at hSw); go_simp; try (with_reducible rfl))
      try simp only [lgA, lgB, lgC, Act.put, lsA, lsB, lsC]
      refine' wpAnyH_take (i := 5) rfl (by kernel_rfl) (by kernel_rfl) (by kernel_rfl) (fun _ _ _ h => h) (Or.inl ⟨by kernel_rfl, ?_⟩) (by assumption) ?_
      rotate_left
      · (intro w hSw; (try dsimp only at hSw); go_simp; try (with_reducible rfl))
      try simp only [lgA, lgB, lgC, Act.put, lsA, lsB, lsC]
      refine' wpAnyH_take (i := 6) rfl (by kernel_rfl) (by kernel_rfl) (by kernel_rfl) (fun _ _ _ h => h) (Or.inl ⟨by kernel_rfl, ?_⟩) (by assumption) ?_
      rotate_left
      · (intro w hSw; (try dsimp only at hSw); go_simp; try (with_reducible rfl))
      try simp only [lgA, lgB, lgC, Act.put, lsA, lsB, lsC]
      refine' wpAnyH_take (i := 8) rfl (by kernel_rfl) (by kernel_rfl) (by kernel_rfl) (fun _ _ _ h => h) (Or.inl ⟨by kernel_rfl, ?_⟩) (by assumption) ?_
      rotate_left
      · (intro w hSw; (try dsimp only at hSw); go_simp; try (with_reducible rfl))
      try simp only [lgA, lgB, lgC, Act.put, lsA, lsB, lsC]
      refine' wpAnyH_take (i := 9) rfl (by kernel_rfl) (by kernel_rfl) (by kernel_rfl) (fun _ _ _ h => h) (Or.inl ⟨by kernel_rfl, ?_⟩) (by assumption) ?_
      rotate_left
      · (intro w hSw; (try dsimp only at hSw); go_simp; try (with_reducible rfl))
      try simp only [lgA, lgB, lgC, Act.put, lsA, lsB, lsC]
      refine' wpAnyH_take (i := 10) rfl (by kernel_rfl) (by kernel_rfl) (by kernel_rfl) (fun _ _ _ h => h) (Or.inl ⟨by kernel_rfl, ?_⟩) (by assumption) ?_
      rotate_left
      · (intro w hSw; (try dsimp only at hSw); go_simp; try (with_reducible rfl))
      try simp only [lgA, lgB, lgC, Act.put, lsA, lsB, lsC]
      refine' wpAnyH_take (i := 11) rfl (by kernel_rfl) (by kernel_rfl) (by kernel_rfl) (fun _ _ _ h => h) (Or.inl ⟨by kernel_rfl, ?_⟩) (by assumption) ?_
      rotate_left
      · (intro w hSw; (try dsimp only at hSw); go_simp; try (with_reducible rfl))
      try simp only [lgA, lgB, lgC, Act.put, lsA, lsB, lsC]
      refine wpAnyH_ready (rs := [7, 15]) (by kernel_rfl) (by simp) ?_
      refine (AllReadyH.cons rfl (fun K hK => ?_) (AllReadyH.cons rfl (fun K hK => ?_) AllReadyH.nil))
      · go_simp
        go_at_call 45
        with_reducible refine (CL1.out V67).mono ?_
        rintro e X71 ⟨rfl, DbX71⟩
        have r72 := hid (row_on r68.out DbX71.out)
        have r73 := hid (row_on r69.out DbX71.out)
        have r74 := hid (row_on r70.out DbX71.out)
        have DX71 := hid (btr BV67.out DbX71.out)
        have UX71 := hid (BV67.out.size)
        (try go_wp2_with fail)
        refine hK.out _ _ ?_ (fun hHeld => ?_)
        · (try dsimp only); exact ⟨row_cell r72.out 0, row_cell r72.out 1, row_cell r72.out 2, row_cell r72.out 3, row_cell r72.out 4, row_cell r73.out 0, row_cell r73.out 1, row_cell r74.out 0, row_cell r74.out 1⟩
        clear hK K
        try simp only [lgA, lgB, lgC, Act.put, lsA, lsB, lsC]
        refine wpAnyH_ready (rs := [12, 15]) (by kernel_rfl) (by simp) ?_
        refine (AllReadyH.cons rfl (fun K hK => ?_) (AllReadyH.cons rfl (fun K hK => ?_) AllReadyH.nil))
        · go_simp
          go_at_call 45
          with_reducible refine (CL2.out X71).mono ?_
          rintro e X75 ⟨rfl, DbX75⟩
          have r76 := hid (row_on r72.out DbX75.out)
          have r77 := hid (row_on r73.out DbX75.out)
          have r78 := hid (row_on r74.out DbX75.out)
          have DX75 := hid (btr DX71.out DbX75.out)
          have UX75 := hid (DX71.out.size)
          (try go_wp2_with fail)
          refine hK.out _ _ ?_ (fun hHeld => ?_)
          · (try dsimp only); exact ⟨row_cell r76.out 0, row_cell r76.out 1, row_cell r76.out 2, row_cell r76.out 3, row_cell r76.out 4, row_cell r77.out 0, row_cell r77.out 1, row_cell r78.out 0, row_cell r78.out 1⟩
          clear hK K
          try simp only [lgA, lgB, lgC, Act.put, lsA, lsB, lsC]
          refine wpAnyH_ready (rs := [13, 15]) (by kernel_rfl) (by simp) ?_
          refine (AllReadyH.cons rfl (fun K hK => ?_) (AllReadyH.cons rfl (fun K hK => ?_) AllReadyH.nil))
          · go_simp
            go_at_call 47
            with_reducible refine (CPl.out X75).mono ?_
            rintro e X79 ⟨rfl, DbX79⟩
            have r80 := hid (row_on r76.out DbX79.out)
            have r81 := hid (row_on r77.out DbX79.out)
            have r82 := hid (row_on r78.out DbX79.out)
            have DX79 := hid (btr DX75.out DbX79.out)
            have UX79 := hid (DX75.out.size)
            (try go_wp2_with fail)
            refine hK.out _ _ ?_ (fun hHeld => ?_)
            · (try dsimp only); exact ⟨row_cell r80.out 0, row_cell r80.out 1, row_cell r80.out 2, row_cell r80.out 3, row_cell r80.out 4, row_cell r81.out 0, row_cell r81.out 1, row_cell r82.out 0, row_cell r82.out 1⟩
            clear hK K
            try simp only [lgA, lgB, lgC, Act.put, lsA, lsB, lsC]
            refine' wpAnyH_take (i := 14) rfl (by kernel_rfl) (by kernel_rfl) (by kernel_rfl) (fun _ _ _ h => h) (Or.inl ⟨by kernel_rfl, ?_⟩) (by assumption) ?_
            rotate_left
            · (intro w hSw; (try dsimp only at hSw); go_simp; try (with_reducible rfl))
            try simp only [lgA, lgB, lgC, Act.put, lsA, lsB, lsC]
            refine wpAnyH_ready (rs := [15]) (by kernel_rfl) (by simp) ?_
            refine (AllReadyH.cons rfl (fun K hK => ?_) AllReadyH.nil)
            go_simp
            obtain ⟨X83, hX83⟩ : ∃ X, X79.alloc (.cells #[.int .i64 0, .int .u64 0, .int .u64 0, .int .u64 0, .int .u64 0] 55) = X := ⟨_, rfl⟩
            have bX83 : Below X79.heap.size X79 X83 := by rw [← hX83]; exact ball _ _
            have r85 := hid (row_on r80.out bX83)
            have r86 := hid (row_on r81.out bX83)
            have r87 := hid (row_on r82.out bX83)
            have DX83 := hid (btr DX79.out bX83)
            have zX83 : X83.heap[X79.heap.size]? = some (.cells #[.int .i64 0, .int .u64 0, .int .u64 0, .int .u64 0, .int .u64 0] 55 (0, 0)) := by rw [← hX83]; exact World.alloc_heap_new _ _
            have yg84 := DX79.out.size
            obtain ⟨g84, hg84⟩ : ∃ g, X79.heap.size = g := ⟨_, rfl⟩
            have n88 : g84 ≠ R := by have := row_lt r80.out; omega
            have n89 : g84 ≠ tc := by have := row_lt r81.out; omega
            have n90 : g84 ≠ tf := by have := row_lt r82.out; omega
            rw [hg84] at zX83 yg84
            have ZX83 := hid zX83
            rw [hX83, hg84]
            clear hX83 hg84 zX83 bX83
            refine hK.out _ _ ?_ (fun hHeld => ?_)
            · (try dsimp only); exact ⟨row_cell r85.out 0, row_cell r85.out 1, row_cell r85.out 2, row_cell r85.out 3, row_cell r85.out 4, row_cell r86.out 0, row_cell r86.out 1, row_cell r87.out 0, row_cell r87.out 1⟩
            clear hK K
            try simp only [lgA, lgB, lgC, Act.put, lsA, lsB, lsC]
            refine wpAnyH_ready (rs := [16]) (by kernel_rfl) (by simp) ?_
            refine (AllReadyH.cons rfl (fun K hK => ?_) AllReadyH.nil)
            refine step_store_row (by rfl) 55 (.tmp 11) (.tmp 72) (by rfl) g84 #[.int .i64 0, .int .u64 (hiW v1), .int .u64 (loW v1), .int .u64 (hiW v3), .int .u64 (loW v3)] (by rfl) (by rfl) 55 _ ZX83.out infoPo (by rfl) (by simp [Value.oneCell']) ?_
            obtain ⟨Y91, hY91⟩ : ∃ Y, X83.setRow g84 #[.int .i64 0, .int .u64 (hiW v1), .int .u64 (loW v1), .int .u64 (hiW v3), .int .u64 (loW v3)] = Y := ⟨_, rfl⟩
            have KY91 := hid (show Kp (fun j => j = g84) X83 Y91 from by rw [← hY91]; exact setRow_kp _ _ _)
            have AY91 := hid (show Y91.heap[g84]? = some (.cells #[.int .i64 0, .int .u64 (hiW v1), .int .u64 (loW v1), .int .u64 (hiW v3), .int .u64 (loW v3)] 55 (0, 0)) from by rw [← hY91]; exact setRow_heap X83 g84 _ _ 55 (0, 0) ZX83.out)
            have DY91 := hid (show Below V5.heap.size V5 Y91 from by rw [← hY91]; exact setRow_below DX83.out yg84)
            have r92 := hid (KY91.out.row r85.out (fun e => n88.symm e))
            have r93 := hid (KY91.out.row r86.out (fun e => n89.symm e))
            have r94 := hid (KY91.out.row r87.out (fun e => n90.symm e))
            rw [hY91]
            refine hK.out _ _ ?_ (fun hHeld => ?_)
            · (try dsimp only); exact ⟨row_cell r92.out 0, row_cell r92.out 1, row_cell r92.out 2, row_cell r92.out 3, row_cell r92.out 4, row_cell r93.out 0, row_cell r93.out 1, row_cell r94.out 0, row_cell r94.out 1⟩
            clear hK K hY91
            try simp only [lgA, lgB, lgC, Act.put, lsA, lsB, lsC]
            refine wpAnyH_done (by kernel_rfl) ?_ _
            exact ⟨g84, by kernel_rfl, DY91, hid yg84, AY91⟩
          · go_simp
            obtain ⟨X95, hX95⟩ : ∃ X, X75.alloc (.cells #[.int .i64 0, .int .u64 0, .int .u64 0, .int .u64 0, .int .u64 0] 55) = X := ⟨_, rfl⟩
            have bX95 : Below X75.heap.size X75 X95 := by rw [← hX95]; exact ball _ _
            have r97 := hid (row_on r76.out bX95)
            have r98 := hid (row_on r77.out bX95)
            have r99 := hid (row_on r78.out bX95)
            have DX95 := hid (btr DX75.out bX95)
            have zX95 : X95.heap[X75.heap.size]? = some (.cells #[.int .i64 0, .int .u64 0, .int .u64 0, .int .u64 0, .int .u64 0] 55 (0, 0)) := by rw [← hX95]; exact World.alloc_heap_new _ _
            have yg96 := DX75.out.size
            obtain ⟨g96, hg96⟩ : ∃ g, X75.heap.size = g := ⟨_, rfl⟩
            have n100 : g96 ≠ R := by have := row_lt r76.out; omega
            have n101 : g96 ≠ tc := by have := row_lt r77.out; omega
            have n102 : g96 ≠ tf := by have := row_lt r78.out; omega
            rw [hg96] at zX95 yg96
            have ZX95 := hid zX95
            rw [hX95, hg96]
            clear hX95 hg96 zX95 bX95
            refine hK.out _ _ ?_ (fun hHeld => ?_)
            · (try dsimp only); exact ⟨row_cell r97.out 0, row_cell r97.out 1, row_cell r97.out 2, row_cell r97.out 3, row_cell r97.out 4, row_cell r98.out 0, row_cell r98.out 1, row_cell r99.out 0, row_cell r99.out 1⟩
            clear hK K
            try simp only [lgA, lgB, lgC, Act.put, lsA, lsB, lsC]
            refine wpAnyH_ready (rs := [13]) (by kernel_rfl) (by simp) ?_
            refine (AllReadyH.cons rfl (fun K hK => ?_) AllReadyH.nil)
            go_simp
            go_at_call 47
            with_reducible refine (CPl.out X95).mono ?_
            rintro e X103 ⟨rfl, DbX103⟩
            have r104 := hid (row_on r97.out DbX103.out)
            have r105 := hid (row_on r98.out DbX103.out)
            have r106 := hid (row_on r99.out DbX103.out)
            have r107 := hid (row_on ZX95.out DbX103.out)
            have DX103 := hid (btr DX95.out DbX103.out)
            have UX103 := hid (DX95.out.size)
            (try go_wp2_with fail)
            refine hK.out _ _ ?_ (fun hHeld => ?_)
            · (try dsimp only); exact ⟨row_cell r104.out 0, row_cell r104.out 1, row_cell r104.out 2, row_cell r104.out 3, row_cell r104.out 4, row_cell r105.out 0, row_cell r105.out 1, row_cell r106.out 0, row_cell r106.out 1⟩
            clear hK K
            try simp only [lgA, lgB, lgC, Act.put, lsA, lsB, lsC]
            refine' wpAnyH_take (i := 14) rfl (by kernel_rfl) (by kernel_rfl) (by kernel_rfl) (fun _ _ _ h => h) (Or.inl ⟨by kernel_rfl, ?_⟩) (by assumption) ?_
            rotate_left
            · (intro w hSw; (try dsimp only at hSw); go_simp; try (with_reducible rfl))
            try simp only [lgA, lgB, lgC, Act.put, lsA, lsB, lsC]
            refine wpAnyH_ready (rs := [16]) (by kernel_rfl) (by simp) ?_
            refine (AllReadyH.cons rfl (fun K hK => ?_) AllReadyH.nil)
            refine step_store_row (by rfl) 55 (.tmp 11) (.tmp 72) (by rfl) g96 #[.int .i64 0, .int .u64 (hiW v1), .int .u64 (loW v1), .int .u64 (hiW v3), .int .u64 (loW v3)] (by rfl) (by rfl) 55 _ r107.out infoPo (by rfl) (by simp [Value.oneCell']) ?_
            obtain ⟨Y108, hY108⟩ : ∃ Y, X103.setRow g96 #[.int .i64 0, .int .u64 (hiW v1), .int .u64 (loW v1), .int .u64 (hiW v3), .int .u64 (loW v3)] = Y := ⟨_, rfl⟩
            have KY108 := hid (show Kp (fun j => j = g96) X103 Y108 from by rw [← hY108]; exact setRow_kp _ _ _)
            have AY108 := hid (show Y108.heap[g96]? = some (.cells #[.int .i64 0, .int .u64 (hiW v1), .int .u64 (loW v1), .int .u64 (hiW v3), .int .u64 (loW v3)] 55 (0, 0)) from by rw [← hY108]; exact setRow_heap X103 g96 _ _ 55 (0, 0) r107.out)
            have DY108 := hid (show Below V5.heap.size V5 Y108 from by rw [← hY108]; exact setRow_below DX103.out yg96)
            have r109 := hid (KY108.out.row r104.out (fun e => n100.symm e))
            have r110 := hid (KY108.out.row r105.out (fun e => n101.symm e))
            have r111 := hid (KY108.out.row r106.out (fun e => n102.symm e))
            rw [hY108]
            refine hK.out _ _ ?_ (fun hHeld => ?_)
            · (try dsimp only); exact ⟨row_cell r109.out 0, row_cell r109.out 1, row_cell r109.out 2, row_cell r109.out 3, row_cell r109.out 4, row_cell r110.out 0, row_cell r110.out 1, row_cell r111.out 0, row_cell r111.out 1⟩
            clear hK K hY108
            try simp only [lgA, lgB, lgC, Act.put, lsA, lsB, lsC]
            refine wpAnyH_done (by kernel_rfl) ?_ _
            exact ⟨g96, by kernel_rfl, DY108, hid yg96, AY108⟩
        · go_simp
          obtain ⟨X112, hX112⟩ : ∃ X, X71.alloc (.cells #[.int .i64 0, .int .u64 0, .int .u64 0, .int .u64 0, .int .u64 0] 55) = X := ⟨_, rfl⟩
          have bX112 : Below X71.heap.size X71 X112 := by rw [← hX112]; exact ball _ _
          have r114 := hid (row_on r72.out bX112)
          have r115 := hid (row_on r73.out bX112)
          have r116 := hid (row_on r74.out bX112)
          have DX112 := hid (btr DX71.out bX112)
          have zX112 : X112.heap[X71.heap.size]? = some (.cells #[.int .i64 0, .int .u64 0, .int .u64 0, .int .u64 0, .int .u64 0] 55 (0, 0)) := by rw [← hX112]; exact World.alloc_heap_new _ _
          have yg113 := DX71.out.size
          obtain ⟨g113, hg113⟩ : ∃ g, X71.heap.size = g := ⟨_, rfl⟩
          have n117 : g113 ≠ R := by have := row_lt r72.out; omega
          have n118 : g113 ≠ tc := by have := row_lt r73.out; omega
          have n119 : g113 ≠ tf := by have := row_lt r74.out; omega
          rw [hg113] at zX112 yg113
          have ZX112 := hid zX112
          rw [hX112, hg113]
          clear hX112 hg113 zX112 bX112
          refine hK.out _ _ ?_ (fun hHeld => ?_)
          · (try dsimp only); exact ⟨row_cell r114.out 0, row_cell r114.out 1, row_cell r114.out 2, row_cell r114.out 3, row_cell r114.out 4, row_cell r115.out 0, row_cell r115.out 1, row_cell r116.out 0, row_cell r116.out 1⟩
          clear hK K
          try simp only [lgA, lgB, lgC, Act.put, lsA, lsB, lsC]
          refine wpAnyH_ready (rs := [12]) (by kernel_rfl) (by simp) ?_
          refine (AllReadyH.cons rfl (fun K hK => ?_) AllReadyH.nil)
          go_simp
          go_at_call 45
          with_reducible refine (CL2.out X112).mono ?_
          rintro e X120 ⟨rfl, DbX120⟩
          have r121 := hid (row_on r114.out DbX120.out)
          have r122 := hid (row_on r115.out DbX120.out)
          have r123 := hid (row_on r116.out DbX120.out)
          have r124 := hid (row_on ZX112.out DbX120.out)
          have DX120 := hid (btr DX112.out DbX120.out)
          have UX120 := hid (DX112.out.size)
          (try go_wp2_with fail)
          refine hK.out _ _ ?_ (fun hHeld => ?_)
          · (try dsimp only); exact ⟨row_cell r121.out 0, row_cell r121.out 1, row_cell r121.out 2, row_cell r121.out 3, row_cell r121.out 4, row_cell r122.out 0, row_cell r122.out 1, row_cell r123.out 0, row_cell r123.out 1⟩
          clear hK K
          try simp only [lgA, lgB, lgC, Act.put, lsA, lsB, lsC]
          refine wpAnyH_ready (rs := [13]) (by kernel_rfl) (by simp) ?_
          refine (AllReadyH.cons rfl (fun K hK => ?_) AllReadyH.nil)
          go_simp
          go_at_call 47
          with_reducible refine (CPl.out X120).mono ?_
          rintro e X125 ⟨rfl, DbX125⟩
          have r126 := hid (row_on r121.out DbX125.out)
          have r127 := hid (row_on r122.out DbX125.out)
          have r128 := hid (row_on r123.out DbX125.out)
          have r129 := hid (row_on r124.out DbX125.out)
          have DX125 := hid (btr DX120.out DbX125.out)
          have UX125 := hid (DX120.out.size)
          (try go_wp2_with fail)
          refine hK.out _ _ ?_ (fun hHeld => ?_)
          · (try dsimp only); exact ⟨row_cell r126.out 0, row_cell r126.out 1, row_cell r126.out 2, row_cell r126.out 3, row_cell r126.out 4, row_cell r127.out 0, row_cell r127.out 1, row_cell r128.out 0, row_cell r128.out 1⟩
          clear hK K
          try simp only [lgA, lgB, lgC, Act.put, lsA, lsB, lsC]
          refine' wpAnyH_take (i := 14) rfl (by kernel_rfl) (by kernel_rfl) (by kernel_rfl) (fun _ _ _ h => h) (Or.inl ⟨by kernel_rfl, ?_⟩) (by assumption) ?_
          rotate_left
          · (intro w hSw; (try dsimp only at hSw); go_simp; try (with_reducible rfl))
          try simp only [lgA, lgB, lgC, Act.put, lsA, lsB, lsC]
          refine wpAnyH_ready (rs := [16]) (by kernel_rfl) (by simp) ?_
          refine (AllReadyH.cons rfl (fun K hK => ?_) AllReadyH.nil)
          refine step_store_row (by rfl) 55 (.tmp 11) (.tmp 72) (by rfl) g113 #[.int .i64 0, .int .u64 (hiW v1), .int .u64 (loW v1), .int .u64 (hiW v3), .int .u64 (loW v3)] (by rfl) (by rfl) 55 _ r129.out infoPo (by rfl) (by simp [Value.oneCell']) ?_
          obtain ⟨Y130, hY130⟩ : ∃ Y, X125.setRow g113 #[.int .i64 0, .int .u64 (hiW v1), .int .u64 (loW v1), .int .u64 (hiW v3), .int .u64 (loW v3)] = Y := ⟨_, rfl⟩
          have KY130 := hid (show Kp (fun j => j = g113) X125 Y130 from by rw [← hY130]; exact setRow_kp _ _ _)
          have AY130 := hid (show Y130.heap[g113]? = some (.cells #[.int .i64 0, .int .u64 (hiW v1), .int .u64 (loW v1), .int .u64 (hiW v3), .int .u64 (loW v3)] 55 (0, 0)) from by rw [← hY130]; exact setRow_heap X125 g113 _ _ 55 (0, 0) r129.out)
          have DY130 := hid (show Below V5.heap.size V5 Y130 from by rw [← hY130]; exact setRow_below DX125.out yg113)
          have r131 := hid (KY130.out.row r126.out (fun e => n117.symm e))
          have r132 := hid (KY130.out.row r127.out (fun e => n118.symm e))
          have r133 := hid (KY130.out.row r128.out (fun e => n119.symm e))
          rw [hY130]
          refine hK.out _ _ ?_ (fun hHeld => ?_)
          · (try dsimp only); exact ⟨row_cell r131.out 0, row_cell r131.out 1, row_cell r131.out 2, row_cell r131.out 3, row_cell r131.out 4, row_cell r132.out 0, row_cell r132.out 1, row_cell r133.out 0, row_cell r133.out 1⟩
          clear hK K hY130
          try simp only [lgA, lgB, lgC, Act.put, lsA, lsB, lsC]
          refine wpAnyH_done (by kernel_rfl) ?_ _
          exact ⟨g113, by kernel_rfl, DY130, hid yg113, AY130⟩
      · go_simp
        obtain ⟨X134, hX134⟩ : ∃ X, V67.alloc (.cells #[.int .i64 0, .int .u64 0, .int .u64 0, .int .u64 0, .int .u64 0] 55) = X := ⟨_, rfl⟩
        have bX134 : Below V67.heap.size V67 X134 := by rw [← hX134]; exact ball _ _
        have r136 := hid (row_on r68.out bX134)
        have r137 := hid (row_on r69.out bX134)
        have r138 := hid (row_on r70.out bX134)
        have DX134 := hid (btr BV67.out bX134)
        have zX134 : X134.heap[V67.heap.size]? = some (.cells #[.int .i64 0, .int .u64 0, .int .u64 0, .int .u64 0, .int .u64 0] 55 (0, 0)) := by rw [← hX134]; exact World.alloc_heap_new _ _
        have yg135 := BV67.out.size
        obtain ⟨g135, hg135⟩ : ∃ g, V67.heap.size = g := ⟨_, rfl⟩
        have n139 : g135 ≠ R := by have := row_lt r68.out; omega
        have n140 : g135 ≠ tc := by have := row_lt r69.out; omega
        have n141 : g135 ≠ tf := by have := row_lt r70.out; omega
        rw [hg135] at zX134 yg135
        have ZX134 := hid zX134
        rw [hX134, hg135]
        clear hX134 hg135 zX134 bX134
        refine hK.out _ _ ?_ (fun hHeld => ?_)
        · (try dsimp only); exact ⟨row_cell r136.out 0, row_cell r136.out 1, row_cell r136.out 2, row_cell r136.out 3, row_cell r136.out 4, row_cell r137.out 0, row_cell r137.out 1, row_cell r138.out 0, row_cell r138.out 1⟩
        clear hK K
        try simp only [lgA, lgB, lgC, Act.put, lsA, lsB, lsC]
        refine wpAnyH_ready (rs := [7]) (by kernel_rfl) (by simp) ?_
        refine (AllReadyH.cons rfl (fun K hK => ?_) AllReadyH.nil)
        go_simp
        go_at_call 45
        with_reducible refine (CL1.out X134).mono ?_
        rintro e X142 ⟨rfl, DbX142⟩
        have r143 := hid (row_on r136.out DbX142.out)
        have r144 := hid (row_on r137.out DbX142.out)
        have r145 := hid (row_on r138.out DbX142.out)
        have r146 := hid (row_on ZX134.out DbX142.out)
        have DX142 := hid (btr DX134.out DbX142.out)
        have UX142 := hid (DX134.out.size)
        (try go_wp2_with fail)
        refine hK.out _ _ ?_ (fun hHeld => ?_)
        · (try dsimp only); exact ⟨row_cell r143.out 0, row_cell r143.out 1, row_cell r143.out 2, row_cell r143.out 3, row_cell r143.out 4, row_cell r144.out 0, row_cell r144.out 1, row_cell r145.out 0, row_cell r145.out 1⟩
        clear hK K
        try simp only [lgA, lgB, lgC, Act.put, lsA, lsB, lsC]
        refine wpAnyH_ready (rs := [12]) (by kernel_rfl) (by simp) ?_
        refine (AllReadyH.cons rfl (fun K hK => ?_) AllReadyH.nil)
        go_simp
        go_at_call 45
        with_reducible refine (CL2.out X142).mono ?_
        rintro e X147 ⟨rfl, DbX147⟩
        have r148 := hid (row_on r143.out DbX147.out)
        have r149 := hid (row_on r144.out DbX147.out)
        have r150 := hid (row_on r145.out DbX147.out)
        have r151 := hid (row_on r146.out DbX147.out)
        have DX147 := hid (btr DX142.out DbX147.out)
        have UX147 := hid (DX142.out.size)
        (try go_wp2_with fail)
        refine hK.out _ _ ?_ (fun hHeld => ?_)
        · (try dsimp only); exact ⟨row_cell r148.out 0, row_cell r148.out 1, row_cell r148.out 2, row_cell r148.out 3, row_cell r148.out 4, row_cell r149.out 0, row_cell r149.out 1, row_cell r150.out 0, row_cell r150.out 1⟩
        clear hK K
        try simp only [lgA, lgB, lgC, Act.put, lsA, lsB, lsC]
        refine wpAnyH_ready (rs := [13]) (by kernel_rfl) (by simp) ?_
        refine (AllReadyH.cons rfl (fun K hK => ?_) AllReadyH.nil)
        go_simp
        go_at_call 47
        with_reducible refine (CPl.out X147).mono ?_
        rintro e X152 ⟨rfl, DbX152⟩
        have r153 := hid (row_on r148.out DbX152.out)
        have r154 := hid (row_on r149.out DbX152.out)
        have r155 := hid (row_on r150.out DbX152.out)
        have r156 := hid (row_on r151.out DbX152.out)
        have DX152 := hid (btr DX147.out DbX152.out)
        have UX152 := hid (DX147.out.size)
        (try go_wp2_with fail)
        refine hK.out _ _ ?_ (fun hHeld => ?_)
        · (try dsimp only); exact ⟨row_cell r153.out 0, row_cell r153.out 1, row_cell r153.out 2, row_cell r153.out 3, row_cell r153.out 4, row_cell r154.out 0, row_cell r154.out 1, row_cell r155.out 0, row_cell r155.out 1⟩
        clear hK K
        try simp only [lgA, lgB, lgC, Act.put, lsA, lsB, lsC]
        refine' wpAnyH_take (i := 14) rfl (by kernel_rfl) (by kernel_rfl) (by kernel_rfl) (fun _ _ _ h => h) (Or.inl ⟨by kernel_rfl, ?_⟩) (by assumption) ?_
        rotate_left
        · (intro w hSw; (try dsimp only at hSw); go_simp; try (with_reducible rfl))
        try simp only [lgA, lgB, lgC, Act.put, lsA, lsB, lsC]
        refine wpAnyH_ready (rs := [16]) (by kernel_rfl) (by simp) ?_
        refine (AllReadyH.cons rfl (fun K hK => ?_) AllReadyH.nil)
        refine step_store_row (by rfl) 55 (.tmp 11) (.tmp 72) (by rfl) g135 #[.int .i64 0, .int .u64 (hiW v1), .int .u64 (loW v1), .int .u64 (hiW v3), .int .u64 (loW v3)] (by rfl) (by rfl) 55 _ r156.out infoPo (by rfl) (by simp [Value.oneCell']) ?_
        obtain ⟨Y157, hY157⟩ : ∃ Y, X152.setRow g135 #[.int .i64 0, .int .u64 (hiW v1), .int .u64 (loW v1), .int .u64 (hiW v3), .int .u64 (loW v3)] = Y := ⟨_, rfl⟩
        have KY157 := hid (show Kp (fun j => j = g135) X152 Y157 from by rw [← hY157]; exact setRow_kp _ _ _)
        have AY157 := hid (show Y157.heap[g135]? = some (.cells #[.int .i64 0, .int .u64 (hiW v1), .int .u64 (loW v1), .int .u64 (hiW v3), .int .u64 (loW v3)] 55 (0, 0)) from by rw [← hY157]; exact setRow_heap X152 g135 _ _ 55 (0, 0) r156.out)
        have DY157 := hid (show Below V5.heap.size V5 Y157 from by rw [← hY157]; exact setRow_below DX152.out yg135)
        have r158 := hid (KY157.out.row r153.out (fun e => n139.symm e))
        have r159 := hid (KY157.out.row r154.out (fun e => n140.symm e))
        have r160 := hid (KY157.out.row r155.out (fun e => n141.symm e))
        rw [hY157]
        refine hK.out _ _ ?_ (fun hHeld => ?_)
        · (try dsimp only); exact ⟨row_cell r158.out 0, row_cell r158.out 1, row_cell r158.out 2, row_cell r158.out 3, row_cell r158.out 4, row_cell r159.out 0, row_cell r159.out 1, row_cell r160.out 0, row_cell r160.out 1⟩
        clear hK K hY157
        try simp only [lgA, lgB, lgC, Act.put, lsA, lsB, lsC]
        refine wpAnyH_done (by kernel_rfl) ?_ _
        exact ⟨g135, by kernel_rfl, DY157, hid yg135, AY157⟩
    rintro tn V6 ⟨B6, LN, GN⟩
    try simp only [lgA, lgB, lgC, Act.put, lsA, lsB, lsC]
    have NE := hid (show R + 1 + 1 < tn from by have h1 := row_lt (row_on HRC.out (btr D2.out (btr B4.out B5.out))); have h2 := LN.out; omega)
    have BB6 := hid (btr D2.out (btr B4.out (btr B5.out B6.out)))
    have HRB6 := hid (row_on HRB.out BB6.out)
    have GF6 := hid (row_on GF.out B6.out)
    have HRC6 := hid (row_on HRC.out BB6.out)
    go_upto_region 12 with fail
    obtain ⟨V7, hV7⟩ : ∃ U, V6.drew = U := ⟨_, rfl⟩
    have D7 := hid (show Below V6.heap.size V6 V7 from by rw [← hV7]; exact bdrew1 _)
    have HS := hid (show ∀ U, Below V6.heap.size V6 U → U.cell? ⟨tn, 0, none⟩ = some (.int .i64 0) ∧ U.cell? ⟨tn, 1, none⟩ = some (.int .u64 (hiW v1)) ∧ U.cell? ⟨tn, 2, none⟩ = some (.int .u64 (loW v1)) ∧ U.cell? ⟨tn, 3, none⟩ = some (.int .u64 (hiW v3)) ∧ U.cell? ⟨tn, 4, none⟩ = some (.int .u64 (loW v3)) ∧ U.cell? ⟨R + 1, 0, none⟩ = some (.int .u64 (hiW money)) ∧ U.cell? ⟨R + 1, 1, none⟩ = some (.int .u64 (loW money)) ∧ U.cell? ⟨tf, 0, none⟩ = some (.int .u64 (hiW flow)) ∧ U.cell? ⟨tf, 1, none⟩ = some (.int .u64 (loW flow)) from fun U hU => ⟨row_cell (row_on GN.out hU) 0, row_cell (row_on GN.out hU) 1, row_cell (row_on GN.out hU) 2, row_cell (row_on GN.out hU) 3, row_cell (row_on GN.out hU) 4, row_cell (row_on HRB6.out hU) 0, row_cell (row_on HRB6.out hU) 1, row_cell (row_on GF6.out hU) 0, row_cell (row_on GF6.out hU) 1⟩)
    refine wp_region_held_drew (S := fun U => U.cell? ⟨tn, 0, none⟩ = some (.int .i64 0) ∧ U.cell? ⟨tn, 1, none⟩ = some (.int .u64 (hiW v1)) ∧ U.cell? ⟨tn, 2, none⟩ = some (.int .u64 (loW v1)) ∧ U.cell? ⟨tn, 3, none⟩ = some (.int .u64 (hiW v3)) ∧ U.cell? ⟨tn, 4, none⟩ = some (.int .u64 (loW v3)) ∧ U.cell? ⟨R + 1, 0, none⟩ = some (.int .u64 (hiW money)) ∧ U.cell? ⟨R + 1, 1, none⟩ = some (.int .u64 (loW money)) ∧ U.cell? ⟨tf, 0, none⟩ = some (.int .u64 (hiW flow)) ∧ U.cell? ⟨tf, 1, none⟩ = some (.int .u64 (loW flow))) (by kernel_rfl) ?_ (fun hHeld => ?_)
    · (try dsimp only); rw [hV7]; exact HS.out _ D7.out
    rw [hV7] at hHeld ⊢
    clear hV7
    refine' wpAnyH_take (i := 0) rfl (by kernel_rfl) (by kernel_rfl) (by kernel_rfl) (fun _ _ _ h => h) (Or.inl ⟨by kernel_rfl, ?_⟩) (by assumption) ?_
    rotate_left
    · (intro w hSw; (try dsimp only at hSw); go_simp; try (with_reducible rfl))
    try simp only [lgA, lgB, lgC, Act.put, lsA, lsB, lsC]
    refine' wpAnyH_take (i := 1) rfl (by kernel_rfl) (by kernel_rfl) (by kernel_rfl) (fun _ _ _ h => h) (Or.inl ⟨by kernel_rfl, ?_⟩) (by assumption) ?_
    rotate_left
    · (intro w hSw; (try dsimp only at hSw); go_simp; try (with_reducible rfl))
    try simp only [lgA, lgB, lgC, Act.put, lsA, lsB, lsC]
    refine' wpAnyH_take (i := 2) rfl (by kernel_rfl) (by kernel_rfl) (by kernel_rfl) (fun _ _ _ h => h) (Or.inl ⟨by kernel_rfl, ?_⟩) (by assumption) ?_
    rotate_left
    · (intro w hSw; (try dsimp only at hSw); go_simp; try (with_reducible rfl))
    try simp only [lgA, lgB, lgC, Act.put, lsA, lsB, lsC]
    refine' wpAnyH_take (i := 3) rfl (by kernel_rfl) (by kernel_rfl) (by kernel_rfl) (fun _ _ _ h => h) (Or.inl ⟨by kernel_rfl, ?_⟩) (by assumption) ?_
    rotate_left
    · (intro w hSw; (try dsimp only at hSw); go_simp; try (with_reducible rfl))
    try simp only [lgA, lgB, lgC, Act.put, lsA, lsB, lsC]
    refine' wpAnyH_take (i := 4) rfl (by kernel_rfl) (by kernel_rfl) (by kernel_rfl) (fun _ _ _ h => h) (Or.inl ⟨by kernel_rfl, ?_⟩) (by assumption) ?_
    rotate_left
    · (intro w hSw; (try dsimp only at hSw); go_simp; try (with_reducible rfl))
    try simp only [lgA, lgB, lgC, Act.put, lsA, lsB, lsC]
    refine' wpAnyH_take (i := 5) rfl (by kernel_rfl) (by kernel_rfl) (by kernel_rfl) (fun _ _ _ h => h) (Or.inl ⟨by kernel_rfl, ?_⟩) (by assumption) ?_
    rotate_left
    · (intro w hSw; (try dsimp only at hSw); go_simp; try (with_reducible rfl))
    try simp only [lgA, lgB, lgC, Act.put, lsA, lsB, lsC]
    refine wpAnyH_ready (rs := [6]) (by kernel_rfl) (by simp) ?_
    refine (AllReadyH.cons rfl (fun K hK => ?_) AllReadyH.nil)
    go_simp
    go_at_call 45
    with_reducible refine (CL3.out V7).mono ?_
    rintro e V8 ⟨rfl, hb⟩
    have D8 := hid (btr D7.out hb.out)
    clear hb
    (try go_wp2_with fail)
    refine hK.out _ _ ?_ (fun hHeld => ?_)
    · (try dsimp only); exact HS.out _ D8.out
    clear hK K
    try simp only [lgA, lgB, lgC, Act.put, lsA, lsB, lsC]
    refine wpAnyH_ready (rs := [7]) (by kernel_rfl) (by simp) ?_
    refine (AllReadyH.cons rfl (fun K hK => ?_) AllReadyH.nil)
    go_simp
    go_at_call 29
    with_reducible refine (CBO.out V8).mono ?_
    rintro e V9 ⟨rfl, hb⟩
    have D9 := hid (btr D8.out hb.out)
    clear hb
    (try go_wp2_with fail)
    refine hK.out _ _ ?_ (fun hHeld => ?_)
    · (try dsimp only); exact HS.out _ D9.out
    clear hK K
    try simp only [lgA, lgB, lgC, Act.put, lsA, lsB, lsC]
    refine wpAnyH_ready (rs := [8]) (by kernel_rfl) (by simp) ?_
    refine (AllReadyH.cons rfl (fun K hK => ?_) AllReadyH.nil)
    have hrow := row_on HRC6.out D9.out
    refine step_store_row (by rfl) 55 (.tmp 6) (.tmp 84) (by rfl) (R + 1 + 1) #[.int .i64 dq, .int .u64 (hiW v5), .int .u64 (loW v5), .int .u64 (hiW v3), .int .u64 (loW v3)] (by rfl) (by rfl) 55 _ hrow infoPo (by rfl) (by simp [Value.oneCell']) ?_
    obtain ⟨Y9, hY9⟩ : ∃ Y, V9.setRow (R + 1 + 1) #[.int .i64 dq, .int .u64 (hiW v5), .int .u64 (loW v5), .int .u64 (hiW v3), .int .u64 (loW v3)] = Y := ⟨_, rfl⟩
    have GY := hid (show Y9.heap[R + 1 + 1]? = some (.cells #[.int .i64 dq, .int .u64 (hiW v5), .int .u64 (loW v5), .int .u64 (hiW v3), .int .u64 (loW v3)] 55 (0, 0)) from by rw [← hY9]; exact setRow_heap _ _ _ _ 55 (0, 0) hrow)
    have KY := hid (show Kp (fun j => j = R + 1 + 1) V9 Y9 from by rw [← hY9]; exact setRow_kp _ _ _)
    have BY9 := hid (show Below w.heap.size w Y9 from by rw [← hY9]; exact setRow_below (btr HBC.out (btr BB6.out D9.out)) (by have := HR.out; omega))
    have RN9 := hid (KY.out.row (row_on GN.out D9.out) (fun e => by have := NE.out; omega))
    have RB9 := hid (KY.out.row (row_on HRB6.out D9.out) (fun e => by omega))
    have RF9 := hid (KY.out.row (row_on GF6.out D9.out) (fun e => by subst e; have h1 := HRC6.out; rw [GF6.out] at h1; cases h1))
    rw [hY9]
    clear hY9 hrow
    refine hK.out _ _ ?_ (fun hHeld => ?_)
    · (try dsimp only); exact ⟨row_cell RN9.out 0, row_cell RN9.out 1, row_cell RN9.out 2, row_cell RN9.out 3, row_cell RN9.out 4, row_cell RB9.out 0, row_cell RB9.out 1, row_cell RF9.out 0, row_cell RF9.out 1⟩
    clear hK K
    try simp only [lgA, lgB, lgC, Act.put, lsA, lsB, lsC]
    refine wpAnyH_done (by kernel_rfl) ?_ _
    go_wp2
    exact bodyPost_ret (results_cell_row (fn := Try.f29) Try.results29 _ _ (R + 1 + 1) 55 #[.int .i64 dq, .int .u64 (hiW v5), .int .u64 (loW v5), .int .u64 (hiW v3), .int .u64 (loW v3)] (0, 0) _ (by rfl) GY.out Try.underlying55 rfl infoPo) rfl ⟨rfl, BY9.out⟩
  · have hdn : decide (d < 0) = false := by simp at h2 ⊢; omega
    go_enter Try.func29, Try.ntmps29
    go_upto_region 1 with fail
    rw [HWa.out, HWb.out, HWc.out, HR.out]
    clear HWa HWb HWc
    go_upto_region 3 with fail
    have hqp := h1
    clear a0 h9 h1 h2
    obtain ⟨V0, hV0⟩ : ∃ U, Wc.drew = U := ⟨_, rfl⟩
    have DV0 := hid (show Below Wc.heap.size Wc V0 from by rw [← hV0]; exact bdrew1 _)
    refine wp_region_held_drew (S := fun U => U.cell? ⟨R, 0, none⟩ = some (.int .i64 qt)) (by kernel_rfl) ?_ (fun hHeld => ?_)
    · (try dsimp only); rw [hV0]; exact row_cell (row_on HRA.out DV0.out) 0
    rw [hV0] at hHeld ⊢
    clear hV0
    refine' wpAnyH_take (i := 0) rfl (by kernel_rfl) (by kernel_rfl) (by kernel_rfl) (fun _ _ _ h => h) (Or.inl ⟨by kernel_rfl, ?_⟩) (by assumption) ?_
    rotate_left
    · (intro w hSw; (try dsimp only at hSw); go_simp; try (with_reducible rfl))
    try simp only [lgA, lgB, lgC, Act.put, lsA, lsB, lsC]
    refine' wpAnyH_take (i := 2) rfl (by kernel_rfl) (by kernel_rfl) (by kernel_rfl) (fun _ _ _ h => h) (Or.inl ⟨by kernel_rfl, ?_⟩) (by assumption) ?_
    rotate_left
    · (intro w hSw; (try dsimp only at hSw); go_simp; try (with_reducible rfl))
    try simp only [lgA, lgB, lgC, Act.put, lsA, lsB, lsC]
    refine' wpAnyH_take (i := 3) rfl (by kernel_rfl) (by kernel_rfl) (by kernel_rfl) (fun _ _ _ h => h) (Or.inl ⟨by kernel_rfl, ?_⟩) (by assumption) ?_
    rotate_left
    · (intro w hSw; (try dsimp only at hSw); go_simp; try (with_reducible rfl))
    try simp only [lgA, lgB, lgC, Act.put, lsA, lsB, lsC]
    refine wpAnyH_ready (rs := [1]) (by kernel_rfl) (by simp) ?_
    refine (AllReadyH.cons rfl (fun K hK => ?_) AllReadyH.nil)
    go_simp
    go_at_call 30
    with_reducible refine (CSd.out V0).mono ?_
    rintro e Y1 ⟨rfl, hb⟩
    have D1 := hid (btr DV0.out hb.out)
    clear hb
    (try go_wp2_with fail)
    refine hK.out _ _ ?_ (fun hHeld => ?_)
    · (try dsimp only); exact row_cell (row_on HRA.out D1.out) 0
    clear hK K
    try simp only [lgA, lgB, lgC, Act.put, lsA, lsB, lsC]
    refine wpAnyH_ready (rs := [4]) (by kernel_rfl) (by simp) ?_
    refine (AllReadyH.cons rfl (fun K hK => ?_) AllReadyH.nil)
    go_simp
    go_at_call 30
    with_reducible refine (CSq.out Y1).mono ?_
    rintro e Y2 ⟨rfl, hb⟩
    have D2 := hid (btr D1.out hb.out)
    clear hb
    (try go_wp2_with fail)
    refine hK.out _ _ ?_ (fun hHeld => ?_)
    · (try dsimp only); exact row_cell (row_on HRA.out D2.out) 0
    clear hK K
    try simp only [lgA, lgB, lgC, Act.put, lsA, lsB, lsC]
    refine' wpAnyH_take (i := 5) rfl (by kernel_rfl) (by kernel_rfl) (by kernel_rfl) (fun _ _ _ h => h) (Or.inl ⟨by kernel_rfl, ?_⟩) (by assumption) ?_
    rotate_left
    · (intro w hSw; (try dsimp only at hSw); go_simp; try (with_reducible rfl))
    try simp only [lgA, lgB, lgC, Act.put, lsA, lsB, lsC]
    refine' wpAnyH_take (i := 6) rfl (by kernel_rfl) (by kernel_rfl) (by kernel_rfl) (fun _ _ _ h => h) (Or.inl ⟨by kernel_rfl, ?_⟩) (by assumption) ?_
    rotate_left
    · (intro w hSw; (try dsimp only at hSw); go_simp; try (with_reducible rfl))
    try simp only [lgA, lgB, lgC, Act.put, lsA, lsB, lsC]
    refine wpAnyH_done (by kernel_rfl) ?_ _
    clear D1 DV0
    have QA := hid (row_on HRA.out D2.out)
    have QB := hid (row_on HRB.out D2.out)
    go_upto_region 4 with fail
    refine reg_cut (X := Nat) (fun a t => ((((((((a.put (some 40) (.pointer (some ⟨R, 1, none⟩))).put (some 41) (.agg #[.int .u64 (hiW co), .int .u64 (loW co)])).put (some 42) (.int .u64 nq)).put (some 43) (.pointer (some ⟨R, 0, none⟩))).put (some 44) (.int .i64 qt)).put (some 45) (.int .u64 nq)).put (some 46) (.agg #[.int .u64 (hiW cost), .int .u64 (loW cost)])).put (some 8) (.pointer (some ⟨t, 0, none⟩)))) (fun t V => Hid (Below Y2.heap.size Y2 V) ∧ Hid (V.heap[t]? = some (.cells #[.int .u64 (hiW cost), .int .u64 (loW cost)] 40 (0, 0)))) ?_ ?_
    · obtain ⟨V161, hV161⟩ : ∃ U, Y2.drew = U := ⟨_, rfl⟩
      have BV161 := hid (show Below Y2.heap.size Y2 V161 from by rw [← hV161]; exact bdrew1 _)
      have r162 := hid (row_on QA.out BV161.out)
      refine wp_region_held_drew (S := (fun U => U.cell? ⟨R, 0, none⟩ = some (.int .i64 qt) ∧ U.cell? ⟨R, 1, none⟩ = some (.int .u64 (hiW co)) ∧ U.cell? ⟨R, 2, none⟩ = some (.int .u64 (loW co)))) (by kernel_rfl) ?_ (fun hHeld => ?_)
      · (try dsimp only); rw [hV161]; exact ⟨row_cell r162.out 0, row_cell r162.out 1, row_cell r162.out 2⟩
      rw [hV161] at hHeld ⊢
      clear hV161
      refine' wpAnyH_take (i := 0) rfl (by kernel_rfl) (by kernel_rfl) (by kernel_rfl) (fun _ _ _ h => h) (Or.inl ⟨by kernel_rfl, ?_⟩) (by assumption) ?_
      rotate_left
      · (intro w hSw; (try dsimp only at hSw); go_simp; try (with_reducible rfl))
      try simp only [lgA, lgB, lgC, Act.put, lsA, lsB, lsC]
      refine' wpAnyH_take (i := 1) rfl (by kernel_rfl) (by kernel_rfl) (by kernel_rfl) (fun _ _ _ h => h) (Or.inl ⟨by kernel_rfl, ?_⟩) (by assumption) ?_
      rotate_left
      · (intro w hSw; (try dsimp only at hSw); go_simp; try (with_reducible rfl))
      try simp only [lgA, lgB, lgC, Act.put, lsA, lsB, lsC]
      refine' wpAnyH_take (i := 2) rfl (by kernel_rfl) (by kernel_rfl) (by kernel_rfl) (fun _ _ _ h => h) (Or.inl ⟨by kernel_rfl, ?_⟩) (by assumption) ?_
      rotate_left
      · (intro w hSw; (try dsimp only at hSw); go_simp; try (with_reducible rfl))
      try simp only [lgA, lgB, lgC, Act.put, lsA, lsB, lsC]
      refine' wpAnyH_take (i := 3) rfl (by kernel_rfl) (by kernel_rfl) (by kernel_rfl) (fun _ _ _ h => h) (Or.inl ⟨by kernel_rfl, ?_⟩) (by assumption) ?_
      rotate_left
      · (intro w hSw; (try dsimp only at hSw); go_simp; try (with_reducible rfl))
      try simp only [lgA, lgB, lgC, Act.put, lsA, lsB, lsC]
      refine' wpAnyH_take (i := 4) rfl (by kernel_rfl) (by kernel_rfl) (by kernel_rfl) (fun _ _ _ h => h) (Or.inl ⟨by kernel_rfl, ?_⟩) (by assumption) ?_
      rotate_left
      · (intro w hSw; (try dsimp only at hSw); go_simp; try (with_reducible rfl))
      try simp only [lgA, lgB, lgC, Act.put, lsA, lsB, lsC]
      refine wpAnyH_ready (rs := [5, 7]) (by kernel_rfl) (by simp) ?_
      refine (AllReadyH.cons rfl (fun K hK => ?_) (AllReadyH.cons rfl (fun K hK => ?_) AllReadyH.nil))
      · go_simp
        go_at_call 30
        with_reducible refine (CSq.out V161).mono ?_
        rintro e X163 ⟨rfl, DbX163⟩
        have r164 := hid (row_on r162.out DbX163.out)
        have DX163 := hid (btr BV161.out DbX163.out)
        have UX163 := hid (BV161.out.size)
        (try go_wp2_with fail)
        refine hK.out _ _ ?_ (fun hHeld => ?_)
        · (try dsimp only); exact ⟨row_cell r164.out 0, row_cell r164.out 1, row_cell r164.out 2⟩
        clear hK K
        try simp only [lgA, lgB, lgC, Act.put, lsA, lsB, lsC]
        refine wpAnyH_ready (rs := [6, 7]) (by kernel_rfl) (by simp) ?_
        refine (AllReadyH.cons rfl (fun K hK => ?_) (AllReadyH.cons rfl (fun K hK => ?_) AllReadyH.nil))
        · go_simp
          go_at_call 46
          with_reducible refine (CPc.out X163).mono ?_
          rintro e X165 ⟨rfl, DbX165⟩
          have r166 := hid (row_on r164.out DbX165.out)
          have DX165 := hid (btr DX163.out DbX165.out)
          have UX165 := hid (DX163.out.size)
          (try go_wp2_with fail)
          refine hK.out _ _ ?_ (fun hHeld => ?_)
          · (try dsimp only); exact ⟨row_cell r166.out 0, row_cell r166.out 1, row_cell r166.out 2⟩
          clear hK K
          try simp only [lgA, lgB, lgC, Act.put, lsA, lsB, lsC]
          refine wpAnyH_ready (rs := [7]) (by kernel_rfl) (by simp) ?_
          refine (AllReadyH.cons rfl (fun K hK => ?_) AllReadyH.nil)
          go_simp
          obtain ⟨X167, hX167⟩ : ∃ X, X165.alloc (.cells #[.int .u64 0, .int .u64 0] 40) = X := ⟨_, rfl⟩
          have bX167 : Below X165.heap.size X165 X167 := by rw [← hX167]; exact ball _ _
          have r169 := hid (row_on r166.out bX167)
          have DX167 := hid (btr DX165.out bX167)
          have zX167 : X167.heap[X165.heap.size]? = some (.cells #[.int .u64 0, .int .u64 0] 40 (0, 0)) := by rw [← hX167]; exact World.alloc_heap_new _ _
          have yg168 := DX165.out.size
          obtain ⟨g168, hg168⟩ : ∃ g, X165.heap.size = g := ⟨_, rfl⟩
          have n170 : g168 ≠ R := by have := row_lt r166.out; omega
          rw [hg168] at zX167 yg168
          have ZX167 := hid zX167
          rw [hX167, hg168]
          clear hX167 hg168 zX167 bX167
          refine hK.out _ _ ?_ (fun hHeld => ?_)
          · (try dsimp only); exact ⟨row_cell r169.out 0, row_cell r169.out 1, row_cell r169.out 2⟩
          clear hK K
          try simp only [lgA, lgB, lgC, Act.put, lsA, lsB, lsC]
          refine wpAnyH_ready (rs := [8]) (by kernel_rfl) (by simp) ?_
          refine (AllReadyH.cons rfl (fun K hK => ?_) AllReadyH.nil)
          refine step_store_row (by rfl) 40 (.tmp 8) (.tmp 46) (by rfl) g168 #[.int .u64 (hiW cost), .int .u64 (loW cost)] (by rfl) (by rfl) 40 _ ZX167.out infoM (by rfl) (by simp [Value.oneCell']) ?_
          obtain ⟨Y171, hY171⟩ : ∃ Y, X167.setRow g168 #[.int .u64 (hiW cost), .int .u64 (loW cost)] = Y := ⟨_, rfl⟩
          have KY171 := hid (show Kp (fun j => j = g168) X167 Y171 from by rw [← hY171]; exact setRow_kp _ _ _)
          have AY171 := hid (show Y171.heap[g168]? = some (.cells #[.int .u64 (hiW cost), .int .u64 (loW cost)] 40 (0, 0)) from by rw [← hY171]; exact setRow_heap X167 g168 _ _ 40 (0, 0) ZX167.out)
          have DY171 := hid (show Below Y2.heap.size Y2 Y171 from by rw [← hY171]; exact setRow_below DX167.out yg168)
          have r172 := hid (KY171.out.row r169.out (fun e => n170.symm e))
          rw [hY171]
          refine hK.out _ _ ?_ (fun hHeld => ?_)
          · (try dsimp only); exact ⟨row_cell r172.out 0, row_cell r172.out 1, row_cell r172.out 2⟩
          clear hK K hY171
          try simp only [lgA, lgB, lgC, Act.put, lsA, lsB, lsC]
          refine wpAnyH_done (by kernel_rfl) ?_ _
          exact ⟨g168, by kernel_rfl, DY171, AY171⟩
        · go_simp
          obtain ⟨X173, hX173⟩ : ∃ X, X163.alloc (.cells #[.int .u64 0, .int .u64 0] 40) = X := ⟨_, rfl⟩
          have bX173 : Below X163.heap.size X163 X173 := by rw [← hX173]; exact ball _ _
          have r175 := hid (row_on r164.out bX173)
          have DX173 := hid (btr DX163.out bX173)
          have zX173 : X173.heap[X163.heap.size]? = some (.cells #[.int .u64 0, .int .u64 0] 40 (0, 0)) := by rw [← hX173]; exact World.alloc_heap_new _ _
          have yg174 := DX163.out.size
          obtain ⟨g174, hg174⟩ : ∃ g, X163.heap.size = g := ⟨_, rfl⟩
          have n176 : g174 ≠ R := by have := row_lt r164.out; omega
          rw [hg174] at zX173 yg174
          have ZX173 := hid zX173
          rw [hX173, hg174]
          clear hX173 hg174 zX173 bX173
          refine hK.out _ _ ?_ (fun hHeld => ?_)
          · (try dsimp only); exact ⟨row_cell r175.out 0, row_cell r175.out 1, row_cell r175.out 2⟩
          clear hK K
          try simp only [lgA, lgB, lgC, Act.put, lsA, lsB, lsC]
          refine wpAnyH_ready (rs := [6]) (by kernel_rfl) (by simp) ?_
          refine (AllReadyH.cons rfl (fun K hK => ?_) AllReadyH.nil)
          go_simp
          go_at_call 46
          with_reducible refine (CPc.out X173).mono ?_
          rintro e X177 ⟨rfl, DbX177⟩
          have r178 := hid (row_on r175.out DbX177.out)
          have r179 := hid (row_on ZX173.out DbX177.out)
          have DX177 := hid (btr DX173.out DbX177.out)
          have UX177 := hid (DX173.out.size)
          (try go_wp2_with fail)
          refine hK.out _ _ ?_ (fun hHeld => ?_)
          · (try dsimp only); exact ⟨row_cell r178.out 0, row_cell r178.out 1, row_cell r178.out 2⟩
          clear hK K
          try simp only [lgA, lgB, lgC, Act.put, lsA, lsB, lsC]
          refine wpAnyH_ready (rs := [8]) (by kernel_rfl) (by simp) ?_
          refine (AllReadyH.cons rfl (fun K hK => ?_) AllReadyH.nil)
          refine step_store_row (by rfl) 40 (.tmp 8) (.tmp 46) (by rfl) g174 #[.int .u64 (hiW cost), .int .u64 (loW cost)] (by rfl) (by rfl) 40 _ r179.out infoM (by rfl) (by simp [Value.oneCell']) ?_
          obtain ⟨Y180, hY180⟩ : ∃ Y, X177.setRow g174 #[.int .u64 (hiW cost), .int .u64 (loW cost)] = Y := ⟨_, rfl⟩
          have KY180 := hid (show Kp (fun j => j = g174) X177 Y180 from by rw [← hY180]; exact setRow_kp _ _ _)
          have AY180 := hid (show Y180.heap[g174]? = some (.cells #[.int .u64 (hiW cost), .int .u64 (loW cost)] 40 (0, 0)) from by rw [← hY180]; exact setRow_heap X177 g174 _ _ 40 (0, 0) r179.out)
          have DY180 := hid (show Below Y2.heap.size Y2 Y180 from by rw [← hY180]; exact setRow_below DX177.out yg174)
          have r181 := hid (KY180.out.row r178.out (fun e => n176.symm e))
          rw [hY180]
          refine hK.out _ _ ?_ (fun hHeld => ?_)
          · (try dsimp only); exact ⟨row_cell r181.out 0, row_cell r181.out 1, row_cell r181.out 2⟩
          clear hK K hY180
          try simp only [lgA, lgB, lgC, Act.put, lsA, lsB, lsC]
          refine wpAnyH_done (by kernel_rfl) ?_ _
          exact ⟨g174, by kernel_rfl, DY180, AY180⟩
      · go_simp
        obtain ⟨X182, hX182⟩ : ∃ X, V161.alloc (.cells #[.int .u64 0, .int .u64 0] 40) = X := ⟨_, rfl⟩
        have bX182 : Below V161.heap.size V161 X182 := by rw [← hX182]; exact ball _ _
        have r184 := hid (row_on r162.out bX182)
        have DX182 := hid (btr BV161.out bX182)
        have zX182 : X182.heap[V161.heap.size]? = some (.cells #[.int .u64 0, .int .u64 0] 40 (0, 0)) := by rw [← hX182]; exact World.alloc_heap_new _ _
        have yg183 := BV161.out.size
        obtain ⟨g183, hg183⟩ : ∃ g, V161.heap.size = g := ⟨_, rfl⟩
        have n185 : g183 ≠ R := by have := row_lt r162.out; omega
        rw [hg183] at zX182 yg183
        have ZX182 := hid zX182
        rw [hX182, hg183]
        clear hX182 hg183 zX182 bX182
        refine hK.out _ _ ?_ (fun hHeld => ?_)
        · (try dsimp only); exact ⟨row_cell r184.out 0, row_cell r184.out 1, row_cell r184.out 2⟩
        clear hK K
        try simp only [lgA, lgB, lgC, Act.put, lsA, lsB, lsC]
        refine wpAnyH_ready (rs := [5]) (by kernel_rfl) (by simp) ?_
        refine (AllReadyH.cons rfl (fun K hK => ?_) AllReadyH.nil)
        go_simp
        go_at_call 30
        with_reducible refine (CSq.out X182).mono ?_
        rintro e X186 ⟨rfl, DbX186⟩
        have r187 := hid (row_on r184.out DbX186.out)
        have r188 := hid (row_on ZX182.out DbX186.out)
        have DX186 := hid (btr DX182.out DbX186.out)
        have UX186 := hid (DX182.out.size)
        (try go_wp2_with fail)
        refine hK.out _ _ ?_ (fun hHeld => ?_)
        · (try dsimp only); exact ⟨row_cell r187.out 0, row_cell r187.out 1, row_cell r187.out 2⟩
        clear hK K
        try simp only [lgA, lgB, lgC, Act.put, lsA, lsB, lsC]
        refine wpAnyH_ready (rs := [6]) (by kernel_rfl) (by simp) ?_
        refine (AllReadyH.cons rfl (fun K hK => ?_) AllReadyH.nil)
        go_simp
        go_at_call 46
        with_reducible refine (CPc.out X186).mono ?_
        rintro e X189 ⟨rfl, DbX189⟩
        have r190 := hid (row_on r187.out DbX189.out)
        have r191 := hid (row_on r188.out DbX189.out)
        have DX189 := hid (btr DX186.out DbX189.out)
        have UX189 := hid (DX186.out.size)
        (try go_wp2_with fail)
        refine hK.out _ _ ?_ (fun hHeld => ?_)
        · (try dsimp only); exact ⟨row_cell r190.out 0, row_cell r190.out 1, row_cell r190.out 2⟩
        clear hK K
        try simp only [lgA, lgB, lgC, Act.put, lsA, lsB, lsC]
        refine wpAnyH_ready (rs := [8]) (by kernel_rfl) (by simp) ?_
        refine (AllReadyH.cons rfl (fun K hK => ?_) AllReadyH.nil)
        refine step_store_row (by rfl) 40 (.tmp 8) (.tmp 46) (by rfl) g183 #[.int .u64 (hiW cost), .int .u64 (loW cost)] (by rfl) (by rfl) 40 _ r191.out infoM (by rfl) (by simp [Value.oneCell']) ?_
        obtain ⟨Y192, hY192⟩ : ∃ Y, X189.setRow g183 #[.int .u64 (hiW cost), .int .u64 (loW cost)] = Y := ⟨_, rfl⟩
        have KY192 := hid (show Kp (fun j => j = g183) X189 Y192 from by rw [← hY192]; exact setRow_kp _ _ _)
        have AY192 := hid (show Y192.heap[g183]? = some (.cells #[.int .u64 (hiW cost), .int .u64 (loW cost)] 40 (0, 0)) from by rw [← hY192]; exact setRow_heap X189 g183 _ _ 40 (0, 0) r191.out)
        have DY192 := hid (show Below Y2.heap.size Y2 Y192 from by rw [← hY192]; exact setRow_below DX189.out yg183)
        have r193 := hid (KY192.out.row r190.out (fun e => n185.symm e))
        rw [hY192]
        refine hK.out _ _ ?_ (fun hHeld => ?_)
        · (try dsimp only); exact ⟨row_cell r193.out 0, row_cell r193.out 1, row_cell r193.out 2⟩
        clear hK K hY192
        try simp only [lgA, lgB, lgC, Act.put, lsA, lsB, lsC]
        refine wpAnyH_done (by kernel_rfl) ?_ _
        exact ⟨g183, by kernel_rfl, DY192, AY192⟩
    rintro tc V4 ⟨B4, GC⟩
    try simp only [lgA, lgB, lgC, Act.put, lsA, lsB, lsC]
    have QB4 := hid (row_on QB.out B4.out)
    have QA4 := hid (row_on QA.out B4.out)
    clear QA QB
    go_upto_region 5 with fail
    refine reg_cut (X := Nat) (fun a t => ((((((a.put (some 47) (.agg #[.int .u64 (hiW money), .int .u64 (loW money)])).put (some 48) (.int .u64 nq)).put (some 49) (.int .i64 d)).put (some 50) (.int .u64 nd)).put (some 51) (.agg #[.int .u64 (hiW flow), .int .u64 (loW flow)])).put (some 9) (.pointer (some ⟨t, 0, none⟩)))) (fun t V => Hid (Below V4.heap.size V4 V) ∧ Hid (V.heap[t]? = some (.cells #[.int .u64 (hiW flow), .int .u64 (loW flow)] 40 (0, 0)))) ?_ ?_
    · obtain ⟨V194, hV194⟩ : ∃ U, V4.drew = U := ⟨_, rfl⟩
      have BV194 := hid (show Below V4.heap.size V4 V194 from by rw [← hV194]; exact bdrew1 _)
      have r195 := hid (row_on QB4.out BV194.out)
      refine wp_region_held_drew (S := (fun U => U.cell? ⟨R + 1, 0, none⟩ = some (.int .u64 (hiW money)) ∧ U.cell? ⟨R + 1, 1, none⟩ = some (.int .u64 (loW money)))) (by kernel_rfl) ?_ (fun hHeld => ?_)
      · (try dsimp only); rw [hV194]; exact ⟨row_cell r195.out 0, row_cell r195.out 1⟩
      rw [hV194] at hHeld ⊢
      clear hV194
      refine' wpAnyH_take (i := 0) rfl (by kernel_rfl) (by kernel_rfl) (by kernel_rfl) (fun _ _ _ h => h) (Or.inl ⟨by kernel_rfl, ?_⟩) (by assumption) ?_
      rotate_left
      · (intro w hSw; (try dsimp only at hSw); go_simp; try (with_reducible rfl))
      try simp only [lgA, lgB, lgC, Act.put, lsA, lsB, lsC]
      refine' wpAnyH_take (i := 1) rfl (by kernel_rfl) (by kernel_rfl) (by kernel_rfl) (fun _ _ _ h => h) (Or.inl ⟨by kernel_rfl, ?_⟩) (by assumption) ?_
      rotate_left
      · (intro w hSw; (try dsimp only at hSw); go_simp; try (with_reducible rfl))
      try simp only [lgA, lgB, lgC, Act.put, lsA, lsB, lsC]
      refine' wpAnyH_take (i := 2) rfl (by kernel_rfl) (by kernel_rfl) (by kernel_rfl) (fun _ _ _ h => h) (Or.inl ⟨by kernel_rfl, ?_⟩) (by assumption) ?_
      rotate_left
      · (intro w hSw; (try dsimp only at hSw); go_simp; try (with_reducible rfl))
      try simp only [lgA, lgB, lgC, Act.put, lsA, lsB, lsC]
      refine wpAnyH_ready (rs := [3, 5]) (by kernel_rfl) (by simp) ?_
      refine (AllReadyH.cons rfl (fun K hK => ?_) (AllReadyH.cons rfl (fun K hK => ?_) AllReadyH.nil))
      · go_simp
        go_at_call 30
        with_reducible refine (CSd.out V194).mono ?_
        rintro e X196 ⟨rfl, DbX196⟩
        have r197 := hid (row_on r195.out DbX196.out)
        have DX196 := hid (btr BV194.out DbX196.out)
        have UX196 := hid (BV194.out.size)
        (try go_wp2_with fail)
        refine hK.out _ _ ?_ (fun hHeld => ?_)
        · (try dsimp only); exact ⟨row_cell r197.out 0, row_cell r197.out 1⟩
        clear hK K
        try simp only [lgA, lgB, lgC, Act.put, lsA, lsB, lsC]
        refine wpAnyH_ready (rs := [4, 5]) (by kernel_rfl) (by simp) ?_
        refine (AllReadyH.cons rfl (fun K hK => ?_) (AllReadyH.cons rfl (fun K hK => ?_) AllReadyH.nil))
        · go_simp
          go_at_call 46
          with_reducible refine (CPm.out X196).mono ?_
          rintro e X198 ⟨rfl, DbX198⟩
          have r199 := hid (row_on r197.out DbX198.out)
          have DX198 := hid (btr DX196.out DbX198.out)
          have UX198 := hid (DX196.out.size)
          (try go_wp2_with fail)
          refine hK.out _ _ ?_ (fun hHeld => ?_)
          · (try dsimp only); exact ⟨row_cell r199.out 0, row_cell r199.out 1⟩
          clear hK K
          try simp only [lgA, lgB, lgC, Act.put, lsA, lsB, lsC]
          refine wpAnyH_ready (rs := [5]) (by kernel_rfl) (by simp) ?_
          refine (AllReadyH.cons rfl (fun K hK => ?_) AllReadyH.nil)
          go_simp
          obtain ⟨X200, hX200⟩ : ∃ X, X198.alloc (.cells #[.int .u64 0, .int .u64 0] 40) = X := ⟨_, rfl⟩
          have bX200 : Below X198.heap.size X198 X200 := by rw [← hX200]; exact ball _ _
          have r202 := hid (row_on r199.out bX200)
          have DX200 := hid (btr DX198.out bX200)
          have zX200 : X200.heap[X198.heap.size]? = some (.cells #[.int .u64 0, .int .u64 0] 40 (0, 0)) := by rw [← hX200]; exact World.alloc_heap_new _ _
          have yg201 := DX198.out.size
          obtain ⟨g201, hg201⟩ : ∃ g, X198.heap.size = g := ⟨_, rfl⟩
          have n203 : g201 ≠ R + 1 := by have := row_lt r199.out; omega
          rw [hg201] at zX200 yg201
          have ZX200 := hid zX200
          rw [hX200, hg201]
          clear hX200 hg201 zX200 bX200
          refine hK.out _ _ ?_ (fun hHeld => ?_)
          · (try dsimp only); exact ⟨row_cell r202.out 0, row_cell r202.out 1⟩
          clear hK K
          try simp only [lgA, lgB, lgC, Act.put, lsA, lsB, lsC]
          refine wpAnyH_ready (rs := [6]) (by kernel_rfl) (by simp) ?_
          refine (AllReadyH.cons rfl (fun K hK => ?_) AllReadyH.nil)
          refine step_store_row (by rfl) 40 (.tmp 9) (.tmp 51) (by rfl) g201 #[.int .u64 (hiW flow), .int .u64 (loW flow)] (by rfl) (by rfl) 40 _ ZX200.out infoM (by rfl) (by simp [Value.oneCell']) ?_
          obtain ⟨Y204, hY204⟩ : ∃ Y, X200.setRow g201 #[.int .u64 (hiW flow), .int .u64 (loW flow)] = Y := ⟨_, rfl⟩
          have KY204 := hid (show Kp (fun j => j = g201) X200 Y204 from by rw [← hY204]; exact setRow_kp _ _ _)
          have AY204 := hid (show Y204.heap[g201]? = some (.cells #[.int .u64 (hiW flow), .int .u64 (loW flow)] 40 (0, 0)) from by rw [← hY204]; exact setRow_heap X200 g201 _ _ 40 (0, 0) ZX200.out)
          have DY204 := hid (show Below V4.heap.size V4 Y204 from by rw [← hY204]; exact setRow_below DX200.out yg201)
          have r205 := hid (KY204.out.row r202.out (fun e => n203.symm e))
          rw [hY204]
          refine hK.out _ _ ?_ (fun hHeld => ?_)
          · (try dsimp only); exact ⟨row_cell r205.out 0, row_cell r205.out 1⟩
          clear hK K hY204
          try simp only [lgA, lgB, lgC, Act.put, lsA, lsB, lsC]
          refine wpAnyH_done (by kernel_rfl) ?_ _
          exact ⟨g201, by kernel_rfl, DY204, AY204⟩
        · go_simp
          obtain ⟨X206, hX206⟩ : ∃ X, X196.alloc (.cells #[.int .u64 0, .int .u64 0] 40) = X := ⟨_, rfl⟩
          have bX206 : Below X196.heap.size X196 X206 := by rw [← hX206]; exact ball _ _
          have r208 := hid (row_on r197.out bX206)
          have DX206 := hid (btr DX196.out bX206)
          have zX206 : X206.heap[X196.heap.size]? = some (.cells #[.int .u64 0, .int .u64 0] 40 (0, 0)) := by rw [← hX206]; exact World.alloc_heap_new _ _
          have yg207 := DX196.out.size
          obtain ⟨g207, hg207⟩ : ∃ g, X196.heap.size = g := ⟨_, rfl⟩
          have n209 : g207 ≠ R + 1 := by have := row_lt r197.out; omega
          rw [hg207] at zX206 yg207
          have ZX206 := hid zX206
          rw [hX206, hg207]
          clear hX206 hg207 zX206 bX206
          refine hK.out _ _ ?_ (fun hHeld => ?_)
          · (try dsimp only); exact ⟨row_cell r208.out 0, row_cell r208.out 1⟩
          clear hK K
          try simp only [lgA, lgB, lgC, Act.put, lsA, lsB, lsC]
          refine wpAnyH_ready (rs := [4]) (by kernel_rfl) (by simp) ?_
          refine (AllReadyH.cons rfl (fun K hK => ?_) AllReadyH.nil)
          go_simp
          go_at_call 46
          with_reducible refine (CPm.out X206).mono ?_
          rintro e X210 ⟨rfl, DbX210⟩
          have r211 := hid (row_on r208.out DbX210.out)
          have r212 := hid (row_on ZX206.out DbX210.out)
          have DX210 := hid (btr DX206.out DbX210.out)
          have UX210 := hid (DX206.out.size)
          (try go_wp2_with fail)
          refine hK.out _ _ ?_ (fun hHeld => ?_)
          · (try dsimp only); exact ⟨row_cell r211.out 0, row_cell r211.out 1⟩
          clear hK K
          try simp only [lgA, lgB, lgC, Act.put, lsA, lsB, lsC]
          refine wpAnyH_ready (rs := [6]) (by kernel_rfl) (by simp) ?_
          refine (AllReadyH.cons rfl (fun K hK => ?_) AllReadyH.nil)
          refine step_store_row (by rfl) 40 (.tmp 9) (.tmp 51) (by rfl) g207 #[.int .u64 (hiW flow), .int .u64 (loW flow)] (by rfl) (by rfl) 40 _ r212.out infoM (by rfl) (by simp [Value.oneCell']) ?_
          obtain ⟨Y213, hY213⟩ : ∃ Y, X210.setRow g207 #[.int .u64 (hiW flow), .int .u64 (loW flow)] = Y := ⟨_, rfl⟩
          have KY213 := hid (show Kp (fun j => j = g207) X210 Y213 from by rw [← hY213]; exact setRow_kp _ _ _)
          have AY213 := hid (show Y213.heap[g207]? = some (.cells #[.int .u64 (hiW flow), .int .u64 (loW flow)] 40 (0, 0)) from by rw [← hY213]; exact setRow_heap X210 g207 _ _ 40 (0, 0) r212.out)
          have DY213 := hid (show Below V4.heap.size V4 Y213 from by rw [← hY213]; exact setRow_below DX210.out yg207)
          have r214 := hid (KY213.out.row r211.out (fun e => n209.symm e))
          rw [hY213]
          refine hK.out _ _ ?_ (fun hHeld => ?_)
          · (try dsimp only); exact ⟨row_cell r214.out 0, row_cell r214.out 1⟩
          clear hK K hY213
          try simp only [lgA, lgB, lgC, Act.put, lsA, lsB, lsC]
          refine wpAnyH_done (by kernel_rfl) ?_ _
          exact ⟨g207, by kernel_rfl, DY213, AY213⟩
      · go_simp
        obtain ⟨X215, hX215⟩ : ∃ X, V194.alloc (.cells #[.int .u64 0, .int .u64 0] 40) = X := ⟨_, rfl⟩
        have bX215 : Below V194.heap.size V194 X215 := by rw [← hX215]; exact ball _ _
        have r217 := hid (row_on r195.out bX215)
        have DX215 := hid (btr BV194.out bX215)
        have zX215 : X215.heap[V194.heap.size]? = some (.cells #[.int .u64 0, .int .u64 0] 40 (0, 0)) := by rw [← hX215]; exact World.alloc_heap_new _ _
        have yg216 := BV194.out.size
        obtain ⟨g216, hg216⟩ : ∃ g, V194.heap.size = g := ⟨_, rfl⟩
        have n218 : g216 ≠ R + 1 := by have := row_lt r195.out; omega
        rw [hg216] at zX215 yg216
        have ZX215 := hid zX215
        rw [hX215, hg216]
        clear hX215 hg216 zX215 bX215
        refine hK.out _ _ ?_ (fun hHeld => ?_)
        · (try dsimp only); exact ⟨row_cell r217.out 0, row_cell r217.out 1⟩
        clear hK K
        try simp only [lgA, lgB, lgC, Act.put, lsA, lsB, lsC]
        refine wpAnyH_ready (rs := [3]) (by kernel_rfl) (by simp) ?_
        refine (AllReadyH.cons rfl (fun K hK => ?_) AllReadyH.nil)
        go_simp
        go_at_call 30
        with_reducible refine (CSd.out X215).mono ?_
        rintro e X219 ⟨rfl, DbX219⟩
        have r220 := hid (row_on r217.out DbX219.out)
        have r221 := hid (row_on ZX215.out DbX219.out)
        have DX219 := hid (btr DX215.out DbX219.out)
        have UX219 := hid (DX215.out.size)
        (try go_wp2_with fail)
        refine hK.out _ _ ?_ (fun hHeld => ?_)
        · (try dsimp only); exact ⟨row_cell r220.out 0, row_cell r220.out 1⟩
        clear hK K
        try simp only [lgA, lgB, lgC, Act.put, lsA, lsB, lsC]
        refine wpAnyH_ready (rs := [4]) (by kernel_rfl) (by simp) ?_
        refine (AllReadyH.cons rfl (fun K hK => ?_) AllReadyH.nil)
        go_simp
        go_at_call 46
        with_reducible refine (CPm.out X219).mono ?_
        rintro e X222 ⟨rfl, DbX222⟩
        have r223 := hid (row_on r220.out DbX222.out)
        have r224 := hid (row_on r221.out DbX222.out)
        have DX222 := hid (btr DX219.out DbX222.out)
        have UX222 := hid (DX219.out.size)
        (try go_wp2_with fail)
        refine hK.out _ _ ?_ (fun hHeld => ?_)
        · (try dsimp only); exact ⟨row_cell r223.out 0, row_cell r223.out 1⟩
        clear hK K
        try simp only [lgA, lgB, lgC, Act.put, lsA, lsB, lsC]
        refine wpAnyH_ready (rs := [6]) (by kernel_rfl) (by simp) ?_
        refine (AllReadyH.cons rfl (fun K hK => ?_) AllReadyH.nil)
        refine step_store_row (by rfl) 40 (.tmp 9) (.tmp 51) (by rfl) g216 #[.int .u64 (hiW flow), .int .u64 (loW flow)] (by rfl) (by rfl) 40 _ r224.out infoM (by rfl) (by simp [Value.oneCell']) ?_
        obtain ⟨Y225, hY225⟩ : ∃ Y, X222.setRow g216 #[.int .u64 (hiW flow), .int .u64 (loW flow)] = Y := ⟨_, rfl⟩
        have KY225 := hid (show Kp (fun j => j = g216) X222 Y225 from by rw [← hY225]; exact setRow_kp _ _ _)
        have AY225 := hid (show Y225.heap[g216]? = some (.cells #[.int .u64 (hiW flow), .int .u64 (loW flow)] 40 (0, 0)) from by rw [← hY225]; exact setRow_heap X222 g216 _ _ 40 (0, 0) r224.out)
        have DY225 := hid (show Below V4.heap.size V4 Y225 from by rw [← hY225]; exact setRow_below DX222.out yg216)
        have r226 := hid (KY225.out.row r223.out (fun e => n218.symm e))
        rw [hY225]
        refine hK.out _ _ ?_ (fun hHeld => ?_)
        · (try dsimp only); exact ⟨row_cell r226.out 0, row_cell r226.out 1⟩
        clear hK K hY225
        try simp only [lgA, lgB, lgC, Act.put, lsA, lsB, lsC]
        refine wpAnyH_done (by kernel_rfl) ?_ _
        exact ⟨g216, by kernel_rfl, DY225, AY225⟩
    rintro tf V5 ⟨B5, GF⟩
    try simp only [lgA, lgB, lgC, Act.put, lsA, lsB, lsC]
    have QA5 := hid (row_on QA4.out B5.out)
    have GC5 := hid (row_on GC.out B5.out)
    clear QA4 QB4 GC
    have h3 : nq = st := by have h4 := HST.out; rw [← hnq, ← h4]; unfold absI; rw [if_pos (by simp at hqp; have := HQ0.out; omega)]
    have wn : IntKind.i64.wrap nq = st := by have h1 := HNQ.out; rw [IntKind.wrap_i64]; omega
    clear h3
    clear hnd hnq hqp
    go_upto_region 9 with fail
    refine reg_cut (X := Nat) (fun a t => ((((((((((((((((a.put (some 58) (.pointer (some ⟨R, 0, none⟩))).put (some 59) (.int .i64 qt)).put (some 60) (.int .i64 st)).put (some 61) (.int .i64 0)).put (some 62) (.pointer (some ⟨R, 1, none⟩))).put (some 63) (.agg #[.int .u64 (hiW co), .int .u64 (loW co)])).put (some 64) (.agg #[.int .u64 (hiW cost), .int .u64 (loW cost)])).put (some 65) (.agg #[.int .u64 (hiW v1), .int .u64 (loW v1)])).put (some 66) (.pointer (some ⟨R, 3, none⟩))).put (some 67) (.agg #[.int .u64 (hiW ga), .int .u64 (loW ga)])).put (some 68) (.agg #[.int .u64 (hiW flow), .int .u64 (loW flow)])).put (some 69) (.agg #[.int .u64 (hiW cost), .int .u64 (loW cost)])).put (some 70) (.agg #[.int .u64 (hiW v2), .int .u64 (loW v2)])).put (some 71) (.agg #[.int .u64 (hiW v3), .int .u64 (loW v3)])).put (some 72) (.agg #[.int .i64 0, .int .u64 (hiW v1), .int .u64 (loW v1), .int .u64 (hiW v3), .int .u64 (loW v3)])).put (some 11) (.pointer (some ⟨t, 0, none⟩)))) (fun t V => Hid (Below V5.heap.size V5 V) ∧ Hid (V5.heap.size ≤ t) ∧ Hid (V.heap[t]? = some (.cells #[.int .i64 0, .int .u64 (hiW v1), .int .u64 (loW v1), .int .u64 (hiW v3), .int .u64 (loW v3)] 55 (0, 0)))) ?_ ?_
    · obtain ⟨V227, hV227⟩ : ∃ U, V5.drew = U := ⟨_, rfl⟩
      have BV227 := hid (show Below V5.heap.size V5 V227 from by rw [← hV227]; exact bdrew1 _)
      have r228 := hid (row_on QA5.out BV227.out)
      have r229 := hid (row_on GC5.out BV227.out)
      have r230 := hid (row_on GF.out BV227.out)
      refine wp_region_held_drew (S := (fun U => U.cell? ⟨R, 0, none⟩ = some (.int .i64 qt) ∧ U.cell? ⟨R, 1, none⟩ = some (.int .u64 (hiW co)) ∧ U.cell? ⟨R, 2, none⟩ = some (.int .u64 (loW co)) ∧ U.cell? ⟨R, 3, none⟩ = some (.int .u64 (hiW ga)) ∧ U.cell? ⟨R, 4, none⟩ = some (.int .u64 (loW ga)) ∧ U.cell? ⟨tc, 0, none⟩ = some (.int .u64 (hiW cost)) ∧ U.cell? ⟨tc, 1, none⟩ = some (.int .u64 (loW cost)) ∧ U.cell? ⟨tf, 0, none⟩ = some (.int .u64 (hiW flow)) ∧ U.cell? ⟨tf, 1, none⟩ = some (.int .u64 (loW flow)))) (by kernel_rfl) ?_ (fun hHeld => ?_)
      · (try dsimp only); rw [hV227]; exact ⟨row_cell r228.out 0, row_cell r228.out 1, row_cell r228.out 2, row_cell r228.out 3, row_cell r228.out 4, row_cell r229.out 0, row_cell r229.out 1, row_cell r230.out 0, row_cell r230.out 1⟩
      rw [hV227] at hHeld ⊢
      clear hV227
      refine' wpAnyH_take (i := 0) rfl (by kernel_rfl) (by kernel_rfl) (by kernel_rfl) (fun _ _ _ h => h) (Or.inl ⟨by kernel_rfl, ?_⟩) (by assumption) ?_
      rotate_left
      · (intro w hSw; (try dsimp only at hSw); go_simp; try (with_reducible rfl))
      try simp only [lgA, lgB, lgC, Act.put, lsA, lsB, lsC]
      refine' wpAnyH_take (i := 1) rfl (by kernel_rfl) (by kernel_rfl) (by kernel_rfl) (fun _ _ _ h => h) (Or.inl ⟨by kernel_rfl, ?_⟩) (by assumption) ?_
      rotate_left
      · (intro w hSw; (try dsimp only at hSw); go_simp; try (with_reducible rfl))
      try simp only [lgA, lgB, lgC, Act.put, lsA, lsB, lsC]
      refine' wpAnyH_take (i := 2) rfl (by kernel_rfl) (by kernel_rfl) (by kernel_rfl) (fun _ _ _ h => h) (Or.inl ⟨by kernel_rfl, ?_⟩) (by assumption) ?_
      rotate_left
      · (intro w hSw; (try dsimp only at hSw); go_simp; try (with_reducible rfl))
      try simp only [lgA, lgB, lgC, Act.put, lsA, lsB, lsC]
      refine' wpAnyH_take (i := 3) rfl (by kernel_rfl) (by kernel_rfl) (by kernel_rfl) (fun _ _ _ h => h) (Or.inl ⟨by kernel_rfl, ?_⟩) (by assumption) ?_
      rotate_left
      · (intro w hSw; (try dsimp only at hSw); go_simp; try (with_reducible rfl))
      try simp only [lgA, lgB, lgC, Act.put, lsA, lsB, lsC]
      refine' wpAnyH_take (i := 4) rfl (by kernel_rfl) (by kernel_rfl) (by kernel_rfl) (fun _ _ _ h => h) (Or.inl ⟨by kernel_rfl, ?_⟩) (by assumption) ?_
      rotate_left
      · (intro w hSw; (try dsimp only at hSw); go_simp; try (with_reducible rfl))
      try simp only [lgA, lgB, lgC, Act.put, lsA, lsB, lsC]
      refine' wpAnyH_take (i := 5) rfl (by kernel_rfl) (by kernel_rfl) (by kernel_rfl) (fun _ _ _ h => h) (Or.inl ⟨by kernel_rfl, ?_⟩) (by assumption) ?_
      rotate_left
      · (intro w hSw; (try dsimp only at hSw); go_simp; try (with_reducible rfl))
      try simp only [lgA, lgB, lgC, Act.put, lsA, lsB, lsC]
      refine' wpAnyH_take (i := 6) rfl (by kernel_rfl) (by kernel_rfl) (by kernel_rfl) (fun _ _ _ h => h) (Or.inl ⟨by kernel_rfl, ?_⟩) (by assumption) ?_
      rotate_left
      · (intro w hSw; (try dsimp only at hSw); go_simp; try (with_reducible rfl))
      try simp only [lgA, lgB, lgC, Act.put, lsA, lsB, lsC]
      refine' wpAnyH_take (i := 8) rfl (by kernel_rfl) (by kernel_rfl) (by kernel_rfl) (fun _ _ _ h => h) (Or.inl ⟨by kernel_rfl, ?_⟩) (by assumption) ?_
      rotate_left
      · (intro w hSw; (try dsimp only at hSw); go_simp; try (with_reducible rfl))
      try simp only [lgA, lgB, lgC, Act.put, lsA, lsB, lsC]
      refine' wpAnyH_take (i := 9) rfl (by kernel_rfl) (by kernel_rfl) (by kernel_rfl) (fun _ _ _ h => h) (Or.inl ⟨by kernel_rfl, ?_⟩) (by assumption) ?_
      rotate_left
      · (intro w hSw; (try dsimp only at hSw); go_simp; try (with_reducible rfl))
      try simp only [lgA, lgB, lgC, Act.put, lsA, lsB, lsC]
      refine' wpAnyH_take (i := 10) rfl (by kernel_rfl) (by kernel_rfl) (by kernel_rfl) (fun _ _ _ h => h) (Or.inl ⟨by kernel_rfl, ?_⟩) (by assumption) ?_
      rotate_left
      · (intro w hSw; (try dsimp only at hSw); go_simp; try (with_reducible rfl))
      try simp only [lgA, lgB, lgC, Act.put, lsA, lsB, lsC]
      refine' wpAnyH_take (i := 11) rfl (by kernel_rfl) (by kernel_rfl) (by kernel_rfl) (fun _ _ _ h => h) (Or.inl ⟨by kernel_rfl, ?_⟩) (by assumption) ?_
      rotate_left
      · (intro w hSw; (try dsimp only at hSw); go_simp; try (with_reducible rfl))
      try simp only [lgA, lgB, lgC, Act.put, lsA, lsB, lsC]
      refine wpAnyH_ready (rs := [7, 15]) (by kernel_rfl) (by simp) ?_
      refine (AllReadyH.cons rfl (fun K hK => ?_) (AllReadyH.cons rfl (fun K hK => ?_) AllReadyH.nil))
      · go_simp
        go_at_call 45
        with_reducible refine (CL1.out V227).mono ?_
        rintro e X231 ⟨rfl, DbX231⟩
        have r232 := hid (row_on r228.out DbX231.out)
        have r233 := hid (row_on r229.out DbX231.out)
        have r234 := hid (row_on r230.out DbX231.out)
        have DX231 := hid (btr BV227.out DbX231.out)
        have UX231 := hid (BV227.out.size)
        (try go_wp2_with fail)
        refine hK.out _ _ ?_ (fun hHeld => ?_)
        · (try dsimp only); exact ⟨row_cell r232.out 0, row_cell r232.out 1, row_cell r232.out 2, row_cell r232.out 3, row_cell r232.out 4, row_cell r233.out 0, row_cell r233.out 1, row_cell r234.out 0, row_cell r234.out 1⟩
        clear hK K
        try simp only [lgA, lgB, lgC, Act.put, lsA, lsB, lsC]
        refine wpAnyH_ready (rs := [12, 15]) (by kernel_rfl) (by simp) ?_
        refine (AllReadyH.cons rfl (fun K hK => ?_) (AllReadyH.cons rfl (fun K hK => ?_) AllReadyH.nil))
        · go_simp
          go_at_call 45
          with_reducible refine (CL2.out X231).mono ?_
          rintro e X235 ⟨rfl, DbX235⟩
          have r236 := hid (row_on r232.out DbX235.out)
          have r237 := hid (row_on r233.out DbX235.out)
          have r238 := hid (row_on r234.out DbX235.out)
          have DX235 := hid (btr DX231.out DbX235.out)
          have UX235 := hid (DX231.out.size)
          (try go_wp2_with fail)
          refine hK.out _ _ ?_ (fun hHeld => ?_)
          · (try dsimp only); exact ⟨row_cell r236.out 0, row_cell r236.out 1, row_cell r236.out 2, row_cell r236.out 3, row_cell r236.out 4, row_cell r237.out 0, row_cell r237.out 1, row_cell r238.out 0, row_cell r238.out 1⟩
          clear hK K
          try simp only [lgA, lgB, lgC, Act.put, lsA, lsB, lsC]
          refine wpAnyH_ready (rs := [13, 15]) (by kernel_rfl) (by simp) ?_
          refine (AllReadyH.cons rfl (fun K hK => ?_) (AllReadyH.cons rfl (fun K hK => ?_) AllReadyH.nil))
          · go_simp
            go_at_call 47
            with_reducible refine (CPl.out X235).mono ?_
            rintro e X239 ⟨rfl, DbX239⟩
            have r240 := hid (row_on r236.out DbX239.out)
            have r241 := hid (row_on r237.out DbX239.out)
            have r242 := hid (row_on r238.out DbX239.out)
            have DX239 := hid (btr DX235.out DbX239.out)
            have UX239 := hid (DX235.out.size)
            (try go_wp2_with fail)
            refine hK.out _ _ ?_ (fun hHeld => ?_)
            · (try dsimp only); exact ⟨row_cell r240.out 0, row_cell r240.out 1, row_cell r240.out 2, row_cell r240.out 3, row_cell r240.out 4, row_cell r241.out 0, row_cell r241.out 1, row_cell r242.out 0, row_cell r242.out 1⟩
            clear hK K
            try simp only [lgA, lgB, lgC, Act.put, lsA, lsB, lsC]
            refine' wpAnyH_take (i := 14) rfl (by kernel_rfl) (by kernel_rfl) (by kernel_rfl) (fun _ _ _ h => h) (Or.inl ⟨by kernel_rfl, ?_⟩) (by assumption) ?_
            rotate_left
            · (intro w hSw; (try dsimp only at hSw); go_simp; try (with_reducible rfl))
            try simp only [lgA, lgB, lgC, Act.put, lsA, lsB, lsC]
            refine wpAnyH_ready (rs := [15]) (by kernel_rfl) (by simp) ?_
            refine (AllReadyH.cons rfl (fun K hK => ?_) AllReadyH.nil)
            go_simp
            obtain ⟨X243, hX243⟩ : ∃ X, X239.alloc (.cells #[.int .i64 0, .int .u64 0, .int .u64 0, .int .u64 0, .int .u64 0] 55) = X := ⟨_, rfl⟩
            have bX243 : Below X239.heap.size X239 X243 := by rw [← hX243]; exact ball _ _
            have r245 := hid (row_on r240.out bX243)
            have r246 := hid (row_on r241.out bX243)
            have r247 := hid (row_on r242.out bX243)
            have DX243 := hid (btr DX239.out bX243)
            have zX243 : X243.heap[X239.heap.size]? = some (.cells #[.int .i64 0, .int .u64 0, .int .u64 0, .int .u64 0, .int .u64 0] 55 (0, 0)) := by rw [← hX243]; exact World.alloc_heap_new _ _
            have yg244 := DX239.out.size
            obtain ⟨g244, hg244⟩ : ∃ g, X239.heap.size = g := ⟨_, rfl⟩
            have n248 : g244 ≠ R := by have := row_lt r240.out; omega
            have n249 : g244 ≠ tc := by have := row_lt r241.out; omega
            have n250 : g244 ≠ tf := by have := row_lt r242.out; omega
            rw [hg244] at zX243 yg244
            have ZX243 := hid zX243
            rw [hX243, hg244]
            clear hX243 hg244 zX243 bX243
            refine hK.out _ _ ?_ (fun hHeld => ?_)
            · (try dsimp only); exact ⟨row_cell r245.out 0, row_cell r245.out 1, row_cell r245.out 2, row_cell r245.out 3, row_cell r245.out 4, row_cell r246.out 0, row_cell r246.out 1, row_cell r247.out 0, row_cell r247.out 1⟩
            clear hK K
            try simp only [lgA, lgB, lgC, Act.put, lsA, lsB, lsC]
            refine wpAnyH_ready (rs := [16]) (by kernel_rfl) (by simp) ?_
            refine (AllReadyH.cons rfl (fun K hK => ?_) AllReadyH.nil)
            refine step_store_row (by rfl) 55 (.tmp 11) (.tmp 72) (by rfl) g244 #[.int .i64 0, .int .u64 (hiW v1), .int .u64 (loW v1), .int .u64 (hiW v3), .int .u64 (loW v3)] (by rfl) (by rfl) 55 _ ZX243.out infoPo (by rfl) (by simp [Value.oneCell']) ?_
            obtain ⟨Y251, hY251⟩ : ∃ Y, X243.setRow g244 #[.int .i64 0, .int .u64 (hiW v1), .int .u64 (loW v1), .int .u64 (hiW v3), .int .u64 (loW v3)] = Y := ⟨_, rfl⟩
            have KY251 := hid (show Kp (fun j => j = g244) X243 Y251 from by rw [← hY251]; exact setRow_kp _ _ _)
            have AY251 := hid (show Y251.heap[g244]? = some (.cells #[.int .i64 0, .int .u64 (hiW v1), .int .u64 (loW v1), .int .u64 (hiW v3), .int .u64 (loW v3)] 55 (0, 0)) from by rw [← hY251]; exact setRow_heap X243 g244 _ _ 55 (0, 0) ZX243.out)
            have DY251 := hid (show Below V5.heap.size V5 Y251 from by rw [← hY251]; exact setRow_below DX243.out yg244)
            have r252 := hid (KY251.out.row r245.out (fun e => n248.symm e))
            have r253 := hid (KY251.out.row r246.out (fun e => n249.symm e))
            have r254 := hid (KY251.out.row r247.out (fun e => n250.symm e))
            rw [hY251]
            refine hK.out _ _ ?_ (fun hHeld => ?_)
            · (try dsimp only); exact ⟨row_cell r252.out 0, row_cell r252.out 1, row_cell r252.out 2, row_cell r252.out 3, row_cell r252.out 4, row_cell r253.out 0, row_cell r253.out 1, row_cell r254.out 0, row_cell r254.out 1⟩
            clear hK K hY251
            try simp only [lgA, lgB, lgC, Act.put, lsA, lsB, lsC]
            refine wpAnyH_done (by kernel_rfl) ?_ _
            exact ⟨g244, by kernel_rfl, DY251, hid yg244, AY251⟩
          · go_simp
            obtain ⟨X255, hX255⟩ : ∃ X, X235.alloc (.cells #[.int .i64 0, .int .u64 0, .int .u64 0, .int .u64 0, .int .u64 0] 55) = X := ⟨_, rfl⟩
            have bX255 : Below X235.heap.size X235 X255 := by rw [← hX255]; exact ball _ _
            have r257 := hid (row_on r236.out bX255)
            have r258 := hid (row_on r237.out bX255)
            have r259 := hid (row_on r238.out bX255)
            have DX255 := hid (btr DX235.out bX255)
            have zX255 : X255.heap[X235.heap.size]? = some (.cells #[.int .i64 0, .int .u64 0, .int .u64 0, .int .u64 0, .int .u64 0] 55 (0, 0)) := by rw [← hX255]; exact World.alloc_heap_new _ _
            have yg256 := DX235.out.size
            obtain ⟨g256, hg256⟩ : ∃ g, X235.heap.size = g := ⟨_, rfl⟩
            have n260 : g256 ≠ R := by have := row_lt r236.out; omega
            have n261 : g256 ≠ tc := by have := row_lt r237.out; omega
            have n262 : g256 ≠ tf := by have := row_lt r238.out; omega
            rw [hg256] at zX255 yg256
            have ZX255 := hid zX255
            rw [hX255, hg256]
            clear hX255 hg256 zX255 bX255
            refine hK.out _ _ ?_ (fun hHeld => ?_)
            · (try dsimp only); exact ⟨row_cell r257.out 0, row_cell r257.out 1, row_cell r257.out 2, row_cell r257.out 3, row_cell r257.out 4, row_cell r258.out 0, row_cell r258.out 1, row_cell r259.out 0, row_cell r259.out 1⟩
            clear hK K
            try simp only [lgA, lgB, lgC, Act.put, lsA, lsB, lsC]
            refine wpAnyH_ready (rs := [13]) (by kernel_rfl) (by simp) ?_
            refine (AllReadyH.cons rfl (fun K hK => ?_) AllReadyH.nil)
            go_simp
            go_at_call 47
            with_reducible refine (CPl.out X255).mono ?_
            rintro e X263 ⟨rfl, DbX263⟩
            have r264 := hid (row_on r257.out DbX263.out)
            have r265 := hid (row_on r258.out DbX263.out)
            have r266 := hid (row_on r259.out DbX263.out)
            have r267 := hid (row_on ZX255.out DbX263.out)
            have DX263 := hid (btr DX255.out DbX263.out)
            have UX263 := hid (DX255.out.size)
            (try go_wp2_with fail)
            refine hK.out _ _ ?_ (fun hHeld => ?_)
            · (try dsimp only); exact ⟨row_cell r264.out 0, row_cell r264.out 1, row_cell r264.out 2, row_cell r264.out 3, row_cell r264.out 4, row_cell r265.out 0, row_cell r265.out 1, row_cell r266.out 0, row_cell r266.out 1⟩
            clear hK K
            try simp only [lgA, lgB, lgC, Act.put, lsA, lsB, lsC]
            refine' wpAnyH_take (i := 14) rfl (by kernel_rfl) (by kernel_rfl) (by kernel_rfl) (fun _ _ _ h => h) (Or.inl ⟨by kernel_rfl, ?_⟩) (by assumption) ?_
            rotate_left
            · (intro w hSw; (try dsimp only at hSw); go_simp; try (with_reducible rfl))
            try simp only [lgA, lgB, lgC, Act.put, lsA, lsB, lsC]
            refine wpAnyH_ready (rs := [16]) (by kernel_rfl) (by simp) ?_
            refine (AllReadyH.cons rfl (fun K hK => ?_) AllReadyH.nil)
            refine step_store_row (by rfl) 55 (.tmp 11) (.tmp 72) (by rfl) g256 #[.int .i64 0, .int .u64 (hiW v1), .int .u64 (loW v1), .int .u64 (hiW v3), .int .u64 (loW v3)] (by rfl) (by rfl) 55 _ r267.out infoPo (by rfl) (by simp [Value.oneCell']) ?_
            obtain ⟨Y268, hY268⟩ : ∃ Y, X263.setRow g256 #[.int .i64 0, .int .u64 (hiW v1), .int .u64 (loW v1), .int .u64 (hiW v3), .int .u64 (loW v3)] = Y := ⟨_, rfl⟩
            have KY268 := hid (show Kp (fun j => j = g256) X263 Y268 from by rw [← hY268]; exact setRow_kp _ _ _)
            have AY268 := hid (show Y268.heap[g256]? = some (.cells #[.int .i64 0, .int .u64 (hiW v1), .int .u64 (loW v1), .int .u64 (hiW v3), .int .u64 (loW v3)] 55 (0, 0)) from by rw [← hY268]; exact setRow_heap X263 g256 _ _ 55 (0, 0) r267.out)
            have DY268 := hid (show Below V5.heap.size V5 Y268 from by rw [← hY268]; exact setRow_below DX263.out yg256)
            have r269 := hid (KY268.out.row r264.out (fun e => n260.symm e))
            have r270 := hid (KY268.out.row r265.out (fun e => n261.symm e))
            have r271 := hid (KY268.out.row r266.out (fun e => n262.symm e))
            rw [hY268]
            refine hK.out _ _ ?_ (fun hHeld => ?_)
            · (try dsimp only); exact ⟨row_cell r269.out 0, row_cell r269.out 1, row_cell r269.out 2, row_cell r269.out 3, row_cell r269.out 4, row_cell r270.out 0, row_cell r270.out 1, row_cell r271.out 0, row_cell r271.out 1⟩
            clear hK K hY268
            try simp only [lgA, lgB, lgC, Act.put, lsA, lsB, lsC]
            refine wpAnyH_done (by kernel_rfl) ?_ _
            exact ⟨g256, by kernel_rfl, DY268, hid yg256, AY268⟩
        · go_simp
          obtain ⟨X272, hX272⟩ : ∃ X, X231.alloc (.cells #[.int .i64 0, .int .u64 0, .int .u64 0, .int .u64 0, .int .u64 0] 55) = X := ⟨_, rfl⟩
          have bX272 : Below X231.heap.size X231 X272 := by rw [← hX272]; exact ball _ _
          have r274 := hid (row_on r232.out bX272)
          have r275 := hid (row_on r233.out bX272)
          have r276 := hid (row_on r234.out bX272)
          have DX272 := hid (btr DX231.out bX272)
          have zX272 : X272.heap[X231.heap.size]? = some (.cells #[.int .i64 0, .int .u64 0, .int .u64 0, .int .u64 0, .int .u64 0] 55 (0, 0)) := by rw [← hX272]; exact World.alloc_heap_new _ _
          have yg273 := DX231.out.size
          obtain ⟨g273, hg273⟩ : ∃ g, X231.heap.size = g := ⟨_, rfl⟩
          have n277 : g273 ≠ R := by have := row_lt r232.out; omega
          have n278 : g273 ≠ tc := by have := row_lt r233.out; omega
          have n279 : g273 ≠ tf := by have := row_lt r234.out; omega
          rw [hg273] at zX272 yg273
          have ZX272 := hid zX272
          rw [hX272, hg273]
          clear hX272 hg273 zX272 bX272
          refine hK.out _ _ ?_ (fun hHeld => ?_)
          · (try dsimp only); exact ⟨row_cell r274.out 0, row_cell r274.out 1, row_cell r274.out 2, row_cell r274.out 3, row_cell r274.out 4, row_cell r275.out 0, row_cell r275.out 1, row_cell r276.out 0, row_cell r276.out 1⟩
          clear hK K
          try simp only [lgA, lgB, lgC, Act.put, lsA, lsB, lsC]
          refine wpAnyH_ready (rs := [12]) (by kernel_rfl) (by simp) ?_
          refine (AllReadyH.cons rfl (fun K hK => ?_) AllReadyH.nil)
          go_simp
          go_at_call 45
          with_reducible refine (CL2.out X272).mono ?_
          rintro e X280 ⟨rfl, DbX280⟩
          have r281 := hid (row_on r274.out DbX280.out)
          have r282 := hid (row_on r275.out DbX280.out)
          have r283 := hid (row_on r276.out DbX280.out)
          have r284 := hid (row_on ZX272.out DbX280.out)
          have DX280 := hid (btr DX272.out DbX280.out)
          have UX280 := hid (DX272.out.size)
          (try go_wp2_with fail)
          refine hK.out _ _ ?_ (fun hHeld => ?_)
          · (try dsimp only); exact ⟨row_cell r281.out 0, row_cell r281.out 1, row_cell r281.out 2, row_cell r281.out 3, row_cell r281.out 4, row_cell r282.out 0, row_cell r282.out 1, row_cell r283.out 0, row_cell r283.out 1⟩
          clear hK K
          try simp only [lgA, lgB, lgC, Act.put, lsA, lsB, lsC]
          refine wpAnyH_ready (rs := [13]) (by kernel_rfl) (by simp) ?_
          refine (AllReadyH.cons rfl (fun K hK => ?_) AllReadyH.nil)
          go_simp
          go_at_call 47
          with_reducible refine (CPl.out X280).mono ?_
          rintro e X285 ⟨rfl, DbX285⟩
          have r286 := hid (row_on r281.out DbX285.out)
          have r287 := hid (row_on r282.out DbX285.out)
          have r288 := hid (row_on r283.out DbX285.out)
          have r289 := hid (row_on r284.out DbX285.out)
          have DX285 := hid (btr DX280.out DbX285.out)
          have UX285 := hid (DX280.out.size)
          (try go_wp2_with fail)
          refine hK.out _ _ ?_ (fun hHeld => ?_)
          · (try dsimp only); exact ⟨row_cell r286.out 0, row_cell r286.out 1, row_cell r286.out 2, row_cell r286.out 3, row_cell r286.out 4, row_cell r287.out 0, row_cell r287.out 1, row_cell r288.out 0, row_cell r288.out 1⟩
          clear hK K
          try simp only [lgA, lgB, lgC, Act.put, lsA, lsB, lsC]
          refine' wpAnyH_take (i := 14) rfl (by kernel_rfl) (by kernel_rfl) (by kernel_rfl) (fun _ _ _ h => h) (Or.inl ⟨by kernel_rfl, ?_⟩) (by assumption) ?_
          rotate_left
          · (intro w hSw; (try dsimp only at hSw); go_simp; try (with_reducible rfl))
          try simp only [lgA, lgB, lgC, Act.put, lsA, lsB, lsC]
          refine wpAnyH_ready (rs := [16]) (by kernel_rfl) (by simp) ?_
          refine (AllReadyH.cons rfl (fun K hK => ?_) AllReadyH.nil)
          refine step_store_row (by rfl) 55 (.tmp 11) (.tmp 72) (by rfl) g273 #[.int .i64 0, .int .u64 (hiW v1), .int .u64 (loW v1), .int .u64 (hiW v3), .int .u64 (loW v3)] (by rfl) (by rfl) 55 _ r289.out infoPo (by rfl) (by simp [Value.oneCell']) ?_
          obtain ⟨Y290, hY290⟩ : ∃ Y, X285.setRow g273 #[.int .i64 0, .int .u64 (hiW v1), .int .u64 (loW v1), .int .u64 (hiW v3), .int .u64 (loW v3)] = Y := ⟨_, rfl⟩
          have KY290 := hid (show Kp (fun j => j = g273) X285 Y290 from by rw [← hY290]; exact setRow_kp _ _ _)
          have AY290 := hid (show Y290.heap[g273]? = some (.cells #[.int .i64 0, .int .u64 (hiW v1), .int .u64 (loW v1), .int .u64 (hiW v3), .int .u64 (loW v3)] 55 (0, 0)) from by rw [← hY290]; exact setRow_heap X285 g273 _ _ 55 (0, 0) r289.out)
          have DY290 := hid (show Below V5.heap.size V5 Y290 from by rw [← hY290]; exact setRow_below DX285.out yg273)
          have r291 := hid (KY290.out.row r286.out (fun e => n277.symm e))
          have r292 := hid (KY290.out.row r287.out (fun e => n278.symm e))
          have r293 := hid (KY290.out.row r288.out (fun e => n279.symm e))
          rw [hY290]
          refine hK.out _ _ ?_ (fun hHeld => ?_)
          · (try dsimp only); exact ⟨row_cell r291.out 0, row_cell r291.out 1, row_cell r291.out 2, row_cell r291.out 3, row_cell r291.out 4, row_cell r292.out 0, row_cell r292.out 1, row_cell r293.out 0, row_cell r293.out 1⟩
          clear hK K hY290
          try simp only [lgA, lgB, lgC, Act.put, lsA, lsB, lsC]
          refine wpAnyH_done (by kernel_rfl) ?_ _
          exact ⟨g273, by kernel_rfl, DY290, hid yg273, AY290⟩
      · go_simp
        obtain ⟨X294, hX294⟩ : ∃ X, V227.alloc (.cells #[.int .i64 0, .int .u64 0, .int .u64 0, .int .u64 0, .int .u64 0] 55) = X := ⟨_, rfl⟩
        have bX294 : Below V227.heap.size V227 X294 := by rw [← hX294]; exact ball _ _
        have r296 := hid (row_on r228.out bX294)
        have r297 := hid (row_on r229.out bX294)
        have r298 := hid (row_on r230.out bX294)
        have DX294 := hid (btr BV227.out bX294)
        have zX294 : X294.heap[V227.heap.size]? = some (.cells #[.int .i64 0, .int .u64 0, .int .u64 0, .int .u64 0, .int .u64 0] 55 (0, 0)) := by rw [← hX294]; exact World.alloc_heap_new _ _
        have yg295 := BV227.out.size
        obtain ⟨g295, hg295⟩ : ∃ g, V227.heap.size = g := ⟨_, rfl⟩
        have n299 : g295 ≠ R := by have := row_lt r228.out; omega
        have n300 : g295 ≠ tc := by have := row_lt r229.out; omega
        have n301 : g295 ≠ tf := by have := row_lt r230.out; omega
        rw [hg295] at zX294 yg295
        have ZX294 := hid zX294
        rw [hX294, hg295]
        clear hX294 hg295 zX294 bX294
        refine hK.out _ _ ?_ (fun hHeld => ?_)
        · (try dsimp only); exact ⟨row_cell r296.out 0, row_cell r296.out 1, row_cell r296.out 2, row_cell r296.out 3, row_cell r296.out 4, row_cell r297.out 0, row_cell r297.out 1, row_cell r298.out 0, row_cell r298.out 1⟩
        clear hK K
        try simp only [lgA, lgB, lgC, Act.put, lsA, lsB, lsC]
        refine wpAnyH_ready (rs := [7]) (by kernel_rfl) (by simp) ?_
        refine (AllReadyH.cons rfl (fun K hK => ?_) AllReadyH.nil)
        go_simp
        go_at_call 45
        with_reducible refine (CL1.out X294).mono ?_
        rintro e X302 ⟨rfl, DbX302⟩
        have r303 := hid (row_on r296.out DbX302.out)
        have r304 := hid (row_on r297.out DbX302.out)
        have r305 := hid (row_on r298.out DbX302.out)
        have r306 := hid (row_on ZX294.out DbX302.out)
        have DX302 := hid (btr DX294.out DbX302.out)
        have UX302 := hid (DX294.out.size)
        (try go_wp2_with fail)
        refine hK.out _ _ ?_ (fun hHeld => ?_)
        · (try dsimp only); exact ⟨row_cell r303.out 0, row_cell r303.out 1, row_cell r303.out 2, row_cell r303.out 3, row_cell r303.out 4, row_cell r304.out 0, row_cell r304.out 1, row_cell r305.out 0, row_cell r305.out 1⟩
        clear hK K
        try simp only [lgA, lgB, lgC, Act.put, lsA, lsB, lsC]
        refine wpAnyH_ready (rs := [12]) (by kernel_rfl) (by simp) ?_
        refine (AllReadyH.cons rfl (fun K hK => ?_) AllReadyH.nil)
        go_simp
        go_at_call 45
        with_reducible refine (CL2.out X302).mono ?_
        rintro e X307 ⟨rfl, DbX307⟩
        have r308 := hid (row_on r303.out DbX307.out)
        have r309 := hid (row_on r304.out DbX307.out)
        have r310 := hid (row_on r305.out DbX307.out)
        have r311 := hid (row_on r306.out DbX307.out)
        have DX307 := hid (btr DX302.out DbX307.out)
        have UX307 := hid (DX302.out.size)
        (try go_wp2_with fail)
        refine hK.out _ _ ?_ (fun hHeld => ?_)
        · (try dsimp only); exact ⟨row_cell r308.out 0, row_cell r308.out 1, row_cell r308.out 2, row_cell r308.out 3, row_cell r308.out 4, row_cell r309.out 0, row_cell r309.out 1, row_cell r310.out 0, row_cell r310.out 1⟩
        clear hK K
        try simp only [lgA, lgB, lgC, Act.put, lsA, lsB, lsC]
        refine wpAnyH_ready (rs := [13]) (by kernel_rfl) (by simp) ?_
        refine (AllReadyH.cons rfl (fun K hK => ?_) AllReadyH.nil)
        go_simp
        go_at_call 47
        with_reducible refine (CPl.out X307).mono ?_
        rintro e X312 ⟨rfl, DbX312⟩
        have r313 := hid (row_on r308.out DbX312.out)
        have r314 := hid (row_on r309.out DbX312.out)
        have r315 := hid (row_on r310.out DbX312.out)
        have r316 := hid (row_on r311.out DbX312.out)
        have DX312 := hid (btr DX307.out DbX312.out)
        have UX312 := hid (DX307.out.size)
        (try go_wp2_with fail)
        refine hK.out _ _ ?_ (fun hHeld => ?_)
        · (try dsimp only); exact ⟨row_cell r313.out 0, row_cell r313.out 1, row_cell r313.out 2, row_cell r313.out 3, row_cell r313.out 4, row_cell r314.out 0, row_cell r314.out 1, row_cell r315.out 0, row_cell r315.out 1⟩
        clear hK K
        try simp only [lgA, lgB, lgC, Act.put, lsA, lsB, lsC]
        refine' wpAnyH_take (i := 14) rfl (by kernel_rfl) (by kernel_rfl) (by kernel_rfl) (fun _ _ _ h => h) (Or.inl ⟨by kernel_rfl, ?_⟩) (by assumption) ?_
        rotate_left
        · (intro w hSw; (try dsimp only at hSw); go_simp; try (with_reducible rfl))
        try simp only [lgA, lgB, lgC, Act.put, lsA, lsB, lsC]
        refine wpAnyH_ready (rs := [16]) (by kernel_rfl) (by simp) ?_
        refine (AllReadyH.cons rfl (fun K hK => ?_) AllReadyH.nil)
        refine step_store_row (by rfl) 55 (.tmp 11) (.tmp 72) (by rfl) g295 #[.int .i64 0, .int .u64 (hiW v1), .int .u64 (loW v1), .int .u64 (hiW v3), .int .u64 (loW v3)] (by rfl) (by rfl) 55 _ r316.out infoPo (by rfl) (by simp [Value.oneCell']) ?_
        obtain ⟨Y317, hY317⟩ : ∃ Y, X312.setRow g295 #[.int .i64 0, .int .u64 (hiW v1), .int .u64 (loW v1), .int .u64 (hiW v3), .int .u64 (loW v3)] = Y := ⟨_, rfl⟩
        have KY317 := hid (show Kp (fun j => j = g295) X312 Y317 from by rw [← hY317]; exact setRow_kp _ _ _)
        have AY317 := hid (show Y317.heap[g295]? = some (.cells #[.int .i64 0, .int .u64 (hiW v1), .int .u64 (loW v1), .int .u64 (hiW v3), .int .u64 (loW v3)] 55 (0, 0)) from by rw [← hY317]; exact setRow_heap X312 g295 _ _ 55 (0, 0) r316.out)
        have DY317 := hid (show Below V5.heap.size V5 Y317 from by rw [← hY317]; exact setRow_below DX312.out yg295)
        have r318 := hid (KY317.out.row r313.out (fun e => n299.symm e))
        have r319 := hid (KY317.out.row r314.out (fun e => n300.symm e))
        have r320 := hid (KY317.out.row r315.out (fun e => n301.symm e))
        rw [hY317]
        refine hK.out _ _ ?_ (fun hHeld => ?_)
        · (try dsimp only); exact ⟨row_cell r318.out 0, row_cell r318.out 1, row_cell r318.out 2, row_cell r318.out 3, row_cell r318.out 4, row_cell r319.out 0, row_cell r319.out 1, row_cell r320.out 0, row_cell r320.out 1⟩
        clear hK K hY317
        try simp only [lgA, lgB, lgC, Act.put, lsA, lsB, lsC]
        refine wpAnyH_done (by kernel_rfl) ?_ _
        exact ⟨g295, by kernel_rfl, DY317, hid yg295, AY317⟩
    rintro tn V6 ⟨B6, LN, GN⟩
    try simp only [lgA, lgB, lgC, Act.put, lsA, lsB, lsC]
    have NE := hid (show R + 1 + 1 < tn from by have h1 := row_lt (row_on HRC.out (btr D2.out (btr B4.out B5.out))); have h2 := LN.out; omega)
    have BB6 := hid (btr D2.out (btr B4.out (btr B5.out B6.out)))
    have HRB6 := hid (row_on HRB.out BB6.out)
    have GF6 := hid (row_on GF.out B6.out)
    have HRC6 := hid (row_on HRC.out BB6.out)
    go_upto_region 12 with fail
    obtain ⟨V7, hV7⟩ : ∃ U, V6.drew = U := ⟨_, rfl⟩
    have D7 := hid (show Below V6.heap.size V6 V7 from by rw [← hV7]; exact bdrew1 _)
    have HS := hid (show ∀ U, Below V6.heap.size V6 U → U.cell? ⟨tn, 0, none⟩ = some (.int .i64 0) ∧ U.cell? ⟨tn, 1, none⟩ = some (.int .u64 (hiW v1)) ∧ U.cell? ⟨tn, 2, none⟩ = some (.int .u64 (loW v1)) ∧ U.cell? ⟨tn, 3, none⟩ = some (.int .u64 (hiW v3)) ∧ U.cell? ⟨tn, 4, none⟩ = some (.int .u64 (loW v3)) ∧ U.cell? ⟨R + 1, 0, none⟩ = some (.int .u64 (hiW money)) ∧ U.cell? ⟨R + 1, 1, none⟩ = some (.int .u64 (loW money)) ∧ U.cell? ⟨tf, 0, none⟩ = some (.int .u64 (hiW flow)) ∧ U.cell? ⟨tf, 1, none⟩ = some (.int .u64 (loW flow)) from fun U hU => ⟨row_cell (row_on GN.out hU) 0, row_cell (row_on GN.out hU) 1, row_cell (row_on GN.out hU) 2, row_cell (row_on GN.out hU) 3, row_cell (row_on GN.out hU) 4, row_cell (row_on HRB6.out hU) 0, row_cell (row_on HRB6.out hU) 1, row_cell (row_on GF6.out hU) 0, row_cell (row_on GF6.out hU) 1⟩)
    refine wp_region_held_drew (S := fun U => U.cell? ⟨tn, 0, none⟩ = some (.int .i64 0) ∧ U.cell? ⟨tn, 1, none⟩ = some (.int .u64 (hiW v1)) ∧ U.cell? ⟨tn, 2, none⟩ = some (.int .u64 (loW v1)) ∧ U.cell? ⟨tn, 3, none⟩ = some (.int .u64 (hiW v3)) ∧ U.cell? ⟨tn, 4, none⟩ = some (.int .u64 (loW v3)) ∧ U.cell? ⟨R + 1, 0, none⟩ = some (.int .u64 (hiW money)) ∧ U.cell? ⟨R + 1, 1, none⟩ = some (.int .u64 (loW money)) ∧ U.cell? ⟨tf, 0, none⟩ = some (.int .u64 (hiW flow)) ∧ U.cell? ⟨tf, 1, none⟩ = some (.int .u64 (loW flow))) (by kernel_rfl) ?_ (fun hHeld => ?_)
    · (try dsimp only); rw [hV7]; exact HS.out _ D7.out
    rw [hV7] at hHeld ⊢
    clear hV7
    refine' wpAnyH_take (i := 0) rfl (by kernel_rfl) (by kernel_rfl) (by kernel_rfl) (fun _ _ _ h => h) (Or.inl ⟨by kernel_rfl, ?_⟩) (by assumption) ?_
    rotate_left
    · (intro w hSw; (try dsimp only at hSw); go_simp; try (with_reducible rfl))
    try simp only [lgA, lgB, lgC, Act.put, lsA, lsB, lsC]
    refine' wpAnyH_take (i := 1) rfl (by kernel_rfl) (by kernel_rfl) (by kernel_rfl) (fun _ _ _ h => h) (Or.inl ⟨by kernel_rfl, ?_⟩) (by assumption) ?_
    rotate_left
    · (intro w hSw; (try dsimp only at hSw); go_simp; try (with_reducible rfl))
    try simp only [lgA, lgB, lgC, Act.put, lsA, lsB, lsC]
    refine' wpAnyH_take (i := 2) rfl (by kernel_rfl) (by kernel_rfl) (by kernel_rfl) (fun _ _ _ h => h) (Or.inl ⟨by kernel_rfl, ?_⟩) (by assumption) ?_
    rotate_left
    · (intro w hSw; (try dsimp only at hSw); go_simp; try (with_reducible rfl))
    try simp only [lgA, lgB, lgC, Act.put, lsA, lsB, lsC]
    refine' wpAnyH_take (i := 3) rfl (by kernel_rfl) (by kernel_rfl) (by kernel_rfl) (fun _ _ _ h => h) (Or.inl ⟨by kernel_rfl, ?_⟩) (by assumption) ?_
    rotate_left
    · (intro w hSw; (try dsimp only at hSw); go_simp; try (with_reducible rfl))
    try simp only [lgA, lgB, lgC, Act.put, lsA, lsB, lsC]
    refine' wpAnyH_take (i := 4) rfl (by kernel_rfl) (by kernel_rfl) (by kernel_rfl) (fun _ _ _ h => h) (Or.inl ⟨by kernel_rfl, ?_⟩) (by assumption) ?_
    rotate_left
    · (intro w hSw; (try dsimp only at hSw); go_simp; try (with_reducible rfl))
    try simp only [lgA, lgB, lgC, Act.put, lsA, lsB, lsC]
    refine' wpAnyH_take (i := 5) rfl (by kernel_rfl) (by kernel_rfl) (by kernel_rfl) (fun _ _ _ h => h) (Or.inl ⟨by kernel_rfl, ?_⟩) (by assumption) ?_
    rotate_left
    · (intro w hSw; (try dsimp only at hSw); go_simp; try (with_reducible rfl))
    try simp only [lgA, lgB, lgC, Act.put, lsA, lsB, lsC]
    refine wpAnyH_ready (rs := [6]) (by kernel_rfl) (by simp) ?_
    refine (AllReadyH.cons rfl (fun K hK => ?_) AllReadyH.nil)
    go_simp
    go_at_call 45
    with_reducible refine (CL3.out V7).mono ?_
    rintro e V8 ⟨rfl, hb⟩
    have D8 := hid (btr D7.out hb.out)
    clear hb
    (try go_wp2_with fail)
    refine hK.out _ _ ?_ (fun hHeld => ?_)
    · (try dsimp only); exact HS.out _ D8.out
    clear hK K
    try simp only [lgA, lgB, lgC, Act.put, lsA, lsB, lsC]
    refine wpAnyH_ready (rs := [7]) (by kernel_rfl) (by simp) ?_
    refine (AllReadyH.cons rfl (fun K hK => ?_) AllReadyH.nil)
    go_simp
    go_at_call 29
    with_reducible refine (CBO.out V8).mono ?_
    rintro e V9 ⟨rfl, hb⟩
    have D9 := hid (btr D8.out hb.out)
    clear hb
    (try go_wp2_with fail)
    refine hK.out _ _ ?_ (fun hHeld => ?_)
    · (try dsimp only); exact HS.out _ D9.out
    clear hK K
    try simp only [lgA, lgB, lgC, Act.put, lsA, lsB, lsC]
    refine wpAnyH_ready (rs := [8]) (by kernel_rfl) (by simp) ?_
    refine (AllReadyH.cons rfl (fun K hK => ?_) AllReadyH.nil)
    have hrow := row_on HRC6.out D9.out
    refine step_store_row (by rfl) 55 (.tmp 6) (.tmp 84) (by rfl) (R + 1 + 1) #[.int .i64 dq, .int .u64 (hiW v5), .int .u64 (loW v5), .int .u64 (hiW v3), .int .u64 (loW v3)] (by rfl) (by rfl) 55 _ hrow infoPo (by rfl) (by simp [Value.oneCell']) ?_
    obtain ⟨Y9, hY9⟩ : ∃ Y, V9.setRow (R + 1 + 1) #[.int .i64 dq, .int .u64 (hiW v5), .int .u64 (loW v5), .int .u64 (hiW v3), .int .u64 (loW v3)] = Y := ⟨_, rfl⟩
    have GY := hid (show Y9.heap[R + 1 + 1]? = some (.cells #[.int .i64 dq, .int .u64 (hiW v5), .int .u64 (loW v5), .int .u64 (hiW v3), .int .u64 (loW v3)] 55 (0, 0)) from by rw [← hY9]; exact setRow_heap _ _ _ _ 55 (0, 0) hrow)
    have KY := hid (show Kp (fun j => j = R + 1 + 1) V9 Y9 from by rw [← hY9]; exact setRow_kp _ _ _)
    have BY9 := hid (show Below w.heap.size w Y9 from by rw [← hY9]; exact setRow_below (btr HBC.out (btr BB6.out D9.out)) (by have := HR.out; omega))
    have RN9 := hid (KY.out.row (row_on GN.out D9.out) (fun e => by have := NE.out; omega))
    have RB9 := hid (KY.out.row (row_on HRB6.out D9.out) (fun e => by omega))
    have RF9 := hid (KY.out.row (row_on GF6.out D9.out) (fun e => by subst e; have h1 := HRC6.out; rw [GF6.out] at h1; cases h1))
    rw [hY9]
    clear hY9 hrow
    refine hK.out _ _ ?_ (fun hHeld => ?_)
    · (try dsimp only); exact ⟨row_cell RN9.out 0, row_cell RN9.out 1, row_cell RN9.out 2, row_cell RN9.out 3, row_cell RN9.out 4, row_cell RB9.out 0, row_cell RB9.out 1, row_cell RF9.out 0, row_cell RF9.out 1⟩
    clear hK K
    try simp only [lgA, lgB, lgC, Act.put, lsA, lsB, lsC]
    refine wpAnyH_done (by kernel_rfl) ?_ _
    go_wp2
    exact bodyPost_ret (results_cell_row (fn := Try.f29) Try.results29 _ _ (R + 1 + 1) 55 #[.int .i64 dq, .int .u64 (hiW v5), .int .u64 (loW v5), .int .u64 (hiW v3), .int .u64 (loW v3)] (0, 0) _ (by rfl) GY.out Try.underlying55 rfl infoPo) rfl ⟨rfl, BY9.out⟩
end Go.Proofs.Ytphhllppgelceaa.Ac
