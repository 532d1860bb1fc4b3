/-
  FeedDepths: the walk.
-/
import Derived.Test.YtojmcfkbekodpaaShE
import Derived.Test.YtojmcfkbekodpaaFgH
namespace Go.Proofs.Ytojmcfkbekodpaa
open Go.RowKit Go.Deep Go.Shelf
set_option linter.unusedVariables false
set_option linter.unusedSimpArgs false
set_option maxHeartbeats 16000000
set_option maxRecDepth 100000
attribute [local go_sem ↓] Go.wp_at_zero Go.wp_at_succ
theorem depths_g (d e : Nat) (more : Int) (d1 : 1 ≤ d) (d2 : d ≤ 64) (e2 : e ≤ 64) (hm0 : 64 < more) (hme : d = e) (cap meet : Int) (hcf : cfg cap meet = true) (q : Option Addr) (c0 : Nat) (l : List Cm) (W : World) (hl : Cmz W q l) (hok : ∀ c ∈ l, CmOk c) (hm : l.length ≤ 1048576) :
    Calls Try.prog 6 #[.int .i64 d, .int .i64 more, .agg #[.int .i64 cap, .int .i64 meet], .slice q l.length c0] W fun e w' => e = .returned (.bool true) ∧ Below W.heap.size W w' := by
  have hde : d ≤ e := by omega
  have f1 : decide (more < 0) = false := by simp; omega
  have f2 : decide (64 < more) = true := by simp; omega
  subst hme
  have f5 : decide (64 < (d : Int)) = false := by simp; omega
  have f6 : decide (64 < d) = false := by simp; omega
  have f7 : IntKind.i64.wrap (d : Int) = (d : Int) := by rw [IntKind.wrap_i64]; omega
  have HW := hid (World.alloc_heap_new W (.cells #[.int .i64 cap, .int .i64 meet] 23))
  have HB0 := hid (ball W (.cells #[.int .i64 cap, .int .i64 meet] 23))
  obtain ⟨W1, hW⟩ : ∃ W1, W.alloc (.cells #[.int .i64 cap, .int .i64 meet] 23) = W1 := ⟨_, rfl⟩
  rw [hW] at HW HB0
  have CL := hid (Fd.lives_ok W1)
  have CS := hid (show ∀ (k : Nat) (U : World), 1 ≤ k → k ≤ 64 → Below W.heap.size W U → Calls Try.prog 15 #[.int .i64 k, .agg #[.int .i64 cap, .int .i64 meet], .slice q l.length c0] U _ from fun k U k1 k2 hU => shown_ok k k1 k2 cap meet hcf q c0 l U (fun i hi => by
    obtain ⟨b, off, h1, h2, h3⟩ := hl i hi
    refine ⟨b, off, h1, Nat.lt_of_lt_of_le h2 hU.size, fun j hj => ?_⟩
    have h := h3 j hj
    have hlen : j < (cmr l[i]).size := by show j < 9; exact hj
    rw [Array.getElem?_eq_getElem hlen] at h ⊢
    exact (hU.cell (p := ⟨b, off + i * 9 + j, none⟩) h2).trans h) hok hm)
  obtain ⟨n, hnn⟩ : ∃ n, l.length = n := ⟨_, rfl⟩
  rw [hnn] at hm ⊢
  rw [hnn] at CS
  have hm' : n < 9223372036854775808 := by omega
  have HE := hid hW
  clear hW hl hok hnn hcf
  go_enter Try.func6, Try.ntmps6
  go_upto_region 1 with fail
  rw [HE.out]
  go_upto_region 5 with (go_at_call 7; with_reducible refine (CL.out).mono ?_; rintro e w1 ⟨rfl, hb⟩; have HB1 := hid hb; clear hb)
  have CS1 := hid (CS.out d w1 (by omega) (by omega) (btr HB0.out HB1.out))
  have k0 := row_cell (row_on HW.out HB1.out) 0
  have k1 := row_cell (row_on HW.out HB1.out) 1
  simp only [List.getElem?_toArray, List.getElem?_cons_succ, List.getElem?_cons_zero] at k0 k1
  go_upto_region 10 with (go_at_call 15; with_reducible refine (CS1.out).mono ?_; rintro e w2 ⟨lo1, S1, B1, P1, dq1, dc1, D1, pq1, pc1, L1, b1, rfl, h1, h2, h3, h4, h5⟩; have V1 := hid h1; have Y1 := hid h2; have N1 := hid h3; have M1 := hid h4; have HB2 := hid h5; clear h1 h2 h3 h4 h5)
  have CS2 := hid (CS.out d w2 (by omega) (by omega) (btr (btr HB0.out HB1.out) HB2.out))
  clear k0 k1
  have k0 := row_cell (row_on HW.out (btr HB1.out HB2.out)) 0
  have k1 := row_cell (row_on HW.out (btr HB1.out HB2.out)) 1
  simp only [List.getElem?_toArray, List.getElem?_cons_succ, List.getElem?_cons_zero] at k0 k1
  clear CS CS1
  go_upto_region 11 with (go_at_call 15; with_reducible refine (CS2.out).mono ?_; rintro e w3 ⟨lo2, S2, B2, P2, dq2, dc2, D2, pq2, pc2, L2, b2, rfl, h1, h2, h3, h4, h5⟩; have V2 := hid h1; have Y2 := hid h2; have N2 := hid h3; have M2 := hid h4; have HB3 := hid h5; clear h1 h2 h3 h4 h5)
  have TW := hid (ply_two hde Y1.out Y2.out rfl)
  have V1' := hid (V1.out.on HB3.out)
  have HBB := hid (btr (btr (btr HB0.out HB1.out) HB2.out) HB3.out)
  obtain ⟨na, hna⟩ : ∃ t, D1.length = t := ⟨_, rfl⟩
  obtain ⟨nb, hnb⟩ : ∃ t, D2.length = t := ⟨_, rfl⟩
  obtain ⟨p, hp⟩ : ∃ t, n + 1 = t := ⟨_, rfl⟩
  have hL1 : L1.length = p := by rw [← hp]; exact M1.out
  have hL2 : L2.length = p := by rw [← hp]; exact M2.out
  have hna' : na ≤ 2300000 * 1048576 := by have := N1.out; rw [hna] at this; omega
  have hnb' : nb ≤ 2300000 * 1048576 := by have := N2.out; rw [hnb] at this; omega
  have hp' : p ≤ 1048577 := by omega
  have HR1 := hid V1'.out.row
  have HR2 := hid V2.out.row
  rw [hna, hL1] at HR1
  rw [hnb, hL2] at HR2
  have HNA := hid hna
  have HNB := hid hnb
  have HL1 := hid hL1
  have HL2 := hid hL2
  have HDE := hid hde
  clear k0 k1 hna hnb hp hL1 hL2 CS2 HW HE CL V1 Y1 Y2 N1 N2 M1 M2 HB1 HB2 HB3 f1 f2 f5 f6 f7 hm0 e2 d1 hm
  have x2 := row_cell HR1.out 2
  have x3 := row_cell HR1.out 3
  have y2 := row_cell HR2.out 2
  have y3 := row_cell HR2.out 3
  simp only [List.getElem?_toArray, List.getElem?_cons_succ, List.getElem?_cons_zero] at x2 x3 y2 y3
  go_upto_region 11 with fail
  go_big_quiet (fail)
  have B4 := hid (bdrew w3 nq)
  obtain ⟨w4, hw4⟩ : ∃ w, w3.drewN nq = w := ⟨_, rfl⟩
  rw [hw4] at B4 ⊢
  have VA := hid (V1'.out.on B4.out)
  have VB := hid (V2.out.on B4.out)
  have RA := hid (row_on HR1.out B4.out)
  have RB := hid (row_on HR2.out B4.out)
  have HBC := hid (btr HBB.out B4.out)
  clear hw4 x2 x3 y2 y3 B4 HBB HR1 HR2 V1' V2
  go_wp2
  go_loopw [13] (fun iv wr => ∃ (i : Nat), i ≤ p ∧ iv = .int .i64 i ∧ Hid (Below w4.heap.size w4 wr)) (fun iv _ => p - (intOf iv).toNat)
  case atStart => exact ⟨0, Nat.zero_le _, rfl, Below.refl _ _⟩
  case round =>
    obtain ⟨i, hip, rfl, HB⟩ := hrel
    have RA' := hid (row_on RA.out HB.out)
    have RB' := hid (row_on RB.out HB.out)
    have x2 := row_cell RA'.out 2
    have x3 := row_cell RA'.out 3
    have y2 := row_cell RB'.out 2
    have y3 := row_cell RB'.out 3
    simp only [List.getElem?_toArray, List.getElem?_cons_succ, List.getElem?_cons_zero] at x2 x3 y2 y3
    by_cases hlt : i < p
    · as_aux_lemma =>
        have hi1 : i < L1.length := by rw [HL1.out]; exact hlt
        have hi2 : i < L2.length := by rw [HL2.out]; exact hlt
        obtain ⟨g1, hpq1, hA⟩ := (VA.out.on HB.out).at hi1
        obtain ⟨g2, hpq2, hB⟩ := (VB.out.on HB.out).at hi2
        have hlA := (VA.out.on HB.out).lvs hi1
        have hlB := (VB.out.on HB.out).lvs hi2
        have hT := TW.out.pic i (by rw [List.length_map]; exact hi1) (by rw [List.length_map]; exact hi2)
        rw [List.getElem_map, List.getElem_map] at hT
        obtain ⟨X, hX⟩ : ∃ x, L1[i] = x := ⟨_, rfl⟩
        obtain ⟨Z, hZ⟩ : ∃ x, L2[i] = x := ⟨_, rfl⟩
        rw [hX] at hA hlA hT
        rw [hZ] at hB hlB hT
        obtain ⟨sx, p1, c1, l1, p2, c2, l2⟩ := X
        obtain ⟨sz, q1, e1, m1, q2, e2, m2⟩ := Z
        simp only [Pic.pl] at hA hB hlA hlB hT
        obtain ⟨n1, hn1⟩ : ∃ t, l1.length = t := ⟨_, rfl⟩
        obtain ⟨n2, hn2⟩ : ∃ t, l2.length = t := ⟨_, rfl⟩
        obtain ⟨k1, hk1⟩ : ∃ t, m1.length = t := ⟨_, rfl⟩
        obtain ⟨k2, hk2⟩ : ∃ t, m2.length = t := ⟨_, rfl⟩
        rw [hn1, hn2] at hA
        rw [hk1, hk2] at hB
        have hmin1 : n1 = min d k1 := by rw [← hn1, hT.1, List.length_take, hk1]
        have hmin2 : n2 = min d k2 := by rw [← hn2, hT.2, List.length_take, hk2]
        have HEQ := hid (show m1.take n1 = l1 ∧ m2.take n2 = l2 from by
          constructor
          · rw [hT.1, hmin1]
            by_cases h : d ≤ k1
            · rw [Nat.min_eq_left h]
            · rw [Nat.min_eq_right (by omega), List.take_of_length_le (by omega), List.take_of_length_le (by omega)]
          · rw [hT.2, hmin2]
            by_cases h : d ≤ k2
            · rw [Nat.min_eq_left h]
            · rw [Nat.min_eq_right (by omega), List.take_of_length_le (by omega), List.take_of_length_le (by omega)])
        have HA := hid hA
        have HC := hid hB
        have HLA := hid hlA
        have HLB := hid hlB
        have cm1 := hlB.1.cap
        have cm2 := hlB.2.cap
        have cx1 := hlB.1.max
        have cx2 := hlB.2.max
        rw [hk1] at cm1
        rw [hk2] at cm2
        unfold maxLen at cx1 cx2
        have HN1 := hid hn1
        have HN2 := hid hn2
        have HMN := hid (And.intro hmin1 hmin2)
        have o1 : n1 ≤ k1 := by omega
        have o2 : n2 ≤ k2 := by omega
        clear hmin1 hmin2 hA hB hlA hlB hT hX hZ hn1 hn2 hk1 hk2 hi1 hi2
        subst hpq1 hpq2
        have i0' : (0 : Int) ≤ (i : Int) := by omega
        have i1 : (i : Int) < (p : Int) := by omega
        go_upto_region 16 with fail
        refine Fd.reg_cut (X := Nat × Nat) (fun a t => ((((((((((((((((a.put (some 83) (.pointer (some ⟨S1, 0, none⟩))).put (some 84) (.pointer (some ⟨S1, 0, none⟩))).put (some 85) (.pointer (some ⟨S1, 3, none⟩))).put (some 86) (.slice (some ⟨g1, 0, none⟩) p pc1)).put (some 87) (.int .i64 i)).put (some 88) (.pointer (some ⟨g1, i * 3, none⟩))).put (some 89) (.agg #[.int .u64 sx, .slice p1 n1 c1, .slice p2 n2 c2])).put (some 90) (.pointer (some ⟨S2, 0, none⟩))).put (some 91) (.pointer (some ⟨S2, 0, none⟩))).put (some 92) (.pointer (some ⟨S2, 3, none⟩))).put (some 93) (.slice (some ⟨g2, 0, none⟩) p pc2)).put (some 94) (.int .i64 i)).put (some 95) (.pointer (some ⟨g2, i * 3, none⟩))).put (some 96) (.agg #[.int .u64 sz, .slice q1 k1 e1, .slice q2 k2 e2])).put (some 14) (.pointer (some ⟨t.1, 0, none⟩))).put (some 15) (.pointer (some ⟨t.2, 0, none⟩)))) (fun t V => Hid (Below wr.heap.size wr V) ∧ Hid (V.heap[t.1]? = some (.cells #[.int .u64 sx, .slice p1 n1 c1, .slice p2 n2 c2] 49 (0, 0))) ∧ Hid (V.heap[t.2]? = some (.cells #[.int .u64 sz, .slice q1 k1 e1, .slice q2 k2 e2] 49 (0, 0)))) ?_ ?_
        · obtain ⟨V1, hV1⟩ : ∃ U, wr.drew = U := ⟨_, rfl⟩
          have BV1 := hid (show Below wr.heap.size wr V1 from by rw [← hV1]; exact bdrew1 _)
          have r2 := hid (row_on RA'.out BV1.out)
          have r3 := hid (row_on RB'.out BV1.out)
          refine wp_region_held_drew (S := (fun U => U.cell? ⟨S1, 3, none⟩ = some (.slice (some ⟨g1, 0, none⟩) p pc1) ∧ U.cell? ⟨S2, 3, none⟩ = some (.slice (some ⟨g2, 0, none⟩) p pc2) ∧ U.cell? ⟨g1, i * 3, none⟩ = some (.int .u64 sx) ∧ U.cell? ⟨g1, i * 3 + 1, none⟩ = some (.slice p1 n1 c1) ∧ U.cell? ⟨g1, i * 3 + 2, none⟩ = some (.slice p2 n2 c2) ∧ U.cell? ⟨g2, i * 3, none⟩ = some (.int .u64 sz) ∧ U.cell? ⟨g2, i * 3 + 1, none⟩ = some (.slice q1 k1 e1) ∧ U.cell? ⟨g2, i * 3 + 2, none⟩ = some (.slice q2 k2 e2))) (by kernel_rfl) ?_ (fun hHeld => ?_)
          · (try dsimp only); rw [hV1]; exact ⟨row_cell r2.out 3, row_cell r3.out 3, (HA.out _ BV1.out).1, (HA.out _ BV1.out).2.1, (HA.out _ BV1.out).2.2, (HC.out _ BV1.out).1, (HC.out _ BV1.out).2.1, (HC.out _ BV1.out).2.2⟩
          rw [hV1] at hHeld ⊢
          clear hV1
          refine' wpAnyH_take (i := 0) (oi := _) (v := _) rfl (by kernel_rfl) (by kernel_rfl) (by kernel_rfl) (fun _ _ _ h => h) (Or.inl ⟨by kernel_rfl, ?_⟩) (by assumption) ?_
          rotate_left
          · (intro w hSw; (try dsimp only at hSw); go_simp; try (with_reducible rfl))
          try simp only [List.getElem_toArray, List.getElem_cons_succ, List.getElem_cons_zero, Act.put, List.setIfInBounds_toArray, List.set_cons_zero, List.set_cons_succ]
          refine' wpAnyH_take (i := 1) (oi := _) (v := _) rfl (by kernel_rfl) (by kernel_rfl) (by kernel_rfl) (fun _ _ _ h => h) (Or.inl ⟨by kernel_rfl, ?_⟩) (by assumption) ?_
          rotate_left
          · (intro w hSw; (try dsimp only at hSw); go_simp; try (with_reducible rfl))
          try simp only [List.getElem_toArray, List.getElem_cons_succ, List.getElem_cons_zero, Act.put, List.setIfInBounds_toArray, List.set_cons_zero, List.set_cons_succ]
          refine' wpAnyH_take (i := 2) (oi := _) (v := _) rfl (by kernel_rfl) (by kernel_rfl) (by kernel_rfl) (fun _ _ _ h => h) (Or.inl ⟨by kernel_rfl, ?_⟩) (by assumption) ?_
          rotate_left
          · (intro w hSw; (try dsimp only at hSw); go_simp; try (with_reducible rfl))
          try simp only [List.getElem_toArray, List.getElem_cons_succ, List.getElem_cons_zero, Act.put, List.setIfInBounds_toArray, List.set_cons_zero, List.set_cons_succ]
          refine' wpAnyH_take (i := 3) (oi := _) (v := _) rfl (by kernel_rfl) (by kernel_rfl) (by kernel_rfl) (fun _ _ _ h => h) (Or.inl ⟨by kernel_rfl, ?_⟩) (by assumption) ?_
          rotate_left
          · (intro w hSw; (try dsimp only at hSw); go_simp; try (with_reducible rfl))
          try simp only [List.getElem_toArray, List.getElem_cons_succ, List.getElem_cons_zero, Act.put, List.setIfInBounds_toArray, List.set_cons_zero, List.set_cons_succ]
          refine' wpAnyH_take (i := 4) (oi := _) (v := _) rfl (by kernel_rfl) (by kernel_rfl) (by kernel_rfl) (fun _ _ _ h => h) (Or.inl ⟨by kernel_rfl, ?_⟩) (by assumption) ?_
          rotate_left
          · (intro w hSw; (try dsimp only at hSw); go_simp; try (with_reducible rfl))
          try simp only [List.getElem_toArray, List.getElem_cons_succ, List.getElem_cons_zero, Act.put, List.setIfInBounds_toArray, List.set_cons_zero, List.set_cons_succ]
          refine' wpAnyH_take (i := 5) (oi := _) (v := _) rfl (by kernel_rfl) (by kernel_rfl) (by kernel_rfl) (fun _ _ _ h => h) (Or.inl ⟨by kernel_rfl, ?_⟩) (by assumption) ?_
          rotate_left
          · (intro w hSw; (try dsimp only at hSw); go_simp; try (with_reducible rfl))
          try simp only [List.getElem_toArray, List.getElem_cons_succ, List.getElem_cons_zero, Act.put, List.setIfInBounds_toArray, List.set_cons_zero, List.set_cons_succ]
          refine' wpAnyH_take (i := 6) (oi := _) (v := _) rfl (by kernel_rfl) (by kernel_rfl) (by kernel_rfl) (fun _ _ _ h => h) (Or.inl ⟨by kernel_rfl, ?_⟩) (by assumption) ?_
          rotate_left
          · (intro w hSw; (try dsimp only at hSw); go_simp; try (with_reducible rfl))
          try simp only [List.getElem_toArray, List.getElem_cons_succ, List.getElem_cons_zero, Act.put, List.setIfInBounds_toArray, List.set_cons_zero, List.set_cons_succ]
          refine' wpAnyH_take (i := 7) (oi := _) (v := _) rfl (by kernel_rfl) (by kernel_rfl) (by kernel_rfl) (fun _ _ _ h => h) (Or.inl ⟨by kernel_rfl, ?_⟩) (by assumption) ?_
          rotate_left
          · (intro w hSw; (try dsimp only at hSw); go_simp; try (with_reducible rfl))
          try simp only [List.getElem_toArray, List.getElem_cons_succ, List.getElem_cons_zero, Act.put, List.setIfInBounds_toArray, List.set_cons_zero, List.set_cons_succ]
          refine' wpAnyH_take (i := 8) (oi := _) (v := _) rfl (by kernel_rfl) (by kernel_rfl) (by kernel_rfl) (fun _ _ _ h => h) (Or.inl ⟨by kernel_rfl, ?_⟩) (by assumption) ?_
          rotate_left
          · (intro w hSw; (try dsimp only at hSw); go_simp; try (with_reducible rfl))
          try simp only [List.getElem_toArray, List.getElem_cons_succ, List.getElem_cons_zero, Act.put, List.setIfInBounds_toArray, List.set_cons_zero, List.set_cons_succ]
          refine' wpAnyH_take (i := 9) (oi := _) (v := _) rfl (by kernel_rfl) (by kernel_rfl) (by kernel_rfl) (fun _ _ _ h => h) (Or.inl ⟨by kernel_rfl, ?_⟩) (by assumption) ?_
          rotate_left
          · (intro w hSw; (try dsimp only at hSw); go_simp; try (with_reducible rfl))
          try simp only [List.getElem_toArray, List.getElem_cons_succ, List.getElem_cons_zero, Act.put, List.setIfInBounds_toArray, List.set_cons_zero, List.set_cons_succ]
          refine' wpAnyH_take (i := 10) (oi := _) (v := _) rfl (by kernel_rfl) (by kernel_rfl) (by kernel_rfl) (fun _ _ _ h => h) (Or.inl ⟨by kernel_rfl, ?_⟩) (by assumption) ?_
          rotate_left
          · (intro w hSw; (try dsimp only at hSw); go_simp; try (with_reducible rfl))
          try simp only [List.getElem_toArray, List.getElem_cons_succ, List.getElem_cons_zero, Act.put, List.setIfInBounds_toArray, List.set_cons_zero, List.set_cons_succ]
          refine' wpAnyH_take (i := 11) (oi := _) (v := _) rfl (by kernel_rfl) (by kernel_rfl) (by kernel_rfl) (fun _ _ _ h => h) (Or.inl ⟨by kernel_rfl, ?_⟩) (by assumption) ?_
          rotate_left
          · (intro w hSw; (try dsimp only at hSw); go_simp; try (with_reducible rfl))
          try simp only [List.getElem_toArray, List.getElem_cons_succ, List.getElem_cons_zero, Act.put, List.setIfInBounds_toArray, List.set_cons_zero, List.set_cons_succ]
          refine' wpAnyH_take (i := 12) (oi := _) (v := _) rfl (by kernel_rfl) (by kernel_rfl) (by kernel_rfl) (fun _ _ _ h => h) (Or.inl ⟨by kernel_rfl, ?_⟩) (by assumption) ?_
          rotate_left
          · (intro w hSw; (try dsimp only at hSw); go_simp; try (with_reducible rfl))
          try simp only [List.getElem_toArray, List.getElem_cons_succ, List.getElem_cons_zero, Act.put, List.setIfInBounds_toArray, List.set_cons_zero, List.set_cons_succ]
          refine' wpAnyH_take (i := 13) (oi := _) (v := _) rfl (by kernel_rfl) (by kernel_rfl) (by kernel_rfl) (fun _ _ _ h => h) (Or.inl ⟨by kernel_rfl, ?_⟩) (by assumption) ?_
          rotate_left
          · (intro w hSw; (try dsimp only at hSw); go_simp; try (with_reducible rfl))
          try simp only [List.getElem_toArray, List.getElem_cons_succ, List.getElem_cons_zero, Act.put, List.setIfInBounds_toArray, List.set_cons_zero, List.set_cons_succ]
          refine wpAnyH_ready (rs := [14, 15]) (by kernel_rfl) (by simp) ?_
          refine (AllReadyH.cons (o := _) rfl (fun K hK => ?_) (AllReadyH.cons (o := _) rfl (fun K hK => ?_) AllReadyH.nil))
          · go_simp
            obtain ⟨X4, hX4⟩ : ∃ X, V1.alloc (.cells #[.int .u64 0, .slice none 0 0, .slice none 0 0] 49) = X := ⟨_, rfl⟩
            have bX4 : Below V1.heap.size V1 X4 := by rw [← hX4]; exact ball _ _
            have r6 := hid (row_on r2.out bX4)
            have r7 := hid (row_on r3.out bX4)
            have DX4 := hid (btr BV1.out bX4)
            have zX4 : X4.heap[V1.heap.size]? = some (.cells #[.int .u64 0, .slice none 0 0, .slice none 0 0] 49 (0, 0)) := by rw [← hX4]; exact World.alloc_heap_new _ _
            have yg5 := BV1.out.size
            obtain ⟨g5, hg5⟩ : ∃ g, V1.heap.size = g := ⟨_, rfl⟩
            have n8 : g5 ≠ S1 := by have := row_lt r2.out; omega
            have n9 : g5 ≠ S2 := by have := row_lt r3.out; omega
            rw [hg5] at zX4 yg5
            have ZX4 := hid zX4
            rw [hX4, hg5]
            clear hX4 hg5 zX4 bX4
            refine hK.out _ _ ?_ (fun hHeld => ?_)
            · (try dsimp only); exact ⟨row_cell r6.out 3, row_cell r7.out 3, (HA.out _ DX4.out).1, (HA.out _ DX4.out).2.1, (HA.out _ DX4.out).2.2, (HC.out _ DX4.out).1, (HC.out _ DX4.out).2.1, (HC.out _ DX4.out).2.2⟩
            clear hK K
            try simp only [List.getElem_toArray, List.getElem_cons_succ, List.getElem_cons_zero, Act.put, List.setIfInBounds_toArray, List.set_cons_zero, List.set_cons_succ]
            refine wpAnyH_ready (rs := [15]) (by kernel_rfl) (by simp) ?_
            refine (AllReadyH.cons (o := _) rfl (fun K hK => ?_) AllReadyH.nil)
            go_simp
            obtain ⟨X10, hX10⟩ : ∃ X, X4.alloc (.cells #[.int .u64 0, .slice none 0 0, .slice none 0 0] 49) = X := ⟨_, rfl⟩
            have bX10 : Below X4.heap.size X4 X10 := by rw [← hX10]; exact ball _ _
            have r12 := hid (row_on r6.out bX10)
            have r13 := hid (row_on r7.out bX10)
            have r14 := hid (row_on ZX4.out bX10)
            have DX10 := hid (btr DX4.out bX10)
            have zX10 : X10.heap[X4.heap.size]? = some (.cells #[.int .u64 0, .slice none 0 0, .slice none 0 0] 49 (0, 0)) := by rw [← hX10]; exact World.alloc_heap_new _ _
            have yg11 := DX4.out.size
            obtain ⟨g11, hg11⟩ : ∃ g, X4.heap.size = g := ⟨_, rfl⟩
            have n15 : g11 ≠ S1 := by have := row_lt r6.out; omega
            have n16 : g11 ≠ S2 := by have := row_lt r7.out; omega
            have n17 : g11 ≠ g5 := by have := row_lt ZX4.out; omega
            rw [hg11] at zX10 yg11
            have ZX10 := hid zX10
            rw [hX10, hg11]
            clear hX10 hg11 zX10 bX10
            refine hK.out _ _ ?_ (fun hHeld => ?_)
            · (try dsimp only); exact ⟨row_cell r12.out 3, row_cell r13.out 3, (HA.out _ DX10.out).1, (HA.out _ DX10.out).2.1, (HA.out _ DX10.out).2.2, (HC.out _ DX10.out).1, (HC.out _ DX10.out).2.1, (HC.out _ DX10.out).2.2⟩
            clear hK K
            try simp only [List.getElem_toArray, List.getElem_cons_succ, List.getElem_cons_zero, Act.put, List.setIfInBounds_toArray, List.set_cons_zero, List.set_cons_succ]
            refine wpAnyH_ready (rs := [16]) (by kernel_rfl) (by simp) ?_
            refine (AllReadyH.cons (o := _) rfl (fun K hK => ?_) AllReadyH.nil)
            refine Fd.step_store_row (by rfl) 49 (.tmp 14) (.tmp 89) (by rfl) g5 #[.int .u64 sx, .slice p1 n1 c1, .slice p2 n2 c2] (by rfl) (by rfl) 49 _ r14.out Fd.infoP (by rfl) (by simp [Value.oneCell']) ?_
            obtain ⟨Y18, hY18⟩ : ∃ Y, X10.setRow g5 #[.int .u64 sx, .slice p1 n1 c1, .slice p2 n2 c2] = Y := ⟨_, rfl⟩
            have KY18 := hid (show Kp (fun j => j = g5) X10 Y18 from by rw [← hY18]; exact setRow_kp _ _ _)
            have AY18 := hid (show Y18.heap[g5]? = some (.cells #[.int .u64 sx, .slice p1 n1 c1, .slice p2 n2 c2] 49 (0, 0)) from by rw [← hY18]; exact setRow_heap X10 g5 _ _ 49 (0, 0) r14.out)
            have DY18 := hid (show Below wr.heap.size wr Y18 from by rw [← hY18]; exact Fd.setRow_below DX10.out yg5)
            have r19 := hid (KY18.out.row r12.out (fun e => n8.symm e))
            have r20 := hid (KY18.out.row r13.out (fun e => n9.symm e))
            have r21 := hid (KY18.out.row ZX10.out (fun e => n17 e))
            rw [hY18]
            refine hK.out _ _ ?_ (fun hHeld => ?_)
            · (try dsimp only); exact ⟨row_cell r19.out 3, row_cell r20.out 3, (HA.out _ DY18.out).1, (HA.out _ DY18.out).2.1, (HA.out _ DY18.out).2.2, (HC.out _ DY18.out).1, (HC.out _ DY18.out).2.1, (HC.out _ DY18.out).2.2⟩
            clear hK K hY18
            try simp only [List.getElem_toArray, List.getElem_cons_succ, List.getElem_cons_zero, Act.put, List.setIfInBounds_toArray, List.set_cons_zero, List.set_cons_succ]
            refine wpAnyH_ready (rs := [17]) (by kernel_rfl) (by simp) ?_
            refine (AllReadyH.cons (o := _) rfl (fun K hK => ?_) AllReadyH.nil)
            refine Fd.step_store_row (by rfl) 49 (.tmp 15) (.tmp 96) (by rfl) g11 #[.int .u64 sz, .slice q1 k1 e1, .slice q2 k2 e2] (by rfl) (by rfl) 49 _ r21.out Fd.infoP (by rfl) (by simp [Value.oneCell']) ?_
            obtain ⟨Y22, hY22⟩ : ∃ Y, Y18.setRow g11 #[.int .u64 sz, .slice q1 k1 e1, .slice q2 k2 e2] = Y := ⟨_, rfl⟩
            have KY22 := hid (show Kp (fun j => j = g11) Y18 Y22 from by rw [← hY22]; exact setRow_kp _ _ _)
            have AY22 := hid (show Y22.heap[g11]? = some (.cells #[.int .u64 sz, .slice q1 k1 e1, .slice q2 k2 e2] 49 (0, 0)) from by rw [← hY22]; exact setRow_heap Y18 g11 _ _ 49 (0, 0) r21.out)
            have DY22 := hid (show Below wr.heap.size wr Y22 from by rw [← hY22]; exact Fd.setRow_below DY18.out yg11)
            have r23 := hid (KY22.out.row r19.out (fun e => n15.symm e))
            have r24 := hid (KY22.out.row r20.out (fun e => n16.symm e))
            have r25 := hid (KY22.out.row AY18.out (fun e => n17.symm e))
            rw [hY22]
            refine hK.out _ _ ?_ (fun hHeld => ?_)
            · (try dsimp only); exact ⟨row_cell r23.out 3, row_cell r24.out 3, (HA.out _ DY22.out).1, (HA.out _ DY22.out).2.1, (HA.out _ DY22.out).2.2, (HC.out _ DY22.out).1, (HC.out _ DY22.out).2.1, (HC.out _ DY22.out).2.2⟩
            clear hK K hY22
            try simp only [List.getElem_toArray, List.getElem_cons_succ, List.getElem_cons_zero, Act.put, List.setIfInBounds_toArray, List.set_cons_zero, List.set_cons_succ]
            refine wpAnyH_done (by kernel_rfl) ?_ _
            exact ⟨(g5, g11), by kernel_rfl, DY22, r25, AY22⟩
          · go_simp
            obtain ⟨X26, hX26⟩ : ∃ X, V1.alloc (.cells #[.int .u64 0, .slice none 0 0, .slice none 0 0] 49) = X := ⟨_, rfl⟩
            have bX26 : Below V1.heap.size V1 X26 := by rw [← hX26]; exact ball _ _
            have r28 := hid (row_on r2.out bX26)
            have r29 := hid (row_on r3.out bX26)
            have DX26 := hid (btr BV1.out bX26)
            have zX26 : X26.heap[V1.heap.size]? = some (.cells #[.int .u64 0, .slice none 0 0, .slice none 0 0] 49 (0, 0)) := by rw [← hX26]; exact World.alloc_heap_new _ _
            have yg27 := BV1.out.size
            obtain ⟨g27, hg27⟩ : ∃ g, V1.heap.size = g := ⟨_, rfl⟩
            have n30 : g27 ≠ S1 := by have := row_lt r2.out; omega
            have n31 : g27 ≠ S2 := by have := row_lt r3.out; omega
            rw [hg27] at zX26 yg27
            have ZX26 := hid zX26
            rw [hX26, hg27]
            clear hX26 hg27 zX26 bX26
            refine hK.out _ _ ?_ (fun hHeld => ?_)
            · (try dsimp only); exact ⟨row_cell r28.out 3, row_cell r29.out 3, (HA.out _ DX26.out).1, (HA.out _ DX26.out).2.1, (HA.out _ DX26.out).2.2, (HC.out _ DX26.out).1, (HC.out _ DX26.out).2.1, (HC.out _ DX26.out).2.2⟩
            clear hK K
            try simp only [List.getElem_toArray, List.getElem_cons_succ, List.getElem_cons_zero, Act.put, List.setIfInBounds_toArray, List.set_cons_zero, List.set_cons_succ]
            refine wpAnyH_ready (rs := [14]) (by kernel_rfl) (by simp) ?_
            refine (AllReadyH.cons (o := _) rfl (fun K hK => ?_) AllReadyH.nil)
            go_simp
            obtain ⟨X32, hX32⟩ : ∃ X, X26.alloc (.cells #[.int .u64 0, .slice none 0 0, .slice none 0 0] 49) = X := ⟨_, rfl⟩
            have bX32 : Below X26.heap.size X26 X32 := by rw [← hX32]; exact ball _ _
            have r34 := hid (row_on r28.out bX32)
            have r35 := hid (row_on r29.out bX32)
            have r36 := hid (row_on ZX26.out bX32)
            have DX32 := hid (btr DX26.out bX32)
            have zX32 : X32.heap[X26.heap.size]? = some (.cells #[.int .u64 0, .slice none 0 0, .slice none 0 0] 49 (0, 0)) := by rw [← hX32]; exact World.alloc_heap_new _ _
            have yg33 := DX26.out.size
            obtain ⟨g33, hg33⟩ : ∃ g, X26.heap.size = g := ⟨_, rfl⟩
            have n37 : g33 ≠ S1 := by have := row_lt r28.out; omega
            have n38 : g33 ≠ S2 := by have := row_lt r29.out; omega
            have n39 : g33 ≠ g27 := by have := row_lt ZX26.out; omega
            rw [hg33] at zX32 yg33
            have ZX32 := hid zX32
            rw [hX32, hg33]
            clear hX32 hg33 zX32 bX32
            refine hK.out _ _ ?_ (fun hHeld => ?_)
            · (try dsimp only); exact ⟨row_cell r34.out 3, row_cell r35.out 3, (HA.out _ DX32.out).1, (HA.out _ DX32.out).2.1, (HA.out _ DX32.out).2.2, (HC.out _ DX32.out).1, (HC.out _ DX32.out).2.1, (HC.out _ DX32.out).2.2⟩
            clear hK K
            try simp only [List.getElem_toArray, List.getElem_cons_succ, List.getElem_cons_zero, Act.put, List.setIfInBounds_toArray, List.set_cons_zero, List.set_cons_succ]
            refine wpAnyH_ready (rs := [16]) (by kernel_rfl) (by simp) ?_
            refine (AllReadyH.cons (o := _) rfl (fun K hK => ?_) AllReadyH.nil)
            refine Fd.step_store_row (by rfl) 49 (.tmp 14) (.tmp 89) (by rfl) g33 #[.int .u64 sx, .slice p1 n1 c1, .slice p2 n2 c2] (by rfl) (by rfl) 49 _ ZX32.out Fd.infoP (by rfl) (by simp [Value.oneCell']) ?_
            obtain ⟨Y40, hY40⟩ : ∃ Y, X32.setRow g33 #[.int .u64 sx, .slice p1 n1 c1, .slice p2 n2 c2] = Y := ⟨_, rfl⟩
            have KY40 := hid (show Kp (fun j => j = g33) X32 Y40 from by rw [← hY40]; exact setRow_kp _ _ _)
            have AY40 := hid (show Y40.heap[g33]? = some (.cells #[.int .u64 sx, .slice p1 n1 c1, .slice p2 n2 c2] 49 (0, 0)) from by rw [← hY40]; exact setRow_heap X32 g33 _ _ 49 (0, 0) ZX32.out)
            have DY40 := hid (show Below wr.heap.size wr Y40 from by rw [← hY40]; exact Fd.setRow_below DX32.out yg33)
            have r41 := hid (KY40.out.row r34.out (fun e => n37.symm e))
            have r42 := hid (KY40.out.row r35.out (fun e => n38.symm e))
            have r43 := hid (KY40.out.row r36.out (fun e => n39.symm e))
            rw [hY40]
            refine hK.out _ _ ?_ (fun hHeld => ?_)
            · (try dsimp only); exact ⟨row_cell r41.out 3, row_cell r42.out 3, (HA.out _ DY40.out).1, (HA.out _ DY40.out).2.1, (HA.out _ DY40.out).2.2, (HC.out _ DY40.out).1, (HC.out _ DY40.out).2.1, (HC.out _ DY40.out).2.2⟩
            clear hK K hY40
            try simp only [List.getElem_toArray, List.getElem_cons_succ, List.getElem_cons_zero, Act.put, List.setIfInBounds_toArray, List.set_cons_zero, List.set_cons_succ]
            refine wpAnyH_ready (rs := [17]) (by kernel_rfl) (by simp) ?_
            refine (AllReadyH.cons (o := _) rfl (fun K hK => ?_) AllReadyH.nil)
            refine Fd.step_store_row (by rfl) 49 (.tmp 15) (.tmp 96) (by rfl) g27 #[.int .u64 sz, .slice q1 k1 e1, .slice q2 k2 e2] (by rfl) (by rfl) 49 _ r43.out Fd.infoP (by rfl) (by simp [Value.oneCell']) ?_
            obtain ⟨Y44, hY44⟩ : ∃ Y, Y40.setRow g27 #[.int .u64 sz, .slice q1 k1 e1, .slice q2 k2 e2] = Y := ⟨_, rfl⟩
            have KY44 := hid (show Kp (fun j => j = g27) Y40 Y44 from by rw [← hY44]; exact setRow_kp _ _ _)
            have AY44 := hid (show Y44.heap[g27]? = some (.cells #[.int .u64 sz, .slice q1 k1 e1, .slice q2 k2 e2] 49 (0, 0)) from by rw [← hY44]; exact setRow_heap Y40 g27 _ _ 49 (0, 0) r43.out)
            have DY44 := hid (show Below wr.heap.size wr Y44 from by rw [← hY44]; exact Fd.setRow_below DY40.out yg27)
            have r45 := hid (KY44.out.row r41.out (fun e => n30.symm e))
            have r46 := hid (KY44.out.row r42.out (fun e => n31.symm e))
            have r47 := hid (KY44.out.row AY40.out (fun e => n39 e))
            rw [hY44]
            refine hK.out _ _ ?_ (fun hHeld => ?_)
            · (try dsimp only); exact ⟨row_cell r45.out 3, row_cell r46.out 3, (HA.out _ DY44.out).1, (HA.out _ DY44.out).2.1, (HA.out _ DY44.out).2.2, (HC.out _ DY44.out).1, (HC.out _ DY44.out).2.1, (HC.out _ DY44.out).2.2⟩
            clear hK K hY44
            try simp only [List.getElem_toArray, List.getElem_cons_succ, List.getElem_cons_zero, Act.put, List.setIfInBounds_toArray, List.set_cons_zero, List.set_cons_succ]
            refine wpAnyH_done (by kernel_rfl) ?_ _
            exact ⟨(g33, g27), by kernel_rfl, DY44, r47, AY44⟩
        rintro ⟨gx, gz⟩ V ⟨BV, HX, HZ⟩
        try simp only [List.getElem_toArray, List.getElem_cons_succ, List.getElem_cons_zero, Act.put, List.setIfInBounds_toArray, List.set_cons_zero, List.set_cons_succ]
        clear x2 x3 y2 y3 HA HC
        go_upto_region 17 with fail
        have BW := hid (btr HB.out BV.out)
        have ZL := hid (show Fd.Rl V q1 e1 m1 ∧ Fd.Rl V q2 e2 m2 from ⟨HLB.out.1.on BV.out, HLB.out.2.on BV.out⟩)
        have XL := hid (show Fd.Rl V p1 c1 l1 ∧ Fd.Rl V p2 c2 l2 from ⟨HLA.out.1.on BV.out, HLA.out.2.on BV.out⟩)
        have ZT := hid (show Fd.Rl V q1 e1 l1 ∧ Fd.Rl V q2 e2 l2 from by
          have a := ZL.out.1.take n1
          have b := ZL.out.2.take n2
          rw [HEQ.out.1] at a
          rw [HEQ.out.2] at b
          exact ⟨a, b⟩)
        clear HLA HLB ZL HEQ HB
        have HS := hid (show ∀ U, Below V.heap.size V U → U.cell? ⟨gx, 1, none⟩ = some (.slice p1 n1 c1) ∧ U.cell? ⟨gx, 2, none⟩ = some (.slice p2 n2 c2) ∧ U.cell? ⟨gz, 1, none⟩ = some (.slice q1 k1 e1) ∧ U.cell? ⟨gz, 2, none⟩ = some (.slice q2 k2 e2) from fun U hU => ⟨row_cell (row_on HX.out hU) 1, row_cell (row_on HX.out hU) 2, row_cell (row_on HZ.out hU) 1, row_cell (row_on HZ.out hU) 2⟩)
        have CC := hid (show ∀ U, Below V.heap.size V U → Calls Try.prog 14 #[.slice p1 n1 c1, .slice q1 n1 e1] U fun e w' => e = .returned (.bool true) ∧ Hid (Below U.heap.size U w') from fun U hU => by have h := Fd.sameLevels_same p1 q1 c1 e1 l1 U (XL.out.1.on hU) (ZT.out.1.on hU); rw [HN1.out] at h; exact h.mono (fun e w' hh => by obtain ⟨h1, k, rfl⟩ := hh; exact ⟨h1, bdrew _ _⟩))
        have CE := hid (show ∀ U, Below V.heap.size V U → Calls Try.prog 14 #[.slice p2 n2 c2, .slice q2 n2 e2] U fun e w' => e = .returned (.bool true) ∧ Hid (Below U.heap.size U w') from fun U hU => by have h := Fd.sameLevels_same p2 q2 c2 e2 l2 U (XL.out.2.on hU) (ZT.out.2.on hU); rw [HN2.out] at h; exact h.mono (fun e w' hh => by obtain ⟨h1, k, rfl⟩ := hh; exact ⟨h1, bdrew _ _⟩))
        clear XL ZT
        have z1 : (if e1 = 0 then q1 else Option.map (fun x => x.add 0) q1) = q1 := sl0 _ _
        have z2 : (if e2 = 0 then q2 else Option.map (fun x => x.add 0) q2) = q2 := sl0 _ _
        have t1 : (n1 : Int) ≤ (e1 : Int) := by omega
        have t2 : (n2 : Int) ≤ (e2 : Int) := by omega
        have t3 : n1 ≤ e1 := by omega
        have t4 : n2 ≤ e2 := by omega
        have r1 : decide ((k1 : Int) < (n1 : Int)) = false := by simp; omega
        have r2 : decide ((k2 : Int) < (n2 : Int)) = false := by simp; omega
        have r3 : decide (k1 < n1) = false := by simp; omega
        have r4 : decide (k2 < n2) = false := by simp; omega
        obtain ⟨V0, hV0⟩ : ∃ U, V.drew = U := ⟨_, rfl⟩
        have DV0 := hid (show Below V.heap.size V V0 from by rw [← hV0]; exact bdrew1 _)
        refine wp_region_held_drew (S := fun U => U.cell? ⟨gx, 1, none⟩ = some (.slice p1 n1 c1) ∧ U.cell? ⟨gx, 2, none⟩ = some (.slice p2 n2 c2) ∧ U.cell? ⟨gz, 1, none⟩ = some (.slice q1 k1 e1) ∧ U.cell? ⟨gz, 2, none⟩ = some (.slice q2 k2 e2)) (by kernel_rfl) ?_ (fun hHeld => ?_)
        · (try dsimp only); rw [hV0]; exact HS.out _ DV0.out
        rw [hV0] at hHeld ⊢
        clear hV0
        refine' wpAnyH_take (i := 0) (oi := _) (v := _) rfl (by kernel_rfl) (by kernel_rfl) (by kernel_rfl) (fun _ _ _ h => h) (Or.inl ⟨by kernel_rfl, ?_⟩) (by assumption) ?_
        rotate_left
        · (intro w hSw; (try dsimp only at hSw); go_simp; try (with_reducible rfl))
        try simp only [List.getElem_toArray, List.getElem_cons_succ, List.getElem_cons_zero, Act.put, List.setIfInBounds_toArray, List.set_cons_zero, List.set_cons_succ]
        refine' wpAnyH_take (i := 1) (oi := _) (v := _) rfl (by kernel_rfl) (by kernel_rfl) (by kernel_rfl) (fun _ _ _ h => h) (Or.inl ⟨by kernel_rfl, ?_⟩) (by assumption) ?_
        rotate_left
        · (intro w hSw; (try dsimp only at hSw); go_simp; try (with_reducible rfl))
        try simp only [List.getElem_toArray, List.getElem_cons_succ, List.getElem_cons_zero, Act.put, List.setIfInBounds_toArray, List.set_cons_zero, List.set_cons_succ]
        refine' wpAnyH_take (i := 2) (oi := _) (v := _) rfl (by kernel_rfl) (by kernel_rfl) (by kernel_rfl) (fun _ _ _ h => h) (Or.inl ⟨by kernel_rfl, ?_⟩) (by assumption) ?_
        rotate_left
        · (intro w hSw; (try dsimp only at hSw); go_simp; try (with_reducible rfl))
        try simp only [List.getElem_toArray, List.getElem_cons_succ, List.getElem_cons_zero, Act.put, List.setIfInBounds_toArray, List.set_cons_zero, List.set_cons_succ]
        refine' wpAnyH_take (i := 3) (oi := _) (v := _) rfl (by kernel_rfl) (by kernel_rfl) (by kernel_rfl) (fun _ _ _ h => h) (Or.inl ⟨by kernel_rfl, ?_⟩) (by assumption) ?_
        rotate_left
        · (intro w hSw; (try dsimp only at hSw); go_simp; try (with_reducible rfl))
        try simp only [List.getElem_toArray, List.getElem_cons_succ, List.getElem_cons_zero, Act.put, List.setIfInBounds_toArray, List.set_cons_zero, List.set_cons_succ]
        refine' wpAnyH_take (i := 4) (oi := _) (v := _) rfl (by kernel_rfl) (by kernel_rfl) (by kernel_rfl) (fun _ _ _ h => h) (Or.inl ⟨by kernel_rfl, ?_⟩) (by assumption) ?_
        rotate_left
        · (intro w hSw; (try dsimp only at hSw); go_simp; try (with_reducible rfl))
        try simp only [List.getElem_toArray, List.getElem_cons_succ, List.getElem_cons_zero, Act.put, List.setIfInBounds_toArray, List.set_cons_zero, List.set_cons_succ]
        refine' wpAnyH_take (i := 5) (oi := _) (v := _) rfl (by kernel_rfl) (by kernel_rfl) (by kernel_rfl) (fun _ _ _ h => h) (Or.inl ⟨by kernel_rfl, ?_⟩) (by assumption) ?_
        rotate_left
        · (intro w hSw; (try dsimp only at hSw); go_simp; try (with_reducible rfl))
        try simp only [List.getElem_toArray, List.getElem_cons_succ, List.getElem_cons_zero, Act.put, List.setIfInBounds_toArray, List.set_cons_zero, List.set_cons_succ]
        refine' wpAnyH_take (i := 6) (oi := _) (v := _) rfl (by kernel_rfl) (by kernel_rfl) (by kernel_rfl) (fun _ _ _ h => h) (Or.inl ⟨by kernel_rfl, ?_⟩) (by assumption) ?_
        rotate_left
        · (intro w hSw; (try dsimp only at hSw); go_simp; try (with_reducible rfl))
        try simp only [List.getElem_toArray, List.getElem_cons_succ, List.getElem_cons_zero, Act.put, List.setIfInBounds_toArray, List.set_cons_zero, List.set_cons_succ]
        refine' wpAnyH_take (i := 7) (oi := _) (v := _) rfl (by kernel_rfl) (by kernel_rfl) (by kernel_rfl) (fun _ _ _ h => h) (Or.inl ⟨by kernel_rfl, ?_⟩) (by assumption) ?_
        rotate_left
        · (intro w hSw; (try dsimp only at hSw); go_simp; try (with_reducible rfl))
        try simp only [List.getElem_toArray, List.getElem_cons_succ, List.getElem_cons_zero, Act.put, List.setIfInBounds_toArray, List.set_cons_zero, List.set_cons_succ]
        refine' wpAnyH_take (i := 8) (oi := _) (v := _) rfl (by kernel_rfl) (by kernel_rfl) (by kernel_rfl) (fun _ _ _ h => h) (Or.inl ⟨by kernel_rfl, ?_⟩) (by assumption) ?_
        rotate_left
        · (intro w hSw; (try dsimp only at hSw); go_simp; try (with_reducible rfl))
        try simp only [List.getElem_toArray, List.getElem_cons_succ, List.getElem_cons_zero, Act.put, List.setIfInBounds_toArray, List.set_cons_zero, List.set_cons_succ]
        refine' wpAnyH_take (i := 9) (oi := _) (v := _) rfl (by kernel_rfl) (by kernel_rfl) (by kernel_rfl) (fun _ _ _ h => h) (Or.inl ⟨by kernel_rfl, ?_⟩) (by assumption) ?_
        rotate_left
        · (intro w hSw; (try dsimp only at hSw); go_simp; try (with_reducible rfl))
        try simp only [List.getElem_toArray, List.getElem_cons_succ, List.getElem_cons_zero, Act.put, List.setIfInBounds_toArray, List.set_cons_zero, List.set_cons_succ]
        refine' wpAnyH_take (i := 10) (oi := _) (v := _) rfl (by kernel_rfl) (by kernel_rfl) (by kernel_rfl) (fun _ _ _ h => h) (Or.inl ⟨by kernel_rfl, ?_⟩) (by assumption) ?_
        rotate_left
        · (intro w hSw; (try dsimp only at hSw); go_simp; try (with_reducible rfl))
        try simp only [List.getElem_toArray, List.getElem_cons_succ, List.getElem_cons_zero, Act.put, List.setIfInBounds_toArray, List.set_cons_zero, List.set_cons_succ]
        refine' wpAnyH_take (i := 11) (oi := _) (v := _) rfl (by kernel_rfl) (by kernel_rfl) (by kernel_rfl) (fun _ _ _ h => h) (Or.inl ⟨by kernel_rfl, ?_⟩) (by assumption) ?_
        rotate_left
        · (intro w hSw; (try dsimp only at hSw); go_simp; try (with_reducible rfl))
        try simp only [List.getElem_toArray, List.getElem_cons_succ, List.getElem_cons_zero, Act.put, List.setIfInBounds_toArray, List.set_cons_zero, List.set_cons_succ]
        refine' wpAnyH_take (i := 12) (oi := _) (v := _) rfl (by kernel_rfl) (by kernel_rfl) (by kernel_rfl) (fun _ _ _ h => h) (Or.inl ⟨by kernel_rfl, ?_⟩) (by assumption) ?_
        rotate_left
        · (intro w hSw; (try dsimp only at hSw); go_simp; try (with_reducible rfl))
        try simp only [List.getElem_toArray, List.getElem_cons_succ, List.getElem_cons_zero, Act.put, List.setIfInBounds_toArray, List.set_cons_zero, List.set_cons_succ]
        refine' wpAnyH_take (i := 13) (oi := _) (v := _) rfl (by kernel_rfl) (by kernel_rfl) (by kernel_rfl) (fun _ _ _ h => h) (Or.inl ⟨by kernel_rfl, ?_⟩) (by assumption) ?_
        rotate_left
        · (intro w hSw; (try dsimp only at hSw); go_simp; try (with_reducible rfl))
        try simp only [List.getElem_toArray, List.getElem_cons_succ, List.getElem_cons_zero, Act.put, List.setIfInBounds_toArray, List.set_cons_zero, List.set_cons_succ]
        refine' wpAnyH_take (i := 14) (oi := _) (v := _) rfl (by kernel_rfl) (by kernel_rfl) (by kernel_rfl) (fun _ _ _ h => h) (Or.inl ⟨by kernel_rfl, ?_⟩) (by assumption) ?_
        rotate_left
        · (intro w hSw; (try dsimp only at hSw); go_simp; try (with_reducible rfl))
        try simp only [List.getElem_toArray, List.getElem_cons_succ, List.getElem_cons_zero, Act.put, List.setIfInBounds_toArray, List.set_cons_zero, List.set_cons_succ]
        refine' wpAnyH_take (i := 15) (oi := _) (v := _) rfl (by kernel_rfl) (by kernel_rfl) (by kernel_rfl) (fun _ _ _ h => h) (Or.inl ⟨by kernel_rfl, ?_⟩) (by assumption) ?_
        rotate_left
        · (intro w hSw; (try dsimp only at hSw); go_simp; try (with_reducible rfl))
        try simp only [List.getElem_toArray, List.getElem_cons_succ, List.getElem_cons_zero, Act.put, List.setIfInBounds_toArray, List.set_cons_zero, List.set_cons_succ]
        refine' wpAnyH_take (i := 16) (oi := _) (v := _) rfl (by kernel_rfl) (by kernel_rfl) (by kernel_rfl) (fun _ _ _ h => h) (Or.inl ⟨by kernel_rfl, ?_⟩) (by assumption) ?_
        rotate_left
        · (intro w hSw; (try dsimp only at hSw); go_simp; try (with_reducible rfl))
        try simp only [List.getElem_toArray, List.getElem_cons_succ, List.getElem_cons_zero, Act.put, List.setIfInBounds_toArray, List.set_cons_zero, List.set_cons_succ]
        refine' wpAnyH_take (i := 17) (oi := _) (v := _) rfl (by kernel_rfl) (by kernel_rfl) (by kernel_rfl) (fun _ _ _ h => h) (Or.inl ⟨by kernel_rfl, ?_⟩) (by assumption) ?_
        rotate_left
        · (intro w hSw; (try dsimp only at hSw); go_simp; try (with_reducible rfl))
        try simp only [List.getElem_toArray, List.getElem_cons_succ, List.getElem_cons_zero, Act.put, List.setIfInBounds_toArray, List.set_cons_zero, List.set_cons_succ]
        refine' wpAnyH_take (i := 18) (oi := _) (v := _) rfl (by kernel_rfl) (by kernel_rfl) (by kernel_rfl) (fun _ _ _ h => h) (Or.inl ⟨by kernel_rfl, ?_⟩) (by assumption) ?_
        rotate_left
        · (intro w hSw; (try dsimp only at hSw); go_simp; try (with_reducible rfl))
        try simp only [List.getElem_toArray, List.getElem_cons_succ, List.getElem_cons_zero, Act.put, List.setIfInBounds_toArray, List.set_cons_zero, List.set_cons_succ]
        refine' wpAnyH_take (i := 19) (oi := _) (v := _) rfl (by kernel_rfl) (by kernel_rfl) (by kernel_rfl) (fun _ _ _ h => h) (Or.inl ⟨by kernel_rfl, ?_⟩) (by assumption) ?_
        rotate_left
        · (intro w hSw; (try dsimp only at hSw); go_simp; try (with_reducible rfl))
        try simp only [List.getElem_toArray, List.getElem_cons_succ, List.getElem_cons_zero, Act.put, List.setIfInBounds_toArray, List.set_cons_zero, List.set_cons_succ]
        refine' wpAnyH_take (i := 20) (oi := _) (v := _) rfl (by kernel_rfl) (by kernel_rfl) (by kernel_rfl) (fun _ _ _ h => h) (Or.inl ⟨by kernel_rfl, ?_⟩) (by assumption) ?_
        rotate_left
        · (intro w hSw; (try dsimp only at hSw); go_simp; try (with_reducible rfl))
        try simp only [List.getElem_toArray, List.getElem_cons_succ, List.getElem_cons_zero, Act.put, List.setIfInBounds_toArray, List.set_cons_zero, List.set_cons_succ]
        refine' wpAnyH_take (i := 21) (oi := _) (v := _) rfl (by kernel_rfl) (by kernel_rfl) (by kernel_rfl) (fun _ _ _ h => h) (Or.inl ⟨by kernel_rfl, ?_⟩) (by assumption) ?_
        rotate_left
        · (intro w hSw; (try dsimp only at hSw); go_simp; try (with_reducible rfl))
        try simp only [List.getElem_toArray, List.getElem_cons_succ, List.getElem_cons_zero, Act.put, List.setIfInBounds_toArray, List.set_cons_zero, List.set_cons_succ]
        refine' wpAnyH_take (i := 22) (oi := _) (v := _) rfl (by kernel_rfl) (by kernel_rfl) (by kernel_rfl) (fun _ _ _ h => h) (Or.inl ⟨by kernel_rfl, ?_⟩) (by assumption) ?_
        rotate_left
        · (intro w hSw; (try dsimp only at hSw); go_simp; try (with_reducible rfl))
        try simp only [List.getElem_toArray, List.getElem_cons_succ, List.getElem_cons_zero, Act.put, List.setIfInBounds_toArray, List.set_cons_zero, List.set_cons_succ]
        refine' wpAnyH_take (i := 23) (oi := _) (v := _) rfl (by kernel_rfl) (by kernel_rfl) (by kernel_rfl) (fun _ _ _ h => h) (Or.inl ⟨by kernel_rfl, ?_⟩) (by assumption) ?_
        rotate_left
        · (intro w hSw; (try dsimp only at hSw); go_simp; try (with_reducible rfl))
        try simp only [List.getElem_toArray, List.getElem_cons_succ, List.getElem_cons_zero, Act.put, List.setIfInBounds_toArray, List.set_cons_zero, List.set_cons_succ]
        refine' wpAnyH_take (i := 24) (oi := _) (v := _) rfl (by kernel_rfl) (by kernel_rfl) (by kernel_rfl) (fun _ _ _ h => h) (Or.inl ⟨by kernel_rfl, ?_⟩) (by assumption) ?_
        rotate_left
        · (intro w hSw; (try dsimp only at hSw); go_simp; try (with_reducible rfl))
        try simp only [List.getElem_toArray, List.getElem_cons_succ, List.getElem_cons_zero, Act.put, List.setIfInBounds_toArray, List.set_cons_zero, List.set_cons_succ]
        refine wpAnyH_ready (rs := [25]) (by kernel_rfl) (by simp) ?_
        refine (AllReadyH.cons (o := _) rfl (fun K hK => ?_) AllReadyH.nil)
        go_simp
        go_at_call 14
        with_reducible refine (CC.out V0 DV0.out).mono ?_
        rintro e Y1 ⟨rfl, B6⟩
        have DY1 := hid (btr DV0.out B6.out)
        (try go_wp2_with fail)
        refine hK.out _ _ ?_ (fun hHeld => ?_)
        · (try dsimp only); exact HS.out _ DY1.out
        clear hK K B6
        try simp only [List.getElem_toArray, List.getElem_cons_succ, List.getElem_cons_zero, Act.put, List.setIfInBounds_toArray, List.set_cons_zero, List.set_cons_succ]
        refine' wpAnyH_take (i := 26) (oi := _) (v := _) rfl (by kernel_rfl) (by kernel_rfl) (by kernel_rfl) (fun _ _ _ h => h) (Or.inl ⟨by kernel_rfl, ?_⟩) (by assumption) ?_
        rotate_left
        · (intro w hSw; (try dsimp only at hSw); go_simp; try (with_reducible rfl))
        try simp only [List.getElem_toArray, List.getElem_cons_succ, List.getElem_cons_zero, Act.put, List.setIfInBounds_toArray, List.set_cons_zero, List.set_cons_succ]
        refine' wpAnyH_take (i := 27) (oi := _) (v := _) rfl (by kernel_rfl) (by kernel_rfl) (by kernel_rfl) (fun _ _ _ h => h) (Or.inl ⟨by kernel_rfl, ?_⟩) (by assumption) ?_
        rotate_left
        · (intro w hSw; (try dsimp only at hSw); go_simp; try (with_reducible rfl))
        try simp only [List.getElem_toArray, List.getElem_cons_succ, List.getElem_cons_zero, Act.put, List.setIfInBounds_toArray, List.set_cons_zero, List.set_cons_succ]
        refine' wpAnyH_take (i := 28) (oi := _) (v := _) rfl (by kernel_rfl) (by kernel_rfl) (by kernel_rfl) (fun _ _ _ h => h) (Or.inl ⟨by kernel_rfl, ?_⟩) (by assumption) ?_
        rotate_left
        · (intro w hSw; (try dsimp only at hSw); go_simp; try (with_reducible rfl))
        try simp only [List.getElem_toArray, List.getElem_cons_succ, List.getElem_cons_zero, Act.put, List.setIfInBounds_toArray, List.set_cons_zero, List.set_cons_succ]
        refine' wpAnyH_take (i := 29) (oi := _) (v := _) rfl (by kernel_rfl) (by kernel_rfl) (by kernel_rfl) (fun _ _ _ h => h) (Or.inl ⟨by kernel_rfl, ?_⟩) (by assumption) ?_
        rotate_left
        · (intro w hSw; (try dsimp only at hSw); go_simp; try (with_reducible rfl))
        try simp only [List.getElem_toArray, List.getElem_cons_succ, List.getElem_cons_zero, Act.put, List.setIfInBounds_toArray, List.set_cons_zero, List.set_cons_succ]
        refine' wpAnyH_take (i := 30) (oi := _) (v := _) rfl (by kernel_rfl) (by kernel_rfl) (by kernel_rfl) (fun _ _ _ h => h) (Or.inl ⟨by kernel_rfl, ?_⟩) (by assumption) ?_
        rotate_left
        · (intro w hSw; (try dsimp only at hSw); go_simp; try (with_reducible rfl))
        try simp only [List.getElem_toArray, List.getElem_cons_succ, List.getElem_cons_zero, Act.put, List.setIfInBounds_toArray, List.set_cons_zero, List.set_cons_succ]
        refine' wpAnyH_take (i := 31) (oi := _) (v := _) rfl (by kernel_rfl) (by kernel_rfl) (by kernel_rfl) (fun _ _ _ h => h) (Or.inl ⟨by kernel_rfl, ?_⟩) (by assumption) ?_
        rotate_left
        · (intro w hSw; (try dsimp only at hSw); go_simp; try (with_reducible rfl))
        try simp only [List.getElem_toArray, List.getElem_cons_succ, List.getElem_cons_zero, Act.put, List.setIfInBounds_toArray, List.set_cons_zero, List.set_cons_succ]
        refine' wpAnyH_take (i := 32) (oi := _) (v := _) rfl (by kernel_rfl) (by kernel_rfl) (by kernel_rfl) (fun _ _ _ h => h) (Or.inl ⟨by kernel_rfl, ?_⟩) (by assumption) ?_
        rotate_left
        · (intro w hSw; (try dsimp only at hSw); go_simp; try (with_reducible rfl))
        try simp only [List.getElem_toArray, List.getElem_cons_succ, List.getElem_cons_zero, Act.put, List.setIfInBounds_toArray, List.set_cons_zero, List.set_cons_succ]
        refine' wpAnyH_take (i := 33) (oi := _) (v := _) rfl (by kernel_rfl) (by kernel_rfl) (by kernel_rfl) (fun _ _ _ h => h) (Or.inl ⟨by kernel_rfl, ?_⟩) (by assumption) ?_
        rotate_left
        · (intro w hSw; (try dsimp only at hSw); go_simp; try (with_reducible rfl))
        try simp only [List.getElem_toArray, List.getElem_cons_succ, List.getElem_cons_zero, Act.put, List.setIfInBounds_toArray, List.set_cons_zero, List.set_cons_succ]
        refine' wpAnyH_take (i := 34) (oi := _) (v := _) rfl (by kernel_rfl) (by kernel_rfl) (by kernel_rfl) (fun _ _ _ h => h) (Or.inl ⟨by kernel_rfl, ?_⟩) (by assumption) ?_
        rotate_left
        · (intro w hSw; (try dsimp only at hSw); go_simp; try (with_reducible rfl))
        try simp only [List.getElem_toArray, List.getElem_cons_succ, List.getElem_cons_zero, Act.put, List.setIfInBounds_toArray, List.set_cons_zero, List.set_cons_succ]
        refine' wpAnyH_take (i := 35) (oi := _) (v := _) rfl (by kernel_rfl) (by kernel_rfl) (by kernel_rfl) (fun _ _ _ h => h) (Or.inl ⟨by kernel_rfl, ?_⟩) (by assumption) ?_
        rotate_left
        · (intro w hSw; (try dsimp only at hSw); go_simp; try (with_reducible rfl))
        try simp only [List.getElem_toArray, List.getElem_cons_succ, List.getElem_cons_zero, Act.put, List.setIfInBounds_toArray, List.set_cons_zero, List.set_cons_succ]
        refine' wpAnyH_take (i := 36) (oi := _) (v := _) rfl (by kernel_rfl) (by kernel_rfl) (by kernel_rfl) (fun _ _ _ h => h) (Or.inl ⟨by kernel_rfl, ?_⟩) (by assumption) ?_
        rotate_left
        · (intro w hSw; (try dsimp only at hSw); go_simp; try (with_reducible rfl))
        try simp only [List.getElem_toArray, List.getElem_cons_succ, List.getElem_cons_zero, Act.put, List.setIfInBounds_toArray, List.set_cons_zero, List.set_cons_succ]
        refine wpAnyH_ready (rs := [37]) (by kernel_rfl) (by simp) ?_
        refine (AllReadyH.cons (o := _) rfl (fun K hK => ?_) AllReadyH.nil)
        go_simp
        go_at_call 14
        with_reducible refine (CE.out Y1 DY1.out).mono ?_
        rintro e Y2 ⟨rfl, B6⟩
        have DY2 := hid (btr DY1.out B6.out)
        (try go_wp2_with fail)
        refine hK.out _ _ ?_ (fun hHeld => ?_)
        · (try dsimp only); exact HS.out _ DY2.out
        clear hK K B6
        try simp only [List.getElem_toArray, List.getElem_cons_succ, List.getElem_cons_zero, Act.put, List.setIfInBounds_toArray, List.set_cons_zero, List.set_cons_succ]
        refine' wpAnyH_take (i := 38) (oi := _) (v := _) rfl (by kernel_rfl) (by kernel_rfl) (by kernel_rfl) (fun _ _ _ h => h) (Or.inl ⟨by kernel_rfl, ?_⟩) (by assumption) ?_
        rotate_left
        · (intro w hSw; (try dsimp only at hSw); go_simp; try (with_reducible rfl))
        try simp only [List.getElem_toArray, List.getElem_cons_succ, List.getElem_cons_zero, Act.put, List.setIfInBounds_toArray, List.set_cons_zero, List.set_cons_succ]
        refine' wpAnyH_take (i := 39) (oi := _) (v := _) rfl (by kernel_rfl) (by kernel_rfl) (by kernel_rfl) (fun _ _ _ h => h) (Or.inl ⟨by kernel_rfl, ?_⟩) (by assumption) ?_
        rotate_left
        · (intro w hSw; (try dsimp only at hSw); go_simp; try (with_reducible rfl))
        try simp only [List.getElem_toArray, List.getElem_cons_succ, List.getElem_cons_zero, Act.put, List.setIfInBounds_toArray, List.set_cons_zero, List.set_cons_succ]
        refine wpAnyH_done (by kernel_rfl) ?_ _
        have HSS := HS.out _ DY2.out
        obtain ⟨s1, s2, s3, s4⟩ := HSS
        have u1 : n1 < d → k1 ≤ n1 := by have := HMN.out.1; omega
        have u2 : n2 < d → k2 ≤ n2 := by have := HMN.out.2; omega
        clear r1 r2 r3 r4 z1 z2 t1 t2 t3 t4 CC CE HS HX HZ HMN cm1 cm2 cx1 cx2
        have BE := hid (btr (btr BW.out DY2.out) (Below.refl _ _))
        clear BW DY2 DY1 DV0 BV HN1 HN2
        by_cases a1 : n1 < d
        · have b1 : decide ((n1 : Int) < (d : Int)) = true := by simp; omega
          have b2 : decide (n1 < d) = true := by simp; omega
          have b3 : decide ((n1 : Int) < (k1 : Int)) = false := by have := u1 a1; simp; omega
          have b4 : decide (n1 < k1) = false := by have := u1 a1; simp; omega
          by_cases a2 : n2 < d
          · have b5 : decide ((n2 : Int) < (d : Int)) = true := by simp; omega
            have b6 : decide (n2 < d) = true := by simp; omega
            have b7 : decide ((n2 : Int) < (k2 : Int)) = false := by have := u2 a2; simp; omega
            have b8 : decide (n2 < k2) = false := by have := u2 a2; simp; omega
            clear u1 u2 a1 a2 o1 o2
            go_wp2
            go_roundw
            case rel => exact ⟨i + 1, by omega, by go_num, BE⟩
            case measure => simp [intOf]; omega
          · have b5 : decide ((n2 : Int) < (d : Int)) = false := by simp; omega
            have b6 : decide (n2 < d) = false := by simp; omega
            clear u1 u2 a1 a2 o1 o2
            go_wp2
            go_roundw
            case rel => exact ⟨i + 1, by omega, by go_num, BE⟩
            case measure => simp [intOf]; omega
        · have b1 : decide ((n1 : Int) < (d : Int)) = false := by simp; omega
          have b2 : decide (n1 < d) = false := by simp; omega
          by_cases a2 : n2 < d
          · have b5 : decide ((n2 : Int) < (d : Int)) = true := by simp; omega
            have b6 : decide (n2 < d) = true := by simp; omega
            have b7 : decide ((n2 : Int) < (k2 : Int)) = false := by have := u2 a2; simp; omega
            have b8 : decide (n2 < k2) = false := by have := u2 a2; simp; omega
            clear u1 u2 a1 a2 o1 o2
            go_wp2
            go_roundw
            case rel => exact ⟨i + 1, by omega, by go_num, BE⟩
            case measure => simp [intOf]; omega
          · have b5 : decide ((n2 : Int) < (d : Int)) = false := by simp; omega
            have b6 : decide (n2 < d) = false := by simp; omega
            clear u1 u2 a1 a2 o1 o2
            go_wp2
            go_roundw
            case rel => exact ⟨i + 1, by omega, by go_num, BE⟩
            case measure => simp [intOf]; omega
    · as_aux_lemma =>
        have hi5 : i = p := by omega
        subst hi5
        have HTR := hid TW.out.trd
        have VA2 := hid (VA.out.on HB.out).da
        have VB2 := hid (VB.out.on HB.out).da
        have HBD := hid (btr HBC.out HB.out)
        clear TW VA VB RA RB HBC HB HL1 HL2 HDE
        clear hlt hip hp'
        go_wp2
        go_loopw [16, 17] (fun kv iv w5 => ∃ (i k : Nat), i ≤ na ∧ k ≤ nb ∧ iv = .int .i64 i ∧ kv = .int .i64 k ∧ Hid (trs (D2.take k) = trs (D1.take i)) ∧ Hid (Below wr.heap.size wr w5)) (fun _ iv _ => na - (intOf iv).toNat)
        case atStart => exact ⟨0, 0, Nat.zero_le _, Nat.zero_le _, rfl, rfl, hid rfl, Below.refl _ _⟩
        case round =>
          obtain ⟨i, k0, hia, hk0, rfl, rfl, HT0, HB5⟩ := hrel
          clear x2 x3 y2 y3
          have RAQ := hid (row_on RA'.out HB5.out)
          have RBQ := hid (row_on RB'.out HB5.out)
          have VBQ := hid (VB2.out.on HB5.out)
          have x2 := row_cell RAQ.out 2
          have y2 := row_cell RBQ.out 2
          simp only [List.getElem?_toArray, List.getElem?_cons_succ, List.getElem?_cons_zero] at x2 y2
          by_cases hlt : i < na
          · have hiD : i < D1.length := by rw [HNA.out]; exact hlt
            obtain ⟨ga, hga, hgl, a0, a1, a2, a3, a4, a5⟩ := Fd.Dw.cells (VA2.out.on HB5.out) hiD
            have HGA := hid (fun U (hU : Below wr.heap.size wr U) => Fd.Dw.cells (VA2.out.on (btr HB5.out hU)) hiD)
            have HST1 := hid (trs_take_succ hiD)
            obtain ⟨x, hx⟩ : ∃ x, D1[i] = x := ⟨_, rfl⟩
            have HXX := hid hx
            rw [hx] at a0 a1 a2 a3 a4 a5 HST1 HGA
            clear hx
            subst hga
            have i0' : (0 : Int) ≤ (i : Int) := by omega
            have i1 : (i : Int) < (na : Int) := by omega
            by_cases hx2 : x.kd = 2
            · rw [hx2] at a1
              go_upto_region 26 with fail
              clear x2 y2 a0 a1 a2 a3 a4 a5
              go_loopw [16] (fun kv w8 => ∃ (k : Nat), k ≤ nb ∧ kv = .int .i64 k ∧ Hid (trs (D2.take k) = trs (D1.take i)) ∧ Hid (Below wr.heap.size wr w8)) (fun kv _ => nb - (intOf kv).toNat)
              case atStart => exact ⟨k0, hk0, rfl, HT0, Below.refl _ _⟩
              case round =>
                obtain ⟨k, hk, rfl, HT1, HB8⟩ := hrel
                have x2 := row_cell (row_on RAQ.out HB8.out) 2
                have y2 := row_cell (row_on RBQ.out HB8.out) 2
                simp only [List.getElem?_toArray, List.getElem?_cons_succ, List.getElem?_cons_zero] at x2 y2
                by_cases hkb : k < nb
                · have hkD : k < D2.length := by rw [HNB.out]; exact hkb
                  obtain ⟨gb, hgb, _, c0', c1', c2', c3', c4', c5'⟩ := Fd.Dw.cells (VBQ.out.on HB8.out) hkD
                  have HST := hid (trs_take_succ hkD)
                  obtain ⟨y, hy⟩ : ∃ y, D2[k] = y := ⟨_, rfl⟩
                  have HYY := hid hy
                  rw [hy] at c0' c1' c2' c3' c4' c5' HST
                  clear hy
                  subst hgb
                  have s0 : (0 : Int) ≤ (k : Int) := by omega
                  have s1 : (k : Int) < (nb : Int) := by omega
                  by_cases hy2 : y.kd = 2
                  · rw [hy2] at c1'
                    have HNX := hid (show ∀ h : k < D2.length, D2[k].kd = 2 from fun h => by rw [HYY.out]; exact hy2)
                    have hNX := trs_next HTR.out (by rw [HNA.out]; exact hlt) (by rw [HXX.out]; exact hx2) HT1.out HNX.out
                    obtain ⟨_, v1, v2, v3, v4⟩ := hNX
                    rw [HYY.out, HXX.out] at v1 v2 v3
                    have HT2 := hid v4
                    rw [v1] at c2'
                    rw [v2] at c3'
                    rw [v3] at c4'
                    obtain ⟨ga', hga', _, a0, a1, a2, a3, a4, a5⟩ := HGA.out _ HB8.out
                    cases hga'
                    clear v1 v2 v3 v4 a0 a1 a5 c0' c5'
                    have w1 : decide (nb = k) = false := by simp; omega
                    have w2 : decide (k = nb) = false := by simp; omega
                    have w3' : ¬ k = nb := by omega
                    have w4' : ((k : Int) == (nb : Int)) = false := by simp; omega
                    have w5' : (k == nb) = false := by simp; omega
                    have w6' : decide ((k : Int) = (nb : Int)) = false := by simp; omega
                    have w7' : ¬ (k : Int) = (nb : Int) := by omega
                    go_upto_region 28 with fail
                    go_big_quiet (fail)
                    go_wp2
                    go_roundw
                    case rel => exact ⟨i + 1, k + 1, by omega, by omega, by go_num, by go_num, HT2, btr (btr HB5.out HB8.out) (bdrew _ _)⟩
                    case measure => simp [intOf]; omega
                  · have hy2' : (y.kd == 2) = false := by simpa using hy2
                    clear c0' c2' c3' c4' c5'
                    go_wp2
                    go_roundw
                    case rel => exact ⟨k + 1, by omega, by go_num, hid (by rw [HST.out, if_neg hy2, List.append_nil]; exact HT1.out), HB8⟩
                    case measure => simp [intOf]; omega
                · have hk5 : k = nb := by omega
                  have HNX := hid (show ∀ h : k < D2.length, D2[k].kd = 2 from fun h => by have := HNB.out; omega)
                  obtain ⟨h, _⟩ := trs_next HTR.out (by rw [HNA.out]; exact hlt) (by rw [HXX.out]; exact hx2) HT1.out HNX.out
                  have := HNB.out
                  omega
            · have hx2' : (x.kd == 2) = false := by simpa using hx2
              clear a0 a2 a3 a4 a5
              go_wp2
              go_roundw
              case rel => exact ⟨i + 1, k0, by omega, hk0, by go_num, rfl, hid (by rw [HST1.out, if_neg hx2, List.append_nil]; exact HT0.out), HB5⟩
              case measure => simp [intOf]; omega
          · have hi5 : i = na := by omega
            subst hi5
            have HTZ := hid (show trs (D2.take k0) = trs D1 from by have := HT0.out; rw [List.take_of_length_le (show D1.length ≤ i by rw [HNA.out]; exact Nat.le_refl _)] at this; exact this)
            go_upto_region 31 with fail
            clear x2 y2
            go_loopw [16] (fun kv w8 => ∃ (k : Nat), k ≤ nb ∧ kv = .int .i64 k ∧ Hid (trs (D2.take k) = trs D1) ∧ Hid (Below wr.heap.size wr w8)) (fun kv _ => nb - (intOf kv).toNat)
            case atStart => exact ⟨k0, hk0, rfl, HTZ, Below.refl _ _⟩
            case round =>
              obtain ⟨k, hk, rfl, HT1, HB8⟩ := hrel
              have x2 := row_cell (row_on RAQ.out HB8.out) 2
              have y2 := row_cell (row_on RBQ.out HB8.out) 2
              simp only [List.getElem?_toArray, List.getElem?_cons_succ, List.getElem?_cons_zero] at x2 y2
              by_cases hkb : k < nb
              · have hkD : k < D2.length := by rw [HNB.out]; exact hkb
                obtain ⟨gb, hgb, _, c0', c1', c2', c3', c4', c5'⟩ := Fd.Dw.cells (VBQ.out.on HB8.out) hkD
                have HST := hid (trs_take_succ hkD)
                obtain ⟨y, hy⟩ : ∃ y, D2[k] = y := ⟨_, rfl⟩
                have HYY := hid hy
                rw [hy] at c0' c1' c2' c3' c4' c5' HST
                clear hy
                subst hgb
                have s0 : (0 : Int) ≤ (k : Int) := by omega
                have s1 : (k : Int) < (nb : Int) := by omega
                by_cases hy2 : y.kd = 2
                · rw [hy2] at c1'
                  have HNX := hid (show ∀ h : k < D2.length, D2[k].kd = 2 from fun h => by rw [HYY.out]; exact hy2)
                  have hee := trs_end HTR.out (by exact HT1.out) HNX.out (by rw [HNB.out]; exact hk)
                  have := HNB.out
                  omega
                · have hy2' : (y.kd == 2) = false := by simpa using hy2
                  clear c0' c2' c3' c4' c5'
                  go_wp2
                  go_roundw
                  case rel => exact ⟨k + 1, by omega, by go_num, hid (by rw [HST.out, if_neg hy2, List.append_nil]; exact HT1.out), HB8⟩
                  case measure => simp [intOf]; omega
              · have hk5 : k = nb := by omega
                have HNX := hid (show ∀ h : k < D2.length, D2[k].kd = 2 from fun h => by have := HNB.out; omega)
                subst hk5
                go_wp2
                go_ret
                exact ⟨rfl, btr (btr HBD.out HB5.out) HB8.out⟩
end Go.Proofs.Ytojmcfkbekodpaa
