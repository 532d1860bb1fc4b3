/-
  FeedFinds: the walk.
-/
import Derived.Test.YtojmcfkbekodpaaQj
import Derived.Test.YtojmcfkbekodpaaRl
namespace Go.Proofs.Ytojmcfkbekodpaa
open Go.RowKit Go.Deep Go.Shelf
set_option linter.unusedVariables false
set_option linter.unusedSimpArgs false
set_option maxHeartbeats 16000000
set_option maxRecDepth 100000
attribute [local go_sem ↓] Go.wp_at_zero Go.wp_at_succ
theorem finds_ok (d hold : Nat) (d1 : 1 ≤ d) (d2 : d ≤ 64) (hh : hold ≤ 1024) (cap meet : Int) (hcf : cfg cap meet = true) (q : Option Addr) (c0 : Nat) (l : List Cm) (pv : Option Addr) (cv : Nat) (vs : List Int) (W : World) (hl : Cmz W q l) (hok : ∀ c ∈ l, CmOk c) (hm : l.length ≤ 1048576) (hv : Vz W pv vs) (hvr : ∀ v ∈ vs, -9223372036854775808 ≤ v ∧ v < 9223372036854775808) (hvm : vs.length ≤ 1048576) :
    Calls Try.prog 5 #[.int .i64 d, .int .i64 hold, .agg #[.int .i64 cap, .int .i64 meet], .slice q l.length c0, .slice pv vs.length cv] W fun e w' => e = .returned (.bool true) ∧ Below W.heap.size W w' := by
  have HW := hid (World.alloc_heap_new W (.cells #[.int .i64 cap, .int .i64 meet] 23))
  have HB0 := hid (ball W (.cells #[.int .i64 cap, .int .i64 meet] 23))
  obtain ⟨W1, hW⟩ : ∃ W1, W.alloc (.cells #[.int .i64 cap, .int .i64 meet] 23) = W1 := ⟨_, rfl⟩
  rw [hW] at HW HB0
  have CL := hid (Fd.lives_ok W1)
  have CS := hid (show ∀ (U : World), Below W.heap.size W U → Calls Try.prog 15 #[.int .i64 d, .agg #[.int .i64 cap, .int .i64 meet], .slice q l.length c0] U _ from fun U hU => shown_ok d d1 d2 cap meet hcf q c0 l U (fun i hi => by
    obtain ⟨b, off, h1, h2, h3⟩ := hl i hi
    refine ⟨b, off, h1, Nat.lt_of_lt_of_le h2 hU.size, fun j hj => ?_⟩
    have h := h3 j hj
    have hlen : j < (cmr l[i]).size := by show j < 9; exact hj
    rw [Array.getElem?_eq_getElem hlen] at h ⊢
    exact (hU.cell (p := ⟨b, off + i * 9 + j, none⟩) h2).trans h) hok hm)
  have CA := hid (show ∀ U, Calls Try.prog 16 #[.int .i64 hold] U _ from fun U => sq_new hold hh U)
  have HCF := hid hcf
  have HVS := hid hv
  have HVR := hid hvr
  obtain ⟨n, hnn⟩ : ∃ n, l.length = n := ⟨_, rfl⟩
  obtain ⟨nv, hnv⟩ : ∃ n, vs.length = n := ⟨_, rfl⟩
  rw [hnn] at hm CS ⊢
  rw [hnv] at hvm ⊢
  have HNV := hid hnv
  have hm' : n < 9223372036854775808 := by omega
  have HE := hid hW
  clear hW hl hok hnn hcf hv hvr hnv
  go_enter Try.func5, Try.ntmps5
  go_upto_region 1 with fail
  rw [HE.out]
  go_upto_region 3 with (go_at_call 7; with_reducible refine (CL.out).mono ?_; rintro e w1 ⟨rfl, hb⟩; have HB1 := hid hb; clear hb)
  have CS1 := hid (CS.out w1 (btr HB0.out HB1.out))
  have k0 := row_cell (row_on HW.out HB1.out) 0
  have k1 := row_cell (row_on HW.out HB1.out) 1
  simp only [List.getElem?_toArray, List.getElem?_cons_succ, List.getElem?_cons_zero] at k0 k1
  go_upto_region 6 with (go_at_call 15; with_reducible refine (CS1.out).mono ?_; rintro e w2 ⟨lo1, S1, B1, P1, dq1, dc1, D, pq1, pc1, L, b1, rfl, h1, h2, h3, h4, h5⟩; have V2 := hid h1; have YP := hid h2; have ND := hid h3; have ML := hid h4; have HB2 := hid h5; clear h1 h2 h3 h4 h5)
  clear k0 k1 CS CS1 HW CL
  go_upto_region 7 with (go_at_call 16; with_reducible refine (CA.out _).mono ?_; rintro e w3 ⟨Sa, Ma, F, rfl, h1, h2, h3⟩; have QA := hid h1; have FA := hid h2; have B3 := hid h3; clear h1 h2 h3)
  obtain ⟨na, hna⟩ : ∃ t, D.length = t := ⟨_, rfl⟩
  obtain ⟨p, hp⟩ : ∃ t, n + 1 = t := ⟨_, rfl⟩
  have hL : L.length = p := by rw [← hp]; exact ML.out
  have hna' : na ≤ 2300000 * 1048576 := by have := ND.out; rw [hna] at this; omega
  have hp' : p ≤ 1048577 := by omega
  have hp0 : 0 < p := by omega
  have TL := hid (ply_tl HCF.out d2 YP.out (by rw [hna]; omega)).1
  have SO := hid (show So w2.heap.size w3 Sa Ma 0 hold Ss0 from ⟨F, QA.out, FA.out⟩)
  have HBB := hid (btr (btr HB0.out HB1.out) HB2.out)
  have HVW := hid (show ∀ U, Below w2.heap.size w2 U → ∀ i (h : i < vs.length), ∃ b off, pv = some ⟨b, off, none⟩ ∧ U.cell? ⟨b, off + i, none⟩ = some (.int .i64 vs[i]) from fun U hU i h => by
    obtain ⟨b, off, h1, h2, h3⟩ := HVS.out i h
    exact ⟨b, off, h1, ((btr HBB.out hU).cell (p := ⟨b, off + i, none⟩) h2).trans h3⟩)
  have HR := hid V2.out.row
  rw [hna, hL] at HR
  have HNA := hid hna
  have HLL := hid hL
  clear hna hL QA FA CA HE HCF YP ND ML HB1 HB2 HB0 d1 d2 hm hp HVS hh
  obtain ⟨N, hN⟩ : ∃ N, na + p = N := ⟨_, rfl⟩
  have hN0 : 0 < N := by omega
  have hN1 : N ≤ 2300000 * 1048576 + 1048577 := by omega
  have HNN := hid hN
  clear hN
  go_wp2
  go_loopw [15] (fun iv wr => ∃ (i nm : Nat) (s : Fd.Ss), i ≤ nv ∧ iv = .int .i64 i ∧ Hid (nm ≤ i) ∧ Hid (Fi D s) ∧ Hid (So w2.heap.size wr Sa Ma nm hold s) ∧ Hid (Below w2.heap.size w2 wr)) (fun iv _ => nv - (intOf iv).toNat)
  case atStart => exact ⟨0, 0, Ss0, Nat.zero_le _, rfl, hid (Nat.le_refl _), hid (fi0 D), SO, B3⟩
  case round =>
    obtain ⟨i, nm, s, hin, rfl, HNM, HFI, HSO, HB⟩ := hrel
    have HRr := hid (row_on HR.out HB.out)
    have x2 := row_cell HRr.out 2
    have x3 := row_cell HRr.out 3
    simp only [List.getElem?_toArray, List.getElem?_cons_succ, List.getElem?_cons_zero] at x2 x3
    by_cases hlt : i < nv
    · as_aux_lemma =>
        have hiv : i < vs.length := by rw [HNV.out]; exact hlt
        obtain ⟨gv, ov, hpv, cv0⟩ := HVW.out _ HB.out i hiv
        have hvr := HVR.out _ (List.getElem_mem hiv)
        obtain ⟨v, hv⟩ : ∃ v, vs[i] = v := ⟨_, rfl⟩
        rw [hv] at cv0 hvr
        obtain ⟨r, hr⟩ : ∃ r, Int.tmod v (N : Int) = r := ⟨_, rfl⟩
        have hr1 : -(N : Int) < r ∧ r < (N : Int) := by
          rw [← hr]
          have h1 := Int.tmod_lt_of_pos v (show (0 : Int) < (N : Int) by omega)
          have h2 := Int.lt_tmod_of_pos v (show (0 : Int) < (N : Int) by omega)
          omega
        have f1 : IntKind.i64.wrap ((na : Int) + (p : Int)) = (N : Int) := by rw [IntKind.wrap_i64]; have := HNN.out; omega
        have f2 : ¬ (N : Int) = 0 := by omega
        have f3 : ¬ N = 0 := by omega
        have f4 : IntKind.i64.wrap (Int.tmod v (N : Int)) = r := by rw [hr, IntKind.wrap_i64]; omega
        have i0' : (0 : Int) ≤ (i : Int) := by omega
        have i1 : (i : Int) < (nv : Int) := by omega
        clear hv hiv
        subst hpv
        go_upto_region 12 with fail
        go_big_quiet (fail)
        obtain ⟨wK, hwK⟩ : ∃ w, wr.drewN nq = w := ⟨_, rfl⟩
        have BK := hid (show Below wr.heap.size wr wK from by rw [← hwK]; exact bdrew _ _)
        rw [hwK]
        clear hwK x2 x3 cv0 f1 f2 f3 f4
        have HSK0 := hid (HSO.out.on BK.out)
        have BWK0 := hid (btr HB.out BK.out)
        clear BK
        by_cases r0 : r < 0
        · obtain ⟨k, hk⟩ : ∃ k : Nat, r + (N : Int) = (k : Int) := ⟨(r + (N : Int)).toNat, by omega⟩
          have hkN : k < N := by omega
          obtain ⟨y0, hy0⟩ : ∃ y, r + (na : Int) = y := ⟨_, rfl⟩
          have g5 : IntKind.i64.wrap (r + (na : Int)) = y0 := by rw [IntKind.wrap_i64]; omega
          have g6 : IntKind.i64.wrap (y0 + (p : Int)) = (k : Int) := by rw [IntKind.wrap_i64]; have := HNN.out; omega
          have g0 : decide (r < 0) = true := by simp; omega
          have HRK0 := hid (row_on HR.out BWK0.out)
          have x2 := row_cell HRK0.out 2
          have x3 := row_cell HRK0.out 3
          simp only [List.getElem?_toArray, List.getElem?_cons_succ, List.getElem?_cons_zero] at x2 x3
          clear hy0 hk
          go_upto_region 14 with fail
          go_big_quiet (fail)
          clear x2 x3 g5 g6 g0 hr1 hr r0
          obtain ⟨wK2, hwK2⟩ : ∃ w, wK.drewN nq = w := ⟨_, rfl⟩
          have BK2 := hid (show Below wK.heap.size wK wK2 from by rw [← hwK2]; exact bdrew _ _)
          rw [hwK2]
          clear hwK2
          have HSK := hid (HSK0.out.on BK2.out)
          have BWK := hid (btr BWK0.out BK2.out)
          clear HSK0 BWK0 BK2 HRK0
          have HRK := hid (row_on HR.out BWK.out)
          have x2 := row_cell HRK.out 2
          have x3 := row_cell HRK.out 3
          simp only [List.getElem?_toArray, List.getElem?_cons_succ, List.getElem?_cons_zero] at x2 x3
          by_cases hka : k < na
          · have g1 : decide ((k : Int) < (na : Int)) = true := by simp; omega
            have g2 : decide (k < na) = true := by simp; omega
            have hkD : k < D.length := by rw [HNA.out]; exact hka
            obtain ⟨gd, hgd, _, e0, e1, e2, e3, e4, e5⟩ := Fd.Dw.cells ((V2.out.on BWK.out).da) hkD
            have hsq := TL.out.num k hkD
            have HFT := hid (HFI.out.tkS TL.out (by rw [HNA.out]; omega) hkD hold)
            obtain ⟨y, hy⟩ : ∃ y, D[k] = y := ⟨_, rfl⟩
            rw [hy] at e0 e1 e2 e3 e4 e5 hsq HFT
            have CT := hid (so_take HSK.out BWK.out.size y (by omega) (by have := HNM.out; unfold maxLen; omega))
            clear hy hsq
            have HGD := hid hgd
            rw [hgd] at x2
            have s0 : (0 : Int) ≤ (k : Int) := by omega
            have s1 : (k : Int) < (na : Int) := by omega
            go_upto_region 18 with (go_at_call 17; with_reducible refine (CT.out).mono ?_; rintro e VW ⟨rfl, nn, h1, h2, h3⟩; have HSV := hid h2; have BVV := hid (BWK.out.trans h3); have HNN2 := hid (show nn ≤ i + 1 from by have := HNM.out; omega); clear h1 h2 h3)
            have HFV := hid HFT.out
            clear HFT CT e0 e1 e2 e3 e4 e5 x2 x3 g1 g2 HSK BWK HSO HB HFI hgd
            obtain ⟨m, hmn, hms, hml1, hml2⟩ := HFV.out.n
            rw [HNA.out] at hmn
            obtain ⟨n1, hn1⟩ : ∃ x, (fds 1 [] (D.take m)).length = x := ⟨_, rfl⟩
            obtain ⟨n2, hn2⟩ : ∃ x, (fds 2 [] (D.take m)).length = x := ⟨_, rfl⟩
            have CPI := hid (show Calls Try.prog 21 #[.pointer (some ⟨Sa, 0, none⟩)] VW fun e w' => ∃ q1 d1 q2 d2, e = .returned (.agg #[.int .u64 m, .slice q1 n1 d1, .slice q2 n2 d2]) ∧ Hid (Fd.Rl w' q1 d1 (fds 1 [] (D.take m))) ∧ Hid (Fd.Rl w' q2 d2 (fds 2 [] (D.take m))) ∧ Hid (Below VW.heap.size VW w') from by
              obtain ⟨F, hF, _⟩ := HSV.out.ex
              have h := sq_pic hF
              rw [hms, hml1, hml2, hn1, hn2] at h
              exact h)
            have CFO := hid (show ∀ U, Below w2.heap.size w2 U → Calls Try.prog 22 #[.slice dq1 na dc1, .int .u64 m] U fun e w' => ∃ q1 d1 q2 d2, e = .returned (.agg #[.int .u64 m, .slice q1 n1 d1, .slice q2 n2 d2]) ∧ Hid (Fd.Rl w' q1 d1 (fds 1 [] (D.take m))) ∧ Hid (Fd.Rl w' q2 d2 (fds 2 [] (D.take m))) ∧ Hid (Below U.heap.size U w') from fun U hU => by
              have h := fold_any TL.out _ dq1 dc1 m (by rw [HNA.out]; exact hmn) (by rw [HNA.out]; omega) U (V2.out.on hU).da
              rw [HNA.out, hn1, hn2] at h
              exact h)
            have HN1 := hid hn1
            have HN2 := hid hn2
            clear hms hml1 hml2 hn1 hn2
            have f8 : IntKind.u64.wrap (na : Int) = (na : Int) := by rw [IntKind.wrap_u64]; omega
            have f9 : decide ((na : Int) < (m : Int)) = false := by simp; omega
            have f10 : decide (na < m) = false := by simp; omega
            have f11 : ¬ (na : Int) < (m : Int) := by omega
            go_upto_region 18 with fail
            go_upto_region 19 with (first | (go_at_call 21; with_reducible refine (CPI.out).mono ?_; rintro e w8 ⟨q1, a1, q2, a2, rfl, RL1, RL2, B8⟩; have HZ8 := hid (World.alloc_heap_new w8 (.cells #[.int .u64 0, .slice none 0 0, .slice none 0 0] 49))) | (refine wpList_store_row (by rfl) 49 (.tmp 17) (.tmp 121) (by rfl) w8.heap.size #[.int .u64 m, .slice q1 n1 a1, .slice q2 n2 a2] (by rfl) (by rfl) 49 _ HZ8.out Fd.infoP (by rfl) (by simp [Value.oneCell']) ?_))
            obtain ⟨X8, hX8⟩ : ∃ X, (w8.alloc (.cells #[.int .u64 0, .slice none 0 0, .slice none 0 0] 49)).setRow w8.heap.size #[.int .u64 m, .slice q1 n1 a1, .slice q2 n2 a2] = X := ⟨_, rfl⟩
            have G8 := hid (show X8.heap[w8.heap.size]? = some (.cells #[.int .u64 m, .slice q1 n1 a1, .slice q2 n2 a2] 49 (0, 0)) from by rw [← hX8]; exact setRow_heap _ _ _ _ 49 (0, 0) HZ8.out)
            have BX8 := hid (show Below w8.heap.size w8 X8 from by rw [← hX8]; exact Fd.setRow_below (ball _ _) (Nat.le_refl _))
            rw [hX8]
            clear hX8 HZ8
            have BX9 := hid (btr (btr BVV.out B8.out) BX8.out)
            obtain ⟨gz, hgz⟩ : ∃ g, w8.heap.size = g := ⟨_, rfl⟩
            rw [hgz] at G8 ⊢
            have HSX := hid (HSV.out.on (btr B8.out BX8.out))
            have RX := hid (show Fd.Rl X8 q1 a1 (fds 1 [] (D.take m)) ∧ Fd.Rl X8 q2 a2 (fds 2 [] (D.take m)) from ⟨RL1.out.on BX8.out, RL2.out.on BX8.out⟩)
            clear hgz B8 BX8 HSV BVV RL1 RL2 CPI
            have HS := hid (show ∀ U, Below X8.heap.size X8 U → U.cell? ⟨gz, 0, none⟩ = some (.int .u64 m) ∧ U.cell? ⟨gz, 1, none⟩ = some (.slice q1 n1 a1) ∧ U.cell? ⟨gz, 2, none⟩ = some (.slice q2 n2 a2) ∧ U.cell? ⟨S1, 2, none⟩ = some (.slice dq1 na dc1) from fun U hU => ⟨row_cell (row_on G8.out hU) 0, row_cell (row_on G8.out hU) 1, row_cell (row_on G8.out hU) 2, row_cell (row_on HR.out (btr BX9.out hU)) 2⟩)
            have CSM := hid (show ∀ (U : World) (u1 : Option Addr) (b1 : Nat) (u2 : Option Addr) (b2 : Nat), Below X8.heap.size X8 U → Fd.Rl U u1 b1 (fds 1 [] (D.take m)) → Fd.Rl U u2 b2 (fds 2 [] (D.take m)) → Calls Try.prog 20 #[.agg #[.int .u64 m, .slice q1 n1 a1, .slice q2 n2 a2], .agg #[.int .u64 m, .slice u1 n1 b1, .slice u2 n2 b2]] U fun e w' => e = .returned (.bool true) ∧ Hid (Below U.heap.size U w') from fun U u1 b1 u2 b2 hU r1 r2 => by
              have h := Fd.samePicture_same m q1 q2 u1 u2 a1 a2 b1 b2 _ _ U (RX.out.1.on hU) (RX.out.2.on hU) r1 r2
              rw [HN1.out, HN2.out] at h
              exact h)
            obtain ⟨V0, hV0⟩ : ∃ U, X8.drew = U := ⟨_, rfl⟩
            have DV0 := hid (show Below X8.heap.size X8 V0 from by rw [← hV0]; exact bdrew1 _)
            refine wp_region_held_drew (S := fun U => U.cell? ⟨gz, 0, none⟩ = some (.int .u64 m) ∧ U.cell? ⟨gz, 1, none⟩ = some (.slice q1 n1 a1) ∧ U.cell? ⟨gz, 2, none⟩ = some (.slice q2 n2 a2) ∧ U.cell? ⟨S1, 2, none⟩ = some (.slice dq1 na dc1)) (by kernel_rfl) ?_ (fun hHeld => ?_)
            · (try dsimp only); rw [hV0]; exact HS.out _ DV0.out
            rw [hV0] at hHeld ⊢
            clear hV0
            refine' wpAnyH_take (i := 0) (oi := _) (v := _) rfl (by kernel_rfl) (by kernel_rfl) (by kernel_rfl) (fun _ _ _ h => h) (Or.inl ⟨by kernel_rfl, ?hyq1⟩) (by assumption) ?restq1
            case hyq1 => (intro w hSw; (try dsimp only at hSw); go_simp; try (with_reducible rfl))
            try simp only [List.getElem_toArray, List.getElem_cons_succ, List.getElem_cons_zero, Act.put, List.setIfInBounds_toArray, List.set_cons_zero, List.set_cons_succ]
            refine' wpAnyH_take (i := 1) (oi := _) (v := _) rfl (by kernel_rfl) (by kernel_rfl) (by kernel_rfl) (fun _ _ _ h => h) (Or.inl ⟨by kernel_rfl, ?hyq2⟩) (by assumption) ?restq2
            case hyq2 => (intro w hSw; (try dsimp only at hSw); go_simp; try (with_reducible rfl))
            try simp only [List.getElem_toArray, List.getElem_cons_succ, List.getElem_cons_zero, Act.put, List.setIfInBounds_toArray, List.set_cons_zero, List.set_cons_succ]
            refine' wpAnyH_take (i := 2) (oi := _) (v := _) rfl (by kernel_rfl) (by kernel_rfl) (by kernel_rfl) (fun _ _ _ h => h) (Or.inl ⟨by kernel_rfl, ?hyq3⟩) (by assumption) ?restq3
            case hyq3 => (intro w hSw; (try dsimp only at hSw); go_simp; try (with_reducible rfl))
            try simp only [List.getElem_toArray, List.getElem_cons_succ, List.getElem_cons_zero, Act.put, List.setIfInBounds_toArray, List.set_cons_zero, List.set_cons_succ]
            refine' wpAnyH_take (i := 3) (oi := _) (v := _) rfl (by kernel_rfl) (by kernel_rfl) (by kernel_rfl) (fun _ _ _ h => h) (Or.inl ⟨by kernel_rfl, ?hyq4⟩) (by assumption) ?restq4
            case hyq4 => (intro w hSw; (try dsimp only at hSw); go_simp; try (with_reducible rfl))
            try simp only [List.getElem_toArray, List.getElem_cons_succ, List.getElem_cons_zero, Act.put, List.setIfInBounds_toArray, List.set_cons_zero, List.set_cons_succ]
            refine' wpAnyH_take (i := 4) (oi := _) (v := _) rfl (by kernel_rfl) (by kernel_rfl) (by kernel_rfl) (fun _ _ _ h => h) (Or.inl ⟨by kernel_rfl, ?hyq5⟩) (by assumption) ?restq5
            case hyq5 => (intro w hSw; (try dsimp only at hSw); go_simp; try (with_reducible rfl))
            try simp only [List.getElem_toArray, List.getElem_cons_succ, List.getElem_cons_zero, Act.put, List.setIfInBounds_toArray, List.set_cons_zero, List.set_cons_succ]
            refine' wpAnyH_take (i := 5) (oi := _) (v := _) rfl (by kernel_rfl) (by kernel_rfl) (by kernel_rfl) (fun _ _ _ h => h) (Or.inl ⟨by kernel_rfl, ?hyq6⟩) (by assumption) ?restq6
            case hyq6 => (intro w hSw; (try dsimp only at hSw); go_simp; try (with_reducible rfl))
            try simp only [List.getElem_toArray, List.getElem_cons_succ, List.getElem_cons_zero, Act.put, List.setIfInBounds_toArray, List.set_cons_zero, List.set_cons_succ]
            refine' wpAnyH_take (i := 6) (oi := _) (v := _) rfl (by kernel_rfl) (by kernel_rfl) (by kernel_rfl) (fun _ _ _ h => h) (Or.inl ⟨by kernel_rfl, ?hyq7⟩) (by assumption) ?restq7
            case hyq7 => (intro w hSw; (try dsimp only at hSw); go_simp; try (with_reducible rfl))
            try simp only [List.getElem_toArray, List.getElem_cons_succ, List.getElem_cons_zero, Act.put, List.setIfInBounds_toArray, List.set_cons_zero, List.set_cons_succ]
            refine wpAnyH_ready (rs := [7]) (by kernel_rfl) (by simp) ?_
            refine (AllReadyH.cons (o := _) rfl (fun K hK => ?_) AllReadyH.nil)
            go_simp
            go_at_call 22
            with_reducible refine (CFO.out V0 (btr BX9.out DV0.out)).mono ?_
            rintro e Y1 ⟨u1, b1', u2, b2', rfl, RF1, RF2, B9⟩
            have DY1 := hid (btr DV0.out B9.out)
            clear B9
            (try go_wp2_with fail)
            refine hK.out _ _ ?_ (fun hHeld => ?_)
            · (try dsimp only); exact HS.out _ DY1.out
            clear hK K
            try simp only [List.getElem_toArray, List.getElem_cons_succ, List.getElem_cons_zero, Act.put, List.setIfInBounds_toArray, List.set_cons_zero, List.set_cons_succ]
            refine wpAnyH_ready (rs := [8]) (by kernel_rfl) (by simp) ?_
            refine (AllReadyH.cons (o := _) rfl (fun K hK => ?_) AllReadyH.nil)
            go_simp
            go_at_call 20
            with_reducible refine (CSM.out Y1 u1 b1' u2 b2' DY1.out RF1.out RF2.out).mono ?_
            rintro e Y2 ⟨rfl, B9⟩
            have DY2 := hid (btr DY1.out B9.out)
            clear B9
            (try go_wp2_with fail)
            refine hK.out _ _ ?_ (fun hHeld => ?_)
            · (try dsimp only); exact HS.out _ DY2.out
            clear hK K
            try simp only [List.getElem_toArray, List.getElem_cons_succ, List.getElem_cons_zero, Act.put, List.setIfInBounds_toArray, List.set_cons_zero, List.set_cons_succ]
            refine' wpAnyH_take (i := 9) (oi := _) (v := _) rfl (by kernel_rfl) (by kernel_rfl) (by kernel_rfl) (fun _ _ _ h => h) (Or.inl ⟨by kernel_rfl, ?hyq8⟩) (by assumption) ?restq8
            case hyq8 => (intro w hSw; (try dsimp only at hSw); go_simp; try (with_reducible rfl))
            try simp only [List.getElem_toArray, List.getElem_cons_succ, List.getElem_cons_zero, Act.put, List.setIfInBounds_toArray, List.set_cons_zero, List.set_cons_succ]
            refine' wpAnyH_take (i := 10) (oi := _) (v := _) rfl (by kernel_rfl) (by kernel_rfl) (by kernel_rfl) (fun _ _ _ h => h) (Or.inl ⟨by kernel_rfl, ?hyq9⟩) (by assumption) ?restq9
            case hyq9 => (intro w hSw; (try dsimp only at hSw); go_simp; try (with_reducible rfl))
            try simp only [List.getElem_toArray, List.getElem_cons_succ, List.getElem_cons_zero, Act.put, List.setIfInBounds_toArray, List.set_cons_zero, List.set_cons_succ]
            refine' wpAnyH_take (i := 11) (oi := _) (v := _) rfl (by kernel_rfl) (by kernel_rfl) (by kernel_rfl) (fun _ _ _ h => h) (Or.inl ⟨by kernel_rfl, ?hyq10⟩) (by assumption) ?restq10
            case hyq10 => (intro w hSw; (try dsimp only at hSw); go_simp; try (with_reducible rfl))
            try simp only [List.getElem_toArray, List.getElem_cons_succ, List.getElem_cons_zero, Act.put, List.setIfInBounds_toArray, List.set_cons_zero, List.set_cons_succ]
            refine' wpAnyH_take (i := 12) (oi := _) (v := _) rfl (by kernel_rfl) (by kernel_rfl) (by kernel_rfl) (fun _ _ _ h => h) (Or.inl ⟨by kernel_rfl, ?hyq11⟩) (by assumption) ?restq11
            case hyq11 => (intro w hSw; (try dsimp only at hSw); go_simp; try (with_reducible rfl))
            try simp only [List.getElem_toArray, List.getElem_cons_succ, List.getElem_cons_zero, Act.put, List.setIfInBounds_toArray, List.set_cons_zero, List.set_cons_succ]
            refine' wpAnyH_take (i := 13) (oi := _) (v := _) rfl (by kernel_rfl) (by kernel_rfl) (by kernel_rfl) (fun _ _ _ h => h) (Or.inl ⟨by kernel_rfl, ?hyq12⟩) (by assumption) ?restq12
            case hyq12 => (intro w hSw; (try dsimp only at hSw); go_simp; try (with_reducible rfl))
            try simp only [List.getElem_toArray, List.getElem_cons_succ, List.getElem_cons_zero, Act.put, List.setIfInBounds_toArray, List.set_cons_zero, List.set_cons_succ]
            refine' wpAnyH_take (i := 14) (oi := _) (v := _) rfl (by kernel_rfl) (by kernel_rfl) (by kernel_rfl) (fun _ _ _ h => h) (Or.inl ⟨by kernel_rfl, ?hyq13⟩) (by assumption) ?restq13
            case hyq13 => (intro w hSw; (try dsimp only at hSw); go_simp; try (with_reducible rfl))
            try simp only [List.getElem_toArray, List.getElem_cons_succ, List.getElem_cons_zero, Act.put, List.setIfInBounds_toArray, List.set_cons_zero, List.set_cons_succ]
            refine' wpAnyH_take (i := 15) (oi := _) (v := _) rfl (by kernel_rfl) (by kernel_rfl) (by kernel_rfl) (fun _ _ _ h => h) (Or.inl ⟨by kernel_rfl, ?hyq14⟩) (by assumption) ?restq14
            case hyq14 => (intro w hSw; (try dsimp only at hSw); go_simp; try (with_reducible rfl))
            try simp only [List.getElem_toArray, List.getElem_cons_succ, List.getElem_cons_zero, Act.put, List.setIfInBounds_toArray, List.set_cons_zero, List.set_cons_succ]
            refine' wpAnyH_take (i := 16) (oi := _) (v := _) rfl (by kernel_rfl) (by kernel_rfl) (by kernel_rfl) (fun _ _ _ h => h) (Or.inl ⟨by kernel_rfl, ?hyq15⟩) (by assumption) ?restq15
            case hyq15 => (intro w hSw; (try dsimp only at hSw); go_simp; try (with_reducible rfl))
            try simp only [List.getElem_toArray, List.getElem_cons_succ, List.getElem_cons_zero, Act.put, List.setIfInBounds_toArray, List.set_cons_zero, List.set_cons_succ]
            refine' wpAnyH_take (i := 17) (oi := _) (v := _) rfl (by kernel_rfl) (by kernel_rfl) (by kernel_rfl) (fun _ _ _ h => h) (Or.inl ⟨by kernel_rfl, ?hyq16⟩) (by assumption) ?restq16
            case hyq16 => (intro w hSw; (try dsimp only at hSw); go_simp; try (with_reducible rfl))
            try simp only [List.getElem_toArray, List.getElem_cons_succ, List.getElem_cons_zero, Act.put, List.setIfInBounds_toArray, List.set_cons_zero, List.set_cons_succ]
            refine' wpAnyH_take (i := 18) (oi := _) (v := _) rfl (by kernel_rfl) (by kernel_rfl) (by kernel_rfl) (fun _ _ _ h => h) (Or.inl ⟨by kernel_rfl, ?hyq17⟩) (by assumption) ?restq17
            case hyq17 => (intro w hSw; (try dsimp only at hSw); go_simp; try (with_reducible rfl))
            try simp only [List.getElem_toArray, List.getElem_cons_succ, List.getElem_cons_zero, Act.put, List.setIfInBounds_toArray, List.set_cons_zero, List.set_cons_succ]
            refine' wpAnyH_take (i := 19) (oi := _) (v := _) rfl (by kernel_rfl) (by kernel_rfl) (by kernel_rfl) (fun _ _ _ h => h) (Or.inl ⟨by kernel_rfl, ?hyq18⟩) (by assumption) ?restq18
            case hyq18 => (intro w hSw; (try dsimp only at hSw); go_simp; try (with_reducible rfl))
            try simp only [List.getElem_toArray, List.getElem_cons_succ, List.getElem_cons_zero, Act.put, List.setIfInBounds_toArray, List.set_cons_zero, List.set_cons_succ]
            refine' wpAnyH_take (i := 20) (oi := _) (v := _) rfl (by kernel_rfl) (by kernel_rfl) (by kernel_rfl) (fun _ _ _ h => h) (Or.inl ⟨by kernel_rfl, ?hyq19⟩) (by assumption) ?restq19
            case hyq19 => (intro w hSw; (try dsimp only at hSw); go_simp; try (with_reducible rfl))
            try simp only [List.getElem_toArray, List.getElem_cons_succ, List.getElem_cons_zero, Act.put, List.setIfInBounds_toArray, List.set_cons_zero, List.set_cons_succ]
            refine wpAnyH_done (by kernel_rfl) ?_ _
            go_wp2
            go_roundw
            case rel => exact ⟨i + 1, nn, _, by omega, by go_num, HNN2, HFV, hid (HSX.out.on DY2.out), hid (btr BX9.out DY2.out)⟩
            case measure => simp [intOf]; omega
          · obtain ⟨j, hj⟩ : ∃ j, k = na + j := ⟨k - na, by omega⟩
            have hjp : j < p := by have := HNN.out; omega
            have g1 : decide ((k : Int) < (na : Int)) = false := by simp; omega
            have g2 : decide (k < na) = false := by simp; omega
            have g3 : IntKind.i64.wrap ((k : Int) - (na : Int)) = (j : Int) := by rw [IntKind.wrap_i64]; omega
            have s0 : (0 : Int) ≤ (j : Int) := by omega
            have s1 : (j : Int) < (p : Int) := by omega
            clear hj
            have hjL : j < L.length := by rw [HLL.out]; exact hjp
            obtain ⟨g1p, hpq, hA⟩ := V2.out.at hjL
            have hlA := V2.out.lvs hjL
            have hT := tl_at TL.out hjL
            obtain ⟨X, hX⟩ : ∃ x, L[j] = x := ⟨_, rfl⟩
            rw [hX] at hA hlA hT
            obtain ⟨sx, p1, c1, l1, p2, c2, l2⟩ := X
            simp only at hA hlA hT
            obtain ⟨t1, ht1⟩ : ∃ t, l1.length = t := ⟨_, rfl⟩
            obtain ⟨t2, ht2⟩ : ∃ t, l2.length = t := ⟨_, rfl⟩
            rw [ht1, ht2] at hA
            have HFR := hid (show Fi D (Fd.rcS s sx l1 l2) from by rw [hT.1]; exact HFI.out.rcS TL.out (by rw [HNA.out]; omega) hT.2.1 hT.2.2.2.1 hT.2.2.2.2.1)
            have CRC := hid (show ∀ U, Below wK2.heap.size wK2 U → Calls Try.prog 18 #[.pointer (some ⟨Sa, 0, none⟩), .agg #[.int .u64 sx, .slice p1 t1 c1, .slice p2 t2 c2]] U fun e w' => (∃ v, e = .returned (.int .i64 v)) ∧ Hid (So w2.heap.size w' Sa Ma nm hold (Fd.rcS s sx l1 l2)) ∧ Hid (Below w2.heap.size U w') from fun U hU => by
              have h := so_recover (HSK.out.on hU) (Nat.le_trans BWK.out.size hU.size) sx (by have := hT.1; have := hT.2.1; have := HNA.out; omega) p1 p2 c1 c2 l1 l2 (hlA.1.on (btr BWK.out hU)) (hlA.2.on (btr BWK.out hU))
              rw [ht1, ht2] at h
              refine h.mono ?_
              rintro e w' ⟨a1, a2, a3⟩
              exact ⟨⟨_, a1⟩, a2, a3⟩)
            have HSP := hid (show ∀ U, Below wK2.heap.size wK2 U → U.cell? ⟨S1, 3, none⟩ = some (.slice (some ⟨g1p, 0, none⟩) p pc1) ∧ U.cell? ⟨S1, 2, none⟩ = some (.slice dq1 na dc1) ∧ U.cell? ⟨g1p, j * 3, none⟩ = some (.int .u64 sx) ∧ U.cell? ⟨g1p, j * 3 + 1, none⟩ = some (.slice p1 t1 c1) ∧ U.cell? ⟨g1p, j * 3 + 2, none⟩ = some (.slice p2 t2 c2) from fun U hU => ⟨by rw [← hpq]; exact row_cell (row_on HR.out (btr BWK.out hU)) 3, row_cell (row_on HR.out (btr BWK.out hU)) 2, hA U (btr BWK.out hU)⟩)
            have HSQ2 := hid (show ∀ U, Below w2.heap.size w2 U → U.cell? ⟨S1, 3, none⟩ = some (.slice (some ⟨g1p, 0, none⟩) p pc1) ∧ U.cell? ⟨S1, 2, none⟩ = some (.slice dq1 na dc1) ∧ U.cell? ⟨g1p, j * 3, none⟩ = some (.int .u64 sx) ∧ U.cell? ⟨g1p, j * 3 + 1, none⟩ = some (.slice p1 t1 c1) ∧ U.cell? ⟨g1p, j * 3 + 2, none⟩ = some (.slice p2 t2 c2) from fun U hU => ⟨by rw [← hpq]; exact row_cell (row_on HR.out hU) 3, row_cell (row_on HR.out hU) 2, hA U hU⟩)
            clear hA hlA hT hX ht1 ht2 hjL hpq
            go_upto_region 17 with fail
            obtain ⟨V0, hV0⟩ : ∃ U, wK2.drew = U := ⟨_, rfl⟩
            have DV0 := hid (show Below wK2.heap.size wK2 V0 from by rw [← hV0]; exact bdrew1 _)
            refine wp_region_held_drew (S := fun U => U.cell? ⟨S1, 3, none⟩ = some (.slice (some ⟨g1p, 0, none⟩) p pc1) ∧ U.cell? ⟨S1, 2, none⟩ = some (.slice dq1 na dc1) ∧ U.cell? ⟨g1p, j * 3, none⟩ = some (.int .u64 sx) ∧ U.cell? ⟨g1p, j * 3 + 1, none⟩ = some (.slice p1 t1 c1) ∧ U.cell? ⟨g1p, j * 3 + 2, none⟩ = some (.slice p2 t2 c2)) (by kernel_rfl) ?_ (fun hHeld => ?_)
            · (try dsimp only); rw [hV0]; exact HSP.out _ DV0.out
            rw [hV0] at hHeld ⊢
            clear hV0
            refine' wpAnyH_take (i := 0) (oi := _) (v := _) rfl (by kernel_rfl) (by kernel_rfl) (by kernel_rfl) (fun _ _ _ h => h) (Or.inl ⟨by kernel_rfl, ?hyq20⟩) (by assumption) ?restq20
            case hyq20 => (intro w hSw; (try dsimp only at hSw); go_simp; try (with_reducible rfl))
            try simp only [List.getElem_toArray, List.getElem_cons_succ, List.getElem_cons_zero, Act.put, List.setIfInBounds_toArray, List.set_cons_zero, List.set_cons_succ]
            refine' wpAnyH_take (i := 1) (oi := _) (v := _) rfl (by kernel_rfl) (by kernel_rfl) (by kernel_rfl) (fun _ _ _ h => h) (Or.inl ⟨by kernel_rfl, ?hyq21⟩) (by assumption) ?restq21
            case hyq21 => (intro w hSw; (try dsimp only at hSw); go_simp; try (with_reducible rfl))
            try simp only [List.getElem_toArray, List.getElem_cons_succ, List.getElem_cons_zero, Act.put, List.setIfInBounds_toArray, List.set_cons_zero, List.set_cons_succ]
            refine' wpAnyH_take (i := 2) (oi := _) (v := _) rfl (by kernel_rfl) (by kernel_rfl) (by kernel_rfl) (fun _ _ _ h => h) (Or.inl ⟨by kernel_rfl, ?hyq22⟩) (by assumption) ?restq22
            case hyq22 => (intro w hSw; (try dsimp only at hSw); go_simp; try (with_reducible rfl))
            try simp only [List.getElem_toArray, List.getElem_cons_succ, List.getElem_cons_zero, Act.put, List.setIfInBounds_toArray, List.set_cons_zero, List.set_cons_succ]
            refine' wpAnyH_take (i := 3) (oi := _) (v := _) rfl (by kernel_rfl) (by kernel_rfl) (by kernel_rfl) (fun _ _ _ h => h) (Or.inl ⟨by kernel_rfl, ?hyq23⟩) (by assumption) ?restq23
            case hyq23 => (intro w hSw; (try dsimp only at hSw); go_simp; try (with_reducible rfl))
            try simp only [List.getElem_toArray, List.getElem_cons_succ, List.getElem_cons_zero, Act.put, List.setIfInBounds_toArray, List.set_cons_zero, List.set_cons_succ]
            refine' wpAnyH_take (i := 4) (oi := _) (v := _) rfl (by kernel_rfl) (by kernel_rfl) (by kernel_rfl) (fun _ _ _ h => h) (Or.inl ⟨by kernel_rfl, ?hyq24⟩) (by assumption) ?restq24
            case hyq24 => (intro w hSw; (try dsimp only at hSw); go_simp; try (with_reducible rfl))
            try simp only [List.getElem_toArray, List.getElem_cons_succ, List.getElem_cons_zero, Act.put, List.setIfInBounds_toArray, List.set_cons_zero, List.set_cons_succ]
            refine' wpAnyH_take (i := 5) (oi := _) (v := _) rfl (by kernel_rfl) (by kernel_rfl) (by kernel_rfl) (fun _ _ _ h => h) (Or.inl ⟨by kernel_rfl, ?hyq25⟩) (by assumption) ?restq25
            case hyq25 => (intro w hSw; (try dsimp only at hSw); go_simp; try (with_reducible rfl))
            try simp only [List.getElem_toArray, List.getElem_cons_succ, List.getElem_cons_zero, Act.put, List.setIfInBounds_toArray, List.set_cons_zero, List.set_cons_succ]
            refine' wpAnyH_take (i := 6) (oi := _) (v := _) rfl (by kernel_rfl) (by kernel_rfl) (by kernel_rfl) (fun _ _ _ h => h) (Or.inl ⟨by kernel_rfl, ?hyq26⟩) (by assumption) ?restq26
            case hyq26 => (intro w hSw; (try dsimp only at hSw); go_simp; try (with_reducible rfl))
            try simp only [List.getElem_toArray, List.getElem_cons_succ, List.getElem_cons_zero, Act.put, List.setIfInBounds_toArray, List.set_cons_zero, List.set_cons_succ]
            refine' wpAnyH_take (i := 7) (oi := _) (v := _) rfl (by kernel_rfl) (by kernel_rfl) (by kernel_rfl) (fun _ _ _ h => h) (Or.inl ⟨by kernel_rfl, ?hyq27⟩) (by assumption) ?restq27
            case hyq27 => (intro w hSw; (try dsimp only at hSw); go_simp; try (with_reducible rfl))
            try simp only [List.getElem_toArray, List.getElem_cons_succ, List.getElem_cons_zero, Act.put, List.setIfInBounds_toArray, List.set_cons_zero, List.set_cons_succ]
            refine' wpAnyH_take (i := 8) (oi := _) (v := _) rfl (by kernel_rfl) (by kernel_rfl) (by kernel_rfl) (fun _ _ _ h => h) (Or.inl ⟨by kernel_rfl, ?hyq28⟩) (by assumption) ?restq28
            case hyq28 => (intro w hSw; (try dsimp only at hSw); go_simp; try (with_reducible rfl))
            try simp only [List.getElem_toArray, List.getElem_cons_succ, List.getElem_cons_zero, Act.put, List.setIfInBounds_toArray, List.set_cons_zero, List.set_cons_succ]
            refine' wpAnyH_take (i := 9) (oi := _) (v := _) rfl (by kernel_rfl) (by kernel_rfl) (by kernel_rfl) (fun _ _ _ h => h) (Or.inl ⟨by kernel_rfl, ?hyq29⟩) (by assumption) ?restq29
            case hyq29 => (intro w hSw; (try dsimp only at hSw); go_simp; try (with_reducible rfl))
            try simp only [List.getElem_toArray, List.getElem_cons_succ, List.getElem_cons_zero, Act.put, List.setIfInBounds_toArray, List.set_cons_zero, List.set_cons_succ]
            refine' wpAnyH_take (i := 10) (oi := _) (v := _) rfl (by kernel_rfl) (by kernel_rfl) (by kernel_rfl) (fun _ _ _ h => h) (Or.inl ⟨by kernel_rfl, ?hyq30⟩) (by assumption) ?restq30
            case hyq30 => (intro w hSw; (try dsimp only at hSw); go_simp; try (with_reducible rfl))
            try simp only [List.getElem_toArray, List.getElem_cons_succ, List.getElem_cons_zero, Act.put, List.setIfInBounds_toArray, List.set_cons_zero, List.set_cons_succ]
            refine' wpAnyH_take (i := 11) (oi := _) (v := _) rfl (by kernel_rfl) (by kernel_rfl) (by kernel_rfl) (fun _ _ _ h => h) (Or.inl ⟨by kernel_rfl, ?hyq31⟩) (by assumption) ?restq31
            case hyq31 => (intro w hSw; (try dsimp only at hSw); go_simp; try (with_reducible rfl))
            try simp only [List.getElem_toArray, List.getElem_cons_succ, List.getElem_cons_zero, Act.put, List.setIfInBounds_toArray, List.set_cons_zero, List.set_cons_succ]
            refine' wpAnyH_take (i := 12) (oi := _) (v := _) rfl (by kernel_rfl) (by kernel_rfl) (by kernel_rfl) (fun _ _ _ h => h) (Or.inl ⟨by kernel_rfl, ?hyq32⟩) (by assumption) ?restq32
            case hyq32 => (intro w hSw; (try dsimp only at hSw); go_simp; try (with_reducible rfl))
            try simp only [List.getElem_toArray, List.getElem_cons_succ, List.getElem_cons_zero, Act.put, List.setIfInBounds_toArray, List.set_cons_zero, List.set_cons_succ]
            refine' wpAnyH_take (i := 13) (oi := _) (v := _) rfl (by kernel_rfl) (by kernel_rfl) (by kernel_rfl) (fun _ _ _ h => h) (Or.inl ⟨by kernel_rfl, ?hyq33⟩) (by assumption) ?restq33
            case hyq33 => (intro w hSw; (try dsimp only at hSw); go_simp; try (with_reducible rfl))
            try simp only [List.getElem_toArray, List.getElem_cons_succ, List.getElem_cons_zero, Act.put, List.setIfInBounds_toArray, List.set_cons_zero, List.set_cons_succ]
            refine wpAnyH_ready (rs := [14]) (by kernel_rfl) (by simp) ?_
            refine (AllReadyH.cons (o := _) rfl (fun K hK => ?_) AllReadyH.nil)
            go_simp
            go_at_call 18
            with_reducible refine (CRC.out V0 DV0.out).mono ?_
            rintro e VW ⟨⟨v9, rfl⟩, HSV, B9⟩
            have BVV := hid ((btr BWK.out DV0.out).trans B9.out)
            clear B9
            (try go_wp2_with fail)
            refine hK.out _ _ ?_ (fun hHeld => ?_)
            · (try dsimp only); exact HSQ2.out _ BVV.out
            clear hK K
            try simp only [List.getElem_toArray, List.getElem_cons_succ, List.getElem_cons_zero, Act.put, List.setIfInBounds_toArray, List.set_cons_zero, List.set_cons_succ]
            refine wpAnyH_done (by kernel_rfl) ?_ _
            have HFV := hid HFR.out
            have HNN2 := hid (show nm ≤ i + 1 from by have := HNM.out; omega)
            obtain ⟨nn, hnn⟩ : ∃ m, nm = m := ⟨_, rfl⟩
            rw [hnn] at HSV HNN2
            clear hnn
            clear HFR CRC HSP HSQ2 x2 x3 g1 g2 g3 HSK BWK HSO HB HFI DV0
            obtain ⟨m, hmn, hms, hml1, hml2⟩ := HFV.out.n
            rw [HNA.out] at hmn
            obtain ⟨n1, hn1⟩ : ∃ x, (fds 1 [] (D.take m)).length = x := ⟨_, rfl⟩
            obtain ⟨n2, hn2⟩ : ∃ x, (fds 2 [] (D.take m)).length = x := ⟨_, rfl⟩
            have CPI := hid (show Calls Try.prog 21 #[.pointer (some ⟨Sa, 0, none⟩)] VW fun e w' => ∃ q1 d1 q2 d2, e = .returned (.agg #[.int .u64 m, .slice q1 n1 d1, .slice q2 n2 d2]) ∧ Hid (Fd.Rl w' q1 d1 (fds 1 [] (D.take m))) ∧ Hid (Fd.Rl w' q2 d2 (fds 2 [] (D.take m))) ∧ Hid (Below VW.heap.size VW w') from by
              obtain ⟨F, hF, _⟩ := HSV.out.ex
              have h := sq_pic hF
              rw [hms, hml1, hml2, hn1, hn2] at h
              exact h)
            have CFO := hid (show ∀ U, Below w2.heap.size w2 U → Calls Try.prog 22 #[.slice dq1 na dc1, .int .u64 m] U fun e w' => ∃ q1 d1 q2 d2, e = .returned (.agg #[.int .u64 m, .slice q1 n1 d1, .slice q2 n2 d2]) ∧ Hid (Fd.Rl w' q1 d1 (fds 1 [] (D.take m))) ∧ Hid (Fd.Rl w' q2 d2 (fds 2 [] (D.take m))) ∧ Hid (Below U.heap.size U w') from fun U hU => by
              have h := fold_any TL.out _ dq1 dc1 m (by rw [HNA.out]; exact hmn) (by rw [HNA.out]; omega) U (V2.out.on hU).da
              rw [HNA.out, hn1, hn2] at h
              exact h)
            have HN1 := hid hn1
            have HN2 := hid hn2
            clear hms hml1 hml2 hn1 hn2
            have f8 : IntKind.u64.wrap (na : Int) = (na : Int) := by rw [IntKind.wrap_u64]; omega
            have f9 : decide ((na : Int) < (m : Int)) = false := by simp; omega
            have f10 : decide (na < m) = false := by simp; omega
            have f11 : ¬ (na : Int) < (m : Int) := by omega
            go_upto_region 18 with fail
            go_upto_region 19 with (first | (go_at_call 21; with_reducible refine (CPI.out).mono ?_; rintro e w8 ⟨q1, a1, q2, a2, rfl, RL1, RL2, B8⟩; have HZ8 := hid (World.alloc_heap_new w8 (.cells #[.int .u64 0, .slice none 0 0, .slice none 0 0] 49))) | (refine wpList_store_row (by rfl) 49 (.tmp 17) (.tmp 121) (by rfl) w8.heap.size #[.int .u64 m, .slice q1 n1 a1, .slice q2 n2 a2] (by rfl) (by rfl) 49 _ HZ8.out Fd.infoP (by rfl) (by simp [Value.oneCell']) ?_))
            obtain ⟨X8, hX8⟩ : ∃ X, (w8.alloc (.cells #[.int .u64 0, .slice none 0 0, .slice none 0 0] 49)).setRow w8.heap.size #[.int .u64 m, .slice q1 n1 a1, .slice q2 n2 a2] = X := ⟨_, rfl⟩
            have G8 := hid (show X8.heap[w8.heap.size]? = some (.cells #[.int .u64 m, .slice q1 n1 a1, .slice q2 n2 a2] 49 (0, 0)) from by rw [← hX8]; exact setRow_heap _ _ _ _ 49 (0, 0) HZ8.out)
            have BX8 := hid (show Below w8.heap.size w8 X8 from by rw [← hX8]; exact Fd.setRow_below (ball _ _) (Nat.le_refl _))
            rw [hX8]
            clear hX8 HZ8
            have BX9 := hid (btr (btr BVV.out B8.out) BX8.out)
            obtain ⟨gz, hgz⟩ : ∃ g, w8.heap.size = g := ⟨_, rfl⟩
            rw [hgz] at G8 ⊢
            have HSX := hid (HSV.out.on (btr B8.out BX8.out))
            have RX := hid (show Fd.Rl X8 q1 a1 (fds 1 [] (D.take m)) ∧ Fd.Rl X8 q2 a2 (fds 2 [] (D.take m)) from ⟨RL1.out.on BX8.out, RL2.out.on BX8.out⟩)
            clear hgz B8 BX8 HSV BVV RL1 RL2 CPI
            have HS := hid (show ∀ U, Below X8.heap.size X8 U → U.cell? ⟨gz, 0, none⟩ = some (.int .u64 m) ∧ U.cell? ⟨gz, 1, none⟩ = some (.slice q1 n1 a1) ∧ U.cell? ⟨gz, 2, none⟩ = some (.slice q2 n2 a2) ∧ U.cell? ⟨S1, 2, none⟩ = some (.slice dq1 na dc1) from fun U hU => ⟨row_cell (row_on G8.out hU) 0, row_cell (row_on G8.out hU) 1, row_cell (row_on G8.out hU) 2, row_cell (row_on HR.out (btr BX9.out hU)) 2⟩)
            have CSM := hid (show ∀ (U : World) (u1 : Option Addr) (b1 : Nat) (u2 : Option Addr) (b2 : Nat), Below X8.heap.size X8 U → Fd.Rl U u1 b1 (fds 1 [] (D.take m)) → Fd.Rl U u2 b2 (fds 2 [] (D.take m)) → Calls Try.prog 20 #[.agg #[.int .u64 m, .slice q1 n1 a1, .slice q2 n2 a2], .agg #[.int .u64 m, .slice u1 n1 b1, .slice u2 n2 b2]] U fun e w' => e = .returned (.bool true) ∧ Hid (Below U.heap.size U w') from fun U u1 b1 u2 b2 hU r1 r2 => by
              have h := Fd.samePicture_same m q1 q2 u1 u2 a1 a2 b1 b2 _ _ U (RX.out.1.on hU) (RX.out.2.on hU) r1 r2
              rw [HN1.out, HN2.out] at h
              exact h)
            obtain ⟨V0, hV0⟩ : ∃ U, X8.drew = U := ⟨_, rfl⟩
            have DV0 := hid (show Below X8.heap.size X8 V0 from by rw [← hV0]; exact bdrew1 _)
            refine wp_region_held_drew (S := fun U => U.cell? ⟨gz, 0, none⟩ = some (.int .u64 m) ∧ U.cell? ⟨gz, 1, none⟩ = some (.slice q1 n1 a1) ∧ U.cell? ⟨gz, 2, none⟩ = some (.slice q2 n2 a2) ∧ U.cell? ⟨S1, 2, none⟩ = some (.slice dq1 na dc1)) (by kernel_rfl) ?_ (fun hHeld => ?_)
            · (try dsimp only); rw [hV0]; exact HS.out _ DV0.out
            rw [hV0] at hHeld ⊢
            clear hV0
            refine' wpAnyH_take (i := 0) (oi := _) (v := _) rfl (by kernel_rfl) (by kernel_rfl) (by kernel_rfl) (fun _ _ _ h => h) (Or.inl ⟨by kernel_rfl, ?hyq34⟩) (by assumption) ?restq34
            case hyq34 => (intro w hSw; (try dsimp only at hSw); go_simp; try (with_reducible rfl))
            try simp only [List.getElem_toArray, List.getElem_cons_succ, List.getElem_cons_zero, Act.put, List.setIfInBounds_toArray, List.set_cons_zero, List.set_cons_succ]
            refine' wpAnyH_take (i := 1) (oi := _) (v := _) rfl (by kernel_rfl) (by kernel_rfl) (by kernel_rfl) (fun _ _ _ h => h) (Or.inl ⟨by kernel_rfl, ?hyq35⟩) (by assumption) ?restq35
            case hyq35 => (intro w hSw; (try dsimp only at hSw); go_simp; try (with_reducible rfl))
            try simp only [List.getElem_toArray, List.getElem_cons_succ, List.getElem_cons_zero, Act.put, List.setIfInBounds_toArray, List.set_cons_zero, List.set_cons_succ]
            refine' wpAnyH_take (i := 2) (oi := _) (v := _) rfl (by kernel_rfl) (by kernel_rfl) (by kernel_rfl) (fun _ _ _ h => h) (Or.inl ⟨by kernel_rfl, ?hyq36⟩) (by assumption) ?restq36
            case hyq36 => (intro w hSw; (try dsimp only at hSw); go_simp; try (with_reducible rfl))
            try simp only [List.getElem_toArray, List.getElem_cons_succ, List.getElem_cons_zero, Act.put, List.setIfInBounds_toArray, List.set_cons_zero, List.set_cons_succ]
            refine' wpAnyH_take (i := 3) (oi := _) (v := _) rfl (by kernel_rfl) (by kernel_rfl) (by kernel_rfl) (fun _ _ _ h => h) (Or.inl ⟨by kernel_rfl, ?hyq37⟩) (by assumption) ?restq37
            case hyq37 => (intro w hSw; (try dsimp only at hSw); go_simp; try (with_reducible rfl))
            try simp only [List.getElem_toArray, List.getElem_cons_succ, List.getElem_cons_zero, Act.put, List.setIfInBounds_toArray, List.set_cons_zero, List.set_cons_succ]
            refine' wpAnyH_take (i := 4) (oi := _) (v := _) rfl (by kernel_rfl) (by kernel_rfl) (by kernel_rfl) (fun _ _ _ h => h) (Or.inl ⟨by kernel_rfl, ?hyq38⟩) (by assumption) ?restq38
            case hyq38 => (intro w hSw; (try dsimp only at hSw); go_simp; try (with_reducible rfl))
            try simp only [List.getElem_toArray, List.getElem_cons_succ, List.getElem_cons_zero, Act.put, List.setIfInBounds_toArray, List.set_cons_zero, List.set_cons_succ]
            refine' wpAnyH_take (i := 5) (oi := _) (v := _) rfl (by kernel_rfl) (by kernel_rfl) (by kernel_rfl) (fun _ _ _ h => h) (Or.inl ⟨by kernel_rfl, ?hyq39⟩) (by assumption) ?restq39
            case hyq39 => (intro w hSw; (try dsimp only at hSw); go_simp; try (with_reducible rfl))
            try simp only [List.getElem_toArray, List.getElem_cons_succ, List.getElem_cons_zero, Act.put, List.setIfInBounds_toArray, List.set_cons_zero, List.set_cons_succ]
            refine' wpAnyH_take (i := 6) (oi := _) (v := _) rfl (by kernel_rfl) (by kernel_rfl) (by kernel_rfl) (fun _ _ _ h => h) (Or.inl ⟨by kernel_rfl, ?hyq40⟩) (by assumption) ?restq40
            case hyq40 => (intro w hSw; (try dsimp only at hSw); go_simp; try (with_reducible rfl))
            try simp only [List.getElem_toArray, List.getElem_cons_succ, List.getElem_cons_zero, Act.put, List.setIfInBounds_toArray, List.set_cons_zero, List.set_cons_succ]
            refine wpAnyH_ready (rs := [7]) (by kernel_rfl) (by simp) ?_
            refine (AllReadyH.cons (o := _) rfl (fun K hK => ?_) AllReadyH.nil)
            go_simp
            go_at_call 22
            with_reducible refine (CFO.out V0 (btr BX9.out DV0.out)).mono ?_
            rintro e Y1 ⟨u1, b1', u2, b2', rfl, RF1, RF2, B9⟩
            have DY1 := hid (btr DV0.out B9.out)
            clear B9
            (try go_wp2_with fail)
            refine hK.out _ _ ?_ (fun hHeld => ?_)
            · (try dsimp only); exact HS.out _ DY1.out
            clear hK K
            try simp only [List.getElem_toArray, List.getElem_cons_succ, List.getElem_cons_zero, Act.put, List.setIfInBounds_toArray, List.set_cons_zero, List.set_cons_succ]
            refine wpAnyH_ready (rs := [8]) (by kernel_rfl) (by simp) ?_
            refine (AllReadyH.cons (o := _) rfl (fun K hK => ?_) AllReadyH.nil)
            go_simp
            go_at_call 20
            with_reducible refine (CSM.out Y1 u1 b1' u2 b2' DY1.out RF1.out RF2.out).mono ?_
            rintro e Y2 ⟨rfl, B9⟩
            have DY2 := hid (btr DY1.out B9.out)
            clear B9
            (try go_wp2_with fail)
            refine hK.out _ _ ?_ (fun hHeld => ?_)
            · (try dsimp only); exact HS.out _ DY2.out
            clear hK K
            try simp only [List.getElem_toArray, List.getElem_cons_succ, List.getElem_cons_zero, Act.put, List.setIfInBounds_toArray, List.set_cons_zero, List.set_cons_succ]
            refine' wpAnyH_take (i := 9) (oi := _) (v := _) rfl (by kernel_rfl) (by kernel_rfl) (by kernel_rfl) (fun _ _ _ h => h) (Or.inl ⟨by kernel_rfl, ?hyq41⟩) (by assumption) ?restq41
            case hyq41 => (intro w hSw; (try dsimp only at hSw); go_simp; try (with_reducible rfl))
            try simp only [List.getElem_toArray, List.getElem_cons_succ, List.getElem_cons_zero, Act.put, List.setIfInBounds_toArray, List.set_cons_zero, List.set_cons_succ]
            refine' wpAnyH_take (i := 10) (oi := _) (v := _) rfl (by kernel_rfl) (by kernel_rfl) (by kernel_rfl) (fun _ _ _ h => h) (Or.inl ⟨by kernel_rfl, ?hyq42⟩) (by assumption) ?restq42
            case hyq42 => (intro w hSw; (try dsimp only at hSw); go_simp; try (with_reducible rfl))
            try simp only [List.getElem_toArray, List.getElem_cons_succ, List.getElem_cons_zero, Act.put, List.setIfInBounds_toArray, List.set_cons_zero, List.set_cons_succ]
            refine' wpAnyH_take (i := 11) (oi := _) (v := _) rfl (by kernel_rfl) (by kernel_rfl) (by kernel_rfl) (fun _ _ _ h => h) (Or.inl ⟨by kernel_rfl, ?hyq43⟩) (by assumption) ?restq43
            case hyq43 => (intro w hSw; (try dsimp only at hSw); go_simp; try (with_reducible rfl))
            try simp only [List.getElem_toArray, List.getElem_cons_succ, List.getElem_cons_zero, Act.put, List.setIfInBounds_toArray, List.set_cons_zero, List.set_cons_succ]
            refine' wpAnyH_take (i := 12) (oi := _) (v := _) rfl (by kernel_rfl) (by kernel_rfl) (by kernel_rfl) (fun _ _ _ h => h) (Or.inl ⟨by kernel_rfl, ?hyq44⟩) (by assumption) ?restq44
            case hyq44 => (intro w hSw; (try dsimp only at hSw); go_simp; try (with_reducible rfl))
            try simp only [List.getElem_toArray, List.getElem_cons_succ, List.getElem_cons_zero, Act.put, List.setIfInBounds_toArray, List.set_cons_zero, List.set_cons_succ]
            refine' wpAnyH_take (i := 13) (oi := _) (v := _) rfl (by kernel_rfl) (by kernel_rfl) (by kernel_rfl) (fun _ _ _ h => h) (Or.inl ⟨by kernel_rfl, ?hyq45⟩) (by assumption) ?restq45
            case hyq45 => (intro w hSw; (try dsimp only at hSw); go_simp; try (with_reducible rfl))
            try simp only [List.getElem_toArray, List.getElem_cons_succ, List.getElem_cons_zero, Act.put, List.setIfInBounds_toArray, List.set_cons_zero, List.set_cons_succ]
            refine' wpAnyH_take (i := 14) (oi := _) (v := _) rfl (by kernel_rfl) (by kernel_rfl) (by kernel_rfl) (fun _ _ _ h => h) (Or.inl ⟨by kernel_rfl, ?hyq46⟩) (by assumption) ?restq46
            case hyq46 => (intro w hSw; (try dsimp only at hSw); go_simp; try (with_reducible rfl))
            try simp only [List.getElem_toArray, List.getElem_cons_succ, List.getElem_cons_zero, Act.put, List.setIfInBounds_toArray, List.set_cons_zero, List.set_cons_succ]
            refine' wpAnyH_take (i := 15) (oi := _) (v := _) rfl (by kernel_rfl) (by kernel_rfl) (by kernel_rfl) (fun _ _ _ h => h) (Or.inl ⟨by kernel_rfl, ?hyq47⟩) (by assumption) ?restq47
            case hyq47 => (intro w hSw; (try dsimp only at hSw); go_simp; try (with_reducible rfl))
            try simp only [List.getElem_toArray, List.getElem_cons_succ, List.getElem_cons_zero, Act.put, List.setIfInBounds_toArray, List.set_cons_zero, List.set_cons_succ]
            refine' wpAnyH_take (i := 16) (oi := _) (v := _) rfl (by kernel_rfl) (by kernel_rfl) (by kernel_rfl) (fun _ _ _ h => h) (Or.inl ⟨by kernel_rfl, ?hyq48⟩) (by assumption) ?restq48
            case hyq48 => (intro w hSw; (try dsimp only at hSw); go_simp; try (with_reducible rfl))
            try simp only [List.getElem_toArray, List.getElem_cons_succ, List.getElem_cons_zero, Act.put, List.setIfInBounds_toArray, List.set_cons_zero, List.set_cons_succ]
            refine' wpAnyH_take (i := 17) (oi := _) (v := _) rfl (by kernel_rfl) (by kernel_rfl) (by kernel_rfl) (fun _ _ _ h => h) (Or.inl ⟨by kernel_rfl, ?hyq49⟩) (by assumption) ?restq49
            case hyq49 => (intro w hSw; (try dsimp only at hSw); go_simp; try (with_reducible rfl))
            try simp only [List.getElem_toArray, List.getElem_cons_succ, List.getElem_cons_zero, Act.put, List.setIfInBounds_toArray, List.set_cons_zero, List.set_cons_succ]
            refine' wpAnyH_take (i := 18) (oi := _) (v := _) rfl (by kernel_rfl) (by kernel_rfl) (by kernel_rfl) (fun _ _ _ h => h) (Or.inl ⟨by kernel_rfl, ?hyq50⟩) (by assumption) ?restq50
            case hyq50 => (intro w hSw; (try dsimp only at hSw); go_simp; try (with_reducible rfl))
            try simp only [List.getElem_toArray, List.getElem_cons_succ, List.getElem_cons_zero, Act.put, List.setIfInBounds_toArray, List.set_cons_zero, List.set_cons_succ]
            refine' wpAnyH_take (i := 19) (oi := _) (v := _) rfl (by kernel_rfl) (by kernel_rfl) (by kernel_rfl) (fun _ _ _ h => h) (Or.inl ⟨by kernel_rfl, ?hyq51⟩) (by assumption) ?restq51
            case hyq51 => (intro w hSw; (try dsimp only at hSw); go_simp; try (with_reducible rfl))
            try simp only [List.getElem_toArray, List.getElem_cons_succ, List.getElem_cons_zero, Act.put, List.setIfInBounds_toArray, List.set_cons_zero, List.set_cons_succ]
            refine' wpAnyH_take (i := 20) (oi := _) (v := _) rfl (by kernel_rfl) (by kernel_rfl) (by kernel_rfl) (fun _ _ _ h => h) (Or.inl ⟨by kernel_rfl, ?hyq52⟩) (by assumption) ?restq52
            case hyq52 => (intro w hSw; (try dsimp only at hSw); go_simp; try (with_reducible rfl))
            try simp only [List.getElem_toArray, List.getElem_cons_succ, List.getElem_cons_zero, Act.put, List.setIfInBounds_toArray, List.set_cons_zero, List.set_cons_succ]
            refine wpAnyH_done (by kernel_rfl) ?_ _
            go_wp2
            go_roundw
            case rel => exact ⟨i + 1, nn, _, by omega, by go_num, HNN2, HFV, hid (HSX.out.on DY2.out), hid (btr BX9.out DY2.out)⟩
            case measure => simp [intOf]; omega
        · obtain ⟨k, rfl⟩ : ∃ k : Nat, r = (k : Int) := ⟨r.toNat, by omega⟩
          have hkN : k < N := by omega
          have g0 : decide ((k : Int) < 0) = false := by simp; try omega
          have HRK := hid (row_on HR.out BWK0.out)
          have x2 := row_cell HRK.out 2
          have x3 := row_cell HRK.out 3
          simp only [List.getElem?_toArray, List.getElem?_cons_succ, List.getElem?_cons_zero] at x2 x3
          have HSK := HSK0
          have BWK := BWK0
          clear HSK0 BWK0 r0 hr1 hr
          by_cases hka : k < na
          · have g1 : decide ((k : Int) < (na : Int)) = true := by simp; omega
            have g2 : decide (k < na) = true := by simp; omega
            have hkD : k < D.length := by rw [HNA.out]; exact hka
            obtain ⟨gd, hgd, _, e0, e1, e2, e3, e4, e5⟩ := Fd.Dw.cells ((V2.out.on BWK.out).da) hkD
            have hsq := TL.out.num k hkD
            have HFT := hid (HFI.out.tkS TL.out (by rw [HNA.out]; omega) hkD hold)
            obtain ⟨y, hy⟩ : ∃ y, D[k] = y := ⟨_, rfl⟩
            rw [hy] at e0 e1 e2 e3 e4 e5 hsq HFT
            have CT := hid (so_take HSK.out BWK.out.size y (by omega) (by have := HNM.out; unfold maxLen; omega))
            clear hy hsq
            have HGD := hid hgd
            rw [hgd] at x2
            have s0 : (0 : Int) ≤ (k : Int) := by omega
            have s1 : (k : Int) < (na : Int) := by omega
            go_upto_region 18 with (go_at_call 17; with_reducible refine (CT.out).mono ?_; rintro e VW ⟨rfl, nn, h1, h2, h3⟩; have HSV := hid h2; have BVV := hid (BWK.out.trans h3); have HNN2 := hid (show nn ≤ i + 1 from by have := HNM.out; omega); clear h1 h2 h3)
            have HFV := hid HFT.out
            clear HFT CT e0 e1 e2 e3 e4 e5 x2 x3 g1 g2 HSK BWK HSO HB HFI hgd
            obtain ⟨m, hmn, hms, hml1, hml2⟩ := HFV.out.n
            rw [HNA.out] at hmn
            obtain ⟨n1, hn1⟩ : ∃ x, (fds 1 [] (D.take m)).length = x := ⟨_, rfl⟩
            obtain ⟨n2, hn2⟩ : ∃ x, (fds 2 [] (D.take m)).length = x := ⟨_, rfl⟩
            have CPI := hid (show Calls Try.prog 21 #[.pointer (some ⟨Sa, 0, none⟩)] VW fun e w' => ∃ q1 d1 q2 d2, e = .returned (.agg #[.int .u64 m, .slice q1 n1 d1, .slice q2 n2 d2]) ∧ Hid (Fd.Rl w' q1 d1 (fds 1 [] (D.take m))) ∧ Hid (Fd.Rl w' q2 d2 (fds 2 [] (D.take m))) ∧ Hid (Below VW.heap.size VW w') from by
              obtain ⟨F, hF, _⟩ := HSV.out.ex
              have h := sq_pic hF
              rw [hms, hml1, hml2, hn1, hn2] at h
              exact h)
            have CFO := hid (show ∀ U, Below w2.heap.size w2 U → Calls Try.prog 22 #[.slice dq1 na dc1, .int .u64 m] U fun e w' => ∃ q1 d1 q2 d2, e = .returned (.agg #[.int .u64 m, .slice q1 n1 d1, .slice q2 n2 d2]) ∧ Hid (Fd.Rl w' q1 d1 (fds 1 [] (D.take m))) ∧ Hid (Fd.Rl w' q2 d2 (fds 2 [] (D.take m))) ∧ Hid (Below U.heap.size U w') from fun U hU => by
              have h := fold_any TL.out _ dq1 dc1 m (by rw [HNA.out]; exact hmn) (by rw [HNA.out]; omega) U (V2.out.on hU).da
              rw [HNA.out, hn1, hn2] at h
              exact h)
            have HN1 := hid hn1
            have HN2 := hid hn2
            clear hms hml1 hml2 hn1 hn2
            have f8 : IntKind.u64.wrap (na : Int) = (na : Int) := by rw [IntKind.wrap_u64]; omega
            have f9 : decide ((na : Int) < (m : Int)) = false := by simp; omega
            have f10 : decide (na < m) = false := by simp; omega
            have f11 : ¬ (na : Int) < (m : Int) := by omega
            go_upto_region 18 with fail
            go_upto_region 19 with (first | (go_at_call 21; with_reducible refine (CPI.out).mono ?_; rintro e w8 ⟨q1, a1, q2, a2, rfl, RL1, RL2, B8⟩; have HZ8 := hid (World.alloc_heap_new w8 (.cells #[.int .u64 0, .slice none 0 0, .slice none 0 0] 49))) | (refine wpList_store_row (by rfl) 49 (.tmp 17) (.tmp 121) (by rfl) w8.heap.size #[.int .u64 m, .slice q1 n1 a1, .slice q2 n2 a2] (by rfl) (by rfl) 49 _ HZ8.out Fd.infoP (by rfl) (by simp [Value.oneCell']) ?_))
            obtain ⟨X8, hX8⟩ : ∃ X, (w8.alloc (.cells #[.int .u64 0, .slice none 0 0, .slice none 0 0] 49)).setRow w8.heap.size #[.int .u64 m, .slice q1 n1 a1, .slice q2 n2 a2] = X := ⟨_, rfl⟩
            have G8 := hid (show X8.heap[w8.heap.size]? = some (.cells #[.int .u64 m, .slice q1 n1 a1, .slice q2 n2 a2] 49 (0, 0)) from by rw [← hX8]; exact setRow_heap _ _ _ _ 49 (0, 0) HZ8.out)
            have BX8 := hid (show Below w8.heap.size w8 X8 from by rw [← hX8]; exact Fd.setRow_below (ball _ _) (Nat.le_refl _))
            rw [hX8]
            clear hX8 HZ8
            have BX9 := hid (btr (btr BVV.out B8.out) BX8.out)
            obtain ⟨gz, hgz⟩ : ∃ g, w8.heap.size = g := ⟨_, rfl⟩
            rw [hgz] at G8 ⊢
            have HSX := hid (HSV.out.on (btr B8.out BX8.out))
            have RX := hid (show Fd.Rl X8 q1 a1 (fds 1 [] (D.take m)) ∧ Fd.Rl X8 q2 a2 (fds 2 [] (D.take m)) from ⟨RL1.out.on BX8.out, RL2.out.on BX8.out⟩)
            clear hgz B8 BX8 HSV BVV RL1 RL2 CPI
            have HS := hid (show ∀ U, Below X8.heap.size X8 U → U.cell? ⟨gz, 0, none⟩ = some (.int .u64 m) ∧ U.cell? ⟨gz, 1, none⟩ = some (.slice q1 n1 a1) ∧ U.cell? ⟨gz, 2, none⟩ = some (.slice q2 n2 a2) ∧ U.cell? ⟨S1, 2, none⟩ = some (.slice dq1 na dc1) from fun U hU => ⟨row_cell (row_on G8.out hU) 0, row_cell (row_on G8.out hU) 1, row_cell (row_on G8.out hU) 2, row_cell (row_on HR.out (btr BX9.out hU)) 2⟩)
            have CSM := hid (show ∀ (U : World) (u1 : Option Addr) (b1 : Nat) (u2 : Option Addr) (b2 : Nat), Below X8.heap.size X8 U → Fd.Rl U u1 b1 (fds 1 [] (D.take m)) → Fd.Rl U u2 b2 (fds 2 [] (D.take m)) → Calls Try.prog 20 #[.agg #[.int .u64 m, .slice q1 n1 a1, .slice q2 n2 a2], .agg #[.int .u64 m, .slice u1 n1 b1, .slice u2 n2 b2]] U fun e w' => e = .returned (.bool true) ∧ Hid (Below U.heap.size U w') from fun U u1 b1 u2 b2 hU r1 r2 => by
              have h := Fd.samePicture_same m q1 q2 u1 u2 a1 a2 b1 b2 _ _ U (RX.out.1.on hU) (RX.out.2.on hU) r1 r2
              rw [HN1.out, HN2.out] at h
              exact h)
            obtain ⟨V0, hV0⟩ : ∃ U, X8.drew = U := ⟨_, rfl⟩
            have DV0 := hid (show Below X8.heap.size X8 V0 from by rw [← hV0]; exact bdrew1 _)
            refine wp_region_held_drew (S := fun U => U.cell? ⟨gz, 0, none⟩ = some (.int .u64 m) ∧ U.cell? ⟨gz, 1, none⟩ = some (.slice q1 n1 a1) ∧ U.cell? ⟨gz, 2, none⟩ = some (.slice q2 n2 a2) ∧ U.cell? ⟨S1, 2, none⟩ = some (.slice dq1 na dc1)) (by kernel_rfl) ?_ (fun hHeld => ?_)
            · (try dsimp only); rw [hV0]; exact HS.out _ DV0.out
            rw [hV0] at hHeld ⊢
            clear hV0
            refine' wpAnyH_take (i := 0) (oi := _) (v := _) rfl (by kernel_rfl) (by kernel_rfl) (by kernel_rfl) (fun _ _ _ h => h) (Or.inl ⟨by kernel_rfl, ?hyq53⟩) (by assumption) ?restq53
            case hyq53 => (intro w hSw; (try dsimp only at hSw); go_simp; try (with_reducible rfl))
            try simp only [List.getElem_toArray, List.getElem_cons_succ, List.getElem_cons_zero, Act.put, List.setIfInBounds_toArray, List.set_cons_zero, List.set_cons_succ]
            refine' wpAnyH_take (i := 1) (oi := _) (v := _) rfl (by kernel_rfl) (by kernel_rfl) (by kernel_rfl) (fun _ _ _ h => h) (Or.inl ⟨by kernel_rfl, ?hyq54⟩) (by assumption) ?restq54
            case hyq54 => (intro w hSw; (try dsimp only at hSw); go_simp; try (with_reducible rfl))
            try simp only [List.getElem_toArray, List.getElem_cons_succ, List.getElem_cons_zero, Act.put, List.setIfInBounds_toArray, List.set_cons_zero, List.set_cons_succ]
            refine' wpAnyH_take (i := 2) (oi := _) (v := _) rfl (by kernel_rfl) (by kernel_rfl) (by kernel_rfl) (fun _ _ _ h => h) (Or.inl ⟨by kernel_rfl, ?hyq55⟩) (by assumption) ?restq55
            case hyq55 => (intro w hSw; (try dsimp only at hSw); go_simp; try (with_reducible rfl))
            try simp only [List.getElem_toArray, List.getElem_cons_succ, List.getElem_cons_zero, Act.put, List.setIfInBounds_toArray, List.set_cons_zero, List.set_cons_succ]
            refine' wpAnyH_take (i := 3) (oi := _) (v := _) rfl (by kernel_rfl) (by kernel_rfl) (by kernel_rfl) (fun _ _ _ h => h) (Or.inl ⟨by kernel_rfl, ?hyq56⟩) (by assumption) ?restq56
            case hyq56 => (intro w hSw; (try dsimp only at hSw); go_simp; try (with_reducible rfl))
            try simp only [List.getElem_toArray, List.getElem_cons_succ, List.getElem_cons_zero, Act.put, List.setIfInBounds_toArray, List.set_cons_zero, List.set_cons_succ]
            refine' wpAnyH_take (i := 4) (oi := _) (v := _) rfl (by kernel_rfl) (by kernel_rfl) (by kernel_rfl) (fun _ _ _ h => h) (Or.inl ⟨by kernel_rfl, ?hyq57⟩) (by assumption) ?restq57
            case hyq57 => (intro w hSw; (try dsimp only at hSw); go_simp; try (with_reducible rfl))
            try simp only [List.getElem_toArray, List.getElem_cons_succ, List.getElem_cons_zero, Act.put, List.setIfInBounds_toArray, List.set_cons_zero, List.set_cons_succ]
            refine' wpAnyH_take (i := 5) (oi := _) (v := _) rfl (by kernel_rfl) (by kernel_rfl) (by kernel_rfl) (fun _ _ _ h => h) (Or.inl ⟨by kernel_rfl, ?hyq58⟩) (by assumption) ?restq58
            case hyq58 => (intro w hSw; (try dsimp only at hSw); go_simp; try (with_reducible rfl))
            try simp only [List.getElem_toArray, List.getElem_cons_succ, List.getElem_cons_zero, Act.put, List.setIfInBounds_toArray, List.set_cons_zero, List.set_cons_succ]
            refine' wpAnyH_take (i := 6) (oi := _) (v := _) rfl (by kernel_rfl) (by kernel_rfl) (by kernel_rfl) (fun _ _ _ h => h) (Or.inl ⟨by kernel_rfl, ?hyq59⟩) (by assumption) ?restq59
            case hyq59 => (intro w hSw; (try dsimp only at hSw); go_simp; try (with_reducible rfl))
            try simp only [List.getElem_toArray, List.getElem_cons_succ, List.getElem_cons_zero, Act.put, List.setIfInBounds_toArray, List.set_cons_zero, List.set_cons_succ]
            refine wpAnyH_ready (rs := [7]) (by kernel_rfl) (by simp) ?_
            refine (AllReadyH.cons (o := _) rfl (fun K hK => ?_) AllReadyH.nil)
            go_simp
            go_at_call 22
            with_reducible refine (CFO.out V0 (btr BX9.out DV0.out)).mono ?_
            rintro e Y1 ⟨u1, b1', u2, b2', rfl, RF1, RF2, B9⟩
            have DY1 := hid (btr DV0.out B9.out)
            clear B9
            (try go_wp2_with fail)
            refine hK.out _ _ ?_ (fun hHeld => ?_)
            · (try dsimp only); exact HS.out _ DY1.out
            clear hK K
            try simp only [List.getElem_toArray, List.getElem_cons_succ, List.getElem_cons_zero, Act.put, List.setIfInBounds_toArray, List.set_cons_zero, List.set_cons_succ]
            refine wpAnyH_ready (rs := [8]) (by kernel_rfl) (by simp) ?_
            refine (AllReadyH.cons (o := _) rfl (fun K hK => ?_) AllReadyH.nil)
            go_simp
            go_at_call 20
            with_reducible refine (CSM.out Y1 u1 b1' u2 b2' DY1.out RF1.out RF2.out).mono ?_
            rintro e Y2 ⟨rfl, B9⟩
            have DY2 := hid (btr DY1.out B9.out)
            clear B9
            (try go_wp2_with fail)
            refine hK.out _ _ ?_ (fun hHeld => ?_)
            · (try dsimp only); exact HS.out _ DY2.out
            clear hK K
            try simp only [List.getElem_toArray, List.getElem_cons_succ, List.getElem_cons_zero, Act.put, List.setIfInBounds_toArray, List.set_cons_zero, List.set_cons_succ]
            refine' wpAnyH_take (i := 9) (oi := _) (v := _) rfl (by kernel_rfl) (by kernel_rfl) (by kernel_rfl) (fun _ _ _ h => h) (Or.inl ⟨by kernel_rfl, ?hyq60⟩) (by assumption) ?restq60
            case hyq60 => (intro w hSw; (try dsimp only at hSw); go_simp; try (with_reducible rfl))
            try simp only [List.getElem_toArray, List.getElem_cons_succ, List.getElem_cons_zero, Act.put, List.setIfInBounds_toArray, List.set_cons_zero, List.set_cons_succ]
            refine' wpAnyH_take (i := 10) (oi := _) (v := _) rfl (by kernel_rfl) (by kernel_rfl) (by kernel_rfl) (fun _ _ _ h => h) (Or.inl ⟨by kernel_rfl, ?hyq61⟩) (by assumption) ?restq61
            case hyq61 => (intro w hSw; (try dsimp only at hSw); go_simp; try (with_reducible rfl))
            try simp only [List.getElem_toArray, List.getElem_cons_succ, List.getElem_cons_zero, Act.put, List.setIfInBounds_toArray, List.set_cons_zero, List.set_cons_succ]
            refine' wpAnyH_take (i := 11) (oi := _) (v := _) rfl (by kernel_rfl) (by kernel_rfl) (by kernel_rfl) (fun _ _ _ h => h) (Or.inl ⟨by kernel_rfl, ?hyq62⟩) (by assumption) ?restq62
            case hyq62 => (intro w hSw; (try dsimp only at hSw); go_simp; try (with_reducible rfl))
            try simp only [List.getElem_toArray, List.getElem_cons_succ, List.getElem_cons_zero, Act.put, List.setIfInBounds_toArray, List.set_cons_zero, List.set_cons_succ]
            refine' wpAnyH_take (i := 12) (oi := _) (v := _) rfl (by kernel_rfl) (by kernel_rfl) (by kernel_rfl) (fun _ _ _ h => h) (Or.inl ⟨by kernel_rfl, ?hyq63⟩) (by assumption) ?restq63
            case hyq63 => (intro w hSw; (try dsimp only at hSw); go_simp; try (with_reducible rfl))
            try simp only [List.getElem_toArray, List.getElem_cons_succ, List.getElem_cons_zero, Act.put, List.setIfInBounds_toArray, List.set_cons_zero, List.set_cons_succ]
            refine' wpAnyH_take (i := 13) (oi := _) (v := _) rfl (by kernel_rfl) (by kernel_rfl) (by kernel_rfl) (fun _ _ _ h => h) (Or.inl ⟨by kernel_rfl, ?hyq64⟩) (by assumption) ?restq64
            case hyq64 => (intro w hSw; (try dsimp only at hSw); go_simp; try (with_reducible rfl))
            try simp only [List.getElem_toArray, List.getElem_cons_succ, List.getElem_cons_zero, Act.put, List.setIfInBounds_toArray, List.set_cons_zero, List.set_cons_succ]
            refine' wpAnyH_take (i := 14) (oi := _) (v := _) rfl (by kernel_rfl) (by kernel_rfl) (by kernel_rfl) (fun _ _ _ h => h) (Or.inl ⟨by kernel_rfl, ?hyq65⟩) (by assumption) ?restq65
            case hyq65 => (intro w hSw; (try dsimp only at hSw); go_simp; try (with_reducible rfl))
            try simp only [List.getElem_toArray, List.getElem_cons_succ, List.getElem_cons_zero, Act.put, List.setIfInBounds_toArray, List.set_cons_zero, List.set_cons_succ]
            refine' wpAnyH_take (i := 15) (oi := _) (v := _) rfl (by kernel_rfl) (by kernel_rfl) (by kernel_rfl) (fun _ _ _ h => h) (Or.inl ⟨by kernel_rfl, ?hyq66⟩) (by assumption) ?restq66
            case hyq66 => (intro w hSw; (try dsimp only at hSw); go_simp; try (with_reducible rfl))
            try simp only [List.getElem_toArray, List.getElem_cons_succ, List.getElem_cons_zero, Act.put, List.setIfInBounds_toArray, List.set_cons_zero, List.set_cons_succ]
            refine' wpAnyH_take (i := 16) (oi := _) (v := _) rfl (by kernel_rfl) (by kernel_rfl) (by kernel_rfl) (fun _ _ _ h => h) (Or.inl ⟨by kernel_rfl, ?hyq67⟩) (by assumption) ?restq67
            case hyq67 => (intro w hSw; (try dsimp only at hSw); go_simp; try (with_reducible rfl))
            try simp only [List.getElem_toArray, List.getElem_cons_succ, List.getElem_cons_zero, Act.put, List.setIfInBounds_toArray, List.set_cons_zero, List.set_cons_succ]
            refine' wpAnyH_take (i := 17) (oi := _) (v := _) rfl (by kernel_rfl) (by kernel_rfl) (by kernel_rfl) (fun _ _ _ h => h) (Or.inl ⟨by kernel_rfl, ?hyq68⟩) (by assumption) ?restq68
            case hyq68 => (intro w hSw; (try dsimp only at hSw); go_simp; try (with_reducible rfl))
            try simp only [List.getElem_toArray, List.getElem_cons_succ, List.getElem_cons_zero, Act.put, List.setIfInBounds_toArray, List.set_cons_zero, List.set_cons_succ]
            refine' wpAnyH_take (i := 18) (oi := _) (v := _) rfl (by kernel_rfl) (by kernel_rfl) (by kernel_rfl) (fun _ _ _ h => h) (Or.inl ⟨by kernel_rfl, ?hyq69⟩) (by assumption) ?restq69
            case hyq69 => (intro w hSw; (try dsimp only at hSw); go_simp; try (with_reducible rfl))
            try simp only [List.getElem_toArray, List.getElem_cons_succ, List.getElem_cons_zero, Act.put, List.setIfInBounds_toArray, List.set_cons_zero, List.set_cons_succ]
            refine' wpAnyH_take (i := 19) (oi := _) (v := _) rfl (by kernel_rfl) (by kernel_rfl) (by kernel_rfl) (fun _ _ _ h => h) (Or.inl ⟨by kernel_rfl, ?hyq70⟩) (by assumption) ?restq70
            case hyq70 => (intro w hSw; (try dsimp only at hSw); go_simp; try (with_reducible rfl))
            try simp only [List.getElem_toArray, List.getElem_cons_succ, List.getElem_cons_zero, Act.put, List.setIfInBounds_toArray, List.set_cons_zero, List.set_cons_succ]
            refine' wpAnyH_take (i := 20) (oi := _) (v := _) rfl (by kernel_rfl) (by kernel_rfl) (by kernel_rfl) (fun _ _ _ h => h) (Or.inl ⟨by kernel_rfl, ?hyq71⟩) (by assumption) ?restq71
            case hyq71 => (intro w hSw; (try dsimp only at hSw); go_simp; try (with_reducible rfl))
            try simp only [List.getElem_toArray, List.getElem_cons_succ, List.getElem_cons_zero, Act.put, List.setIfInBounds_toArray, List.set_cons_zero, List.set_cons_succ]
            refine wpAnyH_done (by kernel_rfl) ?_ _
            go_wp2
            go_roundw
            case rel => exact ⟨i + 1, nn, _, by omega, by go_num, HNN2, HFV, hid (HSX.out.on DY2.out), hid (btr BX9.out DY2.out)⟩
            case measure => simp [intOf]; omega
          · obtain ⟨j, hj⟩ : ∃ j, k = na + j := ⟨k - na, by omega⟩
            have hjp : j < p := by have := HNN.out; omega
            have g1 : decide ((k : Int) < (na : Int)) = false := by simp; omega
            have g2 : decide (k < na) = false := by simp; omega
            have g3 : IntKind.i64.wrap ((k : Int) - (na : Int)) = (j : Int) := by rw [IntKind.wrap_i64]; omega
            have s0 : (0 : Int) ≤ (j : Int) := by omega
            have s1 : (j : Int) < (p : Int) := by omega
            clear hj
            have hjL : j < L.length := by rw [HLL.out]; exact hjp
            obtain ⟨g1p, hpq, hA⟩ := V2.out.at hjL
            have hlA := V2.out.lvs hjL
            have hT := tl_at TL.out hjL
            obtain ⟨X, hX⟩ : ∃ x, L[j] = x := ⟨_, rfl⟩
            rw [hX] at hA hlA hT
            obtain ⟨sx, p1, c1, l1, p2, c2, l2⟩ := X
            simp only at hA hlA hT
            obtain ⟨t1, ht1⟩ : ∃ t, l1.length = t := ⟨_, rfl⟩
            obtain ⟨t2, ht2⟩ : ∃ t, l2.length = t := ⟨_, rfl⟩
            rw [ht1, ht2] at hA
            have HFR := hid (show Fi D (Fd.rcS s sx l1 l2) from by rw [hT.1]; exact HFI.out.rcS TL.out (by rw [HNA.out]; omega) hT.2.1 hT.2.2.2.1 hT.2.2.2.2.1)
            have CRC := hid (show ∀ U, Below wK.heap.size wK U → Calls Try.prog 18 #[.pointer (some ⟨Sa, 0, none⟩), .agg #[.int .u64 sx, .slice p1 t1 c1, .slice p2 t2 c2]] U fun e w' => (∃ v, e = .returned (.int .i64 v)) ∧ Hid (So w2.heap.size w' Sa Ma nm hold (Fd.rcS s sx l1 l2)) ∧ Hid (Below w2.heap.size U w') from fun U hU => by
              have h := so_recover (HSK.out.on hU) (Nat.le_trans BWK.out.size hU.size) sx (by have := hT.1; have := hT.2.1; have := HNA.out; omega) p1 p2 c1 c2 l1 l2 (hlA.1.on (btr BWK.out hU)) (hlA.2.on (btr BWK.out hU))
              rw [ht1, ht2] at h
              refine h.mono ?_
              rintro e w' ⟨a1, a2, a3⟩
              exact ⟨⟨_, a1⟩, a2, a3⟩)
            have HSP := hid (show ∀ U, Below wK.heap.size wK U → U.cell? ⟨S1, 3, none⟩ = some (.slice (some ⟨g1p, 0, none⟩) p pc1) ∧ U.cell? ⟨S1, 2, none⟩ = some (.slice dq1 na dc1) ∧ U.cell? ⟨g1p, j * 3, none⟩ = some (.int .u64 sx) ∧ U.cell? ⟨g1p, j * 3 + 1, none⟩ = some (.slice p1 t1 c1) ∧ U.cell? ⟨g1p, j * 3 + 2, none⟩ = some (.slice p2 t2 c2) from fun U hU => ⟨by rw [← hpq]; exact row_cell (row_on HR.out (btr BWK.out hU)) 3, row_cell (row_on HR.out (btr BWK.out hU)) 2, hA U (btr BWK.out hU)⟩)
            have HSQ2 := hid (show ∀ U, Below w2.heap.size w2 U → U.cell? ⟨S1, 3, none⟩ = some (.slice (some ⟨g1p, 0, none⟩) p pc1) ∧ U.cell? ⟨S1, 2, none⟩ = some (.slice dq1 na dc1) ∧ U.cell? ⟨g1p, j * 3, none⟩ = some (.int .u64 sx) ∧ U.cell? ⟨g1p, j * 3 + 1, none⟩ = some (.slice p1 t1 c1) ∧ U.cell? ⟨g1p, j * 3 + 2, none⟩ = some (.slice p2 t2 c2) from fun U hU => ⟨by rw [← hpq]; exact row_cell (row_on HR.out hU) 3, row_cell (row_on HR.out hU) 2, hA U hU⟩)
            clear hA hlA hT hX ht1 ht2 hjL hpq
            go_upto_region 17 with fail
            obtain ⟨V0, hV0⟩ : ∃ U, wK.drew = U := ⟨_, rfl⟩
            have DV0 := hid (show Below wK.heap.size wK V0 from by rw [← hV0]; exact bdrew1 _)
            refine wp_region_held_drew (S := fun U => U.cell? ⟨S1, 3, none⟩ = some (.slice (some ⟨g1p, 0, none⟩) p pc1) ∧ U.cell? ⟨S1, 2, none⟩ = some (.slice dq1 na dc1) ∧ U.cell? ⟨g1p, j * 3, none⟩ = some (.int .u64 sx) ∧ U.cell? ⟨g1p, j * 3 + 1, none⟩ = some (.slice p1 t1 c1) ∧ U.cell? ⟨g1p, j * 3 + 2, none⟩ = some (.slice p2 t2 c2)) (by kernel_rfl) ?_ (fun hHeld => ?_)
            · (try dsimp only); rw [hV0]; exact HSP.out _ DV0.out
            rw [hV0] at hHeld ⊢
            clear hV0
            refine' wpAnyH_take (i := 0) (oi := _) (v := _) rfl (by kernel_rfl) (by kernel_rfl) (by kernel_rfl) (fun _ _ _ h => h) (Or.inl ⟨by kernel_rfl, ?hyq72⟩) (by assumption) ?restq72
            case hyq72 => (intro w hSw; (try dsimp only at hSw); go_simp; try (with_reducible rfl))
            try simp only [List.getElem_toArray, List.getElem_cons_succ, List.getElem_cons_zero, Act.put, List.setIfInBounds_toArray, List.set_cons_zero, List.set_cons_succ]
            refine' wpAnyH_take (i := 1) (oi := _) (v := _) rfl (by kernel_rfl) (by kernel_rfl) (by kernel_rfl) (fun _ _ _ h => h) (Or.inl ⟨by kernel_rfl, ?hyq73⟩) (by assumption) ?restq73
            case hyq73 => (intro w hSw; (try dsimp only at hSw); go_simp; try (with_reducible rfl))
            try simp only [List.getElem_toArray, List.getElem_cons_succ, List.getElem_cons_zero, Act.put, List.setIfInBounds_toArray, List.set_cons_zero, List.set_cons_succ]
            refine' wpAnyH_take (i := 2) (oi := _) (v := _) rfl (by kernel_rfl) (by kernel_rfl) (by kernel_rfl) (fun _ _ _ h => h) (Or.inl ⟨by kernel_rfl, ?hyq74⟩) (by assumption) ?restq74
            case hyq74 => (intro w hSw; (try dsimp only at hSw); go_simp; try (with_reducible rfl))
            try simp only [List.getElem_toArray, List.getElem_cons_succ, List.getElem_cons_zero, Act.put, List.setIfInBounds_toArray, List.set_cons_zero, List.set_cons_succ]
            refine' wpAnyH_take (i := 3) (oi := _) (v := _) rfl (by kernel_rfl) (by kernel_rfl) (by kernel_rfl) (fun _ _ _ h => h) (Or.inl ⟨by kernel_rfl, ?hyq75⟩) (by assumption) ?restq75
            case hyq75 => (intro w hSw; (try dsimp only at hSw); go_simp; try (with_reducible rfl))
            try simp only [List.getElem_toArray, List.getElem_cons_succ, List.getElem_cons_zero, Act.put, List.setIfInBounds_toArray, List.set_cons_zero, List.set_cons_succ]
            refine' wpAnyH_take (i := 4) (oi := _) (v := _) rfl (by kernel_rfl) (by kernel_rfl) (by kernel_rfl) (fun _ _ _ h => h) (Or.inl ⟨by kernel_rfl, ?hyq76⟩) (by assumption) ?restq76
            case hyq76 => (intro w hSw; (try dsimp only at hSw); go_simp; try (with_reducible rfl))
            try simp only [List.getElem_toArray, List.getElem_cons_succ, List.getElem_cons_zero, Act.put, List.setIfInBounds_toArray, List.set_cons_zero, List.set_cons_succ]
            refine' wpAnyH_take (i := 5) (oi := _) (v := _) rfl (by kernel_rfl) (by kernel_rfl) (by kernel_rfl) (fun _ _ _ h => h) (Or.inl ⟨by kernel_rfl, ?hyq77⟩) (by assumption) ?restq77
            case hyq77 => (intro w hSw; (try dsimp only at hSw); go_simp; try (with_reducible rfl))
            try simp only [List.getElem_toArray, List.getElem_cons_succ, List.getElem_cons_zero, Act.put, List.setIfInBounds_toArray, List.set_cons_zero, List.set_cons_succ]
            refine' wpAnyH_take (i := 6) (oi := _) (v := _) rfl (by kernel_rfl) (by kernel_rfl) (by kernel_rfl) (fun _ _ _ h => h) (Or.inl ⟨by kernel_rfl, ?hyq78⟩) (by assumption) ?restq78
            case hyq78 => (intro w hSw; (try dsimp only at hSw); go_simp; try (with_reducible rfl))
            try simp only [List.getElem_toArray, List.getElem_cons_succ, List.getElem_cons_zero, Act.put, List.setIfInBounds_toArray, List.set_cons_zero, List.set_cons_succ]
            refine' wpAnyH_take (i := 7) (oi := _) (v := _) rfl (by kernel_rfl) (by kernel_rfl) (by kernel_rfl) (fun _ _ _ h => h) (Or.inl ⟨by kernel_rfl, ?hyq79⟩) (by assumption) ?restq79
            case hyq79 => (intro w hSw; (try dsimp only at hSw); go_simp; try (with_reducible rfl))
            try simp only [List.getElem_toArray, List.getElem_cons_succ, List.getElem_cons_zero, Act.put, List.setIfInBounds_toArray, List.set_cons_zero, List.set_cons_succ]
            refine' wpAnyH_take (i := 8) (oi := _) (v := _) rfl (by kernel_rfl) (by kernel_rfl) (by kernel_rfl) (fun _ _ _ h => h) (Or.inl ⟨by kernel_rfl, ?hyq80⟩) (by assumption) ?restq80
            case hyq80 => (intro w hSw; (try dsimp only at hSw); go_simp; try (with_reducible rfl))
            try simp only [List.getElem_toArray, List.getElem_cons_succ, List.getElem_cons_zero, Act.put, List.setIfInBounds_toArray, List.set_cons_zero, List.set_cons_succ]
            refine' wpAnyH_take (i := 9) (oi := _) (v := _) rfl (by kernel_rfl) (by kernel_rfl) (by kernel_rfl) (fun _ _ _ h => h) (Or.inl ⟨by kernel_rfl, ?hyq81⟩) (by assumption) ?restq81
            case hyq81 => (intro w hSw; (try dsimp only at hSw); go_simp; try (with_reducible rfl))
            try simp only [List.getElem_toArray, List.getElem_cons_succ, List.getElem_cons_zero, Act.put, List.setIfInBounds_toArray, List.set_cons_zero, List.set_cons_succ]
            refine' wpAnyH_take (i := 10) (oi := _) (v := _) rfl (by kernel_rfl) (by kernel_rfl) (by kernel_rfl) (fun _ _ _ h => h) (Or.inl ⟨by kernel_rfl, ?hyq82⟩) (by assumption) ?restq82
            case hyq82 => (intro w hSw; (try dsimp only at hSw); go_simp; try (with_reducible rfl))
            try simp only [List.getElem_toArray, List.getElem_cons_succ, List.getElem_cons_zero, Act.put, List.setIfInBounds_toArray, List.set_cons_zero, List.set_cons_succ]
            refine' wpAnyH_take (i := 11) (oi := _) (v := _) rfl (by kernel_rfl) (by kernel_rfl) (by kernel_rfl) (fun _ _ _ h => h) (Or.inl ⟨by kernel_rfl, ?hyq83⟩) (by assumption) ?restq83
            case hyq83 => (intro w hSw; (try dsimp only at hSw); go_simp; try (with_reducible rfl))
            try simp only [List.getElem_toArray, List.getElem_cons_succ, List.getElem_cons_zero, Act.put, List.setIfInBounds_toArray, List.set_cons_zero, List.set_cons_succ]
            refine' wpAnyH_take (i := 12) (oi := _) (v := _) rfl (by kernel_rfl) (by kernel_rfl) (by kernel_rfl) (fun _ _ _ h => h) (Or.inl ⟨by kernel_rfl, ?hyq84⟩) (by assumption) ?restq84
            case hyq84 => (intro w hSw; (try dsimp only at hSw); go_simp; try (with_reducible rfl))
            try simp only [List.getElem_toArray, List.getElem_cons_succ, List.getElem_cons_zero, Act.put, List.setIfInBounds_toArray, List.set_cons_zero, List.set_cons_succ]
            refine' wpAnyH_take (i := 13) (oi := _) (v := _) rfl (by kernel_rfl) (by kernel_rfl) (by kernel_rfl) (fun _ _ _ h => h) (Or.inl ⟨by kernel_rfl, ?hyq85⟩) (by assumption) ?restq85
            case hyq85 => (intro w hSw; (try dsimp only at hSw); go_simp; try (with_reducible rfl))
            try simp only [List.getElem_toArray, List.getElem_cons_succ, List.getElem_cons_zero, Act.put, List.setIfInBounds_toArray, List.set_cons_zero, List.set_cons_succ]
            refine wpAnyH_ready (rs := [14]) (by kernel_rfl) (by simp) ?_
            refine (AllReadyH.cons (o := _) rfl (fun K hK => ?_) AllReadyH.nil)
            go_simp
            go_at_call 18
            with_reducible refine (CRC.out V0 DV0.out).mono ?_
            rintro e VW ⟨⟨v9, rfl⟩, HSV, B9⟩
            have BVV := hid ((btr BWK.out DV0.out).trans B9.out)
            clear B9
            (try go_wp2_with fail)
            refine hK.out _ _ ?_ (fun hHeld => ?_)
            · (try dsimp only); exact HSQ2.out _ BVV.out
            clear hK K
            try simp only [List.getElem_toArray, List.getElem_cons_succ, List.getElem_cons_zero, Act.put, List.setIfInBounds_toArray, List.set_cons_zero, List.set_cons_succ]
            refine wpAnyH_done (by kernel_rfl) ?_ _
            have HFV := hid HFR.out
            have HNN2 := hid (show nm ≤ i + 1 from by have := HNM.out; omega)
            obtain ⟨nn, hnn⟩ : ∃ m, nm = m := ⟨_, rfl⟩
            rw [hnn] at HSV HNN2
            clear hnn
            clear HFR CRC HSP HSQ2 x2 x3 g1 g2 g3 HSK BWK HSO HB HFI DV0
            obtain ⟨m, hmn, hms, hml1, hml2⟩ := HFV.out.n
            rw [HNA.out] at hmn
            obtain ⟨n1, hn1⟩ : ∃ x, (fds 1 [] (D.take m)).length = x := ⟨_, rfl⟩
            obtain ⟨n2, hn2⟩ : ∃ x, (fds 2 [] (D.take m)).length = x := ⟨_, rfl⟩
            have CPI := hid (show Calls Try.prog 21 #[.pointer (some ⟨Sa, 0, none⟩)] VW fun e w' => ∃ q1 d1 q2 d2, e = .returned (.agg #[.int .u64 m, .slice q1 n1 d1, .slice q2 n2 d2]) ∧ Hid (Fd.Rl w' q1 d1 (fds 1 [] (D.take m))) ∧ Hid (Fd.Rl w' q2 d2 (fds 2 [] (D.take m))) ∧ Hid (Below VW.heap.size VW w') from by
              obtain ⟨F, hF, _⟩ := HSV.out.ex
              have h := sq_pic hF
              rw [hms, hml1, hml2, hn1, hn2] at h
              exact h)
            have CFO := hid (show ∀ U, Below w2.heap.size w2 U → Calls Try.prog 22 #[.slice dq1 na dc1, .int .u64 m] U fun e w' => ∃ q1 d1 q2 d2, e = .returned (.agg #[.int .u64 m, .slice q1 n1 d1, .slice q2 n2 d2]) ∧ Hid (Fd.Rl w' q1 d1 (fds 1 [] (D.take m))) ∧ Hid (Fd.Rl w' q2 d2 (fds 2 [] (D.take m))) ∧ Hid (Below U.heap.size U w') from fun U hU => by
              have h := fold_any TL.out _ dq1 dc1 m (by rw [HNA.out]; exact hmn) (by rw [HNA.out]; omega) U (V2.out.on hU).da
              rw [HNA.out, hn1, hn2] at h
              exact h)
            have HN1 := hid hn1
            have HN2 := hid hn2
            clear hms hml1 hml2 hn1 hn2
            have f8 : IntKind.u64.wrap (na : Int) = (na : Int) := by rw [IntKind.wrap_u64]; omega
            have f9 : decide ((na : Int) < (m : Int)) = false := by simp; omega
            have f10 : decide (na < m) = false := by simp; omega
            have f11 : ¬ (na : Int) < (m : Int) := by omega
            go_upto_region 18 with fail
            go_upto_region 19 with (first | (go_at_call 21; with_reducible refine (CPI.out).mono ?_; rintro e w8 ⟨q1, a1, q2, a2, rfl, RL1, RL2, B8⟩; have HZ8 := hid (World.alloc_heap_new w8 (.cells #[.int .u64 0, .slice none 0 0, .slice none 0 0] 49))) | (refine wpList_store_row (by rfl) 49 (.tmp 17) (.tmp 121) (by rfl) w8.heap.size #[.int .u64 m, .slice q1 n1 a1, .slice q2 n2 a2] (by rfl) (by rfl) 49 _ HZ8.out Fd.infoP (by rfl) (by simp [Value.oneCell']) ?_))
            obtain ⟨X8, hX8⟩ : ∃ X, (w8.alloc (.cells #[.int .u64 0, .slice none 0 0, .slice none 0 0] 49)).setRow w8.heap.size #[.int .u64 m, .slice q1 n1 a1, .slice q2 n2 a2] = X := ⟨_, rfl⟩
            have G8 := hid (show X8.heap[w8.heap.size]? = some (.cells #[.int .u64 m, .slice q1 n1 a1, .slice q2 n2 a2] 49 (0, 0)) from by rw [← hX8]; exact setRow_heap _ _ _ _ 49 (0, 0) HZ8.out)
            have BX8 := hid (show Below w8.heap.size w8 X8 from by rw [← hX8]; exact Fd.setRow_below (ball _ _) (Nat.le_refl _))
            rw [hX8]
            clear hX8 HZ8
            have BX9 := hid (btr (btr BVV.out B8.out) BX8.out)
            obtain ⟨gz, hgz⟩ : ∃ g, w8.heap.size = g := ⟨_, rfl⟩
            rw [hgz] at G8 ⊢
            have HSX := hid (HSV.out.on (btr B8.out BX8.out))
            have RX := hid (show Fd.Rl X8 q1 a1 (fds 1 [] (D.take m)) ∧ Fd.Rl X8 q2 a2 (fds 2 [] (D.take m)) from ⟨RL1.out.on BX8.out, RL2.out.on BX8.out⟩)
            clear hgz B8 BX8 HSV BVV RL1 RL2 CPI
            have HS := hid (show ∀ U, Below X8.heap.size X8 U → U.cell? ⟨gz, 0, none⟩ = some (.int .u64 m) ∧ U.cell? ⟨gz, 1, none⟩ = some (.slice q1 n1 a1) ∧ U.cell? ⟨gz, 2, none⟩ = some (.slice q2 n2 a2) ∧ U.cell? ⟨S1, 2, none⟩ = some (.slice dq1 na dc1) from fun U hU => ⟨row_cell (row_on G8.out hU) 0, row_cell (row_on G8.out hU) 1, row_cell (row_on G8.out hU) 2, row_cell (row_on HR.out (btr BX9.out hU)) 2⟩)
            have CSM := hid (show ∀ (U : World) (u1 : Option Addr) (b1 : Nat) (u2 : Option Addr) (b2 : Nat), Below X8.heap.size X8 U → Fd.Rl U u1 b1 (fds 1 [] (D.take m)) → Fd.Rl U u2 b2 (fds 2 [] (D.take m)) → Calls Try.prog 20 #[.agg #[.int .u64 m, .slice q1 n1 a1, .slice q2 n2 a2], .agg #[.int .u64 m, .slice u1 n1 b1, .slice u2 n2 b2]] U fun e w' => e = .returned (.bool true) ∧ Hid (Below U.heap.size U w') from fun U u1 b1 u2 b2 hU r1 r2 => by
              have h := Fd.samePicture_same m q1 q2 u1 u2 a1 a2 b1 b2 _ _ U (RX.out.1.on hU) (RX.out.2.on hU) r1 r2
              rw [HN1.out, HN2.out] at h
              exact h)
            obtain ⟨V0, hV0⟩ : ∃ U, X8.drew = U := ⟨_, rfl⟩
            have DV0 := hid (show Below X8.heap.size X8 V0 from by rw [← hV0]; exact bdrew1 _)
            refine wp_region_held_drew (S := fun U => U.cell? ⟨gz, 0, none⟩ = some (.int .u64 m) ∧ U.cell? ⟨gz, 1, none⟩ = some (.slice q1 n1 a1) ∧ U.cell? ⟨gz, 2, none⟩ = some (.slice q2 n2 a2) ∧ U.cell? ⟨S1, 2, none⟩ = some (.slice dq1 na dc1)) (by kernel_rfl) ?_ (fun hHeld => ?_)
            · (try dsimp only); rw [hV0]; exact HS.out _ DV0.out
            rw [hV0] at hHeld ⊢
            clear hV0
            refine' wpAnyH_take (i := 0) (oi := _) (v := _) rfl (by kernel_rfl) (by kernel_rfl) (by kernel_rfl) (fun _ _ _ h => h) (Or.inl ⟨by kernel_rfl, ?hyq86⟩) (by assumption) ?restq86
            case hyq86 => (intro w hSw; (try dsimp only at hSw); go_simp; try (with_reducible rfl))
            try simp only [List.getElem_toArray, List.getElem_cons_succ, List.getElem_cons_zero, Act.put, List.setIfInBounds_toArray, List.set_cons_zero, List.set_cons_succ]
            refine' wpAnyH_take (i := 1) (oi := _) (v := _) rfl (by kernel_rfl) (by kernel_rfl) (by kernel_rfl) (fun _ _ _ h => h) (Or.inl ⟨by kernel_rfl, ?hyq87⟩) (by assumption) ?restq87
            case hyq87 => (intro w hSw; (try dsimp only at hSw); go_simp; try (with_reducible rfl))
            try simp only [List.getElem_toArray, List.getElem_cons_succ, List.getElem_cons_zero, Act.put, List.setIfInBounds_toArray, List.set_cons_zero, List.set_cons_succ]
            refine' wpAnyH_take (i := 2) (oi := _) (v := _) rfl (by kernel_rfl) (by kernel_rfl) (by kernel_rfl) (fun _ _ _ h => h) (Or.inl ⟨by kernel_rfl, ?hyq88⟩) (by assumption) ?restq88
            case hyq88 => (intro w hSw; (try dsimp only at hSw); go_simp; try (with_reducible rfl))
            try simp only [List.getElem_toArray, List.getElem_cons_succ, List.getElem_cons_zero, Act.put, List.setIfInBounds_toArray, List.set_cons_zero, List.set_cons_succ]
            refine' wpAnyH_take (i := 3) (oi := _) (v := _) rfl (by kernel_rfl) (by kernel_rfl) (by kernel_rfl) (fun _ _ _ h => h) (Or.inl ⟨by kernel_rfl, ?hyq89⟩) (by assumption) ?restq89
            case hyq89 => (intro w hSw; (try dsimp only at hSw); go_simp; try (with_reducible rfl))
            try simp only [List.getElem_toArray, List.getElem_cons_succ, List.getElem_cons_zero, Act.put, List.setIfInBounds_toArray, List.set_cons_zero, List.set_cons_succ]
            refine' wpAnyH_take (i := 4) (oi := _) (v := _) rfl (by kernel_rfl) (by kernel_rfl) (by kernel_rfl) (fun _ _ _ h => h) (Or.inl ⟨by kernel_rfl, ?hyq90⟩) (by assumption) ?restq90
            case hyq90 => (intro w hSw; (try dsimp only at hSw); go_simp; try (with_reducible rfl))
            try simp only [List.getElem_toArray, List.getElem_cons_succ, List.getElem_cons_zero, Act.put, List.setIfInBounds_toArray, List.set_cons_zero, List.set_cons_succ]
            refine' wpAnyH_take (i := 5) (oi := _) (v := _) rfl (by kernel_rfl) (by kernel_rfl) (by kernel_rfl) (fun _ _ _ h => h) (Or.inl ⟨by kernel_rfl, ?hyq91⟩) (by assumption) ?restq91
            case hyq91 => (intro w hSw; (try dsimp only at hSw); go_simp; try (with_reducible rfl))
            try simp only [List.getElem_toArray, List.getElem_cons_succ, List.getElem_cons_zero, Act.put, List.setIfInBounds_toArray, List.set_cons_zero, List.set_cons_succ]
            refine' wpAnyH_take (i := 6) (oi := _) (v := _) rfl (by kernel_rfl) (by kernel_rfl) (by kernel_rfl) (fun _ _ _ h => h) (Or.inl ⟨by kernel_rfl, ?hyq92⟩) (by assumption) ?restq92
            case hyq92 => (intro w hSw; (try dsimp only at hSw); go_simp; try (with_reducible rfl))
            try simp only [List.getElem_toArray, List.getElem_cons_succ, List.getElem_cons_zero, Act.put, List.setIfInBounds_toArray, List.set_cons_zero, List.set_cons_succ]
            refine wpAnyH_ready (rs := [7]) (by kernel_rfl) (by simp) ?_
            refine (AllReadyH.cons (o := _) rfl (fun K hK => ?_) AllReadyH.nil)
            go_simp
            go_at_call 22
            with_reducible refine (CFO.out V0 (btr BX9.out DV0.out)).mono ?_
            rintro e Y1 ⟨u1, b1', u2, b2', rfl, RF1, RF2, B9⟩
            have DY1 := hid (btr DV0.out B9.out)
            clear B9
            (try go_wp2_with fail)
            refine hK.out _ _ ?_ (fun hHeld => ?_)
            · (try dsimp only); exact HS.out _ DY1.out
            clear hK K
            try simp only [List.getElem_toArray, List.getElem_cons_succ, List.getElem_cons_zero, Act.put, List.setIfInBounds_toArray, List.set_cons_zero, List.set_cons_succ]
            refine wpAnyH_ready (rs := [8]) (by kernel_rfl) (by simp) ?_
            refine (AllReadyH.cons (o := _) rfl (fun K hK => ?_) AllReadyH.nil)
            go_simp
            go_at_call 20
            with_reducible refine (CSM.out Y1 u1 b1' u2 b2' DY1.out RF1.out RF2.out).mono ?_
            rintro e Y2 ⟨rfl, B9⟩
            have DY2 := hid (btr DY1.out B9.out)
            clear B9
            (try go_wp2_with fail)
            refine hK.out _ _ ?_ (fun hHeld => ?_)
            · (try dsimp only); exact HS.out _ DY2.out
            clear hK K
            try simp only [List.getElem_toArray, List.getElem_cons_succ, List.getElem_cons_zero, Act.put, List.setIfInBounds_toArray, List.set_cons_zero, List.set_cons_succ]
            refine' wpAnyH_take (i := 9) (oi := _) (v := _) rfl (by kernel_rfl) (by kernel_rfl) (by kernel_rfl) (fun _ _ _ h => h) (Or.inl ⟨by kernel_rfl, ?hyq93⟩) (by assumption) ?restq93
            case hyq93 => (intro w hSw; (try dsimp only at hSw); go_simp; try (with_reducible rfl))
            try simp only [List.getElem_toArray, List.getElem_cons_succ, List.getElem_cons_zero, Act.put, List.setIfInBounds_toArray, List.set_cons_zero, List.set_cons_succ]
            refine' wpAnyH_take (i := 10) (oi := _) (v := _) rfl (by kernel_rfl) (by kernel_rfl) (by kernel_rfl) (fun _ _ _ h => h) (Or.inl ⟨by kernel_rfl, ?hyq94⟩) (by assumption) ?restq94
            case hyq94 => (intro w hSw; (try dsimp only at hSw); go_simp; try (with_reducible rfl))
            try simp only [List.getElem_toArray, List.getElem_cons_succ, List.getElem_cons_zero, Act.put, List.setIfInBounds_toArray, List.set_cons_zero, List.set_cons_succ]
            refine' wpAnyH_take (i := 11) (oi := _) (v := _) rfl (by kernel_rfl) (by kernel_rfl) (by kernel_rfl) (fun _ _ _ h => h) (Or.inl ⟨by kernel_rfl, ?hyq95⟩) (by assumption) ?restq95
            case hyq95 => (intro w hSw; (try dsimp only at hSw); go_simp; try (with_reducible rfl))
            try simp only [List.getElem_toArray, List.getElem_cons_succ, List.getElem_cons_zero, Act.put, List.setIfInBounds_toArray, List.set_cons_zero, List.set_cons_succ]
            refine' wpAnyH_take (i := 12) (oi := _) (v := _) rfl (by kernel_rfl) (by kernel_rfl) (by kernel_rfl) (fun _ _ _ h => h) (Or.inl ⟨by kernel_rfl, ?hyq96⟩) (by assumption) ?restq96
            case hyq96 => (intro w hSw; (try dsimp only at hSw); go_simp; try (with_reducible rfl))
            try simp only [List.getElem_toArray, List.getElem_cons_succ, List.getElem_cons_zero, Act.put, List.setIfInBounds_toArray, List.set_cons_zero, List.set_cons_succ]
            refine' wpAnyH_take (i := 13) (oi := _) (v := _) rfl (by kernel_rfl) (by kernel_rfl) (by kernel_rfl) (fun _ _ _ h => h) (Or.inl ⟨by kernel_rfl, ?hyq97⟩) (by assumption) ?restq97
            case hyq97 => (intro w hSw; (try dsimp only at hSw); go_simp; try (with_reducible rfl))
            try simp only [List.getElem_toArray, List.getElem_cons_succ, List.getElem_cons_zero, Act.put, List.setIfInBounds_toArray, List.set_cons_zero, List.set_cons_succ]
            refine' wpAnyH_take (i := 14) (oi := _) (v := _) rfl (by kernel_rfl) (by kernel_rfl) (by kernel_rfl) (fun _ _ _ h => h) (Or.inl ⟨by kernel_rfl, ?hyq98⟩) (by assumption) ?restq98
            case hyq98 => (intro w hSw; (try dsimp only at hSw); go_simp; try (with_reducible rfl))
            try simp only [List.getElem_toArray, List.getElem_cons_succ, List.getElem_cons_zero, Act.put, List.setIfInBounds_toArray, List.set_cons_zero, List.set_cons_succ]
            refine' wpAnyH_take (i := 15) (oi := _) (v := _) rfl (by kernel_rfl) (by kernel_rfl) (by kernel_rfl) (fun _ _ _ h => h) (Or.inl ⟨by kernel_rfl, ?hyq99⟩) (by assumption) ?restq99
            case hyq99 => (intro w hSw; (try dsimp only at hSw); go_simp; try (with_reducible rfl))
            try simp only [List.getElem_toArray, List.getElem_cons_succ, List.getElem_cons_zero, Act.put, List.setIfInBounds_toArray, List.set_cons_zero, List.set_cons_succ]
            refine' wpAnyH_take (i := 16) (oi := _) (v := _) rfl (by kernel_rfl) (by kernel_rfl) (by kernel_rfl) (fun _ _ _ h => h) (Or.inl ⟨by kernel_rfl, ?hyq100⟩) (by assumption) ?restq100
            case hyq100 => (intro w hSw; (try dsimp only at hSw); go_simp; try (with_reducible rfl))
            try simp only [List.getElem_toArray, List.getElem_cons_succ, List.getElem_cons_zero, Act.put, List.setIfInBounds_toArray, List.set_cons_zero, List.set_cons_succ]
            refine' wpAnyH_take (i := 17) (oi := _) (v := _) rfl (by kernel_rfl) (by kernel_rfl) (by kernel_rfl) (fun _ _ _ h => h) (Or.inl ⟨by kernel_rfl, ?hyq101⟩) (by assumption) ?restq101
            case hyq101 => (intro w hSw; (try dsimp only at hSw); go_simp; try (with_reducible rfl))
            try simp only [List.getElem_toArray, List.getElem_cons_succ, List.getElem_cons_zero, Act.put, List.setIfInBounds_toArray, List.set_cons_zero, List.set_cons_succ]
            refine' wpAnyH_take (i := 18) (oi := _) (v := _) rfl (by kernel_rfl) (by kernel_rfl) (by kernel_rfl) (fun _ _ _ h => h) (Or.inl ⟨by kernel_rfl, ?hyq102⟩) (by assumption) ?restq102
            case hyq102 => (intro w hSw; (try dsimp only at hSw); go_simp; try (with_reducible rfl))
            try simp only [List.getElem_toArray, List.getElem_cons_succ, List.getElem_cons_zero, Act.put, List.setIfInBounds_toArray, List.set_cons_zero, List.set_cons_succ]
            refine' wpAnyH_take (i := 19) (oi := _) (v := _) rfl (by kernel_rfl) (by kernel_rfl) (by kernel_rfl) (fun _ _ _ h => h) (Or.inl ⟨by kernel_rfl, ?hyq103⟩) (by assumption) ?restq103
            case hyq103 => (intro w hSw; (try dsimp only at hSw); go_simp; try (with_reducible rfl))
            try simp only [List.getElem_toArray, List.getElem_cons_succ, List.getElem_cons_zero, Act.put, List.setIfInBounds_toArray, List.set_cons_zero, List.set_cons_succ]
            refine' wpAnyH_take (i := 20) (oi := _) (v := _) rfl (by kernel_rfl) (by kernel_rfl) (by kernel_rfl) (fun _ _ _ h => h) (Or.inl ⟨by kernel_rfl, ?hyq104⟩) (by assumption) ?restq104
            case hyq104 => (intro w hSw; (try dsimp only at hSw); go_simp; try (with_reducible rfl))
            try simp only [List.getElem_toArray, List.getElem_cons_succ, List.getElem_cons_zero, Act.put, List.setIfInBounds_toArray, List.set_cons_zero, List.set_cons_succ]
            refine wpAnyH_done (by kernel_rfl) ?_ _
            go_wp2
            go_roundw
            case rel => exact ⟨i + 1, nn, _, by omega, by go_num, HNN2, HFV, hid (HSX.out.on DY2.out), hid (btr BX9.out DY2.out)⟩
            case measure => simp [intOf]; omega
    · have hi5 : i = nv := by omega
      subst hi5
      have hpL : p - 1 < L.length := by rw [HLL.out]; omega
      obtain ⟨g1p, hpq, hA⟩ := V2.out.at hpL
      have hlA := V2.out.lvs hpL
      have hT := tl_at TL.out hpL
      have hke := tl_end TL.out (by rw [HLL.out]; exact hp0)
      rw [HLL.out, show p = p - 1 + 1 by omega] at hke
      rw [hke, HNA.out] at hT
      obtain ⟨X, hX⟩ : ∃ x, L[p - 1] = x := ⟨_, rfl⟩
      rw [hX] at hA hlA hT
      obtain ⟨sx, p1, c1, l1, p2, c2, l2⟩ := X
      simp only at hA hlA hT
      obtain ⟨hsx, _, _, _, _, hk1, hk2⟩ := hT
      subst hsx
      obtain ⟨t1, ht1⟩ : ∃ t, l1.length = t := ⟨_, rfl⟩
      obtain ⟨t2, ht2⟩ : ∃ t, l2.length = t := ⟨_, rfl⟩
      rw [ht1, ht2] at hA
      obtain ⟨j, hj⟩ : ∃ j, p - 1 = j := ⟨_, rfl⟩
      rw [hj] at hA
      have g3 : IntKind.i64.wrap ((p : Int) - 1) = (j : Int) := by rw [IntKind.wrap_i64]; omega
      have s0 : (0 : Int) ≤ (j : Int) := by omega
      have s1 : (j : Int) < (p : Int) := by omega
      have hFL := HFI.out.last TL.out hk1 hk2
      rw [HNA.out] at hFL
      have HGR := hid (show s.gr ≤ (na : Int) from by have := HFI.out.gr; rw [HNA.out] at this; exact this)
      obtain ⟨F, hSq, hFlo⟩ := HSO.out.ex
      have HSQ := hid hSq
      have HLA := hid hlA
      have HT1 := hid ht1
      have HT2 := hid ht2
      have HFL := hid hFL
      have HFO := hid hFlo
      have HSP := hid (show ∀ U, Below w2.heap.size w2 U → U.cell? ⟨S1, 3, none⟩ = some (.slice (some ⟨g1p, 0, none⟩) p pc1) ∧ U.cell? ⟨g1p, j * 3, none⟩ = some (.int .u64 na) ∧ U.cell? ⟨g1p, j * 3 + 1, none⟩ = some (.slice p1 t1 c1) ∧ U.cell? ⟨g1p, j * 3 + 2, none⟩ = some (.slice p2 t2 c2) from fun U hU => ⟨by rw [← hpq]; exact row_cell (row_on HR.out hU) 3, hA U hU⟩)
      clear hA hlA hX ht1 ht2 hpL hpq hke hk1 hk2 hFL hj hSq hFlo
      go_upto_region 21 with fail
      obtain ⟨V0, hV0⟩ : ∃ U, wr.drew = U := ⟨_, rfl⟩
      have DV0 := hid (show Below wr.heap.size wr V0 from by rw [← hV0]; exact bdrew1 _)
      refine wp_region_held_drew (S := fun U => U.cell? ⟨S1, 3, none⟩ = some (.slice (some ⟨g1p, 0, none⟩) p pc1) ∧ U.cell? ⟨g1p, j * 3, none⟩ = some (.int .u64 na) ∧ U.cell? ⟨g1p, j * 3 + 1, none⟩ = some (.slice p1 t1 c1) ∧ U.cell? ⟨g1p, j * 3 + 2, none⟩ = some (.slice p2 t2 c2)) (by kernel_rfl) ?_ (fun hHeld => ?_)
      · (try dsimp only); rw [hV0]; exact HSP.out _ (btr HB.out DV0.out)
      rw [hV0] at hHeld ⊢
      clear hV0
      refine' wpAnyH_take (i := 0) (oi := _) (v := _) rfl (by kernel_rfl) (by kernel_rfl) (by kernel_rfl) (fun _ _ _ h => h) (Or.inl ⟨by kernel_rfl, ?hyq105⟩) (by assumption) ?restq105
      case hyq105 => (intro w hSw; (try dsimp only at hSw); go_simp; try (with_reducible rfl))
      try simp only [List.getElem_toArray, List.getElem_cons_succ, List.getElem_cons_zero, Act.put, List.setIfInBounds_toArray, List.set_cons_zero, List.set_cons_succ]
      refine' wpAnyH_take (i := 1) (oi := _) (v := _) rfl (by kernel_rfl) (by kernel_rfl) (by kernel_rfl) (fun _ _ _ h => h) (Or.inl ⟨by kernel_rfl, ?hyq106⟩) (by assumption) ?restq106
      case hyq106 => (intro w hSw; (try dsimp only at hSw); go_simp; try (with_reducible rfl))
      try simp only [List.getElem_toArray, List.getElem_cons_succ, List.getElem_cons_zero, Act.put, List.setIfInBounds_toArray, List.set_cons_zero, List.set_cons_succ]
      refine' wpAnyH_take (i := 2) (oi := _) (v := _) rfl (by kernel_rfl) (by kernel_rfl) (by kernel_rfl) (fun _ _ _ h => h) (Or.inl ⟨by kernel_rfl, ?hyq107⟩) (by assumption) ?restq107
      case hyq107 => (intro w hSw; (try dsimp only at hSw); go_simp; try (with_reducible rfl))
      try simp only [List.getElem_toArray, List.getElem_cons_succ, List.getElem_cons_zero, Act.put, List.setIfInBounds_toArray, List.set_cons_zero, List.set_cons_succ]
      refine' wpAnyH_take (i := 3) (oi := _) (v := _) rfl (by kernel_rfl) (by kernel_rfl) (by kernel_rfl) (fun _ _ _ h => h) (Or.inl ⟨by kernel_rfl, ?hyq108⟩) (by assumption) ?restq108
      case hyq108 => (intro w hSw; (try dsimp only at hSw); go_simp; try (with_reducible rfl))
      try simp only [List.getElem_toArray, List.getElem_cons_succ, List.getElem_cons_zero, Act.put, List.setIfInBounds_toArray, List.set_cons_zero, List.set_cons_succ]
      refine' wpAnyH_take (i := 4) (oi := _) (v := _) rfl (by kernel_rfl) (by kernel_rfl) (by kernel_rfl) (fun _ _ _ h => h) (Or.inl ⟨by kernel_rfl, ?hyq109⟩) (by assumption) ?restq109
      case hyq109 => (intro w hSw; (try dsimp only at hSw); go_simp; try (with_reducible rfl))
      try simp only [List.getElem_toArray, List.getElem_cons_succ, List.getElem_cons_zero, Act.put, List.setIfInBounds_toArray, List.set_cons_zero, List.set_cons_succ]
      refine' wpAnyH_take (i := 5) (oi := _) (v := _) rfl (by kernel_rfl) (by kernel_rfl) (by kernel_rfl) (fun _ _ _ h => h) (Or.inl ⟨by kernel_rfl, ?hyq110⟩) (by assumption) ?restq110
      case hyq110 => (intro w hSw; (try dsimp only at hSw); go_simp; try (with_reducible rfl))
      try simp only [List.getElem_toArray, List.getElem_cons_succ, List.getElem_cons_zero, Act.put, List.setIfInBounds_toArray, List.set_cons_zero, List.set_cons_succ]
      refine' wpAnyH_take (i := 6) (oi := _) (v := _) rfl (by kernel_rfl) (by kernel_rfl) (by kernel_rfl) (fun _ _ _ h => h) (Or.inl ⟨by kernel_rfl, ?hyq111⟩) (by assumption) ?restq111
      case hyq111 => (intro w hSw; (try dsimp only at hSw); go_simp; try (with_reducible rfl))
      try simp only [List.getElem_toArray, List.getElem_cons_succ, List.getElem_cons_zero, Act.put, List.setIfInBounds_toArray, List.set_cons_zero, List.set_cons_succ]
      refine' wpAnyH_take (i := 7) (oi := _) (v := _) rfl (by kernel_rfl) (by kernel_rfl) (by kernel_rfl) (fun _ _ _ h => h) (Or.inl ⟨by kernel_rfl, ?hyq112⟩) (by assumption) ?restq112
      case hyq112 => (intro w hSw; (try dsimp only at hSw); go_simp; try (with_reducible rfl))
      try simp only [List.getElem_toArray, List.getElem_cons_succ, List.getElem_cons_zero, Act.put, List.setIfInBounds_toArray, List.set_cons_zero, List.set_cons_succ]
      refine' wpAnyH_take (i := 8) (oi := _) (v := _) rfl (by kernel_rfl) (by kernel_rfl) (by kernel_rfl) (fun _ _ _ h => h) (Or.inl ⟨by kernel_rfl, ?hyq113⟩) (by assumption) ?restq113
      case hyq113 => (intro w hSw; (try dsimp only at hSw); go_simp; try (with_reducible rfl))
      try simp only [List.getElem_toArray, List.getElem_cons_succ, List.getElem_cons_zero, Act.put, List.setIfInBounds_toArray, List.set_cons_zero, List.set_cons_succ]
      refine' wpAnyH_take (i := 9) (oi := _) (v := _) rfl (by kernel_rfl) (by kernel_rfl) (by kernel_rfl) (fun _ _ _ h => h) (Or.inl ⟨by kernel_rfl, ?hyq114⟩) (by assumption) ?restq114
      case hyq114 => (intro w hSw; (try dsimp only at hSw); go_simp; try (with_reducible rfl))
      try simp only [List.getElem_toArray, List.getElem_cons_succ, List.getElem_cons_zero, Act.put, List.setIfInBounds_toArray, List.set_cons_zero, List.set_cons_succ]
      refine' wpAnyH_take (i := 10) (oi := _) (v := _) rfl (by kernel_rfl) (by kernel_rfl) (by kernel_rfl) (fun _ _ _ h => h) (Or.inl ⟨by kernel_rfl, ?hyq115⟩) (by assumption) ?restq115
      case hyq115 => (intro w hSw; (try dsimp only at hSw); go_simp; try (with_reducible rfl))
      try simp only [List.getElem_toArray, List.getElem_cons_succ, List.getElem_cons_zero, Act.put, List.setIfInBounds_toArray, List.set_cons_zero, List.set_cons_succ]
      refine' wpAnyH_take (i := 11) (oi := _) (v := _) rfl (by kernel_rfl) (by kernel_rfl) (by kernel_rfl) (fun _ _ _ h => h) (Or.inl ⟨by kernel_rfl, ?hyq116⟩) (by assumption) ?restq116
      case hyq116 => (intro w hSw; (try dsimp only at hSw); go_simp; try (with_reducible rfl))
      try simp only [List.getElem_toArray, List.getElem_cons_succ, List.getElem_cons_zero, Act.put, List.setIfInBounds_toArray, List.set_cons_zero, List.set_cons_succ]
      refine wpAnyH_ready (rs := [12]) (by kernel_rfl) (by simp) ?_
      refine (AllReadyH.cons (o := _) rfl (fun K hK => ?_) AllReadyH.nil)
      go_simp
      obtain ⟨X1, hX1⟩ : ∃ X, V0.alloc (.cells #[.int .u64 0, .slice none 0 0, .slice none 0 0] 49) = X := ⟨_, rfl⟩
      have BX1 := hid (show Below V0.heap.size V0 X1 from by rw [← hX1]; exact ball _ _)
      have ZX1 := hid (show X1.heap[V0.heap.size]? = some (.cells #[.int .u64 0, .slice none 0 0, .slice none 0 0] 49 (0, 0)) from by rw [← hX1]; exact World.alloc_heap_new _ _)
      rw [hX1]
      clear hX1
      refine hK.out _ _ ?_ (fun hHeld => ?_)
      · (try dsimp only); exact HSP.out _ (btr (btr HB.out DV0.out) BX1.out)
      clear hK K
      try simp only [List.getElem_toArray, List.getElem_cons_succ, List.getElem_cons_zero, Act.put, List.setIfInBounds_toArray, List.set_cons_zero, List.set_cons_succ]
      refine wpAnyH_ready (rs := [13]) (by kernel_rfl) (by simp) ?_
      refine (AllReadyH.cons (o := _) rfl (fun K hK => ?_) AllReadyH.nil)
      refine Fd.step_store_row (by rfl) 49 (.tmp 18) (.tmp 154) (by rfl) V0.heap.size #[.int .u64 na, .slice p1 t1 c1, .slice p2 t2 c2] (by rfl) (by rfl) 49 _ ZX1.out Fd.infoP (by rfl) (by simp [Value.oneCell']) ?_
      obtain ⟨X2, hX2⟩ : ∃ X, X1.setRow V0.heap.size #[.int .u64 na, .slice p1 t1 c1, .slice p2 t2 c2] = X := ⟨_, rfl⟩
      have BX2 := hid (show Below V0.heap.size V0 X2 from by rw [← hX2]; exact Fd.setRow_below BX1.out (Nat.le_refl _))
      have GX2 := hid (show X2.heap[V0.heap.size]? = some (.cells #[.int .u64 na, .slice p1 t1 c1, .slice p2 t2 c2] 49 (0, 0)) from by rw [← hX2]; exact setRow_heap _ _ _ _ 49 (0, 0) ZX1.out)
      rw [hX2]
      clear hX2
      refine hK.out _ _ ?_ (fun hHeld => ?_)
      · (try dsimp only); exact HSP.out _ (btr (btr HB.out DV0.out) BX2.out)
      clear hK K
      try simp only [List.getElem_toArray, List.getElem_cons_succ, List.getElem_cons_zero, Act.put, List.setIfInBounds_toArray, List.set_cons_zero, List.set_cons_succ]
      refine wpAnyH_done (by kernel_rfl) ?_ _
      have HNF := hid (show ¬ F V0.heap.size from fun hf => by have h1 := HSQ.out.lt hf; have h2 := DV0.out.size; omega)
      have HSY := hid (HSQ.out.on (btr DV0.out BX2.out))
      have BW2 := hid (btr (btr HB.out DV0.out) BX2.out)
      obtain ⟨gz, hgz⟩ : ∃ g, V0.heap.size = g := ⟨_, rfl⟩
      rw [hgz] at GX2 HNF ⊢
      clear hgz BX1 ZX1 BX2 DV0 HSQ HSO HB HSP x2 x3 g3 s0 s1
      have CRV := hid (show ∀ U, Below X2.heap.size X2 U → Calls Try.prog 18 #[.pointer (some ⟨Sa, 0, none⟩), .agg #[.int .u64 na, .slice p1 t1 c1, .slice p2 t2 c2]] U fun e w' => e = .returned (.int .i64 0) ∧ ∃ F', Hid (Sq w' Sa Ma nm hold ⟨(na : Int), s.gr, l1, l2, [], s.la⟩ F') ∧ Hid (w'.heap[gz]? = some (.cells #[.int .u64 na, .slice p1 t1 c1, .slice p2 t2 c2] 49 (0, 0))) ∧ Hid (Below w2.heap.size U w') from fun U hU => by
        have h := sq_recover (HSY.out.on hU) (na : Int) (by omega) p1 p2 c1 c2 l1 l2 (HLA.out.1.on (btr BW2.out hU)) (HLA.out.2.on (btr BW2.out hU))
        rw [HFL.out.1, HFL.out.2, HT1.out, HT2.out] at h
        refine h.mono ?_
        rintro e w' ⟨a1, F', a2, a3, a4⟩
        exact ⟨a1, F', a2, a3.row (row_on GX2.out hU) HNF.out, a3.below (Nat.le_trans BW2.out.size hU.size) (fun g hg hf => by have := HFO.out g hf; omega)⟩)
      go_upto_region 22 with fail
      have HS := hid (show ∀ U : World, U.heap[gz]? = some (.cells #[.int .u64 na, .slice p1 t1 c1, .slice p2 t2 c2] 49 (0, 0)) → U.cell? ⟨gz, 0, none⟩ = some (.int .u64 na) ∧ U.cell? ⟨gz, 1, none⟩ = some (.slice p1 t1 c1) ∧ U.cell? ⟨gz, 2, none⟩ = some (.slice p2 t2 c2) from fun U hU => ⟨row_cell hU 0, row_cell hU 1, row_cell hU 2⟩)
      obtain ⟨V0, hV0⟩ : ∃ U, X2.drew = U := ⟨_, rfl⟩
      have DV0 := hid (show Below X2.heap.size X2 V0 from by rw [← hV0]; exact bdrew1 _)
      refine wp_region_held_drew (S := fun U => U.cell? ⟨gz, 0, none⟩ = some (.int .u64 na) ∧ U.cell? ⟨gz, 1, none⟩ = some (.slice p1 t1 c1) ∧ U.cell? ⟨gz, 2, none⟩ = some (.slice p2 t2 c2)) (by kernel_rfl) ?_ (fun hHeld => ?_)
      · (try dsimp only); rw [hV0]; exact HS.out _ (row_on GX2.out DV0.out)
      rw [hV0] at hHeld ⊢
      clear hV0
      refine' wpAnyH_take (i := 0) (oi := _) (v := _) rfl (by kernel_rfl) (by kernel_rfl) (by kernel_rfl) (fun _ _ _ h => h) (Or.inl ⟨by kernel_rfl, ?hyq117⟩) (by assumption) ?restq117
      case hyq117 => (intro w hSw; (try dsimp only at hSw); go_simp; try (with_reducible rfl))
      try simp only [List.getElem_toArray, List.getElem_cons_succ, List.getElem_cons_zero, Act.put, List.setIfInBounds_toArray, List.set_cons_zero, List.set_cons_succ]
      refine' wpAnyH_take (i := 1) (oi := _) (v := _) rfl (by kernel_rfl) (by kernel_rfl) (by kernel_rfl) (fun _ _ _ h => h) (Or.inl ⟨by kernel_rfl, ?hyq118⟩) (by assumption) ?restq118
      case hyq118 => (intro w hSw; (try dsimp only at hSw); go_simp; try (with_reducible rfl))
      try simp only [List.getElem_toArray, List.getElem_cons_succ, List.getElem_cons_zero, Act.put, List.setIfInBounds_toArray, List.set_cons_zero, List.set_cons_succ]
      refine wpAnyH_ready (rs := [2]) (by kernel_rfl) (by simp) ?_
      refine (AllReadyH.cons (o := _) rfl (fun K hK => ?_) AllReadyH.nil)
      go_simp
      go_at_call 18
      with_reducible refine (CRV.out V0 DV0.out).mono ?_
      rintro e Y1 ⟨rfl, F', SQ1, G1, B1'⟩
      have BY1 := hid ((btr BW2.out DV0.out).trans B1'.out)
      clear B1'
      (try go_wp2_with fail)
      refine hK.out _ _ ?_ (fun hHeld => ?_)
      · (try dsimp only); exact HS.out _ G1.out
      clear hK K
      try simp only [List.getElem_toArray, List.getElem_cons_succ, List.getElem_cons_zero, Act.put, List.setIfInBounds_toArray, List.set_cons_zero, List.set_cons_succ]
      have CGD := hid (show Calls Try.prog 19 #[.pointer (some ⟨Sa, 0, none⟩)] Y1 fun e w' => e = .returned (.bool true) ∧ Hid (Below Y1.heap.size Y1 w') from by
        have h := sq_good SQ1.out
        rw [show decide ((⟨(na : Int), s.gr, l1, l2, [], s.la⟩ : Fd.Ss).gr ≤ (⟨(na : Int), s.gr, l1, l2, [], s.la⟩ : Fd.Ss).sq) = true from decide_eq_true HGR.out] at h
        exact h)
      refine' wpAnyH_take (i := 3) (oi := _) (v := _) rfl (by kernel_rfl) (by kernel_rfl) (by kernel_rfl) (fun _ _ _ h => h) (Or.inl ⟨by kernel_rfl, ?hyq119⟩) (by assumption) ?restq119
      case hyq119 => (intro w hSw; (try dsimp only at hSw); go_simp; try (with_reducible rfl))
      try simp only [List.getElem_toArray, List.getElem_cons_succ, List.getElem_cons_zero, Act.put, List.setIfInBounds_toArray, List.set_cons_zero, List.set_cons_succ]
      refine' wpAnyH_take (i := 4) (oi := _) (v := _) rfl (by kernel_rfl) (by kernel_rfl) (by kernel_rfl) (fun _ _ _ h => h) (Or.inl ⟨by kernel_rfl, ?hyq120⟩) (by assumption) ?restq120
      case hyq120 => (intro w hSw; (try dsimp only at hSw); go_simp; try (with_reducible rfl))
      try simp only [List.getElem_toArray, List.getElem_cons_succ, List.getElem_cons_zero, Act.put, List.setIfInBounds_toArray, List.set_cons_zero, List.set_cons_succ]
      refine' wpAnyH_take (i := 5) (oi := _) (v := _) rfl (by kernel_rfl) (by kernel_rfl) (by kernel_rfl) (fun _ _ _ h => h) (Or.inl ⟨by kernel_rfl, ?hyq121⟩) (by assumption) ?restq121
      case hyq121 => (intro w hSw; (try dsimp only at hSw); go_simp; try (with_reducible rfl))
      try simp only [List.getElem_toArray, List.getElem_cons_succ, List.getElem_cons_zero, Act.put, List.setIfInBounds_toArray, List.set_cons_zero, List.set_cons_succ]
      refine wpAnyH_ready (rs := [6]) (by kernel_rfl) (by simp) ?_
      refine (AllReadyH.cons (o := _) rfl (fun K hK => ?_) AllReadyH.nil)
      go_simp
      go_at_call 19
      with_reducible refine (CGD.out).mono ?_
      rintro e Y2 ⟨rfl, B2'⟩
      have G2 := hid (row_on G1.out B2'.out)
      (try go_wp2_with fail)
      refine hK.out _ _ ?_ (fun hHeld => ?_)
      · (try dsimp only); exact HS.out _ G2.out
      clear hK K
      try simp only [List.getElem_toArray, List.getElem_cons_succ, List.getElem_cons_zero, Act.put, List.setIfInBounds_toArray, List.set_cons_zero, List.set_cons_succ]
      have CPC := hid (show Calls Try.prog 21 #[.pointer (some ⟨Sa, 0, none⟩)] Y2 fun e w' => ∃ q1 d1 q2 d2, e = .returned (.agg #[.int .u64 na, .slice q1 t1 d1, .slice q2 t2 d2]) ∧ Hid (Fd.Rl w' q1 d1 l1) ∧ Hid (Fd.Rl w' q2 d2 l2) ∧ Hid (Below Y2.heap.size Y2 w') from by
        have h := sq_pic (SQ1.out.on B2'.out)
        simp only [HT1.out, HT2.out] at h
        exact h)
      refine' wpAnyH_take (i := 7) (oi := _) (v := _) rfl (by kernel_rfl) (by kernel_rfl) (by kernel_rfl) (fun _ _ _ h => h) (Or.inl ⟨by kernel_rfl, ?hyq122⟩) (by assumption) ?restq122
      case hyq122 => (intro w hSw; (try dsimp only at hSw); go_simp; try (with_reducible rfl))
      try simp only [List.getElem_toArray, List.getElem_cons_succ, List.getElem_cons_zero, Act.put, List.setIfInBounds_toArray, List.set_cons_zero, List.set_cons_succ]
      refine' wpAnyH_take (i := 8) (oi := _) (v := _) rfl (by kernel_rfl) (by kernel_rfl) (by kernel_rfl) (fun _ _ _ h => h) (Or.inl ⟨by kernel_rfl, ?hyq123⟩) (by assumption) ?restq123
      case hyq123 => (intro w hSw; (try dsimp only at hSw); go_simp; try (with_reducible rfl))
      try simp only [List.getElem_toArray, List.getElem_cons_succ, List.getElem_cons_zero, Act.put, List.setIfInBounds_toArray, List.set_cons_zero, List.set_cons_succ]
      refine' wpAnyH_take (i := 9) (oi := _) (v := _) rfl (by kernel_rfl) (by kernel_rfl) (by kernel_rfl) (fun _ _ _ h => h) (Or.inl ⟨by kernel_rfl, ?hyq124⟩) (by assumption) ?restq124
      case hyq124 => (intro w hSw; (try dsimp only at hSw); go_simp; try (with_reducible rfl))
      try simp only [List.getElem_toArray, List.getElem_cons_succ, List.getElem_cons_zero, Act.put, List.setIfInBounds_toArray, List.set_cons_zero, List.set_cons_succ]
      refine' wpAnyH_take (i := 11) (oi := _) (v := _) rfl (by kernel_rfl) (by kernel_rfl) (by kernel_rfl) (fun _ _ _ h => h) (Or.inl ⟨by kernel_rfl, ?hyq125⟩) (by assumption) ?restq125
      case hyq125 => (intro w hSw; (try dsimp only at hSw); go_simp; try (with_reducible rfl))
      try simp only [List.getElem_toArray, List.getElem_cons_succ, List.getElem_cons_zero, Act.put, List.setIfInBounds_toArray, List.set_cons_zero, List.set_cons_succ]
      refine wpAnyH_ready (rs := [10]) (by kernel_rfl) (by simp) ?_
      refine (AllReadyH.cons (o := _) rfl (fun K hK => ?_) AllReadyH.nil)
      go_simp
      go_at_call 21
      with_reducible refine (CPC.out).mono ?_
      rintro e Y3 ⟨q1, a1, q2, a2, rfl, RA1, RA2, B3'⟩
      have G3 := hid (row_on G2.out B3'.out)
      (try go_wp2_with fail)
      refine hK.out _ _ ?_ (fun hHeld => ?_)
      · (try dsimp only); exact HS.out _ G3.out
      clear hK K
      try simp only [List.getElem_toArray, List.getElem_cons_succ, List.getElem_cons_zero, Act.put, List.setIfInBounds_toArray, List.set_cons_zero, List.set_cons_succ]
      have CSP := hid (show Calls Try.prog 20 #[.agg #[.int .u64 na, .slice q1 t1 a1, .slice q2 t2 a2], .agg #[.int .u64 na, .slice p1 t1 c1, .slice p2 t2 c2]] Y3 fun e w' => e = .returned (.bool true) ∧ Hid (Below Y3.heap.size Y3 w') from by
        have h := Fd.samePicture_same na q1 q2 p1 p2 a1 a2 c1 c2 l1 l2 Y3 RA1.out RA2.out (HLA.out.1.on (btr (btr BY1.out B2'.out) B3'.out)) (HLA.out.2.on (btr (btr BY1.out B2'.out) B3'.out))
        rw [HT1.out, HT2.out] at h
        exact h)
      refine wpAnyH_ready (rs := [12]) (by kernel_rfl) (by simp) ?_
      refine (AllReadyH.cons (o := _) rfl (fun K hK => ?_) AllReadyH.nil)
      go_simp
      go_at_call 20
      with_reducible refine (CSP.out).mono ?_
      rintro e Y4 ⟨rfl, B4'⟩
      have G4 := hid (row_on G3.out B4'.out)
      (try go_wp2_with fail)
      refine hK.out _ _ ?_ (fun hHeld => ?_)
      · (try dsimp only); exact HS.out _ G4.out
      clear hK K
      try simp only [List.getElem_toArray, List.getElem_cons_succ, List.getElem_cons_zero, Act.put, List.setIfInBounds_toArray, List.set_cons_zero, List.set_cons_succ]
      refine' wpAnyH_take (i := 13) (oi := _) (v := _) rfl (by kernel_rfl) (by kernel_rfl) (by kernel_rfl) (fun _ _ _ h => h) (Or.inl ⟨by kernel_rfl, ?hyq126⟩) (by assumption) ?restq126
      case hyq126 => (intro w hSw; (try dsimp only at hSw); go_simp; try (with_reducible rfl))
      try simp only [List.getElem_toArray, List.getElem_cons_succ, List.getElem_cons_zero, Act.put, List.setIfInBounds_toArray, List.set_cons_zero, List.set_cons_succ]
      refine' wpAnyH_take (i := 14) (oi := _) (v := _) rfl (by kernel_rfl) (by kernel_rfl) (by kernel_rfl) (fun _ _ _ h => h) (Or.inl ⟨by kernel_rfl, ?hyq127⟩) (by assumption) ?restq127
      case hyq127 => (intro w hSw; (try dsimp only at hSw); go_simp; try (with_reducible rfl))
      try simp only [List.getElem_toArray, List.getElem_cons_succ, List.getElem_cons_zero, Act.put, List.setIfInBounds_toArray, List.set_cons_zero, List.set_cons_succ]
      refine wpAnyH_done (by kernel_rfl) ?_ _
      go_wp2
      go_ret
      exact ⟨rfl, btr HBB.out (btr (btr (btr BY1.out B2'.out) B3'.out) B4'.out)⟩
end Go.Proofs.Ytojmcfkbekodpaa
