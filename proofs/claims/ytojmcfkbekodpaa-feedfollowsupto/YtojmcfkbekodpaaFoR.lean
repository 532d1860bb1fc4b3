/-
  FoR
-/
import Derived.Test.YtojmcfkbekodpaaHf
import Derived.Test.YtojmcfkbekodpaaFgH
namespace Go.Proofs.Ytojmcfkbekodpaa
open Go.RowKit Go.Deep Go.Shelf
set_option linter.unusedVariables false
set_option linter.unusedSimpArgs false
set_option maxHeartbeats 16000000
set_option maxRecDepth 100000
attribute [local go_sem ↓] Go.wp_at_zero Go.wp_at_succ
theorem follows_r (d : Nat) (d1 : 1 ≤ d) (d2 : d ≤ 64) (cap meet : Int) (hcf : cfg cap meet = true) (q : Option Addr) (c0 : Nat) (l : List Cm) (f : Nat) (hf : f ≤ l.length) (W : World) (hl : Cmz W q l) (hok : ∀ c ∈ l, CmOk c) (hm : l.length ≤ 1048576) :
  Calls Try.prog 4 #[.int .i64 d, .agg #[.int .i64 cap, .int .i64 meet], .slice q l.length c0, .int .i64 f] W fun e w' => e = .returned (.bool true) ∧ Below W.heap.size W w' := by
 have HW := hid (World.alloc_heap_new W (.cells #[.int .i64 cap, .int .i64 meet] 23))
 have HB0 := hid (ball W (.cells #[.int .i64 cap, .int .i64 meet] 23))
 obtain ⟨W1, hW⟩ : ∃ W1, W.alloc (.cells #[.int .i64 cap, .int .i64 meet] 23) = W1 := ⟨_, rfl⟩
 rw [hW] at HW HB0
 have CL := hid (Fd.lives_ok W1)
 have CS := hid (show ∀ (U : World), Below W.heap.size W U → Calls Try.prog 15 #[.int .i64 d, .agg #[.int .i64 cap, .int .i64 meet], .slice q l.length c0] U _ from fun U hU => shown_ok d d1 d2 cap meet hcf q c0 l U (fun i hi => by
  obtain ⟨b, off, h1, h2, h3⟩ := hl i hi
  refine ⟨b, off, h1, Nat.lt_of_lt_of_le h2 hU.size, fun j hj => ?_⟩
  have h := h3 j hj
  have hlen : j < (cmr l[i]).size := by show j < 9; exact hj
  rw [Array.getElem?_eq_getElem hlen] at h ⊢
  exact (hU.cell (p := ⟨b, off + i * 9 + j, none⟩) h2).trans h) hok hm)
 have CA := hid (show ∀ U, Calls Try.prog 16 #[.int .i64 0] U _ from fun U => sq_new 0 (by omega) U)
 have CB := hid (show ∀ U, Calls Try.prog 16 #[.int .i64 5] U _ from fun U => sq_new 5 (by omega) U)
 have HCF := hid hcf
 obtain ⟨n, hnn⟩ : ∃ n, l.length = n := ⟨_, rfl⟩
 rw [hnn] at hm CS ⊢ hf
 have hm' : n < 9223372036854775808 := by omega
 have HE := hid hW
 clear hW hl hok hnn hcf
 go_enter Try.func4, Try.ntmps4
 go_upto_region 1 with fail
 rw [HE.out]
 go_upto_region 3 with (go_at_call 7; with_reducible refine (CL.out).mono ?_; rintro e w1 ⟨rfl, hb⟩; have HB1 := hid hb; clear hb)
 have CS1 := hid (CS.out w1 (btr HB0.out HB1.out))
 have k0 := row_cell (row_on HW.out HB1.out) 0
 have k1 := row_cell (row_on HW.out HB1.out) 1
 simp only [List.getElem?_toArray, List.getElem?_cons_succ, List.getElem?_cons_zero] at k0 k1
 go_upto_region 6 with (go_at_call 15; with_reducible refine (CS1.out).mono ?_; rintro e w2 ⟨lo1, S1, B1, P1, dq1, dc1, D, pq1, pc1, L, b1, rfl, h1, h2, h3, h4, h5⟩; have V2 := hid h1; have YP := hid h2; have ND := hid h3; have ML := hid h4; have HB2 := hid h5; clear h1 h2 h3 h4 h5)
 clear k0 k1 CS CS1 HW CL
 go_upto_region 7 with (go_at_call 16; with_reducible refine (CA.out _).mono ?_; rintro e w3 ⟨Sa, Ma, F, rfl, h1, h2, h3⟩; have QA := hid h1; have FA := hid h2; have B3 := hid h3; clear h1 h2 h3)
 go_upto_region 8 with (go_at_call 16; with_reducible refine (CB.out _).mono ?_; rintro e w4 ⟨Sb, Mb, G, rfl, h1, h2, h3⟩; have QB := hid h1; have GB := hid h2; have B4 := hid h3; clear h1 h2 h3)
 obtain ⟨na, hna⟩ : ∃ t, D.length = t := ⟨_, rfl⟩
 obtain ⟨p, hp⟩ : ∃ t, n + 1 = t := ⟨_, rfl⟩
 have hL : L.length = p := by rw [← hp]; exact ML.out
 have hna' : na ≤ 2300000 * 1048576 := by have := ND.out; rw [hna] at this; omega
 have hp' : p ≤ 1048577 := by omega
 have hp0 : 0 < p := by omega
 have TL := hid (ply_tl HCF.out d2 YP.out (by rw [hna]; omega)).1
 have TW := hid (show Tw w2.heap.size w4 Sa Ma 0 0 Ss0 Sb Mb 0 5 Ss0 from ⟨F, G, QA.out.on B4.out, QB.out, fun g hg => ⟨FA.out g hg, fun hG => by have h1 := QA.out.lt hg; have h2 := GB.out g hG; omega⟩, fun g hg => Nat.le_trans B3.out.size (GB.out g hg)⟩)
 have BD := hid (btr B3.out B4.out)
 have HBB := hid (btr (btr HB0.out HB1.out) HB2.out)
 have HR := hid V2.out.row
 rw [hna, hL] at HR
 have HNA := hid hna
 have HLL := hid hL
 have f1 : decide ((0 : Int) ≤ (f : Int)) = true := by simp
 have f2 : decide ((f : Int) < (p : Int)) = true := by simp; omega
 have f3 : decide (f < p) = true := by simp; omega
 have f4 : (0 : Int) ≤ (f : Int) := by omega
 clear hna hL QA QB FA GB B3 B4 CA CB HE HCF YP ND ML HB1 HB2 HB0 d1 d2 hm hp
 have x2 := row_cell (row_on HR.out BD.out) 2
 have x3 := row_cell (row_on HR.out BD.out) 3
 simp only [List.getElem?_toArray, List.getElem?_cons_succ, List.getElem?_cons_zero] at x2 x3
 go_upto_region 13 with fail
 clear x2 x3 f2 f3
 go_wp2
 go_loopw [16, 17] (fun nv iv wr => ∃ (i nma nmb : Nat) (gr : Int) (la : Fd.Dm) (grb : Int) (lab : Fd.Dm), i ≤ p ∧ iv = .int .i64 i ∧ nv = .int .i64 (kap L i) ∧ Hid (gr ≤ kap L i ∧ grb ≤ kap L i ∧ nma ≤ kap L i ∧ nmb ≤ kap L i ∧ kap L i ≤ na) ∧ Hid (Tw w2.heap.size wr Sa Ma nma 0 (fol D (kap L i) gr la) Sb Mb nmb 5 (if f < i then fol D (kap L i) grb lab else Ss0)) ∧ Hid (Below w2.heap.size w2 wr)) (fun _ iv _ => p - (intOf iv).toNat)
 case atStart => exact ⟨0, 0, 0, 0, Fd.dm0, 0, Fd.dm0, Nat.zero_le _, rfl, rfl, hid ⟨Int.le_refl _, Int.le_refl _, Nat.le_refl _, Nat.le_refl _, Nat.zero_le _⟩, (by rw [if_neg (Nat.not_lt_zero _)]; exact TW), BD⟩
 case round =>
  obtain ⟨i, nma0, nmb0, gr0, la0, grb0, lab0, hip, rfl, rfl, HG0, HT0, HB⟩ := hrel
  have HRr := hid (row_on HR.out HB.out)
  have x2 := row_cell HRr.out 2
  have x3 := row_cell HRr.out 3
  simp only [List.getElem?_toArray, List.getElem?_cons_succ, List.getElem?_cons_zero] at x2 x3
  obtain ⟨m0, hm0⟩ : ∃ m, kap L i = m := ⟨_, rfl⟩
  rw [hm0] at HG0 HT0 ⊢
  have HM0 := hid hm0
  clear hm0
  by_cases hlt : i < p
  ·rcases Nat.lt_trichotomy i f with hif | hif | hif
   ·as_aux_lemma =>
     rw [if_neg (show ¬ f < i by omega)] at HT0
     have hi1 : i < L.length := by rw [HLL.out]; exact hlt
     obtain ⟨g1, hpq1, hA⟩ := V2.out.at hi1
     have hlA := V2.out.lvs hi1
     have hT := tl_at TL.out hi1
     obtain ⟨X, hX⟩ : ∃ x, L[i] = x := ⟨_, rfl⟩
     rw [hX] at hA hlA hT
     rw [HM0.out] at hT
     obtain ⟨k1, hk1⟩ : ∃ m, kap L (i + 1) = m := ⟨_, rfl⟩
     rw [hk1] at hT
     obtain ⟨sx, p1, c1, l1, p2, c2, l2⟩ := X
     simp only at hA hlA hT
     obtain ⟨n1, hn1⟩ : ∃ t, l1.length = t := ⟨_, rfl⟩
     obtain ⟨n2, hn2⟩ : ∃ t, l2.length = t := ⟨_, rfl⟩
     rw [hn1, hn2] at hA
     have HK1 := hid hk1
     have HPT := hid hT
     have HSX := hid hT.1
     have hk1n : k1 ≤ na := by have := hT.2.1; rw [HNA.out] at this; exact this
     have hk1m : m0 ≤ k1 := hT.2.2.1
     have HA := hid hA
     have HLA := hid hlA
     have HN1 := hid hn1
     have HN2 := hid hn2
     clear hA hlA hT hX hn1 hn2 hi1 hk1
     subst hpq1
     have i0' : (0 : Int) ≤ (i : Int) := by omega
     have i1 : (i : Int) < (p : Int) := by omega
     go_upto_region 17 with fail
     clear x2 x3
     go_loopw [16] (fun nv w5 => ∃ (m nma nmb : Nat) (gr : Int) (la : Fd.Dm) (grb : Int) (lab : Fd.Dm), m0 ≤ m ∧ m ≤ k1 ∧ nv = .int .i64 m ∧ Hid (gr ≤ m ∧ grb ≤ m ∧ nma ≤ m ∧ nmb ≤ m) ∧ Hid (Tw w2.heap.size w5 Sa Ma nma 0 (fol D m gr la) Sb Mb nmb 5 (Ss0)) ∧ Hid (Below w2.heap.size w2 w5)) (fun nv _ => k1 - (intOf nv).toNat)
     case atStart => exact ⟨m0, nma0, nmb0, gr0, la0, grb0, lab0, Nat.le_refl _, hk1m, rfl, hid ⟨HG0.out.1, HG0.out.2.1, HG0.out.2.2.1, HG0.out.2.2.2.1⟩, HT0, HB⟩
     case round =>
      obtain ⟨m, nma, nmb, gr, la, grb, lab, hm0m, hmk, rfl, HG, HT, HB5⟩ := hrel
      have HR5 := hid (row_on HR.out HB5.out)
      have x2 := row_cell HR5.out 2
      have x3 := row_cell HR5.out 3
      simp only [List.getElem?_toArray, List.getElem?_cons_succ, List.getElem?_cons_zero] at x2 x3
      obtain ⟨y0, y1, y2⟩ := HA.out _ HB5.out
      by_cases hmn : m < na
      ·have hmD : m < D.length := by rw [HNA.out]; exact hmn
       obtain ⟨gd, hgd, _, e0, e1, e2, e3, e4, e5⟩ := Fd.Dw.cells ((V2.out.on HB5.out).da) hmD
       have HDC := hid (fun (U : World) (hU : Below w2.heap.size w2 U) => Fd.Dw.cells ((V2.out.on hU).da) hmD)
       have HFN := hid (fun gr la (h : gr ≤ (m : Int)) hold => fol_next (gr := gr) (la := la) TL.out hmD h hold)
       have hsq := TL.out.num m hmD
       obtain ⟨y, hy⟩ : ∃ y, D[m] = y := ⟨_, rfl⟩
       rw [hy] at e0 e1 e2 e3 e4 e5 hsq HFN HDC
       have HSQ := hid hsq
       clear hy hsq
       subst hgd
       have s0 : (0 : Int) ≤ (m : Int) := by omega
       have s1 : (m : Int) < (na : Int) := by omega
       by_cases hmk1 : m < k1
       ·have c1' : decide (y.sq ≤ sx) = true := by have h1 := HSQ.out; have h2 := HSX.out; simp; omega
        have c2' : y.sq ≤ sx := by have h1 := HSQ.out; have h2 := HSX.out; omega
        have CTA := hid (show ∀ U, Below wr.heap.size wr U → Calls Try.prog 17 #[.pointer (some ⟨Sa, 0, none⟩), .agg #[.int .u64 y.sq, .int .i64 y.kd, .int .i64 y.sd, .int .i64 y.pr, .int .u64 y.qt, .int .i64 y.ct]] U fun e w' => e = .returned (.int .i64 0) ∧ ∃ nn la', nn ≤ nma + 1 ∧ Hid (Tw w2.heap.size w' Sa Ma nn 0 (fol D (m + 1) ((m + 1 : Nat) : Int) la') Sb Mb nmb 5 (Ss0)) ∧ Hid (Below w2.heap.size U w') from fun U hU => by
         have h := tw_take (HT.out.on hU) (Nat.le_trans HB5.out.size hU.size) y (by have := HSQ.out; omega) (by have := HG.out.2.2.1; unfold maxLen; omega)
         obtain ⟨la', hla'⟩ := (HFN.out gr la HG.out.1 0).2
         rw [(HFN.out gr la HG.out.1 0).1, hla'] at h
         refine h.mono ?_
         rintro e w' ⟨a1, nn, a2, a3, a4⟩
         exact ⟨a1, nn, la', a2, a3, a4⟩)
        go_upto_region 17 with fail
        go_big_quiet (fail)
        clear y0 y1 y2 c1' c2'
        have w1' : decide ((f : Int) < (i : Int)) = false := by simp; omega
        have w2' : decide (f < i) = false := by simp; omega
        have w3' : ¬ (f : Int) < (i : Int) := by omega
        go_wp2_with (go_at_call 17; with_reducible refine (CTA.out _ (bdrew _ _)).mono ?_; rintro e w6 ⟨rfl, nn, la', h1, h2, h3⟩)
        go_roundw
        case rel => exact ⟨m + 1, nn, nmb, ((m + 1 : Nat) : Int), la', grb, lab, by omega, by omega, by go_num, hid (by have := HG.out; exact ⟨Int.le_refl _, by omega, by omega, by omega⟩), h2, hid ((btr HB5.out (bdrew _ _)).trans h3.out)⟩
        case measure => simp [intOf]; omega
       ·have c1' : decide (y.sq ≤ sx) = false := by have h1 := HSQ.out; have h2 := HSX.out; simp; omega
        have c2' : ¬ y.sq ≤ sx := by have h1 := HSQ.out; have h2 := HSX.out; omega
        go_upto_region 17 with fail
        go_big_quiet (fail)
        clear c1' c2' e0 e1 e2 e3 e4 e5 HFN HDC HSQ hmD
        have hmk' : m = k1 := by omega
        subst hmk'
        obtain ⟨VA, hVA⟩ : ∃ w, wr.drewN nq = w := ⟨_, rfl⟩
        have BVA := hid (show Below wr.heap.size wr VA from by rw [← hVA]; exact bdrew _ _)
        rw [hVA]
        clear hVA
        have HTA := hid (HT.out.on BVA.out)
        have BWA := hid (btr HB5.out BVA.out)
        clear HT HB5 BVA y0 y1 y2 x2 x3
        have z1 : ((i : Int) == (f : Int)) = false := by simp; omega
        have z2 : decide ((i : Int) = (f : Int)) = false := by simp; omega
        have z3 : decide (i = f) = false := by simp; omega
        have z4 : ¬ i = f := by omega
        have z5 : ¬ (i : Int) = (f : Int) := by omega
        have z6 : (i == f) = false := by simp; omega
        have w1' : decide ((f : Int) ≤ (i : Int)) = false := by simp; omega
        have w2' : decide (f ≤ i) = false := by simp; omega
        have w3' : ¬ (f : Int) ≤ (i : Int) := by omega
        go_upto_region 23 with fail
        obtain ⟨VW, hVW⟩ : ∃ w, VA = w := ⟨_, rfl⟩
        have HTV := hid HTA.out
        have BVV := hid BWA.out
        rw [hVW] at HTV BVV ⊢
        clear hVW HTA BWA
        have HS := hid (show ∀ U, Below VW.heap.size VW U → U.cell? ⟨S1, 3, none⟩ = some (.slice (some ⟨g1, 0, none⟩) p pc1) ∧ U.cell? ⟨g1, i * 3, none⟩ = some (.int .u64 sx) ∧ U.cell? ⟨g1, i * 3 + 1, none⟩ = some (.slice p1 n1 c1) ∧ U.cell? ⟨g1, i * 3 + 2, none⟩ = some (.slice p2 n2 c2) from fun U hU => ⟨row_cell (row_on HR.out (btr BVV.out hU)) 3, HA.out U (btr BVV.out hU)⟩)
        have CGA := hid (show ∀ U, Below VW.heap.size VW U → Calls Try.prog 19 #[.pointer (some ⟨Sa, 0, none⟩)] U fun e w' => e = .returned (.bool true) ∧ Hid (Below U.heap.size U w') from fun U hU => by
         obtain ⟨F, hF⟩ := (HTV.out.on hU).left
         have h := sq_good hF
         rw [show decide ((fol D m gr la).gr ≤ (fol D m gr la).sq) = true from decide_eq_true HG.out.1] at h
         exact h)
        have CPA := hid (show ∀ U, Below VW.heap.size VW U → Calls Try.prog 21 #[.pointer (some ⟨Sa, 0, none⟩)] U fun e w' => ∃ q1 d1 q2 d2, e = .returned (.agg #[.int .u64 sx, .slice q1 n1 d1, .slice q2 n2 d2]) ∧ Hid (Fd.Rl w' q1 d1 l1) ∧ Hid (Fd.Rl w' q2 d2 l2) ∧ Hid (Below U.heap.size U w') from fun U hU => by
         obtain ⟨F, hF⟩ := (HTV.out.on hU).left
         have h := sq_pic hF
         rw [show (fol D m gr la).sq = sx from HSX.out.symm, show (fol D m gr la).l1 = l1 from HPT.out.2.2.2.1, show (fol D m gr la).l2 = l2 from HPT.out.2.2.2.2.1, HN1.out, HN2.out] at h
         exact h)
        have CSA := hid (show ∀ (U : World) (q1 : Option Addr) (d1 : Nat) (q2 : Option Addr) (d2 : Nat), Below VW.heap.size VW U → Fd.Rl U q1 d1 l1 → Fd.Rl U q2 d2 l2 → Calls Try.prog 20 #[.agg #[.int .u64 sx, .slice q1 n1 d1, .slice q2 n2 d2], .agg #[.int .u64 sx, .slice p1 n1 c1, .slice p2 n2 c2]] U fun e w' => e = .returned (.bool true) ∧ Hid (Below U.heap.size U w') from fun U q1 d1 q2 d2 hU r1 r2 => by
         have h := Fd.samePicture_same sx q1 q2 p1 p2 d1 d2 c1 c2 l1 l2 U r1 r2 (HLA.out.1.on (btr BVV.out hU)) (HLA.out.2.on (btr BVV.out hU))
         rw [HN1.out, HN2.out] at h
         exact h)
        obtain ⟨V0, hV0⟩ : ∃ U, VW.drew = U := ⟨_, rfl⟩
        have DV0 := hid (show Below VW.heap.size VW V0 from by rw [← hV0]; exact bdrew1 _)
        refine wp_region_held_drew (S := fun U => U.cell? ⟨S1, 3, none⟩ = some (.slice (some ⟨g1, 0, none⟩) p pc1) ∧ U.cell? ⟨g1, i * 3, none⟩ = some (.int .u64 sx) ∧ U.cell? ⟨g1, i * 3 + 1, none⟩ = some (.slice p1 n1 c1) ∧ U.cell? ⟨g1, i * 3 + 2, none⟩ = some (.slice p2 n2 c2)) (by kernel_rfl) ?_ (fun hHeld => ?_)
        ·(try dsimp only); rw [hV0]; exact HS.out _ DV0.out
        rw [hV0] at hHeld ⊢
        clear hV0
        refine' wpAnyH_take (i := 0) (oi := _) (v := _) rfl (by kernel_rfl) (by kernel_rfl) (by kernel_rfl) (fun _ _ _ h => h) (Or.inl ⟨by kernel_rfl, ?hyq1⟩) (by assumption) ?restq1
        case hyq1 => (intro w hSw; (try dsimp only at hSw); go_simp; try (with_reducible rfl))
        try simp only [List.getElem_toArray, List.getElem_cons_succ, List.getElem_cons_zero, Act.put, List.setIfInBounds_toArray, List.set_cons_zero, List.set_cons_succ]
        refine wpAnyH_ready (rs := [1]) (by kernel_rfl) (by simp) ?_
        refine (AllReadyH.cons (o := _) rfl (fun K hK => ?_) AllReadyH.nil)
        go_simp
        go_at_call 19
        with_reducible refine (CGA.out V0 DV0.out).mono ?_
        rintro e Z1 ⟨rfl, B6⟩
        have DZ1 := hid (btr DV0.out B6.out)
        clear B6
        (try go_wp2_with fail)
        refine hK.out _ _ ?_ (fun hHeld => ?_)
        ·(try dsimp only); exact HS.out _ DZ1.out
        clear hK K
        try simp only [List.getElem_toArray, List.getElem_cons_succ, List.getElem_cons_zero, Act.put, List.setIfInBounds_toArray, List.set_cons_zero, List.set_cons_succ]
        refine' wpAnyH_take (i := 2) (oi := _) (v := _) rfl (by kernel_rfl) (by kernel_rfl) (by kernel_rfl) (fun _ _ _ h => h) (Or.inl ⟨by kernel_rfl, ?hyq2⟩) (by assumption) ?restq2
        case hyq2 => (intro w hSw; (try dsimp only at hSw); go_simp; try (with_reducible rfl))
        try simp only [List.getElem_toArray, List.getElem_cons_succ, List.getElem_cons_zero, Act.put, List.setIfInBounds_toArray, List.set_cons_zero, List.set_cons_succ]
        refine' wpAnyH_take (i := 3) (oi := _) (v := _) rfl (by kernel_rfl) (by kernel_rfl) (by kernel_rfl) (fun _ _ _ h => h) (Or.inl ⟨by kernel_rfl, ?hyq3⟩) (by assumption) ?restq3
        case hyq3 => (intro w hSw; (try dsimp only at hSw); go_simp; try (with_reducible rfl))
        try simp only [List.getElem_toArray, List.getElem_cons_succ, List.getElem_cons_zero, Act.put, List.setIfInBounds_toArray, List.set_cons_zero, List.set_cons_succ]
        refine' wpAnyH_take (i := 4) (oi := _) (v := _) rfl (by kernel_rfl) (by kernel_rfl) (by kernel_rfl) (fun _ _ _ h => h) (Or.inl ⟨by kernel_rfl, ?hyq4⟩) (by assumption) ?restq4
        case hyq4 => (intro w hSw; (try dsimp only at hSw); go_simp; try (with_reducible rfl))
        try simp only [List.getElem_toArray, List.getElem_cons_succ, List.getElem_cons_zero, Act.put, List.setIfInBounds_toArray, List.set_cons_zero, List.set_cons_succ]
        refine' wpAnyH_take (i := 6) (oi := _) (v := _) rfl (by kernel_rfl) (by kernel_rfl) (by kernel_rfl) (fun _ _ _ h => h) (Or.inl ⟨by kernel_rfl, ?hyq5⟩) (by assumption) ?restq5
        case hyq5 => (intro w hSw; (try dsimp only at hSw); go_simp; try (with_reducible rfl))
        try simp only [List.getElem_toArray, List.getElem_cons_succ, List.getElem_cons_zero, Act.put, List.setIfInBounds_toArray, List.set_cons_zero, List.set_cons_succ]
        refine' wpAnyH_take (i := 7) (oi := _) (v := _) rfl (by kernel_rfl) (by kernel_rfl) (by kernel_rfl) (fun _ _ _ h => h) (Or.inl ⟨by kernel_rfl, ?hyq6⟩) (by assumption) ?restq6
        case hyq6 => (intro w hSw; (try dsimp only at hSw); go_simp; try (with_reducible rfl))
        try simp only [List.getElem_toArray, List.getElem_cons_succ, List.getElem_cons_zero, Act.put, List.setIfInBounds_toArray, List.set_cons_zero, List.set_cons_succ]
        refine' wpAnyH_take (i := 8) (oi := _) (v := _) rfl (by kernel_rfl) (by kernel_rfl) (by kernel_rfl) (fun _ _ _ h => h) (Or.inl ⟨by kernel_rfl, ?hyq7⟩) (by assumption) ?restq7
        case hyq7 => (intro w hSw; (try dsimp only at hSw); go_simp; try (with_reducible rfl))
        try simp only [List.getElem_toArray, List.getElem_cons_succ, List.getElem_cons_zero, Act.put, List.setIfInBounds_toArray, List.set_cons_zero, List.set_cons_succ]
        refine' wpAnyH_take (i := 9) (oi := _) (v := _) rfl (by kernel_rfl) (by kernel_rfl) (by kernel_rfl) (fun _ _ _ h => h) (Or.inl ⟨by kernel_rfl, ?hyq8⟩) (by assumption) ?restq8
        case hyq8 => (intro w hSw; (try dsimp only at hSw); go_simp; try (with_reducible rfl))
        try simp only [List.getElem_toArray, List.getElem_cons_succ, List.getElem_cons_zero, Act.put, List.setIfInBounds_toArray, List.set_cons_zero, List.set_cons_succ]
        refine' wpAnyH_take (i := 10) (oi := _) (v := _) rfl (by kernel_rfl) (by kernel_rfl) (by kernel_rfl) (fun _ _ _ h => h) (Or.inl ⟨by kernel_rfl, ?hyq9⟩) (by assumption) ?restq9
        case hyq9 => (intro w hSw; (try dsimp only at hSw); go_simp; try (with_reducible rfl))
        try simp only [List.getElem_toArray, List.getElem_cons_succ, List.getElem_cons_zero, Act.put, List.setIfInBounds_toArray, List.set_cons_zero, List.set_cons_succ]
        refine' wpAnyH_take (i := 11) (oi := _) (v := _) rfl (by kernel_rfl) (by kernel_rfl) (by kernel_rfl) (fun _ _ _ h => h) (Or.inl ⟨by kernel_rfl, ?hyq10⟩) (by assumption) ?restq10
        case hyq10 => (intro w hSw; (try dsimp only at hSw); go_simp; try (with_reducible rfl))
        try simp only [List.getElem_toArray, List.getElem_cons_succ, List.getElem_cons_zero, Act.put, List.setIfInBounds_toArray, List.set_cons_zero, List.set_cons_succ]
        refine' wpAnyH_take (i := 12) (oi := _) (v := _) rfl (by kernel_rfl) (by kernel_rfl) (by kernel_rfl) (fun _ _ _ h => h) (Or.inl ⟨by kernel_rfl, ?hyq11⟩) (by assumption) ?restq11
        case hyq11 => (intro w hSw; (try dsimp only at hSw); go_simp; try (with_reducible rfl))
        try simp only [List.getElem_toArray, List.getElem_cons_succ, List.getElem_cons_zero, Act.put, List.setIfInBounds_toArray, List.set_cons_zero, List.set_cons_succ]
        refine wpAnyH_ready (rs := [5]) (by kernel_rfl) (by simp) ?_
        refine (AllReadyH.cons (o := _) rfl (fun K hK => ?_) AllReadyH.nil)
        go_simp
        go_at_call 21
        with_reducible refine (CPA.out Z1 DZ1.out).mono ?_
        rintro e Z2 ⟨qa, da, qb, db, rfl, RL1, RL2, B6⟩
        have DZ2 := hid (btr DZ1.out B6.out)
        clear B6
        (try go_wp2_with fail)
        refine hK.out _ _ ?_ (fun hHeld => ?_)
        ·(try dsimp only); exact HS.out _ DZ2.out
        clear hK K
        try simp only [List.getElem_toArray, List.getElem_cons_succ, List.getElem_cons_zero, Act.put, List.setIfInBounds_toArray, List.set_cons_zero, List.set_cons_succ]
        refine wpAnyH_ready (rs := [13]) (by kernel_rfl) (by simp) ?_
        refine (AllReadyH.cons (o := _) rfl (fun K hK => ?_) AllReadyH.nil)
        go_simp
        go_at_call 20
        with_reducible refine (CSA.out Z2 qa da qb db DZ2.out RL1.out RL2.out).mono ?_
        rintro e Z3 ⟨rfl, B6⟩
        have DZ3 := hid (btr DZ2.out B6.out)
        clear B6
        (try go_wp2_with fail)
        refine hK.out _ _ ?_ (fun hHeld => ?_)
        ·(try dsimp only); exact HS.out _ DZ3.out
        clear hK K
        try simp only [List.getElem_toArray, List.getElem_cons_succ, List.getElem_cons_zero, Act.put, List.setIfInBounds_toArray, List.set_cons_zero, List.set_cons_succ]
        refine' wpAnyH_take (i := 14) (oi := _) (v := _) rfl (by kernel_rfl) (by kernel_rfl) (by kernel_rfl) (fun _ _ _ h => h) (Or.inl ⟨by kernel_rfl, ?hyq12⟩) (by assumption) ?restq12
        case hyq12 => (intro w hSw; (try dsimp only at hSw); go_simp; try (with_reducible rfl))
        try simp only [List.getElem_toArray, List.getElem_cons_succ, List.getElem_cons_zero, Act.put, List.setIfInBounds_toArray, List.set_cons_zero, List.set_cons_succ]
        refine' wpAnyH_take (i := 15) (oi := _) (v := _) rfl (by kernel_rfl) (by kernel_rfl) (by kernel_rfl) (fun _ _ _ h => h) (Or.inl ⟨by kernel_rfl, ?hyq13⟩) (by assumption) ?restq13
        case hyq13 => (intro w hSw; (try dsimp only at hSw); go_simp; try (with_reducible rfl))
        try simp only [List.getElem_toArray, List.getElem_cons_succ, List.getElem_cons_zero, Act.put, List.setIfInBounds_toArray, List.set_cons_zero, List.set_cons_succ]
        refine' wpAnyH_take (i := 16) (oi := _) (v := _) rfl (by kernel_rfl) (by kernel_rfl) (by kernel_rfl) (fun _ _ _ h => h) (Or.inl ⟨by kernel_rfl, ?hyq14⟩) (by assumption) ?restq14
        case hyq14 => (intro w hSw; (try dsimp only at hSw); go_simp; try (with_reducible rfl))
        try simp only [List.getElem_toArray, List.getElem_cons_succ, List.getElem_cons_zero, Act.put, List.setIfInBounds_toArray, List.set_cons_zero, List.set_cons_succ]
        refine' wpAnyH_take (i := 17) (oi := _) (v := _) rfl (by kernel_rfl) (by kernel_rfl) (by kernel_rfl) (fun _ _ _ h => h) (Or.inl ⟨by kernel_rfl, ?hyq15⟩) (by assumption) ?restq15
        case hyq15 => (intro w hSw; (try dsimp only at hSw); go_simp; try (with_reducible rfl))
        try simp only [List.getElem_toArray, List.getElem_cons_succ, List.getElem_cons_zero, Act.put, List.setIfInBounds_toArray, List.set_cons_zero, List.set_cons_succ]
        refine' wpAnyH_take (i := 18) (oi := _) (v := _) rfl (by kernel_rfl) (by kernel_rfl) (by kernel_rfl) (fun _ _ _ h => h) (Or.inl ⟨by kernel_rfl, ?hyq16⟩) (by assumption) ?restq16
        case hyq16 => (intro w hSw; (try dsimp only at hSw); go_simp; try (with_reducible rfl))
        try simp only [List.getElem_toArray, List.getElem_cons_succ, List.getElem_cons_zero, Act.put, List.setIfInBounds_toArray, List.set_cons_zero, List.set_cons_succ]
        refine' wpAnyH_take (i := 19) (oi := _) (v := _) rfl (by kernel_rfl) (by kernel_rfl) (by kernel_rfl) (fun _ _ _ h => h) (Or.inl ⟨by kernel_rfl, ?hyq17⟩) (by assumption) ?restq17
        case hyq17 => (intro w hSw; (try dsimp only at hSw); go_simp; try (with_reducible rfl))
        try simp only [List.getElem_toArray, List.getElem_cons_succ, List.getElem_cons_zero, Act.put, List.setIfInBounds_toArray, List.set_cons_zero, List.set_cons_succ]
        refine' wpAnyH_take (i := 20) (oi := _) (v := _) rfl (by kernel_rfl) (by kernel_rfl) (by kernel_rfl) (fun _ _ _ h => h) (Or.inl ⟨by kernel_rfl, ?hyq18⟩) (by assumption) ?restq18
        case hyq18 => (intro w hSw; (try dsimp only at hSw); go_simp; try (with_reducible rfl))
        try simp only [List.getElem_toArray, List.getElem_cons_succ, List.getElem_cons_zero, Act.put, List.setIfInBounds_toArray, List.set_cons_zero, List.set_cons_succ]
        refine' wpAnyH_take (i := 21) (oi := _) (v := _) rfl (by kernel_rfl) (by kernel_rfl) (by kernel_rfl) (fun _ _ _ h => h) (Or.inl ⟨by kernel_rfl, ?hyq19⟩) (by assumption) ?restq19
        case hyq19 => (intro w hSw; (try dsimp only at hSw); go_simp; try (with_reducible rfl))
        try simp only [List.getElem_toArray, List.getElem_cons_succ, List.getElem_cons_zero, Act.put, List.setIfInBounds_toArray, List.set_cons_zero, List.set_cons_succ]
        refine' wpAnyH_take (i := 22) (oi := _) (v := _) rfl (by kernel_rfl) (by kernel_rfl) (by kernel_rfl) (fun _ _ _ h => h) (Or.inl ⟨by kernel_rfl, ?hyq20⟩) (by assumption) ?restq20
        case hyq20 => (intro w hSw; (try dsimp only at hSw); go_simp; try (with_reducible rfl))
        try simp only [List.getElem_toArray, List.getElem_cons_succ, List.getElem_cons_zero, Act.put, List.setIfInBounds_toArray, List.set_cons_zero, List.set_cons_succ]
        refine' wpAnyH_take (i := 23) (oi := _) (v := _) rfl (by kernel_rfl) (by kernel_rfl) (by kernel_rfl) (fun _ _ _ h => h) (Or.inl ⟨by kernel_rfl, ?hyq21⟩) (by assumption) ?restq21
        case hyq21 => (intro w hSw; (try dsimp only at hSw); go_simp; try (with_reducible rfl))
        try simp only [List.getElem_toArray, List.getElem_cons_succ, List.getElem_cons_zero, Act.put, List.setIfInBounds_toArray, List.set_cons_zero, List.set_cons_succ]
        refine' wpAnyH_take (i := 24) (oi := _) (v := _) rfl (by kernel_rfl) (by kernel_rfl) (by kernel_rfl) (fun _ _ _ h => h) (Or.inl ⟨by kernel_rfl, ?hyq22⟩) (by assumption) ?restq22
        case hyq22 => (intro w hSw; (try dsimp only at hSw); go_simp; try (with_reducible rfl))
        try simp only [List.getElem_toArray, List.getElem_cons_succ, List.getElem_cons_zero, Act.put, List.setIfInBounds_toArray, List.set_cons_zero, List.set_cons_succ]
        refine' wpAnyH_take (i := 25) (oi := _) (v := undef) rfl (by kernel_rfl) (by kernel_rfl) (by kernel_rfl) (fun _ _ _ h => h) (Or.inr ⟨by kernel_rfl, rfl⟩) (by assumption) ?restq23
        try simp only [List.getElem_toArray, List.getElem_cons_succ, List.getElem_cons_zero, Act.put, List.setIfInBounds_toArray, List.set_cons_zero, List.set_cons_succ]
        refine' wpAnyH_take (i := 26) (oi := _) (v := undef) rfl (by kernel_rfl) (by kernel_rfl) (by kernel_rfl) (fun _ _ _ h => h) (Or.inr ⟨by kernel_rfl, rfl⟩) (by assumption) ?restq24
        try simp only [List.getElem_toArray, List.getElem_cons_succ, List.getElem_cons_zero, Act.put, List.setIfInBounds_toArray, List.set_cons_zero, List.set_cons_succ]
        refine' wpAnyH_take (i := 27) (oi := _) (v := undef) rfl (by kernel_rfl) (by kernel_rfl) (by kernel_rfl) (fun _ _ _ h => h) (Or.inr ⟨by kernel_rfl, rfl⟩) (by assumption) ?restq25
        try simp only [List.getElem_toArray, List.getElem_cons_succ, List.getElem_cons_zero, Act.put, List.setIfInBounds_toArray, List.set_cons_zero, List.set_cons_succ]
        refine' wpAnyH_take (i := 28) (oi := _) (v := undef) rfl (by kernel_rfl) (by kernel_rfl) (by kernel_rfl) (fun _ _ _ h => h) (Or.inr ⟨by kernel_rfl, rfl⟩) (by assumption) ?restq26
        try simp only [List.getElem_toArray, List.getElem_cons_succ, List.getElem_cons_zero, Act.put, List.setIfInBounds_toArray, List.set_cons_zero, List.set_cons_succ]
        refine' wpAnyH_take (i := 29) (oi := _) (v := undef) rfl (by kernel_rfl) (by kernel_rfl) (by kernel_rfl) (fun _ _ _ h => h) (Or.inr ⟨by kernel_rfl, rfl⟩) (by assumption) ?restq27
        try simp only [List.getElem_toArray, List.getElem_cons_succ, List.getElem_cons_zero, Act.put, List.setIfInBounds_toArray, List.set_cons_zero, List.set_cons_succ]
        refine' wpAnyH_take (i := 30) (oi := _) (v := undef) rfl (by kernel_rfl) (by kernel_rfl) (by kernel_rfl) (fun _ _ _ h => h) (Or.inr ⟨by kernel_rfl, rfl⟩) (by assumption) ?restq28
        try simp only [List.getElem_toArray, List.getElem_cons_succ, List.getElem_cons_zero, Act.put, List.setIfInBounds_toArray, List.set_cons_zero, List.set_cons_succ]
        refine' wpAnyH_take (i := 31) (oi := _) (v := undef) rfl (by kernel_rfl) (by kernel_rfl) (by kernel_rfl) (fun _ _ _ h => h) (Or.inr ⟨by kernel_rfl, rfl⟩) (by assumption) ?restq29
        try simp only [List.getElem_toArray, List.getElem_cons_succ, List.getElem_cons_zero, Act.put, List.setIfInBounds_toArray, List.set_cons_zero, List.set_cons_succ]
        refine' wpAnyH_take (i := 32) (oi := _) (v := undef) rfl (by kernel_rfl) (by kernel_rfl) (by kernel_rfl) (fun _ _ _ h => h) (Or.inr ⟨by kernel_rfl, rfl⟩) (by assumption) ?restq30
        try simp only [List.getElem_toArray, List.getElem_cons_succ, List.getElem_cons_zero, Act.put, List.setIfInBounds_toArray, List.set_cons_zero, List.set_cons_succ]
        refine' wpAnyH_take (i := 33) (oi := _) (v := undef) rfl (by kernel_rfl) (by kernel_rfl) (by kernel_rfl) (fun _ _ _ h => h) (Or.inr ⟨by kernel_rfl, rfl⟩) (by assumption) ?restq31
        try simp only [List.getElem_toArray, List.getElem_cons_succ, List.getElem_cons_zero, Act.put, List.setIfInBounds_toArray, List.set_cons_zero, List.set_cons_succ]
        refine' wpAnyH_take (i := 34) (oi := _) (v := undef) rfl (by kernel_rfl) (by kernel_rfl) (by kernel_rfl) (fun _ _ _ h => h) (Or.inr ⟨by kernel_rfl, rfl⟩) (by assumption) ?restq32
        try simp only [List.getElem_toArray, List.getElem_cons_succ, List.getElem_cons_zero, Act.put, List.setIfInBounds_toArray, List.set_cons_zero, List.set_cons_succ]
        refine' wpAnyH_take (i := 35) (oi := _) (v := undef) rfl (by kernel_rfl) (by kernel_rfl) (by kernel_rfl) (fun _ _ _ h => h) (Or.inr ⟨by kernel_rfl, rfl⟩) (by assumption) ?restq33
        try simp only [List.getElem_toArray, List.getElem_cons_succ, List.getElem_cons_zero, Act.put, List.setIfInBounds_toArray, List.set_cons_zero, List.set_cons_succ]
        refine' wpAnyH_take (i := 36) (oi := _) (v := undef) rfl (by kernel_rfl) (by kernel_rfl) (by kernel_rfl) (fun _ _ _ h => h) (Or.inr ⟨by kernel_rfl, rfl⟩) (by assumption) ?restq34
        try simp only [List.getElem_toArray, List.getElem_cons_succ, List.getElem_cons_zero, Act.put, List.setIfInBounds_toArray, List.set_cons_zero, List.set_cons_succ]
        refine' wpAnyH_take (i := 37) (oi := _) (v := undef) rfl (by kernel_rfl) (by kernel_rfl) (by kernel_rfl) (fun _ _ _ h => h) (Or.inr ⟨by kernel_rfl, rfl⟩) (by assumption) ?restq35
        try simp only [List.getElem_toArray, List.getElem_cons_succ, List.getElem_cons_zero, Act.put, List.setIfInBounds_toArray, List.set_cons_zero, List.set_cons_succ]
        refine' wpAnyH_take (i := 38) (oi := _) (v := undef) rfl (by kernel_rfl) (by kernel_rfl) (by kernel_rfl) (fun _ _ _ h => h) (Or.inr ⟨by kernel_rfl, rfl⟩) (by assumption) ?restq36
        try simp only [List.getElem_toArray, List.getElem_cons_succ, List.getElem_cons_zero, Act.put, List.setIfInBounds_toArray, List.set_cons_zero, List.set_cons_succ]
        refine' wpAnyH_take (i := 39) (oi := _) (v := undef) rfl (by kernel_rfl) (by kernel_rfl) (by kernel_rfl) (fun _ _ _ h => h) (Or.inr ⟨by kernel_rfl, rfl⟩) (by assumption) ?restq37
        try simp only [List.getElem_toArray, List.getElem_cons_succ, List.getElem_cons_zero, Act.put, List.setIfInBounds_toArray, List.set_cons_zero, List.set_cons_succ]
        refine' wpAnyH_take (i := 40) (oi := _) (v := undef) rfl (by kernel_rfl) (by kernel_rfl) (by kernel_rfl) (fun _ _ _ h => h) (Or.inr ⟨by kernel_rfl, rfl⟩) (by assumption) ?restq38
        try simp only [List.getElem_toArray, List.getElem_cons_succ, List.getElem_cons_zero, Act.put, List.setIfInBounds_toArray, List.set_cons_zero, List.set_cons_succ]
        refine' wpAnyH_take (i := 41) (oi := _) (v := _) rfl (by kernel_rfl) (by kernel_rfl) (by kernel_rfl) (fun _ _ _ h => h) (Or.inl ⟨by kernel_rfl, ?hyq39⟩) (by assumption) ?restq39
        case hyq39 => (intro w hSw; (try dsimp only at hSw); go_simp; try (with_reducible rfl))
        try simp only [List.getElem_toArray, List.getElem_cons_succ, List.getElem_cons_zero, Act.put, List.setIfInBounds_toArray, List.set_cons_zero, List.set_cons_succ]
        refine' wpAnyH_take (i := 42) (oi := _) (v := _) rfl (by kernel_rfl) (by kernel_rfl) (by kernel_rfl) (fun _ _ _ h => h) (Or.inl ⟨by kernel_rfl, ?hyq40⟩) (by assumption) ?restq40
        case hyq40 => (intro w hSw; (try dsimp only at hSw); go_simp; try (with_reducible rfl))
        try simp only [List.getElem_toArray, List.getElem_cons_succ, List.getElem_cons_zero, Act.put, List.setIfInBounds_toArray, List.set_cons_zero, List.set_cons_succ]
        refine wpAnyH_done (by kernel_rfl) ?_ _
        go_wp2
        go_roundw
        case rel => exact ⟨i + 1, nma, nmb, gr, la, 0, Fd.dm0, by omega, by go_num, by rw [HK1.out], hid (by rw [HK1.out]; have := HG.out; exact ⟨this.1, by omega, this.2.2.1, this.2.2.2, hk1n⟩), hid (by rw [HK1.out]; rw [if_neg (show ¬ f < i + 1 by omega)]; exact HTV.out.on DZ3.out), btr BVV.out DZ3.out⟩
        case measure => simp [intOf]; omega
      ·have hnm : m = na := by omega
       have n1' : decide ((m : Int) < (na : Int)) = false := by simp; omega
       have n2' : ¬ (m : Int) < (na : Int) := by omega
       have n3' : decide (m < na) = false := by simp; omega
       have HNM := hid hnm
       clear hnm
       go_upto_region 17 with fail
       go_big_quiet (fail)
       clear n1' n2' n3'
       have hmk' : m = k1 := by omega
       subst hmk'
       obtain ⟨VA, hVA⟩ : ∃ w, wr.drewN nq = w := ⟨_, rfl⟩
       have BVA := hid (show Below wr.heap.size wr VA from by rw [← hVA]; exact bdrew _ _)
       rw [hVA]
       clear hVA
       have HTA := hid (HT.out.on BVA.out)
       have BWA := hid (btr HB5.out BVA.out)
       clear HT HB5 BVA y0 y1 y2 x2 x3
       have z1 : ((i : Int) == (f : Int)) = false := by simp; omega
       have z2 : decide ((i : Int) = (f : Int)) = false := by simp; omega
       have z3 : decide (i = f) = false := by simp; omega
       have z4 : ¬ i = f := by omega
       have z5 : ¬ (i : Int) = (f : Int) := by omega
       have z6 : (i == f) = false := by simp; omega
       have w1' : decide ((f : Int) ≤ (i : Int)) = false := by simp; omega
       have w2' : decide (f ≤ i) = false := by simp; omega
       have w3' : ¬ (f : Int) ≤ (i : Int) := by omega
       go_upto_region 23 with fail
       obtain ⟨VW, hVW⟩ : ∃ w, VA = w := ⟨_, rfl⟩
       have HTV := hid HTA.out
       have BVV := hid BWA.out
       rw [hVW] at HTV BVV ⊢
       clear hVW HTA BWA
       have HS := hid (show ∀ U, Below VW.heap.size VW U → U.cell? ⟨S1, 3, none⟩ = some (.slice (some ⟨g1, 0, none⟩) p pc1) ∧ U.cell? ⟨g1, i * 3, none⟩ = some (.int .u64 sx) ∧ U.cell? ⟨g1, i * 3 + 1, none⟩ = some (.slice p1 n1 c1) ∧ U.cell? ⟨g1, i * 3 + 2, none⟩ = some (.slice p2 n2 c2) from fun U hU => ⟨row_cell (row_on HR.out (btr BVV.out hU)) 3, HA.out U (btr BVV.out hU)⟩)
       have CGA := hid (show ∀ U, Below VW.heap.size VW U → Calls Try.prog 19 #[.pointer (some ⟨Sa, 0, none⟩)] U fun e w' => e = .returned (.bool true) ∧ Hid (Below U.heap.size U w') from fun U hU => by
        obtain ⟨F, hF⟩ := (HTV.out.on hU).left
        have h := sq_good hF
        rw [show decide ((fol D m gr la).gr ≤ (fol D m gr la).sq) = true from decide_eq_true HG.out.1] at h
        exact h)
       have CPA := hid (show ∀ U, Below VW.heap.size VW U → Calls Try.prog 21 #[.pointer (some ⟨Sa, 0, none⟩)] U fun e w' => ∃ q1 d1 q2 d2, e = .returned (.agg #[.int .u64 sx, .slice q1 n1 d1, .slice q2 n2 d2]) ∧ Hid (Fd.Rl w' q1 d1 l1) ∧ Hid (Fd.Rl w' q2 d2 l2) ∧ Hid (Below U.heap.size U w') from fun U hU => by
        obtain ⟨F, hF⟩ := (HTV.out.on hU).left
        have h := sq_pic hF
        rw [show (fol D m gr la).sq = sx from HSX.out.symm, show (fol D m gr la).l1 = l1 from HPT.out.2.2.2.1, show (fol D m gr la).l2 = l2 from HPT.out.2.2.2.2.1, HN1.out, HN2.out] at h
        exact h)
       have CSA := hid (show ∀ (U : World) (q1 : Option Addr) (d1 : Nat) (q2 : Option Addr) (d2 : Nat), Below VW.heap.size VW U → Fd.Rl U q1 d1 l1 → Fd.Rl U q2 d2 l2 → Calls Try.prog 20 #[.agg #[.int .u64 sx, .slice q1 n1 d1, .slice q2 n2 d2], .agg #[.int .u64 sx, .slice p1 n1 c1, .slice p2 n2 c2]] U fun e w' => e = .returned (.bool true) ∧ Hid (Below U.heap.size U w') from fun U q1 d1 q2 d2 hU r1 r2 => by
        have h := Fd.samePicture_same sx q1 q2 p1 p2 d1 d2 c1 c2 l1 l2 U r1 r2 (HLA.out.1.on (btr BVV.out hU)) (HLA.out.2.on (btr BVV.out hU))
        rw [HN1.out, HN2.out] at h
        exact h)
       obtain ⟨V0, hV0⟩ : ∃ U, VW.drew = U := ⟨_, rfl⟩
       have DV0 := hid (show Below VW.heap.size VW V0 from by rw [← hV0]; exact bdrew1 _)
       refine wp_region_held_drew (S := fun U => U.cell? ⟨S1, 3, none⟩ = some (.slice (some ⟨g1, 0, none⟩) p pc1) ∧ U.cell? ⟨g1, i * 3, none⟩ = some (.int .u64 sx) ∧ U.cell? ⟨g1, i * 3 + 1, none⟩ = some (.slice p1 n1 c1) ∧ U.cell? ⟨g1, i * 3 + 2, none⟩ = some (.slice p2 n2 c2)) (by kernel_rfl) ?_ (fun hHeld => ?_)
       ·(try dsimp only); rw [hV0]; exact HS.out _ DV0.out
       rw [hV0] at hHeld ⊢
       clear hV0
       refine' wpAnyH_take (i := 0) (oi := _) (v := _) rfl (by kernel_rfl) (by kernel_rfl) (by kernel_rfl) (fun _ _ _ h => h) (Or.inl ⟨by kernel_rfl, ?hyq41⟩) (by assumption) ?restq41
       case hyq41 => (intro w hSw; (try dsimp only at hSw); go_simp; try (with_reducible rfl))
       try simp only [List.getElem_toArray, List.getElem_cons_succ, List.getElem_cons_zero, Act.put, List.setIfInBounds_toArray, List.set_cons_zero, List.set_cons_succ]
       refine wpAnyH_ready (rs := [1]) (by kernel_rfl) (by simp) ?_
       refine (AllReadyH.cons (o := _) rfl (fun K hK => ?_) AllReadyH.nil)
       go_simp
       go_at_call 19
       with_reducible refine (CGA.out V0 DV0.out).mono ?_
       rintro e Z1 ⟨rfl, B6⟩
       have DZ1 := hid (btr DV0.out B6.out)
       clear B6
       (try go_wp2_with fail)
       refine hK.out _ _ ?_ (fun hHeld => ?_)
       ·(try dsimp only); exact HS.out _ DZ1.out
       clear hK K
       try simp only [List.getElem_toArray, List.getElem_cons_succ, List.getElem_cons_zero, Act.put, List.setIfInBounds_toArray, List.set_cons_zero, List.set_cons_succ]
       refine' wpAnyH_take (i := 2) (oi := _) (v := _) rfl (by kernel_rfl) (by kernel_rfl) (by kernel_rfl) (fun _ _ _ h => h) (Or.inl ⟨by kernel_rfl, ?hyq42⟩) (by assumption) ?restq42
       case hyq42 => (intro w hSw; (try dsimp only at hSw); go_simp; try (with_reducible rfl))
       try simp only [List.getElem_toArray, List.getElem_cons_succ, List.getElem_cons_zero, Act.put, List.setIfInBounds_toArray, List.set_cons_zero, List.set_cons_succ]
       refine' wpAnyH_take (i := 3) (oi := _) (v := _) rfl (by kernel_rfl) (by kernel_rfl) (by kernel_rfl) (fun _ _ _ h => h) (Or.inl ⟨by kernel_rfl, ?hyq43⟩) (by assumption) ?restq43
       case hyq43 => (intro w hSw; (try dsimp only at hSw); go_simp; try (with_reducible rfl))
       try simp only [List.getElem_toArray, List.getElem_cons_succ, List.getElem_cons_zero, Act.put, List.setIfInBounds_toArray, List.set_cons_zero, List.set_cons_succ]
       refine' wpAnyH_take (i := 4) (oi := _) (v := _) rfl (by kernel_rfl) (by kernel_rfl) (by kernel_rfl) (fun _ _ _ h => h) (Or.inl ⟨by kernel_rfl, ?hyq44⟩) (by assumption) ?restq44
       case hyq44 => (intro w hSw; (try dsimp only at hSw); go_simp; try (with_reducible rfl))
       try simp only [List.getElem_toArray, List.getElem_cons_succ, List.getElem_cons_zero, Act.put, List.setIfInBounds_toArray, List.set_cons_zero, List.set_cons_succ]
       refine' wpAnyH_take (i := 6) (oi := _) (v := _) rfl (by kernel_rfl) (by kernel_rfl) (by kernel_rfl) (fun _ _ _ h => h) (Or.inl ⟨by kernel_rfl, ?hyq45⟩) (by assumption) ?restq45
       case hyq45 => (intro w hSw; (try dsimp only at hSw); go_simp; try (with_reducible rfl))
       try simp only [List.getElem_toArray, List.getElem_cons_succ, List.getElem_cons_zero, Act.put, List.setIfInBounds_toArray, List.set_cons_zero, List.set_cons_succ]
       refine' wpAnyH_take (i := 7) (oi := _) (v := _) rfl (by kernel_rfl) (by kernel_rfl) (by kernel_rfl) (fun _ _ _ h => h) (Or.inl ⟨by kernel_rfl, ?hyq46⟩) (by assumption) ?restq46
       case hyq46 => (intro w hSw; (try dsimp only at hSw); go_simp; try (with_reducible rfl))
       try simp only [List.getElem_toArray, List.getElem_cons_succ, List.getElem_cons_zero, Act.put, List.setIfInBounds_toArray, List.set_cons_zero, List.set_cons_succ]
       refine' wpAnyH_take (i := 8) (oi := _) (v := _) rfl (by kernel_rfl) (by kernel_rfl) (by kernel_rfl) (fun _ _ _ h => h) (Or.inl ⟨by kernel_rfl, ?hyq47⟩) (by assumption) ?restq47
       case hyq47 => (intro w hSw; (try dsimp only at hSw); go_simp; try (with_reducible rfl))
       try simp only [List.getElem_toArray, List.getElem_cons_succ, List.getElem_cons_zero, Act.put, List.setIfInBounds_toArray, List.set_cons_zero, List.set_cons_succ]
       refine' wpAnyH_take (i := 9) (oi := _) (v := _) rfl (by kernel_rfl) (by kernel_rfl) (by kernel_rfl) (fun _ _ _ h => h) (Or.inl ⟨by kernel_rfl, ?hyq48⟩) (by assumption) ?restq48
       case hyq48 => (intro w hSw; (try dsimp only at hSw); go_simp; try (with_reducible rfl))
       try simp only [List.getElem_toArray, List.getElem_cons_succ, List.getElem_cons_zero, Act.put, List.setIfInBounds_toArray, List.set_cons_zero, List.set_cons_succ]
       refine' wpAnyH_take (i := 10) (oi := _) (v := _) rfl (by kernel_rfl) (by kernel_rfl) (by kernel_rfl) (fun _ _ _ h => h) (Or.inl ⟨by kernel_rfl, ?hyq49⟩) (by assumption) ?restq49
       case hyq49 => (intro w hSw; (try dsimp only at hSw); go_simp; try (with_reducible rfl))
       try simp only [List.getElem_toArray, List.getElem_cons_succ, List.getElem_cons_zero, Act.put, List.setIfInBounds_toArray, List.set_cons_zero, List.set_cons_succ]
       refine' wpAnyH_take (i := 11) (oi := _) (v := _) rfl (by kernel_rfl) (by kernel_rfl) (by kernel_rfl) (fun _ _ _ h => h) (Or.inl ⟨by kernel_rfl, ?hyq50⟩) (by assumption) ?restq50
       case hyq50 => (intro w hSw; (try dsimp only at hSw); go_simp; try (with_reducible rfl))
       try simp only [List.getElem_toArray, List.getElem_cons_succ, List.getElem_cons_zero, Act.put, List.setIfInBounds_toArray, List.set_cons_zero, List.set_cons_succ]
       refine' wpAnyH_take (i := 12) (oi := _) (v := _) rfl (by kernel_rfl) (by kernel_rfl) (by kernel_rfl) (fun _ _ _ h => h) (Or.inl ⟨by kernel_rfl, ?hyq51⟩) (by assumption) ?restq51
       case hyq51 => (intro w hSw; (try dsimp only at hSw); go_simp; try (with_reducible rfl))
       try simp only [List.getElem_toArray, List.getElem_cons_succ, List.getElem_cons_zero, Act.put, List.setIfInBounds_toArray, List.set_cons_zero, List.set_cons_succ]
       refine wpAnyH_ready (rs := [5]) (by kernel_rfl) (by simp) ?_
       refine (AllReadyH.cons (o := _) rfl (fun K hK => ?_) AllReadyH.nil)
       go_simp
       go_at_call 21
       with_reducible refine (CPA.out Z1 DZ1.out).mono ?_
       rintro e Z2 ⟨qa, da, qb, db, rfl, RL1, RL2, B6⟩
       have DZ2 := hid (btr DZ1.out B6.out)
       clear B6
       (try go_wp2_with fail)
       refine hK.out _ _ ?_ (fun hHeld => ?_)
       ·(try dsimp only); exact HS.out _ DZ2.out
       clear hK K
       try simp only [List.getElem_toArray, List.getElem_cons_succ, List.getElem_cons_zero, Act.put, List.setIfInBounds_toArray, List.set_cons_zero, List.set_cons_succ]
       refine wpAnyH_ready (rs := [13]) (by kernel_rfl) (by simp) ?_
       refine (AllReadyH.cons (o := _) rfl (fun K hK => ?_) AllReadyH.nil)
       go_simp
       go_at_call 20
       with_reducible refine (CSA.out Z2 qa da qb db DZ2.out RL1.out RL2.out).mono ?_
       rintro e Z3 ⟨rfl, B6⟩
       have DZ3 := hid (btr DZ2.out B6.out)
       clear B6
       (try go_wp2_with fail)
       refine hK.out _ _ ?_ (fun hHeld => ?_)
       ·(try dsimp only); exact HS.out _ DZ3.out
       clear hK K
       try simp only [List.getElem_toArray, List.getElem_cons_succ, List.getElem_cons_zero, Act.put, List.setIfInBounds_toArray, List.set_cons_zero, List.set_cons_succ]
       refine' wpAnyH_take (i := 14) (oi := _) (v := _) rfl (by kernel_rfl) (by kernel_rfl) (by kernel_rfl) (fun _ _ _ h => h) (Or.inl ⟨by kernel_rfl, ?hyq52⟩) (by assumption) ?restq52
       case hyq52 => (intro w hSw; (try dsimp only at hSw); go_simp; try (with_reducible rfl))
       try simp only [List.getElem_toArray, List.getElem_cons_succ, List.getElem_cons_zero, Act.put, List.setIfInBounds_toArray, List.set_cons_zero, List.set_cons_succ]
       refine' wpAnyH_take (i := 15) (oi := _) (v := _) rfl (by kernel_rfl) (by kernel_rfl) (by kernel_rfl) (fun _ _ _ h => h) (Or.inl ⟨by kernel_rfl, ?hyq53⟩) (by assumption) ?restq53
       case hyq53 => (intro w hSw; (try dsimp only at hSw); go_simp; try (with_reducible rfl))
       try simp only [List.getElem_toArray, List.getElem_cons_succ, List.getElem_cons_zero, Act.put, List.setIfInBounds_toArray, List.set_cons_zero, List.set_cons_succ]
       refine' wpAnyH_take (i := 16) (oi := _) (v := _) rfl (by kernel_rfl) (by kernel_rfl) (by kernel_rfl) (fun _ _ _ h => h) (Or.inl ⟨by kernel_rfl, ?hyq54⟩) (by assumption) ?restq54
       case hyq54 => (intro w hSw; (try dsimp only at hSw); go_simp; try (with_reducible rfl))
       try simp only [List.getElem_toArray, List.getElem_cons_succ, List.getElem_cons_zero, Act.put, List.setIfInBounds_toArray, List.set_cons_zero, List.set_cons_succ]
       refine' wpAnyH_take (i := 17) (oi := _) (v := _) rfl (by kernel_rfl) (by kernel_rfl) (by kernel_rfl) (fun _ _ _ h => h) (Or.inl ⟨by kernel_rfl, ?hyq55⟩) (by assumption) ?restq55
       case hyq55 => (intro w hSw; (try dsimp only at hSw); go_simp; try (with_reducible rfl))
       try simp only [List.getElem_toArray, List.getElem_cons_succ, List.getElem_cons_zero, Act.put, List.setIfInBounds_toArray, List.set_cons_zero, List.set_cons_succ]
       refine' wpAnyH_take (i := 18) (oi := _) (v := _) rfl (by kernel_rfl) (by kernel_rfl) (by kernel_rfl) (fun _ _ _ h => h) (Or.inl ⟨by kernel_rfl, ?hyq56⟩) (by assumption) ?restq56
       case hyq56 => (intro w hSw; (try dsimp only at hSw); go_simp; try (with_reducible rfl))
       try simp only [List.getElem_toArray, List.getElem_cons_succ, List.getElem_cons_zero, Act.put, List.setIfInBounds_toArray, List.set_cons_zero, List.set_cons_succ]
       refine' wpAnyH_take (i := 19) (oi := _) (v := _) rfl (by kernel_rfl) (by kernel_rfl) (by kernel_rfl) (fun _ _ _ h => h) (Or.inl ⟨by kernel_rfl, ?hyq57⟩) (by assumption) ?restq57
       case hyq57 => (intro w hSw; (try dsimp only at hSw); go_simp; try (with_reducible rfl))
       try simp only [List.getElem_toArray, List.getElem_cons_succ, List.getElem_cons_zero, Act.put, List.setIfInBounds_toArray, List.set_cons_zero, List.set_cons_succ]
       refine' wpAnyH_take (i := 20) (oi := _) (v := _) rfl (by kernel_rfl) (by kernel_rfl) (by kernel_rfl) (fun _ _ _ h => h) (Or.inl ⟨by kernel_rfl, ?hyq58⟩) (by assumption) ?restq58
       case hyq58 => (intro w hSw; (try dsimp only at hSw); go_simp; try (with_reducible rfl))
       try simp only [List.getElem_toArray, List.getElem_cons_succ, List.getElem_cons_zero, Act.put, List.setIfInBounds_toArray, List.set_cons_zero, List.set_cons_succ]
       refine' wpAnyH_take (i := 21) (oi := _) (v := _) rfl (by kernel_rfl) (by kernel_rfl) (by kernel_rfl) (fun _ _ _ h => h) (Or.inl ⟨by kernel_rfl, ?hyq59⟩) (by assumption) ?restq59
       case hyq59 => (intro w hSw; (try dsimp only at hSw); go_simp; try (with_reducible rfl))
       try simp only [List.getElem_toArray, List.getElem_cons_succ, List.getElem_cons_zero, Act.put, List.setIfInBounds_toArray, List.set_cons_zero, List.set_cons_succ]
       refine' wpAnyH_take (i := 22) (oi := _) (v := _) rfl (by kernel_rfl) (by kernel_rfl) (by kernel_rfl) (fun _ _ _ h => h) (Or.inl ⟨by kernel_rfl, ?hyq60⟩) (by assumption) ?restq60
       case hyq60 => (intro w hSw; (try dsimp only at hSw); go_simp; try (with_reducible rfl))
       try simp only [List.getElem_toArray, List.getElem_cons_succ, List.getElem_cons_zero, Act.put, List.setIfInBounds_toArray, List.set_cons_zero, List.set_cons_succ]
       refine' wpAnyH_take (i := 23) (oi := _) (v := _) rfl (by kernel_rfl) (by kernel_rfl) (by kernel_rfl) (fun _ _ _ h => h) (Or.inl ⟨by kernel_rfl, ?hyq61⟩) (by assumption) ?restq61
       case hyq61 => (intro w hSw; (try dsimp only at hSw); go_simp; try (with_reducible rfl))
       try simp only [List.getElem_toArray, List.getElem_cons_succ, List.getElem_cons_zero, Act.put, List.setIfInBounds_toArray, List.set_cons_zero, List.set_cons_succ]
       refine' wpAnyH_take (i := 24) (oi := _) (v := _) rfl (by kernel_rfl) (by kernel_rfl) (by kernel_rfl) (fun _ _ _ h => h) (Or.inl ⟨by kernel_rfl, ?hyq62⟩) (by assumption) ?restq62
       case hyq62 => (intro w hSw; (try dsimp only at hSw); go_simp; try (with_reducible rfl))
       try simp only [List.getElem_toArray, List.getElem_cons_succ, List.getElem_cons_zero, Act.put, List.setIfInBounds_toArray, List.set_cons_zero, List.set_cons_succ]
       refine' wpAnyH_take (i := 25) (oi := _) (v := undef) rfl (by kernel_rfl) (by kernel_rfl) (by kernel_rfl) (fun _ _ _ h => h) (Or.inr ⟨by kernel_rfl, rfl⟩) (by assumption) ?restq63
       try simp only [List.getElem_toArray, List.getElem_cons_succ, List.getElem_cons_zero, Act.put, List.setIfInBounds_toArray, List.set_cons_zero, List.set_cons_succ]
       refine' wpAnyH_take (i := 26) (oi := _) (v := undef) rfl (by kernel_rfl) (by kernel_rfl) (by kernel_rfl) (fun _ _ _ h => h) (Or.inr ⟨by kernel_rfl, rfl⟩) (by assumption) ?restq64
       try simp only [List.getElem_toArray, List.getElem_cons_succ, List.getElem_cons_zero, Act.put, List.setIfInBounds_toArray, List.set_cons_zero, List.set_cons_succ]
       refine' wpAnyH_take (i := 27) (oi := _) (v := undef) rfl (by kernel_rfl) (by kernel_rfl) (by kernel_rfl) (fun _ _ _ h => h) (Or.inr ⟨by kernel_rfl, rfl⟩) (by assumption) ?restq65
       try simp only [List.getElem_toArray, List.getElem_cons_succ, List.getElem_cons_zero, Act.put, List.setIfInBounds_toArray, List.set_cons_zero, List.set_cons_succ]
       refine' wpAnyH_take (i := 28) (oi := _) (v := undef) rfl (by kernel_rfl) (by kernel_rfl) (by kernel_rfl) (fun _ _ _ h => h) (Or.inr ⟨by kernel_rfl, rfl⟩) (by assumption) ?restq66
       try simp only [List.getElem_toArray, List.getElem_cons_succ, List.getElem_cons_zero, Act.put, List.setIfInBounds_toArray, List.set_cons_zero, List.set_cons_succ]
       refine' wpAnyH_take (i := 29) (oi := _) (v := undef) rfl (by kernel_rfl) (by kernel_rfl) (by kernel_rfl) (fun _ _ _ h => h) (Or.inr ⟨by kernel_rfl, rfl⟩) (by assumption) ?restq67
       try simp only [List.getElem_toArray, List.getElem_cons_succ, List.getElem_cons_zero, Act.put, List.setIfInBounds_toArray, List.set_cons_zero, List.set_cons_succ]
       refine' wpAnyH_take (i := 30) (oi := _) (v := undef) rfl (by kernel_rfl) (by kernel_rfl) (by kernel_rfl) (fun _ _ _ h => h) (Or.inr ⟨by kernel_rfl, rfl⟩) (by assumption) ?restq68
       try simp only [List.getElem_toArray, List.getElem_cons_succ, List.getElem_cons_zero, Act.put, List.setIfInBounds_toArray, List.set_cons_zero, List.set_cons_succ]
       refine' wpAnyH_take (i := 31) (oi := _) (v := undef) rfl (by kernel_rfl) (by kernel_rfl) (by kernel_rfl) (fun _ _ _ h => h) (Or.inr ⟨by kernel_rfl, rfl⟩) (by assumption) ?restq69
       try simp only [List.getElem_toArray, List.getElem_cons_succ, List.getElem_cons_zero, Act.put, List.setIfInBounds_toArray, List.set_cons_zero, List.set_cons_succ]
       refine' wpAnyH_take (i := 32) (oi := _) (v := undef) rfl (by kernel_rfl) (by kernel_rfl) (by kernel_rfl) (fun _ _ _ h => h) (Or.inr ⟨by kernel_rfl, rfl⟩) (by assumption) ?restq70
       try simp only [List.getElem_toArray, List.getElem_cons_succ, List.getElem_cons_zero, Act.put, List.setIfInBounds_toArray, List.set_cons_zero, List.set_cons_succ]
       refine' wpAnyH_take (i := 33) (oi := _) (v := undef) rfl (by kernel_rfl) (by kernel_rfl) (by kernel_rfl) (fun _ _ _ h => h) (Or.inr ⟨by kernel_rfl, rfl⟩) (by assumption) ?restq71
       try simp only [List.getElem_toArray, List.getElem_cons_succ, List.getElem_cons_zero, Act.put, List.setIfInBounds_toArray, List.set_cons_zero, List.set_cons_succ]
       refine' wpAnyH_take (i := 34) (oi := _) (v := undef) rfl (by kernel_rfl) (by kernel_rfl) (by kernel_rfl) (fun _ _ _ h => h) (Or.inr ⟨by kernel_rfl, rfl⟩) (by assumption) ?restq72
       try simp only [List.getElem_toArray, List.getElem_cons_succ, List.getElem_cons_zero, Act.put, List.setIfInBounds_toArray, List.set_cons_zero, List.set_cons_succ]
       refine' wpAnyH_take (i := 35) (oi := _) (v := undef) rfl (by kernel_rfl) (by kernel_rfl) (by kernel_rfl) (fun _ _ _ h => h) (Or.inr ⟨by kernel_rfl, rfl⟩) (by assumption) ?restq73
       try simp only [List.getElem_toArray, List.getElem_cons_succ, List.getElem_cons_zero, Act.put, List.setIfInBounds_toArray, List.set_cons_zero, List.set_cons_succ]
       refine' wpAnyH_take (i := 36) (oi := _) (v := undef) rfl (by kernel_rfl) (by kernel_rfl) (by kernel_rfl) (fun _ _ _ h => h) (Or.inr ⟨by kernel_rfl, rfl⟩) (by assumption) ?restq74
       try simp only [List.getElem_toArray, List.getElem_cons_succ, List.getElem_cons_zero, Act.put, List.setIfInBounds_toArray, List.set_cons_zero, List.set_cons_succ]
       refine' wpAnyH_take (i := 37) (oi := _) (v := undef) rfl (by kernel_rfl) (by kernel_rfl) (by kernel_rfl) (fun _ _ _ h => h) (Or.inr ⟨by kernel_rfl, rfl⟩) (by assumption) ?restq75
       try simp only [List.getElem_toArray, List.getElem_cons_succ, List.getElem_cons_zero, Act.put, List.setIfInBounds_toArray, List.set_cons_zero, List.set_cons_succ]
       refine' wpAnyH_take (i := 38) (oi := _) (v := undef) rfl (by kernel_rfl) (by kernel_rfl) (by kernel_rfl) (fun _ _ _ h => h) (Or.inr ⟨by kernel_rfl, rfl⟩) (by assumption) ?restq76
       try simp only [List.getElem_toArray, List.getElem_cons_succ, List.getElem_cons_zero, Act.put, List.setIfInBounds_toArray, List.set_cons_zero, List.set_cons_succ]
       refine' wpAnyH_take (i := 39) (oi := _) (v := undef) rfl (by kernel_rfl) (by kernel_rfl) (by kernel_rfl) (fun _ _ _ h => h) (Or.inr ⟨by kernel_rfl, rfl⟩) (by assumption) ?restq77
       try simp only [List.getElem_toArray, List.getElem_cons_succ, List.getElem_cons_zero, Act.put, List.setIfInBounds_toArray, List.set_cons_zero, List.set_cons_succ]
       refine' wpAnyH_take (i := 40) (oi := _) (v := undef) rfl (by kernel_rfl) (by kernel_rfl) (by kernel_rfl) (fun _ _ _ h => h) (Or.inr ⟨by kernel_rfl, rfl⟩) (by assumption) ?restq78
       try simp only [List.getElem_toArray, List.getElem_cons_succ, List.getElem_cons_zero, Act.put, List.setIfInBounds_toArray, List.set_cons_zero, List.set_cons_succ]
       refine' wpAnyH_take (i := 41) (oi := _) (v := _) rfl (by kernel_rfl) (by kernel_rfl) (by kernel_rfl) (fun _ _ _ h => h) (Or.inl ⟨by kernel_rfl, ?hyq79⟩) (by assumption) ?restq79
       case hyq79 => (intro w hSw; (try dsimp only at hSw); go_simp; try (with_reducible rfl))
       try simp only [List.getElem_toArray, List.getElem_cons_succ, List.getElem_cons_zero, Act.put, List.setIfInBounds_toArray, List.set_cons_zero, List.set_cons_succ]
       refine' wpAnyH_take (i := 42) (oi := _) (v := _) rfl (by kernel_rfl) (by kernel_rfl) (by kernel_rfl) (fun _ _ _ h => h) (Or.inl ⟨by kernel_rfl, ?hyq80⟩) (by assumption) ?restq80
       case hyq80 => (intro w hSw; (try dsimp only at hSw); go_simp; try (with_reducible rfl))
       try simp only [List.getElem_toArray, List.getElem_cons_succ, List.getElem_cons_zero, Act.put, List.setIfInBounds_toArray, List.set_cons_zero, List.set_cons_succ]
       refine wpAnyH_done (by kernel_rfl) ?_ _
       go_wp2
       go_roundw
       case rel => exact ⟨i + 1, nma, nmb, gr, la, 0, Fd.dm0, by omega, by go_num, by rw [HK1.out], hid (by rw [HK1.out]; have := HG.out; exact ⟨this.1, by omega, this.2.2.1, this.2.2.2, hk1n⟩), hid (by rw [HK1.out]; rw [if_neg (show ¬ f < i + 1 by omega)]; exact HTV.out.on DZ3.out), btr BVV.out DZ3.out⟩
       case measure => simp [intOf]; omega
   ·as_aux_lemma =>
     subst hif
     rw [if_neg (Nat.lt_irrefl _)] at HT0
     have hi1 : i < L.length := by rw [HLL.out]; exact hlt
     obtain ⟨g1, hpq1, hA⟩ := V2.out.at hi1
     have hlA := V2.out.lvs hi1
     have hT := tl_at TL.out hi1
     obtain ⟨X, hX⟩ : ∃ x, L[i] = x := ⟨_, rfl⟩
     rw [hX] at hA hlA hT
     rw [HM0.out] at hT
     obtain ⟨k1, hk1⟩ : ∃ m, kap L (i + 1) = m := ⟨_, rfl⟩
     rw [hk1] at hT
     obtain ⟨sx, p1, c1, l1, p2, c2, l2⟩ := X
     simp only at hA hlA hT
     obtain ⟨n1, hn1⟩ : ∃ t, l1.length = t := ⟨_, rfl⟩
     obtain ⟨n2, hn2⟩ : ∃ t, l2.length = t := ⟨_, rfl⟩
     rw [hn1, hn2] at hA
     have HK1 := hid hk1
     have HPT := hid hT
     have HSX := hid hT.1
     have hk1n : k1 ≤ na := by have := hT.2.1; rw [HNA.out] at this; exact this
     have hk1m : m0 ≤ k1 := hT.2.2.1
     have HA := hid hA
     have HLA := hid hlA
     have HN1 := hid hn1
     have HN2 := hid hn2
     clear hA hlA hT hX hn1 hn2 hi1 hk1
     subst hpq1
     have i0' : (0 : Int) ≤ (i : Int) := by omega
     have i1 : (i : Int) < (p : Int) := by omega
     go_upto_region 17 with fail
     clear x2 x3
     go_loopw [16] (fun nv w5 => ∃ (m nma nmb : Nat) (gr : Int) (la : Fd.Dm) (grb : Int) (lab : Fd.Dm), m0 ≤ m ∧ m ≤ k1 ∧ nv = .int .i64 m ∧ Hid (gr ≤ m ∧ grb ≤ m ∧ nma ≤ m ∧ nmb ≤ m) ∧ Hid (Tw w2.heap.size w5 Sa Ma nma 0 (fol D m gr la) Sb Mb nmb 5 (Ss0)) ∧ Hid (Below w2.heap.size w2 w5)) (fun nv _ => k1 - (intOf nv).toNat)
     case atStart => exact ⟨m0, nma0, nmb0, gr0, la0, grb0, lab0, Nat.le_refl _, hk1m, rfl, hid ⟨HG0.out.1, HG0.out.2.1, HG0.out.2.2.1, HG0.out.2.2.2.1⟩, HT0, HB⟩
     case round =>
      obtain ⟨m, nma, nmb, gr, la, grb, lab, hm0m, hmk, rfl, HG, HT, HB5⟩ := hrel
      have HR5 := hid (row_on HR.out HB5.out)
      have x2 := row_cell HR5.out 2
      have x3 := row_cell HR5.out 3
      simp only [List.getElem?_toArray, List.getElem?_cons_succ, List.getElem?_cons_zero] at x2 x3
      obtain ⟨y0, y1, y2⟩ := HA.out _ HB5.out
      by_cases hmn : m < na
      ·have hmD : m < D.length := by rw [HNA.out]; exact hmn
       obtain ⟨gd, hgd, _, e0, e1, e2, e3, e4, e5⟩ := Fd.Dw.cells ((V2.out.on HB5.out).da) hmD
       have HDC := hid (fun (U : World) (hU : Below w2.heap.size w2 U) => Fd.Dw.cells ((V2.out.on hU).da) hmD)
       have HFN := hid (fun gr la (h : gr ≤ (m : Int)) hold => fol_next (gr := gr) (la := la) TL.out hmD h hold)
       have hsq := TL.out.num m hmD
       obtain ⟨y, hy⟩ : ∃ y, D[m] = y := ⟨_, rfl⟩
       rw [hy] at e0 e1 e2 e3 e4 e5 hsq HFN HDC
       have HSQ := hid hsq
       clear hy hsq
       subst hgd
       have s0 : (0 : Int) ≤ (m : Int) := by omega
       have s1 : (m : Int) < (na : Int) := by omega
       by_cases hmk1 : m < k1
       ·have c1' : decide (y.sq ≤ sx) = true := by have h1 := HSQ.out; have h2 := HSX.out; simp; omega
        have c2' : y.sq ≤ sx := by have h1 := HSQ.out; have h2 := HSX.out; omega
        have CTA := hid (show ∀ U, Below wr.heap.size wr U → Calls Try.prog 17 #[.pointer (some ⟨Sa, 0, none⟩), .agg #[.int .u64 y.sq, .int .i64 y.kd, .int .i64 y.sd, .int .i64 y.pr, .int .u64 y.qt, .int .i64 y.ct]] U fun e w' => e = .returned (.int .i64 0) ∧ ∃ nn la', nn ≤ nma + 1 ∧ Hid (Tw w2.heap.size w' Sa Ma nn 0 (fol D (m + 1) ((m + 1 : Nat) : Int) la') Sb Mb nmb 5 (Ss0)) ∧ Hid (Below w2.heap.size U w') from fun U hU => by
         have h := tw_take (HT.out.on hU) (Nat.le_trans HB5.out.size hU.size) y (by have := HSQ.out; omega) (by have := HG.out.2.2.1; unfold maxLen; omega)
         obtain ⟨la', hla'⟩ := (HFN.out gr la HG.out.1 0).2
         rw [(HFN.out gr la HG.out.1 0).1, hla'] at h
         refine h.mono ?_
         rintro e w' ⟨a1, nn, a2, a3, a4⟩
         exact ⟨a1, nn, la', a2, a3, a4⟩)
        go_upto_region 17 with fail
        go_big_quiet (fail)
        clear y0 y1 y2 c1' c2'
        go_wp2_with (go_at_call 17; with_reducible refine (CTA.out _ (bdrew _ _)).mono ?_; rintro e w6 ⟨rfl, nn, la', h1, h2, h3⟩)
        go_roundw
        case rel => exact ⟨m + 1, nn, nmb, ((m + 1 : Nat) : Int), la', grb, lab, by omega, by omega, by go_num, hid (by have := HG.out; exact ⟨Int.le_refl _, by omega, by omega, by omega⟩), h2, hid ((btr HB5.out (bdrew _ _)).trans h3.out)⟩
        case measure => simp [intOf]; omega
       ·have c1' : decide (y.sq ≤ sx) = false := by have h1 := HSQ.out; have h2 := HSX.out; simp; omega
        have c2' : ¬ y.sq ≤ sx := by have h1 := HSQ.out; have h2 := HSX.out; omega
        go_upto_region 17 with fail
        go_big_quiet (fail)
        clear c1' c2' e0 e1 e2 e3 e4 e5 HFN HDC HSQ hmD
        have hmk' : m = k1 := by omega
        subst hmk'
        obtain ⟨VA, hVA⟩ : ∃ w, wr.drewN nq = w := ⟨_, rfl⟩
        have BVA := hid (show Below wr.heap.size wr VA from by rw [← hVA]; exact bdrew _ _)
        rw [hVA]
        clear hVA
        have HTA := hid (HT.out.on BVA.out)
        have BWA := hid (btr HB5.out BVA.out)
        clear HT HB5 BVA y0 y1 y2 x2 x3
        have HRA := hid (row_on HR.out BWA.out)
        have x2 := row_cell HRA.out 2
        have x3 := row_cell HRA.out 3
        simp only [List.getElem?_toArray, List.getElem?_cons_succ, List.getElem?_cons_zero] at x2 x3
        obtain ⟨y0, y1, y2⟩ := HA.out _ BWA.out
        have hfr := fol_recover (D := D) HPT.out.2.2.2.2.2.1 HPT.out.2.2.2.2.2.2 HPT.out.2.2.2.1 HPT.out.2.2.2.2.1
        have CRB := hid (tw_recover HTA.out.swap BWA.out.size sx (by have := HSX.out; omega) p1 p2 c1 c2 l1 l2 (HLA.out.1.on BWA.out) (HLA.out.2.on BWA.out))
        rw [HSX.out, hfr.1, hfr.2, ← HSX.out, HN1.out, HN2.out] at CRB
        clear hfr
        go_upto_region 23 with (go_at_call 18; with_reducible refine (CRB.out).mono ?_; rintro e VW ⟨rfl, h1, h2⟩; have HTV := hid h1.swap; have BVV := hid (BWA.out.trans h2); clear h1 h2)
        clear x2 x3 y0 y1 y2 CRB HRA HTA BWA
        have HS := hid (show ∀ U, Below VW.heap.size VW U → U.cell? ⟨S1, 3, none⟩ = some (.slice (some ⟨g1, 0, none⟩) p pc1) ∧ U.cell? ⟨g1, i * 3, none⟩ = some (.int .u64 sx) ∧ U.cell? ⟨g1, i * 3 + 1, none⟩ = some (.slice p1 n1 c1) ∧ U.cell? ⟨g1, i * 3 + 2, none⟩ = some (.slice p2 n2 c2) from fun U hU => ⟨row_cell (row_on HR.out (btr BVV.out hU)) 3, HA.out U (btr BVV.out hU)⟩)
        have CGA := hid (show ∀ U, Below VW.heap.size VW U → Calls Try.prog 19 #[.pointer (some ⟨Sa, 0, none⟩)] U fun e w' => e = .returned (.bool true) ∧ Hid (Below U.heap.size U w') from fun U hU => by
         obtain ⟨F, hF⟩ := (HTV.out.on hU).left
         have h := sq_good hF
         rw [show decide ((fol D m gr la).gr ≤ (fol D m gr la).sq) = true from decide_eq_true HG.out.1] at h
         exact h)
        have CPA := hid (show ∀ U, Below VW.heap.size VW U → Calls Try.prog 21 #[.pointer (some ⟨Sa, 0, none⟩)] U fun e w' => ∃ q1 d1 q2 d2, e = .returned (.agg #[.int .u64 sx, .slice q1 n1 d1, .slice q2 n2 d2]) ∧ Hid (Fd.Rl w' q1 d1 l1) ∧ Hid (Fd.Rl w' q2 d2 l2) ∧ Hid (Below U.heap.size U w') from fun U hU => by
         obtain ⟨F, hF⟩ := (HTV.out.on hU).left
         have h := sq_pic hF
         rw [show (fol D m gr la).sq = sx from HSX.out.symm, show (fol D m gr la).l1 = l1 from HPT.out.2.2.2.1, show (fol D m gr la).l2 = l2 from HPT.out.2.2.2.2.1, HN1.out, HN2.out] at h
         exact h)
        have CSA := hid (show ∀ (U : World) (q1 : Option Addr) (d1 : Nat) (q2 : Option Addr) (d2 : Nat), Below VW.heap.size VW U → Fd.Rl U q1 d1 l1 → Fd.Rl U q2 d2 l2 → Calls Try.prog 20 #[.agg #[.int .u64 sx, .slice q1 n1 d1, .slice q2 n2 d2], .agg #[.int .u64 sx, .slice p1 n1 c1, .slice p2 n2 c2]] U fun e w' => e = .returned (.bool true) ∧ Hid (Below U.heap.size U w') from fun U q1 d1 q2 d2 hU r1 r2 => by
         have h := Fd.samePicture_same sx q1 q2 p1 p2 d1 d2 c1 c2 l1 l2 U r1 r2 (HLA.out.1.on (btr BVV.out hU)) (HLA.out.2.on (btr BVV.out hU))
         rw [HN1.out, HN2.out] at h
         exact h)
        have CGB := hid (show ∀ U, Below VW.heap.size VW U → Calls Try.prog 19 #[.pointer (some ⟨Sb, 0, none⟩)] U fun e w' => e = .returned (.bool true) ∧ Hid (Below U.heap.size U w') from fun U hU => by
         obtain ⟨F, hF⟩ := (HTV.out.on hU).swap.left
         have h := sq_good hF
         rw [show decide ((fol D m 0 Fd.dm0).gr ≤ (fol D m 0 Fd.dm0).sq) = true from decide_eq_true (by show (0 : Int) ≤ (m : Int); omega)] at h
         exact h)
        have CPB := hid (show ∀ U, Below VW.heap.size VW U → Calls Try.prog 21 #[.pointer (some ⟨Sb, 0, none⟩)] U fun e w' => ∃ q1 d1 q2 d2, e = .returned (.agg #[.int .u64 sx, .slice q1 n1 d1, .slice q2 n2 d2]) ∧ Hid (Fd.Rl w' q1 d1 l1) ∧ Hid (Fd.Rl w' q2 d2 l2) ∧ Hid (Below U.heap.size U w') from fun U hU => by
         obtain ⟨F, hF⟩ := (HTV.out.on hU).swap.left
         have h := sq_pic hF
         rw [show (fol D m 0 Fd.dm0).sq = sx from HSX.out.symm, show (fol D m 0 Fd.dm0).l1 = l1 from HPT.out.2.2.2.1, show (fol D m 0 Fd.dm0).l2 = l2 from HPT.out.2.2.2.2.1, HN1.out, HN2.out] at h
         exact h)
        obtain ⟨V0, hV0⟩ : ∃ U, VW.drew = U := ⟨_, rfl⟩
        have DV0 := hid (show Below VW.heap.size VW V0 from by rw [← hV0]; exact bdrew1 _)
        refine wp_region_held_drew (S := fun U => U.cell? ⟨S1, 3, none⟩ = some (.slice (some ⟨g1, 0, none⟩) p pc1) ∧ U.cell? ⟨g1, i * 3, none⟩ = some (.int .u64 sx) ∧ U.cell? ⟨g1, i * 3 + 1, none⟩ = some (.slice p1 n1 c1) ∧ U.cell? ⟨g1, i * 3 + 2, none⟩ = some (.slice p2 n2 c2)) (by kernel_rfl) ?_ (fun hHeld => ?_)
        ·(try dsimp only); rw [hV0]; exact HS.out _ DV0.out
        rw [hV0] at hHeld ⊢
        clear hV0
        refine' wpAnyH_take (i := 0) (oi := _) (v := _) rfl (by kernel_rfl) (by kernel_rfl) (by kernel_rfl) (fun _ _ _ h => h) (Or.inl ⟨by kernel_rfl, ?hyq81⟩) (by assumption) ?restq81
        case hyq81 => (intro w hSw; (try dsimp only at hSw); go_simp; try (with_reducible rfl))
        try simp only [List.getElem_toArray, List.getElem_cons_succ, List.getElem_cons_zero, Act.put, List.setIfInBounds_toArray, List.set_cons_zero, List.set_cons_succ]
        refine wpAnyH_ready (rs := [1]) (by kernel_rfl) (by simp) ?_
        refine (AllReadyH.cons (o := _) rfl (fun K hK => ?_) AllReadyH.nil)
        go_simp
        go_at_call 19
        with_reducible refine (CGA.out V0 DV0.out).mono ?_
        rintro e Z1 ⟨rfl, B6⟩
        have DZ1 := hid (btr DV0.out B6.out)
        clear B6
        (try go_wp2_with fail)
        refine hK.out _ _ ?_ (fun hHeld => ?_)
        ·(try dsimp only); exact HS.out _ DZ1.out
        clear hK K
        try simp only [List.getElem_toArray, List.getElem_cons_succ, List.getElem_cons_zero, Act.put, List.setIfInBounds_toArray, List.set_cons_zero, List.set_cons_succ]
        refine' wpAnyH_take (i := 2) (oi := _) (v := _) rfl (by kernel_rfl) (by kernel_rfl) (by kernel_rfl) (fun _ _ _ h => h) (Or.inl ⟨by kernel_rfl, ?hyq82⟩) (by assumption) ?restq82
        case hyq82 => (intro w hSw; (try dsimp only at hSw); go_simp; try (with_reducible rfl))
        try simp only [List.getElem_toArray, List.getElem_cons_succ, List.getElem_cons_zero, Act.put, List.setIfInBounds_toArray, List.set_cons_zero, List.set_cons_succ]
        refine' wpAnyH_take (i := 3) (oi := _) (v := _) rfl (by kernel_rfl) (by kernel_rfl) (by kernel_rfl) (fun _ _ _ h => h) (Or.inl ⟨by kernel_rfl, ?hyq83⟩) (by assumption) ?restq83
        case hyq83 => (intro w hSw; (try dsimp only at hSw); go_simp; try (with_reducible rfl))
        try simp only [List.getElem_toArray, List.getElem_cons_succ, List.getElem_cons_zero, Act.put, List.setIfInBounds_toArray, List.set_cons_zero, List.set_cons_succ]
        refine' wpAnyH_take (i := 4) (oi := _) (v := _) rfl (by kernel_rfl) (by kernel_rfl) (by kernel_rfl) (fun _ _ _ h => h) (Or.inl ⟨by kernel_rfl, ?hyq84⟩) (by assumption) ?restq84
        case hyq84 => (intro w hSw; (try dsimp only at hSw); go_simp; try (with_reducible rfl))
        try simp only [List.getElem_toArray, List.getElem_cons_succ, List.getElem_cons_zero, Act.put, List.setIfInBounds_toArray, List.set_cons_zero, List.set_cons_succ]
        refine' wpAnyH_take (i := 6) (oi := _) (v := _) rfl (by kernel_rfl) (by kernel_rfl) (by kernel_rfl) (fun _ _ _ h => h) (Or.inl ⟨by kernel_rfl, ?hyq85⟩) (by assumption) ?restq85
        case hyq85 => (intro w hSw; (try dsimp only at hSw); go_simp; try (with_reducible rfl))
        try simp only [List.getElem_toArray, List.getElem_cons_succ, List.getElem_cons_zero, Act.put, List.setIfInBounds_toArray, List.set_cons_zero, List.set_cons_succ]
        refine' wpAnyH_take (i := 7) (oi := _) (v := _) rfl (by kernel_rfl) (by kernel_rfl) (by kernel_rfl) (fun _ _ _ h => h) (Or.inl ⟨by kernel_rfl, ?hyq86⟩) (by assumption) ?restq86
        case hyq86 => (intro w hSw; (try dsimp only at hSw); go_simp; try (with_reducible rfl))
        try simp only [List.getElem_toArray, List.getElem_cons_succ, List.getElem_cons_zero, Act.put, List.setIfInBounds_toArray, List.set_cons_zero, List.set_cons_succ]
        refine' wpAnyH_take (i := 8) (oi := _) (v := _) rfl (by kernel_rfl) (by kernel_rfl) (by kernel_rfl) (fun _ _ _ h => h) (Or.inl ⟨by kernel_rfl, ?hyq87⟩) (by assumption) ?restq87
        case hyq87 => (intro w hSw; (try dsimp only at hSw); go_simp; try (with_reducible rfl))
        try simp only [List.getElem_toArray, List.getElem_cons_succ, List.getElem_cons_zero, Act.put, List.setIfInBounds_toArray, List.set_cons_zero, List.set_cons_succ]
        refine' wpAnyH_take (i := 9) (oi := _) (v := _) rfl (by kernel_rfl) (by kernel_rfl) (by kernel_rfl) (fun _ _ _ h => h) (Or.inl ⟨by kernel_rfl, ?hyq88⟩) (by assumption) ?restq88
        case hyq88 => (intro w hSw; (try dsimp only at hSw); go_simp; try (with_reducible rfl))
        try simp only [List.getElem_toArray, List.getElem_cons_succ, List.getElem_cons_zero, Act.put, List.setIfInBounds_toArray, List.set_cons_zero, List.set_cons_succ]
        refine' wpAnyH_take (i := 10) (oi := _) (v := _) rfl (by kernel_rfl) (by kernel_rfl) (by kernel_rfl) (fun _ _ _ h => h) (Or.inl ⟨by kernel_rfl, ?hyq89⟩) (by assumption) ?restq89
        case hyq89 => (intro w hSw; (try dsimp only at hSw); go_simp; try (with_reducible rfl))
        try simp only [List.getElem_toArray, List.getElem_cons_succ, List.getElem_cons_zero, Act.put, List.setIfInBounds_toArray, List.set_cons_zero, List.set_cons_succ]
        refine' wpAnyH_take (i := 11) (oi := _) (v := _) rfl (by kernel_rfl) (by kernel_rfl) (by kernel_rfl) (fun _ _ _ h => h) (Or.inl ⟨by kernel_rfl, ?hyq90⟩) (by assumption) ?restq90
        case hyq90 => (intro w hSw; (try dsimp only at hSw); go_simp; try (with_reducible rfl))
        try simp only [List.getElem_toArray, List.getElem_cons_succ, List.getElem_cons_zero, Act.put, List.setIfInBounds_toArray, List.set_cons_zero, List.set_cons_succ]
        refine' wpAnyH_take (i := 12) (oi := _) (v := _) rfl (by kernel_rfl) (by kernel_rfl) (by kernel_rfl) (fun _ _ _ h => h) (Or.inl ⟨by kernel_rfl, ?hyq91⟩) (by assumption) ?restq91
        case hyq91 => (intro w hSw; (try dsimp only at hSw); go_simp; try (with_reducible rfl))
        try simp only [List.getElem_toArray, List.getElem_cons_succ, List.getElem_cons_zero, Act.put, List.setIfInBounds_toArray, List.set_cons_zero, List.set_cons_succ]
        refine wpAnyH_ready (rs := [5]) (by kernel_rfl) (by simp) ?_
        refine (AllReadyH.cons (o := _) rfl (fun K hK => ?_) AllReadyH.nil)
        go_simp
        go_at_call 21
        with_reducible refine (CPA.out Z1 DZ1.out).mono ?_
        rintro e Z2 ⟨qa, da, qb, db, rfl, RL1, RL2, B6⟩
        have DZ2 := hid (btr DZ1.out B6.out)
        clear B6
        (try go_wp2_with fail)
        refine hK.out _ _ ?_ (fun hHeld => ?_)
        ·(try dsimp only); exact HS.out _ DZ2.out
        clear hK K
        try simp only [List.getElem_toArray, List.getElem_cons_succ, List.getElem_cons_zero, Act.put, List.setIfInBounds_toArray, List.set_cons_zero, List.set_cons_succ]
        refine wpAnyH_ready (rs := [13]) (by kernel_rfl) (by simp) ?_
        refine (AllReadyH.cons (o := _) rfl (fun K hK => ?_) AllReadyH.nil)
        go_simp
        go_at_call 20
        with_reducible refine (CSA.out Z2 qa da qb db DZ2.out RL1.out RL2.out).mono ?_
        rintro e Z3 ⟨rfl, B6⟩
        have DZ3 := hid (btr DZ2.out B6.out)
        clear B6
        (try go_wp2_with fail)
        refine hK.out _ _ ?_ (fun hHeld => ?_)
        ·(try dsimp only); exact HS.out _ DZ3.out
        clear hK K
        try simp only [List.getElem_toArray, List.getElem_cons_succ, List.getElem_cons_zero, Act.put, List.setIfInBounds_toArray, List.set_cons_zero, List.set_cons_succ]
        refine' wpAnyH_take (i := 14) (oi := _) (v := _) rfl (by kernel_rfl) (by kernel_rfl) (by kernel_rfl) (fun _ _ _ h => h) (Or.inl ⟨by kernel_rfl, ?hyq92⟩) (by assumption) ?restq92
        case hyq92 => (intro w hSw; (try dsimp only at hSw); go_simp; try (with_reducible rfl))
        try simp only [List.getElem_toArray, List.getElem_cons_succ, List.getElem_cons_zero, Act.put, List.setIfInBounds_toArray, List.set_cons_zero, List.set_cons_succ]
        refine' wpAnyH_take (i := 15) (oi := _) (v := _) rfl (by kernel_rfl) (by kernel_rfl) (by kernel_rfl) (fun _ _ _ h => h) (Or.inl ⟨by kernel_rfl, ?hyq93⟩) (by assumption) ?restq93
        case hyq93 => (intro w hSw; (try dsimp only at hSw); go_simp; try (with_reducible rfl))
        try simp only [List.getElem_toArray, List.getElem_cons_succ, List.getElem_cons_zero, Act.put, List.setIfInBounds_toArray, List.set_cons_zero, List.set_cons_succ]
        refine' wpAnyH_take (i := 16) (oi := _) (v := _) rfl (by kernel_rfl) (by kernel_rfl) (by kernel_rfl) (fun _ _ _ h => h) (Or.inl ⟨by kernel_rfl, ?hyq94⟩) (by assumption) ?restq94
        case hyq94 => (intro w hSw; (try dsimp only at hSw); go_simp; try (with_reducible rfl))
        try simp only [List.getElem_toArray, List.getElem_cons_succ, List.getElem_cons_zero, Act.put, List.setIfInBounds_toArray, List.set_cons_zero, List.set_cons_succ]
        refine' wpAnyH_take (i := 17) (oi := _) (v := _) rfl (by kernel_rfl) (by kernel_rfl) (by kernel_rfl) (fun _ _ _ h => h) (Or.inl ⟨by kernel_rfl, ?hyq95⟩) (by assumption) ?restq95
        case hyq95 => (intro w hSw; (try dsimp only at hSw); go_simp; try (with_reducible rfl))
        try simp only [List.getElem_toArray, List.getElem_cons_succ, List.getElem_cons_zero, Act.put, List.setIfInBounds_toArray, List.set_cons_zero, List.set_cons_succ]
        refine' wpAnyH_take (i := 18) (oi := _) (v := _) rfl (by kernel_rfl) (by kernel_rfl) (by kernel_rfl) (fun _ _ _ h => h) (Or.inl ⟨by kernel_rfl, ?hyq96⟩) (by assumption) ?restq96
        case hyq96 => (intro w hSw; (try dsimp only at hSw); go_simp; try (with_reducible rfl))
        try simp only [List.getElem_toArray, List.getElem_cons_succ, List.getElem_cons_zero, Act.put, List.setIfInBounds_toArray, List.set_cons_zero, List.set_cons_succ]
        refine' wpAnyH_take (i := 19) (oi := _) (v := _) rfl (by kernel_rfl) (by kernel_rfl) (by kernel_rfl) (fun _ _ _ h => h) (Or.inl ⟨by kernel_rfl, ?hyq97⟩) (by assumption) ?restq97
        case hyq97 => (intro w hSw; (try dsimp only at hSw); go_simp; try (with_reducible rfl))
        try simp only [List.getElem_toArray, List.getElem_cons_succ, List.getElem_cons_zero, Act.put, List.setIfInBounds_toArray, List.set_cons_zero, List.set_cons_succ]
        refine' wpAnyH_take (i := 20) (oi := _) (v := _) rfl (by kernel_rfl) (by kernel_rfl) (by kernel_rfl) (fun _ _ _ h => h) (Or.inl ⟨by kernel_rfl, ?hyq98⟩) (by assumption) ?restq98
        case hyq98 => (intro w hSw; (try dsimp only at hSw); go_simp; try (with_reducible rfl))
        try simp only [List.getElem_toArray, List.getElem_cons_succ, List.getElem_cons_zero, Act.put, List.setIfInBounds_toArray, List.set_cons_zero, List.set_cons_succ]
        refine' wpAnyH_take (i := 21) (oi := _) (v := _) rfl (by kernel_rfl) (by kernel_rfl) (by kernel_rfl) (fun _ _ _ h => h) (Or.inl ⟨by kernel_rfl, ?hyq99⟩) (by assumption) ?restq99
        case hyq99 => (intro w hSw; (try dsimp only at hSw); go_simp; try (with_reducible rfl))
        try simp only [List.getElem_toArray, List.getElem_cons_succ, List.getElem_cons_zero, Act.put, List.setIfInBounds_toArray, List.set_cons_zero, List.set_cons_succ]
        refine' wpAnyH_take (i := 22) (oi := _) (v := _) rfl (by kernel_rfl) (by kernel_rfl) (by kernel_rfl) (fun _ _ _ h => h) (Or.inl ⟨by kernel_rfl, ?hyq100⟩) (by assumption) ?restq100
        case hyq100 => (intro w hSw; (try dsimp only at hSw); go_simp; try (with_reducible rfl))
        try simp only [List.getElem_toArray, List.getElem_cons_succ, List.getElem_cons_zero, Act.put, List.setIfInBounds_toArray, List.set_cons_zero, List.set_cons_succ]
        refine' wpAnyH_take (i := 23) (oi := _) (v := _) rfl (by kernel_rfl) (by kernel_rfl) (by kernel_rfl) (fun _ _ _ h => h) (Or.inl ⟨by kernel_rfl, ?hyq101⟩) (by assumption) ?restq101
        case hyq101 => (intro w hSw; (try dsimp only at hSw); go_simp; try (with_reducible rfl))
        try simp only [List.getElem_toArray, List.getElem_cons_succ, List.getElem_cons_zero, Act.put, List.setIfInBounds_toArray, List.set_cons_zero, List.set_cons_succ]
        refine' wpAnyH_take (i := 24) (oi := _) (v := _) rfl (by kernel_rfl) (by kernel_rfl) (by kernel_rfl) (fun _ _ _ h => h) (Or.inl ⟨by kernel_rfl, ?hyq102⟩) (by assumption) ?restq102
        case hyq102 => (intro w hSw; (try dsimp only at hSw); go_simp; try (with_reducible rfl))
        try simp only [List.getElem_toArray, List.getElem_cons_succ, List.getElem_cons_zero, Act.put, List.setIfInBounds_toArray, List.set_cons_zero, List.set_cons_succ]
        refine' wpAnyH_take (i := 25) (oi := _) (v := _) rfl (by kernel_rfl) (by kernel_rfl) (by kernel_rfl) (fun _ _ _ h => h) (Or.inl ⟨by kernel_rfl, ?hyq103⟩) (by assumption) ?restq103
        case hyq103 => (intro w hSw; (try dsimp only at hSw); go_simp; try (with_reducible rfl))
        try simp only [List.getElem_toArray, List.getElem_cons_succ, List.getElem_cons_zero, Act.put, List.setIfInBounds_toArray, List.set_cons_zero, List.set_cons_succ]
        refine wpAnyH_ready (rs := [26]) (by kernel_rfl) (by simp) ?_
        refine (AllReadyH.cons (o := _) rfl (fun K hK => ?_) AllReadyH.nil)
        go_simp
        go_at_call 19
        with_reducible refine (CGB.out Z3 DZ3.out).mono ?_
        rintro e Z4 ⟨rfl, B6⟩
        have DZ4 := hid (btr DZ3.out B6.out)
        clear B6
        (try go_wp2_with fail)
        refine hK.out _ _ ?_ (fun hHeld => ?_)
        ·(try dsimp only); exact HS.out _ DZ4.out
        clear hK K
        try simp only [List.getElem_toArray, List.getElem_cons_succ, List.getElem_cons_zero, Act.put, List.setIfInBounds_toArray, List.set_cons_zero, List.set_cons_succ]
        refine' wpAnyH_take (i := 27) (oi := _) (v := _) rfl (by kernel_rfl) (by kernel_rfl) (by kernel_rfl) (fun _ _ _ h => h) (Or.inl ⟨by kernel_rfl, ?hyq104⟩) (by assumption) ?restq104
        case hyq104 => (intro w hSw; (try dsimp only at hSw); go_simp; try (with_reducible rfl))
        try simp only [List.getElem_toArray, List.getElem_cons_succ, List.getElem_cons_zero, Act.put, List.setIfInBounds_toArray, List.set_cons_zero, List.set_cons_succ]
        refine' wpAnyH_take (i := 28) (oi := _) (v := _) rfl (by kernel_rfl) (by kernel_rfl) (by kernel_rfl) (fun _ _ _ h => h) (Or.inl ⟨by kernel_rfl, ?hyq105⟩) (by assumption) ?restq105
        case hyq105 => (intro w hSw; (try dsimp only at hSw); go_simp; try (with_reducible rfl))
        try simp only [List.getElem_toArray, List.getElem_cons_succ, List.getElem_cons_zero, Act.put, List.setIfInBounds_toArray, List.set_cons_zero, List.set_cons_succ]
        refine' wpAnyH_take (i := 29) (oi := _) (v := _) rfl (by kernel_rfl) (by kernel_rfl) (by kernel_rfl) (fun _ _ _ h => h) (Or.inl ⟨by kernel_rfl, ?hyq106⟩) (by assumption) ?restq106
        case hyq106 => (intro w hSw; (try dsimp only at hSw); go_simp; try (with_reducible rfl))
        try simp only [List.getElem_toArray, List.getElem_cons_succ, List.getElem_cons_zero, Act.put, List.setIfInBounds_toArray, List.set_cons_zero, List.set_cons_succ]
        refine' wpAnyH_take (i := 31) (oi := _) (v := _) rfl (by kernel_rfl) (by kernel_rfl) (by kernel_rfl) (fun _ _ _ h => h) (Or.inl ⟨by kernel_rfl, ?hyq107⟩) (by assumption) ?restq107
        case hyq107 => (intro w hSw; (try dsimp only at hSw); go_simp; try (with_reducible rfl))
        try simp only [List.getElem_toArray, List.getElem_cons_succ, List.getElem_cons_zero, Act.put, List.setIfInBounds_toArray, List.set_cons_zero, List.set_cons_succ]
        refine' wpAnyH_take (i := 32) (oi := _) (v := _) rfl (by kernel_rfl) (by kernel_rfl) (by kernel_rfl) (fun _ _ _ h => h) (Or.inl ⟨by kernel_rfl, ?hyq108⟩) (by assumption) ?restq108
        case hyq108 => (intro w hSw; (try dsimp only at hSw); go_simp; try (with_reducible rfl))
        try simp only [List.getElem_toArray, List.getElem_cons_succ, List.getElem_cons_zero, Act.put, List.setIfInBounds_toArray, List.set_cons_zero, List.set_cons_succ]
        refine' wpAnyH_take (i := 33) (oi := _) (v := _) rfl (by kernel_rfl) (by kernel_rfl) (by kernel_rfl) (fun _ _ _ h => h) (Or.inl ⟨by kernel_rfl, ?hyq109⟩) (by assumption) ?restq109
        case hyq109 => (intro w hSw; (try dsimp only at hSw); go_simp; try (with_reducible rfl))
        try simp only [List.getElem_toArray, List.getElem_cons_succ, List.getElem_cons_zero, Act.put, List.setIfInBounds_toArray, List.set_cons_zero, List.set_cons_succ]
        refine' wpAnyH_take (i := 34) (oi := _) (v := _) rfl (by kernel_rfl) (by kernel_rfl) (by kernel_rfl) (fun _ _ _ h => h) (Or.inl ⟨by kernel_rfl, ?hyq110⟩) (by assumption) ?restq110
        case hyq110 => (intro w hSw; (try dsimp only at hSw); go_simp; try (with_reducible rfl))
        try simp only [List.getElem_toArray, List.getElem_cons_succ, List.getElem_cons_zero, Act.put, List.setIfInBounds_toArray, List.set_cons_zero, List.set_cons_succ]
        refine' wpAnyH_take (i := 35) (oi := _) (v := _) rfl (by kernel_rfl) (by kernel_rfl) (by kernel_rfl) (fun _ _ _ h => h) (Or.inl ⟨by kernel_rfl, ?hyq111⟩) (by assumption) ?restq111
        case hyq111 => (intro w hSw; (try dsimp only at hSw); go_simp; try (with_reducible rfl))
        try simp only [List.getElem_toArray, List.getElem_cons_succ, List.getElem_cons_zero, Act.put, List.setIfInBounds_toArray, List.set_cons_zero, List.set_cons_succ]
        refine' wpAnyH_take (i := 36) (oi := _) (v := _) rfl (by kernel_rfl) (by kernel_rfl) (by kernel_rfl) (fun _ _ _ h => h) (Or.inl ⟨by kernel_rfl, ?hyq112⟩) (by assumption) ?restq112
        case hyq112 => (intro w hSw; (try dsimp only at hSw); go_simp; try (with_reducible rfl))
        try simp only [List.getElem_toArray, List.getElem_cons_succ, List.getElem_cons_zero, Act.put, List.setIfInBounds_toArray, List.set_cons_zero, List.set_cons_succ]
        refine' wpAnyH_take (i := 37) (oi := _) (v := _) rfl (by kernel_rfl) (by kernel_rfl) (by kernel_rfl) (fun _ _ _ h => h) (Or.inl ⟨by kernel_rfl, ?hyq113⟩) (by assumption) ?restq113
        case hyq113 => (intro w hSw; (try dsimp only at hSw); go_simp; try (with_reducible rfl))
        try simp only [List.getElem_toArray, List.getElem_cons_succ, List.getElem_cons_zero, Act.put, List.setIfInBounds_toArray, List.set_cons_zero, List.set_cons_succ]
        refine wpAnyH_ready (rs := [30]) (by kernel_rfl) (by simp) ?_
        refine (AllReadyH.cons (o := _) rfl (fun K hK => ?_) AllReadyH.nil)
        go_simp
        go_at_call 21
        with_reducible refine (CPB.out Z4 DZ4.out).mono ?_
        rintro e Z5 ⟨qc, dc, qd, dd, rfl, RL3, RL4, B6⟩
        have DZ5 := hid (btr DZ4.out B6.out)
        clear B6
        (try go_wp2_with fail)
        refine hK.out _ _ ?_ (fun hHeld => ?_)
        ·(try dsimp only); exact HS.out _ DZ5.out
        clear hK K
        try simp only [List.getElem_toArray, List.getElem_cons_succ, List.getElem_cons_zero, Act.put, List.setIfInBounds_toArray, List.set_cons_zero, List.set_cons_succ]
        refine wpAnyH_ready (rs := [38]) (by kernel_rfl) (by simp) ?_
        refine (AllReadyH.cons (o := _) rfl (fun K hK => ?_) AllReadyH.nil)
        go_simp
        go_at_call 20
        with_reducible refine (CSA.out Z5 qc dc qd dd DZ5.out RL3.out RL4.out).mono ?_
        rintro e Z6 ⟨rfl, B6⟩
        have DZ6 := hid (btr DZ5.out B6.out)
        clear B6
        (try go_wp2_with fail)
        refine hK.out _ _ ?_ (fun hHeld => ?_)
        ·(try dsimp only); exact HS.out _ DZ6.out
        clear hK K
        try simp only [List.getElem_toArray, List.getElem_cons_succ, List.getElem_cons_zero, Act.put, List.setIfInBounds_toArray, List.set_cons_zero, List.set_cons_succ]
        refine' wpAnyH_take (i := 39) (oi := _) (v := _) rfl (by kernel_rfl) (by kernel_rfl) (by kernel_rfl) (fun _ _ _ h => h) (Or.inl ⟨by kernel_rfl, ?hyq114⟩) (by assumption) ?restq114
        case hyq114 => (intro w hSw; (try dsimp only at hSw); go_simp; try (with_reducible rfl))
        try simp only [List.getElem_toArray, List.getElem_cons_succ, List.getElem_cons_zero, Act.put, List.setIfInBounds_toArray, List.set_cons_zero, List.set_cons_succ]
        refine' wpAnyH_take (i := 40) (oi := _) (v := _) rfl (by kernel_rfl) (by kernel_rfl) (by kernel_rfl) (fun _ _ _ h => h) (Or.inl ⟨by kernel_rfl, ?hyq115⟩) (by assumption) ?restq115
        case hyq115 => (intro w hSw; (try dsimp only at hSw); go_simp; try (with_reducible rfl))
        try simp only [List.getElem_toArray, List.getElem_cons_succ, List.getElem_cons_zero, Act.put, List.setIfInBounds_toArray, List.set_cons_zero, List.set_cons_succ]
        refine' wpAnyH_take (i := 41) (oi := _) (v := _) rfl (by kernel_rfl) (by kernel_rfl) (by kernel_rfl) (fun _ _ _ h => h) (Or.inl ⟨by kernel_rfl, ?hyq116⟩) (by assumption) ?restq116
        case hyq116 => (intro w hSw; (try dsimp only at hSw); go_simp; try (with_reducible rfl))
        try simp only [List.getElem_toArray, List.getElem_cons_succ, List.getElem_cons_zero, Act.put, List.setIfInBounds_toArray, List.set_cons_zero, List.set_cons_succ]
        refine' wpAnyH_take (i := 42) (oi := _) (v := _) rfl (by kernel_rfl) (by kernel_rfl) (by kernel_rfl) (fun _ _ _ h => h) (Or.inl ⟨by kernel_rfl, ?hyq117⟩) (by assumption) ?restq117
        case hyq117 => (intro w hSw; (try dsimp only at hSw); go_simp; try (with_reducible rfl))
        try simp only [List.getElem_toArray, List.getElem_cons_succ, List.getElem_cons_zero, Act.put, List.setIfInBounds_toArray, List.set_cons_zero, List.set_cons_succ]
        refine wpAnyH_done (by kernel_rfl) ?_ _
        go_wp2
        go_roundw
        case rel => exact ⟨i + 1, nma, nmb, gr, la, 0, Fd.dm0, by omega, by go_num, by rw [HK1.out], hid (by rw [HK1.out]; have := HG.out; exact ⟨this.1, by omega, this.2.2.1, this.2.2.2, hk1n⟩), hid (by rw [HK1.out]; rw [if_pos (Nat.lt_succ_self _)]; exact HTV.out.on DZ6.out), btr BVV.out DZ6.out⟩
        case measure => simp [intOf]; omega
      ·have hnm : m = na := by omega
       have n1' : decide ((m : Int) < (na : Int)) = false := by simp; omega
       have n2' : ¬ (m : Int) < (na : Int) := by omega
       have n3' : decide (m < na) = false := by simp; omega
       have HNM := hid hnm
       clear hnm
       go_upto_region 17 with fail
       go_big_quiet (fail)
       clear n1' n2' n3'
       have hmk' : m = k1 := by omega
       subst hmk'
       obtain ⟨VA, hVA⟩ : ∃ w, wr.drewN nq = w := ⟨_, rfl⟩
       have BVA := hid (show Below wr.heap.size wr VA from by rw [← hVA]; exact bdrew _ _)
       rw [hVA]
       clear hVA
       have HTA := hid (HT.out.on BVA.out)
       have BWA := hid (btr HB5.out BVA.out)
       clear HT HB5 BVA y0 y1 y2 x2 x3
       have HRA := hid (row_on HR.out BWA.out)
       have x2 := row_cell HRA.out 2
       have x3 := row_cell HRA.out 3
       simp only [List.getElem?_toArray, List.getElem?_cons_succ, List.getElem?_cons_zero] at x2 x3
       obtain ⟨y0, y1, y2⟩ := HA.out _ BWA.out
       have hfr := fol_recover (D := D) HPT.out.2.2.2.2.2.1 HPT.out.2.2.2.2.2.2 HPT.out.2.2.2.1 HPT.out.2.2.2.2.1
       have CRB := hid (tw_recover HTA.out.swap BWA.out.size sx (by have := HSX.out; omega) p1 p2 c1 c2 l1 l2 (HLA.out.1.on BWA.out) (HLA.out.2.on BWA.out))
       rw [HSX.out, hfr.1, hfr.2, ← HSX.out, HN1.out, HN2.out] at CRB
       clear hfr
       go_upto_region 23 with (go_at_call 18; with_reducible refine (CRB.out).mono ?_; rintro e VW ⟨rfl, h1, h2⟩; have HTV := hid h1.swap; have BVV := hid (BWA.out.trans h2); clear h1 h2)
       clear x2 x3 y0 y1 y2 CRB HRA HTA BWA
       have HS := hid (show ∀ U, Below VW.heap.size VW U → U.cell? ⟨S1, 3, none⟩ = some (.slice (some ⟨g1, 0, none⟩) p pc1) ∧ U.cell? ⟨g1, i * 3, none⟩ = some (.int .u64 sx) ∧ U.cell? ⟨g1, i * 3 + 1, none⟩ = some (.slice p1 n1 c1) ∧ U.cell? ⟨g1, i * 3 + 2, none⟩ = some (.slice p2 n2 c2) from fun U hU => ⟨row_cell (row_on HR.out (btr BVV.out hU)) 3, HA.out U (btr BVV.out hU)⟩)
       have CGA := hid (show ∀ U, Below VW.heap.size VW U → Calls Try.prog 19 #[.pointer (some ⟨Sa, 0, none⟩)] U fun e w' => e = .returned (.bool true) ∧ Hid (Below U.heap.size U w') from fun U hU => by
        obtain ⟨F, hF⟩ := (HTV.out.on hU).left
        have h := sq_good hF
        rw [show decide ((fol D m gr la).gr ≤ (fol D m gr la).sq) = true from decide_eq_true HG.out.1] at h
        exact h)
       have CPA := hid (show ∀ U, Below VW.heap.size VW U → Calls Try.prog 21 #[.pointer (some ⟨Sa, 0, none⟩)] U fun e w' => ∃ q1 d1 q2 d2, e = .returned (.agg #[.int .u64 sx, .slice q1 n1 d1, .slice q2 n2 d2]) ∧ Hid (Fd.Rl w' q1 d1 l1) ∧ Hid (Fd.Rl w' q2 d2 l2) ∧ Hid (Below U.heap.size U w') from fun U hU => by
        obtain ⟨F, hF⟩ := (HTV.out.on hU).left
        have h := sq_pic hF
        rw [show (fol D m gr la).sq = sx from HSX.out.symm, show (fol D m gr la).l1 = l1 from HPT.out.2.2.2.1, show (fol D m gr la).l2 = l2 from HPT.out.2.2.2.2.1, HN1.out, HN2.out] at h
        exact h)
       have CSA := hid (show ∀ (U : World) (q1 : Option Addr) (d1 : Nat) (q2 : Option Addr) (d2 : Nat), Below VW.heap.size VW U → Fd.Rl U q1 d1 l1 → Fd.Rl U q2 d2 l2 → Calls Try.prog 20 #[.agg #[.int .u64 sx, .slice q1 n1 d1, .slice q2 n2 d2], .agg #[.int .u64 sx, .slice p1 n1 c1, .slice p2 n2 c2]] U fun e w' => e = .returned (.bool true) ∧ Hid (Below U.heap.size U w') from fun U q1 d1 q2 d2 hU r1 r2 => by
        have h := Fd.samePicture_same sx q1 q2 p1 p2 d1 d2 c1 c2 l1 l2 U r1 r2 (HLA.out.1.on (btr BVV.out hU)) (HLA.out.2.on (btr BVV.out hU))
        rw [HN1.out, HN2.out] at h
        exact h)
       have CGB := hid (show ∀ U, Below VW.heap.size VW U → Calls Try.prog 19 #[.pointer (some ⟨Sb, 0, none⟩)] U fun e w' => e = .returned (.bool true) ∧ Hid (Below U.heap.size U w') from fun U hU => by
        obtain ⟨F, hF⟩ := (HTV.out.on hU).swap.left
        have h := sq_good hF
        rw [show decide ((fol D m 0 Fd.dm0).gr ≤ (fol D m 0 Fd.dm0).sq) = true from decide_eq_true (by show (0 : Int) ≤ (m : Int); omega)] at h
        exact h)
       have CPB := hid (show ∀ U, Below VW.heap.size VW U → Calls Try.prog 21 #[.pointer (some ⟨Sb, 0, none⟩)] U fun e w' => ∃ q1 d1 q2 d2, e = .returned (.agg #[.int .u64 sx, .slice q1 n1 d1, .slice q2 n2 d2]) ∧ Hid (Fd.Rl w' q1 d1 l1) ∧ Hid (Fd.Rl w' q2 d2 l2) ∧ Hid (Below U.heap.size U w') from fun U hU => by
        obtain ⟨F, hF⟩ := (HTV.out.on hU).swap.left
        have h := sq_pic hF
        rw [show (fol D m 0 Fd.dm0).sq = sx from HSX.out.symm, show (fol D m 0 Fd.dm0).l1 = l1 from HPT.out.2.2.2.1, show (fol D m 0 Fd.dm0).l2 = l2 from HPT.out.2.2.2.2.1, HN1.out, HN2.out] at h
        exact h)
       obtain ⟨V0, hV0⟩ : ∃ U, VW.drew = U := ⟨_, rfl⟩
       have DV0 := hid (show Below VW.heap.size VW V0 from by rw [← hV0]; exact bdrew1 _)
       refine wp_region_held_drew (S := fun U => U.cell? ⟨S1, 3, none⟩ = some (.slice (some ⟨g1, 0, none⟩) p pc1) ∧ U.cell? ⟨g1, i * 3, none⟩ = some (.int .u64 sx) ∧ U.cell? ⟨g1, i * 3 + 1, none⟩ = some (.slice p1 n1 c1) ∧ U.cell? ⟨g1, i * 3 + 2, none⟩ = some (.slice p2 n2 c2)) (by kernel_rfl) ?_ (fun hHeld => ?_)
       ·(try dsimp only); rw [hV0]; exact HS.out _ DV0.out
       rw [hV0] at hHeld ⊢
       clear hV0
       refine' wpAnyH_take (i := 0) (oi := _) (v := _) rfl (by kernel_rfl) (by kernel_rfl) (by kernel_rfl) (fun _ _ _ h => h) (Or.inl ⟨by kernel_rfl, ?hyq118⟩) (by assumption) ?restq118
       case hyq118 => (intro w hSw; (try dsimp only at hSw); go_simp; try (with_reducible rfl))
       try simp only [List.getElem_toArray, List.getElem_cons_succ, List.getElem_cons_zero, Act.put, List.setIfInBounds_toArray, List.set_cons_zero, List.set_cons_succ]
       refine wpAnyH_ready (rs := [1]) (by kernel_rfl) (by simp) ?_
       refine (AllReadyH.cons (o := _) rfl (fun K hK => ?_) AllReadyH.nil)
       go_simp
       go_at_call 19
       with_reducible refine (CGA.out V0 DV0.out).mono ?_
       rintro e Z1 ⟨rfl, B6⟩
       have DZ1 := hid (btr DV0.out B6.out)
       clear B6
       (try go_wp2_with fail)
       refine hK.out _ _ ?_ (fun hHeld => ?_)
       ·(try dsimp only); exact HS.out _ DZ1.out
       clear hK K
       try simp only [List.getElem_toArray, List.getElem_cons_succ, List.getElem_cons_zero, Act.put, List.setIfInBounds_toArray, List.set_cons_zero, List.set_cons_succ]
       refine' wpAnyH_take (i := 2) (oi := _) (v := _) rfl (by kernel_rfl) (by kernel_rfl) (by kernel_rfl) (fun _ _ _ h => h) (Or.inl ⟨by kernel_rfl, ?hyq119⟩) (by assumption) ?restq119
       case hyq119 => (intro w hSw; (try dsimp only at hSw); go_simp; try (with_reducible rfl))
       try simp only [List.getElem_toArray, List.getElem_cons_succ, List.getElem_cons_zero, Act.put, List.setIfInBounds_toArray, List.set_cons_zero, List.set_cons_succ]
       refine' wpAnyH_take (i := 3) (oi := _) (v := _) rfl (by kernel_rfl) (by kernel_rfl) (by kernel_rfl) (fun _ _ _ h => h) (Or.inl ⟨by kernel_rfl, ?hyq120⟩) (by assumption) ?restq120
       case hyq120 => (intro w hSw; (try dsimp only at hSw); go_simp; try (with_reducible rfl))
       try simp only [List.getElem_toArray, List.getElem_cons_succ, List.getElem_cons_zero, Act.put, List.setIfInBounds_toArray, List.set_cons_zero, List.set_cons_succ]
       refine' wpAnyH_take (i := 4) (oi := _) (v := _) rfl (by kernel_rfl) (by kernel_rfl) (by kernel_rfl) (fun _ _ _ h => h) (Or.inl ⟨by kernel_rfl, ?hyq121⟩) (by assumption) ?restq121
       case hyq121 => (intro w hSw; (try dsimp only at hSw); go_simp; try (with_reducible rfl))
       try simp only [List.getElem_toArray, List.getElem_cons_succ, List.getElem_cons_zero, Act.put, List.setIfInBounds_toArray, List.set_cons_zero, List.set_cons_succ]
       refine' wpAnyH_take (i := 6) (oi := _) (v := _) rfl (by kernel_rfl) (by kernel_rfl) (by kernel_rfl) (fun _ _ _ h => h) (Or.inl ⟨by kernel_rfl, ?hyq122⟩) (by assumption) ?restq122
       case hyq122 => (intro w hSw; (try dsimp only at hSw); go_simp; try (with_reducible rfl))
       try simp only [List.getElem_toArray, List.getElem_cons_succ, List.getElem_cons_zero, Act.put, List.setIfInBounds_toArray, List.set_cons_zero, List.set_cons_succ]
       refine' wpAnyH_take (i := 7) (oi := _) (v := _) rfl (by kernel_rfl) (by kernel_rfl) (by kernel_rfl) (fun _ _ _ h => h) (Or.inl ⟨by kernel_rfl, ?hyq123⟩) (by assumption) ?restq123
       case hyq123 => (intro w hSw; (try dsimp only at hSw); go_simp; try (with_reducible rfl))
       try simp only [List.getElem_toArray, List.getElem_cons_succ, List.getElem_cons_zero, Act.put, List.setIfInBounds_toArray, List.set_cons_zero, List.set_cons_succ]
       refine' wpAnyH_take (i := 8) (oi := _) (v := _) rfl (by kernel_rfl) (by kernel_rfl) (by kernel_rfl) (fun _ _ _ h => h) (Or.inl ⟨by kernel_rfl, ?hyq124⟩) (by assumption) ?restq124
       case hyq124 => (intro w hSw; (try dsimp only at hSw); go_simp; try (with_reducible rfl))
       try simp only [List.getElem_toArray, List.getElem_cons_succ, List.getElem_cons_zero, Act.put, List.setIfInBounds_toArray, List.set_cons_zero, List.set_cons_succ]
       refine' wpAnyH_take (i := 9) (oi := _) (v := _) rfl (by kernel_rfl) (by kernel_rfl) (by kernel_rfl) (fun _ _ _ h => h) (Or.inl ⟨by kernel_rfl, ?hyq125⟩) (by assumption) ?restq125
       case hyq125 => (intro w hSw; (try dsimp only at hSw); go_simp; try (with_reducible rfl))
       try simp only [List.getElem_toArray, List.getElem_cons_succ, List.getElem_cons_zero, Act.put, List.setIfInBounds_toArray, List.set_cons_zero, List.set_cons_succ]
       refine' wpAnyH_take (i := 10) (oi := _) (v := _) rfl (by kernel_rfl) (by kernel_rfl) (by kernel_rfl) (fun _ _ _ h => h) (Or.inl ⟨by kernel_rfl, ?hyq126⟩) (by assumption) ?restq126
       case hyq126 => (intro w hSw; (try dsimp only at hSw); go_simp; try (with_reducible rfl))
       try simp only [List.getElem_toArray, List.getElem_cons_succ, List.getElem_cons_zero, Act.put, List.setIfInBounds_toArray, List.set_cons_zero, List.set_cons_succ]
       refine' wpAnyH_take (i := 11) (oi := _) (v := _) rfl (by kernel_rfl) (by kernel_rfl) (by kernel_rfl) (fun _ _ _ h => h) (Or.inl ⟨by kernel_rfl, ?hyq127⟩) (by assumption) ?restq127
       case hyq127 => (intro w hSw; (try dsimp only at hSw); go_simp; try (with_reducible rfl))
       try simp only [List.getElem_toArray, List.getElem_cons_succ, List.getElem_cons_zero, Act.put, List.setIfInBounds_toArray, List.set_cons_zero, List.set_cons_succ]
       refine' wpAnyH_take (i := 12) (oi := _) (v := _) rfl (by kernel_rfl) (by kernel_rfl) (by kernel_rfl) (fun _ _ _ h => h) (Or.inl ⟨by kernel_rfl, ?hyq128⟩) (by assumption) ?restq128
       case hyq128 => (intro w hSw; (try dsimp only at hSw); go_simp; try (with_reducible rfl))
       try simp only [List.getElem_toArray, List.getElem_cons_succ, List.getElem_cons_zero, Act.put, List.setIfInBounds_toArray, List.set_cons_zero, List.set_cons_succ]
       refine wpAnyH_ready (rs := [5]) (by kernel_rfl) (by simp) ?_
       refine (AllReadyH.cons (o := _) rfl (fun K hK => ?_) AllReadyH.nil)
       go_simp
       go_at_call 21
       with_reducible refine (CPA.out Z1 DZ1.out).mono ?_
       rintro e Z2 ⟨qa, da, qb, db, rfl, RL1, RL2, B6⟩
       have DZ2 := hid (btr DZ1.out B6.out)
       clear B6
       (try go_wp2_with fail)
       refine hK.out _ _ ?_ (fun hHeld => ?_)
       ·(try dsimp only); exact HS.out _ DZ2.out
       clear hK K
       try simp only [List.getElem_toArray, List.getElem_cons_succ, List.getElem_cons_zero, Act.put, List.setIfInBounds_toArray, List.set_cons_zero, List.set_cons_succ]
       refine wpAnyH_ready (rs := [13]) (by kernel_rfl) (by simp) ?_
       refine (AllReadyH.cons (o := _) rfl (fun K hK => ?_) AllReadyH.nil)
       go_simp
       go_at_call 20
       with_reducible refine (CSA.out Z2 qa da qb db DZ2.out RL1.out RL2.out).mono ?_
       rintro e Z3 ⟨rfl, B6⟩
       have DZ3 := hid (btr DZ2.out B6.out)
       clear B6
       (try go_wp2_with fail)
       refine hK.out _ _ ?_ (fun hHeld => ?_)
       ·(try dsimp only); exact HS.out _ DZ3.out
       clear hK K
       try simp only [List.getElem_toArray, List.getElem_cons_succ, List.getElem_cons_zero, Act.put, List.setIfInBounds_toArray, List.set_cons_zero, List.set_cons_succ]
       refine' wpAnyH_take (i := 14) (oi := _) (v := _) rfl (by kernel_rfl) (by kernel_rfl) (by kernel_rfl) (fun _ _ _ h => h) (Or.inl ⟨by kernel_rfl, ?hyq129⟩) (by assumption) ?restq129
       case hyq129 => (intro w hSw; (try dsimp only at hSw); go_simp; try (with_reducible rfl))
       try simp only [List.getElem_toArray, List.getElem_cons_succ, List.getElem_cons_zero, Act.put, List.setIfInBounds_toArray, List.set_cons_zero, List.set_cons_succ]
       refine' wpAnyH_take (i := 15) (oi := _) (v := _) rfl (by kernel_rfl) (by kernel_rfl) (by kernel_rfl) (fun _ _ _ h => h) (Or.inl ⟨by kernel_rfl, ?hyq130⟩) (by assumption) ?restq130
       case hyq130 => (intro w hSw; (try dsimp only at hSw); go_simp; try (with_reducible rfl))
       try simp only [List.getElem_toArray, List.getElem_cons_succ, List.getElem_cons_zero, Act.put, List.setIfInBounds_toArray, List.set_cons_zero, List.set_cons_succ]
       refine' wpAnyH_take (i := 16) (oi := _) (v := _) rfl (by kernel_rfl) (by kernel_rfl) (by kernel_rfl) (fun _ _ _ h => h) (Or.inl ⟨by kernel_rfl, ?hyq131⟩) (by assumption) ?restq131
       case hyq131 => (intro w hSw; (try dsimp only at hSw); go_simp; try (with_reducible rfl))
       try simp only [List.getElem_toArray, List.getElem_cons_succ, List.getElem_cons_zero, Act.put, List.setIfInBounds_toArray, List.set_cons_zero, List.set_cons_succ]
       refine' wpAnyH_take (i := 17) (oi := _) (v := _) rfl (by kernel_rfl) (by kernel_rfl) (by kernel_rfl) (fun _ _ _ h => h) (Or.inl ⟨by kernel_rfl, ?hyq132⟩) (by assumption) ?restq132
       case hyq132 => (intro w hSw; (try dsimp only at hSw); go_simp; try (with_reducible rfl))
       try simp only [List.getElem_toArray, List.getElem_cons_succ, List.getElem_cons_zero, Act.put, List.setIfInBounds_toArray, List.set_cons_zero, List.set_cons_succ]
       refine' wpAnyH_take (i := 18) (oi := _) (v := _) rfl (by kernel_rfl) (by kernel_rfl) (by kernel_rfl) (fun _ _ _ h => h) (Or.inl ⟨by kernel_rfl, ?hyq133⟩) (by assumption) ?restq133
       case hyq133 => (intro w hSw; (try dsimp only at hSw); go_simp; try (with_reducible rfl))
       try simp only [List.getElem_toArray, List.getElem_cons_succ, List.getElem_cons_zero, Act.put, List.setIfInBounds_toArray, List.set_cons_zero, List.set_cons_succ]
       refine' wpAnyH_take (i := 19) (oi := _) (v := _) rfl (by kernel_rfl) (by kernel_rfl) (by kernel_rfl) (fun _ _ _ h => h) (Or.inl ⟨by kernel_rfl, ?hyq134⟩) (by assumption) ?restq134
       case hyq134 => (intro w hSw; (try dsimp only at hSw); go_simp; try (with_reducible rfl))
       try simp only [List.getElem_toArray, List.getElem_cons_succ, List.getElem_cons_zero, Act.put, List.setIfInBounds_toArray, List.set_cons_zero, List.set_cons_succ]
       refine' wpAnyH_take (i := 20) (oi := _) (v := _) rfl (by kernel_rfl) (by kernel_rfl) (by kernel_rfl) (fun _ _ _ h => h) (Or.inl ⟨by kernel_rfl, ?hyq135⟩) (by assumption) ?restq135
       case hyq135 => (intro w hSw; (try dsimp only at hSw); go_simp; try (with_reducible rfl))
       try simp only [List.getElem_toArray, List.getElem_cons_succ, List.getElem_cons_zero, Act.put, List.setIfInBounds_toArray, List.set_cons_zero, List.set_cons_succ]
       refine' wpAnyH_take (i := 21) (oi := _) (v := _) rfl (by kernel_rfl) (by kernel_rfl) (by kernel_rfl) (fun _ _ _ h => h) (Or.inl ⟨by kernel_rfl, ?hyq136⟩) (by assumption) ?restq136
       case hyq136 => (intro w hSw; (try dsimp only at hSw); go_simp; try (with_reducible rfl))
       try simp only [List.getElem_toArray, List.getElem_cons_succ, List.getElem_cons_zero, Act.put, List.setIfInBounds_toArray, List.set_cons_zero, List.set_cons_succ]
       refine' wpAnyH_take (i := 22) (oi := _) (v := _) rfl (by kernel_rfl) (by kernel_rfl) (by kernel_rfl) (fun _ _ _ h => h) (Or.inl ⟨by kernel_rfl, ?hyq137⟩) (by assumption) ?restq137
       case hyq137 => (intro w hSw; (try dsimp only at hSw); go_simp; try (with_reducible rfl))
       try simp only [List.getElem_toArray, List.getElem_cons_succ, List.getElem_cons_zero, Act.put, List.setIfInBounds_toArray, List.set_cons_zero, List.set_cons_succ]
       refine' wpAnyH_take (i := 23) (oi := _) (v := _) rfl (by kernel_rfl) (by kernel_rfl) (by kernel_rfl) (fun _ _ _ h => h) (Or.inl ⟨by kernel_rfl, ?hyq138⟩) (by assumption) ?restq138
       case hyq138 => (intro w hSw; (try dsimp only at hSw); go_simp; try (with_reducible rfl))
       try simp only [List.getElem_toArray, List.getElem_cons_succ, List.getElem_cons_zero, Act.put, List.setIfInBounds_toArray, List.set_cons_zero, List.set_cons_succ]
       refine' wpAnyH_take (i := 24) (oi := _) (v := _) rfl (by kernel_rfl) (by kernel_rfl) (by kernel_rfl) (fun _ _ _ h => h) (Or.inl ⟨by kernel_rfl, ?hyq139⟩) (by assumption) ?restq139
       case hyq139 => (intro w hSw; (try dsimp only at hSw); go_simp; try (with_reducible rfl))
       try simp only [List.getElem_toArray, List.getElem_cons_succ, List.getElem_cons_zero, Act.put, List.setIfInBounds_toArray, List.set_cons_zero, List.set_cons_succ]
       refine' wpAnyH_take (i := 25) (oi := _) (v := _) rfl (by kernel_rfl) (by kernel_rfl) (by kernel_rfl) (fun _ _ _ h => h) (Or.inl ⟨by kernel_rfl, ?hyq140⟩) (by assumption) ?restq140
       case hyq140 => (intro w hSw; (try dsimp only at hSw); go_simp; try (with_reducible rfl))
       try simp only [List.getElem_toArray, List.getElem_cons_succ, List.getElem_cons_zero, Act.put, List.setIfInBounds_toArray, List.set_cons_zero, List.set_cons_succ]
       refine wpAnyH_ready (rs := [26]) (by kernel_rfl) (by simp) ?_
       refine (AllReadyH.cons (o := _) rfl (fun K hK => ?_) AllReadyH.nil)
       go_simp
       go_at_call 19
       with_reducible refine (CGB.out Z3 DZ3.out).mono ?_
       rintro e Z4 ⟨rfl, B6⟩
       have DZ4 := hid (btr DZ3.out B6.out)
       clear B6
       (try go_wp2_with fail)
       refine hK.out _ _ ?_ (fun hHeld => ?_)
       ·(try dsimp only); exact HS.out _ DZ4.out
       clear hK K
       try simp only [List.getElem_toArray, List.getElem_cons_succ, List.getElem_cons_zero, Act.put, List.setIfInBounds_toArray, List.set_cons_zero, List.set_cons_succ]
       refine' wpAnyH_take (i := 27) (oi := _) (v := _) rfl (by kernel_rfl) (by kernel_rfl) (by kernel_rfl) (fun _ _ _ h => h) (Or.inl ⟨by kernel_rfl, ?hyq141⟩) (by assumption) ?restq141
       case hyq141 => (intro w hSw; (try dsimp only at hSw); go_simp; try (with_reducible rfl))
       try simp only [List.getElem_toArray, List.getElem_cons_succ, List.getElem_cons_zero, Act.put, List.setIfInBounds_toArray, List.set_cons_zero, List.set_cons_succ]
       refine' wpAnyH_take (i := 28) (oi := _) (v := _) rfl (by kernel_rfl) (by kernel_rfl) (by kernel_rfl) (fun _ _ _ h => h) (Or.inl ⟨by kernel_rfl, ?hyq142⟩) (by assumption) ?restq142
       case hyq142 => (intro w hSw; (try dsimp only at hSw); go_simp; try (with_reducible rfl))
       try simp only [List.getElem_toArray, List.getElem_cons_succ, List.getElem_cons_zero, Act.put, List.setIfInBounds_toArray, List.set_cons_zero, List.set_cons_succ]
       refine' wpAnyH_take (i := 29) (oi := _) (v := _) rfl (by kernel_rfl) (by kernel_rfl) (by kernel_rfl) (fun _ _ _ h => h) (Or.inl ⟨by kernel_rfl, ?hyq143⟩) (by assumption) ?restq143
       case hyq143 => (intro w hSw; (try dsimp only at hSw); go_simp; try (with_reducible rfl))
       try simp only [List.getElem_toArray, List.getElem_cons_succ, List.getElem_cons_zero, Act.put, List.setIfInBounds_toArray, List.set_cons_zero, List.set_cons_succ]
       refine' wpAnyH_take (i := 31) (oi := _) (v := _) rfl (by kernel_rfl) (by kernel_rfl) (by kernel_rfl) (fun _ _ _ h => h) (Or.inl ⟨by kernel_rfl, ?hyq144⟩) (by assumption) ?restq144
       case hyq144 => (intro w hSw; (try dsimp only at hSw); go_simp; try (with_reducible rfl))
       try simp only [List.getElem_toArray, List.getElem_cons_succ, List.getElem_cons_zero, Act.put, List.setIfInBounds_toArray, List.set_cons_zero, List.set_cons_succ]
       refine' wpAnyH_take (i := 32) (oi := _) (v := _) rfl (by kernel_rfl) (by kernel_rfl) (by kernel_rfl) (fun _ _ _ h => h) (Or.inl ⟨by kernel_rfl, ?hyq145⟩) (by assumption) ?restq145
       case hyq145 => (intro w hSw; (try dsimp only at hSw); go_simp; try (with_reducible rfl))
       try simp only [List.getElem_toArray, List.getElem_cons_succ, List.getElem_cons_zero, Act.put, List.setIfInBounds_toArray, List.set_cons_zero, List.set_cons_succ]
       refine' wpAnyH_take (i := 33) (oi := _) (v := _) rfl (by kernel_rfl) (by kernel_rfl) (by kernel_rfl) (fun _ _ _ h => h) (Or.inl ⟨by kernel_rfl, ?hyq146⟩) (by assumption) ?restq146
       case hyq146 => (intro w hSw; (try dsimp only at hSw); go_simp; try (with_reducible rfl))
       try simp only [List.getElem_toArray, List.getElem_cons_succ, List.getElem_cons_zero, Act.put, List.setIfInBounds_toArray, List.set_cons_zero, List.set_cons_succ]
       refine' wpAnyH_take (i := 34) (oi := _) (v := _) rfl (by kernel_rfl) (by kernel_rfl) (by kernel_rfl) (fun _ _ _ h => h) (Or.inl ⟨by kernel_rfl, ?hyq147⟩) (by assumption) ?restq147
       case hyq147 => (intro w hSw; (try dsimp only at hSw); go_simp; try (with_reducible rfl))
       try simp only [List.getElem_toArray, List.getElem_cons_succ, List.getElem_cons_zero, Act.put, List.setIfInBounds_toArray, List.set_cons_zero, List.set_cons_succ]
       refine' wpAnyH_take (i := 35) (oi := _) (v := _) rfl (by kernel_rfl) (by kernel_rfl) (by kernel_rfl) (fun _ _ _ h => h) (Or.inl ⟨by kernel_rfl, ?hyq148⟩) (by assumption) ?restq148
       case hyq148 => (intro w hSw; (try dsimp only at hSw); go_simp; try (with_reducible rfl))
       try simp only [List.getElem_toArray, List.getElem_cons_succ, List.getElem_cons_zero, Act.put, List.setIfInBounds_toArray, List.set_cons_zero, List.set_cons_succ]
       refine' wpAnyH_take (i := 36) (oi := _) (v := _) rfl (by kernel_rfl) (by kernel_rfl) (by kernel_rfl) (fun _ _ _ h => h) (Or.inl ⟨by kernel_rfl, ?hyq149⟩) (by assumption) ?restq149
       case hyq149 => (intro w hSw; (try dsimp only at hSw); go_simp; try (with_reducible rfl))
       try simp only [List.getElem_toArray, List.getElem_cons_succ, List.getElem_cons_zero, Act.put, List.setIfInBounds_toArray, List.set_cons_zero, List.set_cons_succ]
       refine' wpAnyH_take (i := 37) (oi := _) (v := _) rfl (by kernel_rfl) (by kernel_rfl) (by kernel_rfl) (fun _ _ _ h => h) (Or.inl ⟨by kernel_rfl, ?hyq150⟩) (by assumption) ?restq150
       case hyq150 => (intro w hSw; (try dsimp only at hSw); go_simp; try (with_reducible rfl))
       try simp only [List.getElem_toArray, List.getElem_cons_succ, List.getElem_cons_zero, Act.put, List.setIfInBounds_toArray, List.set_cons_zero, List.set_cons_succ]
       refine wpAnyH_ready (rs := [30]) (by kernel_rfl) (by simp) ?_
       refine (AllReadyH.cons (o := _) rfl (fun K hK => ?_) AllReadyH.nil)
       go_simp
       go_at_call 21
       with_reducible refine (CPB.out Z4 DZ4.out).mono ?_
       rintro e Z5 ⟨qc, dc, qd, dd, rfl, RL3, RL4, B6⟩
       have DZ5 := hid (btr DZ4.out B6.out)
       clear B6
       (try go_wp2_with fail)
       refine hK.out _ _ ?_ (fun hHeld => ?_)
       ·(try dsimp only); exact HS.out _ DZ5.out
       clear hK K
       try simp only [List.getElem_toArray, List.getElem_cons_succ, List.getElem_cons_zero, Act.put, List.setIfInBounds_toArray, List.set_cons_zero, List.set_cons_succ]
       refine wpAnyH_ready (rs := [38]) (by kernel_rfl) (by simp) ?_
       refine (AllReadyH.cons (o := _) rfl (fun K hK => ?_) AllReadyH.nil)
       go_simp
       go_at_call 20
       with_reducible refine (CSA.out Z5 qc dc qd dd DZ5.out RL3.out RL4.out).mono ?_
       rintro e Z6 ⟨rfl, B6⟩
       have DZ6 := hid (btr DZ5.out B6.out)
       clear B6
       (try go_wp2_with fail)
       refine hK.out _ _ ?_ (fun hHeld => ?_)
       ·(try dsimp only); exact HS.out _ DZ6.out
       clear hK K
       try simp only [List.getElem_toArray, List.getElem_cons_succ, List.getElem_cons_zero, Act.put, List.setIfInBounds_toArray, List.set_cons_zero, List.set_cons_succ]
       refine' wpAnyH_take (i := 39) (oi := _) (v := _) rfl (by kernel_rfl) (by kernel_rfl) (by kernel_rfl) (fun _ _ _ h => h) (Or.inl ⟨by kernel_rfl, ?hyq151⟩) (by assumption) ?restq151
       case hyq151 => (intro w hSw; (try dsimp only at hSw); go_simp; try (with_reducible rfl))
       try simp only [List.getElem_toArray, List.getElem_cons_succ, List.getElem_cons_zero, Act.put, List.setIfInBounds_toArray, List.set_cons_zero, List.set_cons_succ]
       refine' wpAnyH_take (i := 40) (oi := _) (v := _) rfl (by kernel_rfl) (by kernel_rfl) (by kernel_rfl) (fun _ _ _ h => h) (Or.inl ⟨by kernel_rfl, ?hyq152⟩) (by assumption) ?restq152
       case hyq152 => (intro w hSw; (try dsimp only at hSw); go_simp; try (with_reducible rfl))
       try simp only [List.getElem_toArray, List.getElem_cons_succ, List.getElem_cons_zero, Act.put, List.setIfInBounds_toArray, List.set_cons_zero, List.set_cons_succ]
       refine' wpAnyH_take (i := 41) (oi := _) (v := _) rfl (by kernel_rfl) (by kernel_rfl) (by kernel_rfl) (fun _ _ _ h => h) (Or.inl ⟨by kernel_rfl, ?hyq153⟩) (by assumption) ?restq153
       case hyq153 => (intro w hSw; (try dsimp only at hSw); go_simp; try (with_reducible rfl))
       try simp only [List.getElem_toArray, List.getElem_cons_succ, List.getElem_cons_zero, Act.put, List.setIfInBounds_toArray, List.set_cons_zero, List.set_cons_succ]
       refine' wpAnyH_take (i := 42) (oi := _) (v := _) rfl (by kernel_rfl) (by kernel_rfl) (by kernel_rfl) (fun _ _ _ h => h) (Or.inl ⟨by kernel_rfl, ?hyq154⟩) (by assumption) ?restq154
       case hyq154 => (intro w hSw; (try dsimp only at hSw); go_simp; try (with_reducible rfl))
       try simp only [List.getElem_toArray, List.getElem_cons_succ, List.getElem_cons_zero, Act.put, List.setIfInBounds_toArray, List.set_cons_zero, List.set_cons_succ]
       refine wpAnyH_done (by kernel_rfl) ?_ _
       go_wp2
       go_roundw
       case rel => exact ⟨i + 1, nma, nmb, gr, la, 0, Fd.dm0, by omega, by go_num, by rw [HK1.out], hid (by rw [HK1.out]; have := HG.out; exact ⟨this.1, by omega, this.2.2.1, this.2.2.2, hk1n⟩), hid (by rw [HK1.out]; rw [if_pos (Nat.lt_succ_self _)]; exact HTV.out.on DZ6.out), btr BVV.out DZ6.out⟩
       case measure => simp [intOf]; omega
   ·as_aux_lemma =>
     rw [if_pos hif] at HT0
     have hi1 : i < L.length := by rw [HLL.out]; exact hlt
     obtain ⟨g1, hpq1, hA⟩ := V2.out.at hi1
     have hlA := V2.out.lvs hi1
     have hT := tl_at TL.out hi1
     obtain ⟨X, hX⟩ : ∃ x, L[i] = x := ⟨_, rfl⟩
     rw [hX] at hA hlA hT
     rw [HM0.out] at hT
     obtain ⟨k1, hk1⟩ : ∃ m, kap L (i + 1) = m := ⟨_, rfl⟩
     rw [hk1] at hT
     obtain ⟨sx, p1, c1, l1, p2, c2, l2⟩ := X
     simp only at hA hlA hT
     obtain ⟨n1, hn1⟩ : ∃ t, l1.length = t := ⟨_, rfl⟩
     obtain ⟨n2, hn2⟩ : ∃ t, l2.length = t := ⟨_, rfl⟩
     rw [hn1, hn2] at hA
     have HK1 := hid hk1
     have HPT := hid hT
     have HSX := hid hT.1
     have hk1n : k1 ≤ na := by have := hT.2.1; rw [HNA.out] at this; exact this
     have hk1m : m0 ≤ k1 := hT.2.2.1
     have HA := hid hA
     have HLA := hid hlA
     have HN1 := hid hn1
     have HN2 := hid hn2
     clear hA hlA hT hX hn1 hn2 hi1 hk1
     subst hpq1
     have i0' : (0 : Int) ≤ (i : Int) := by omega
     have i1 : (i : Int) < (p : Int) := by omega
     go_upto_region 17 with fail
     clear x2 x3
     go_loopw [16] (fun nv w5 => ∃ (m nma nmb : Nat) (gr : Int) (la : Fd.Dm) (grb : Int) (lab : Fd.Dm), m0 ≤ m ∧ m ≤ k1 ∧ nv = .int .i64 m ∧ Hid (gr ≤ m ∧ grb ≤ m ∧ nma ≤ m ∧ nmb ≤ m) ∧ Hid (Tw w2.heap.size w5 Sa Ma nma 0 (fol D m gr la) Sb Mb nmb 5 (fol D m grb lab)) ∧ Hid (Below w2.heap.size w2 w5)) (fun nv _ => k1 - (intOf nv).toNat)
     case atStart => exact ⟨m0, nma0, nmb0, gr0, la0, grb0, lab0, Nat.le_refl _, hk1m, rfl, hid ⟨HG0.out.1, HG0.out.2.1, HG0.out.2.2.1, HG0.out.2.2.2.1⟩, HT0, HB⟩
     case round =>
      obtain ⟨m, nma, nmb, gr, la, grb, lab, hm0m, hmk, rfl, HG, HT, HB5⟩ := hrel
      have HR5 := hid (row_on HR.out HB5.out)
      have x2 := row_cell HR5.out 2
      have x3 := row_cell HR5.out 3
      simp only [List.getElem?_toArray, List.getElem?_cons_succ, List.getElem?_cons_zero] at x2 x3
      obtain ⟨y0, y1, y2⟩ := HA.out _ HB5.out
      by_cases hmn : m < na
      ·have hmD : m < D.length := by rw [HNA.out]; exact hmn
       obtain ⟨gd, hgd, _, e0, e1, e2, e3, e4, e5⟩ := Fd.Dw.cells ((V2.out.on HB5.out).da) hmD
       have HDC := hid (fun (U : World) (hU : Below w2.heap.size w2 U) => Fd.Dw.cells ((V2.out.on hU).da) hmD)
       have HFN := hid (fun gr la (h : gr ≤ (m : Int)) hold => fol_next (gr := gr) (la := la) TL.out hmD h hold)
       have hsq := TL.out.num m hmD
       obtain ⟨y, hy⟩ : ∃ y, D[m] = y := ⟨_, rfl⟩
       rw [hy] at e0 e1 e2 e3 e4 e5 hsq HFN HDC
       have HSQ := hid hsq
       clear hy hsq
       subst hgd
       have s0 : (0 : Int) ≤ (m : Int) := by omega
       have s1 : (m : Int) < (na : Int) := by omega
       by_cases hmk1 : m < k1
       ·have c1' : decide (y.sq ≤ sx) = true := by have h1 := HSQ.out; have h2 := HSX.out; simp; omega
        have c2' : y.sq ≤ sx := by have h1 := HSQ.out; have h2 := HSX.out; omega
        have CTA := hid (show ∀ U, Below wr.heap.size wr U → Calls Try.prog 17 #[.pointer (some ⟨Sa, 0, none⟩), .agg #[.int .u64 y.sq, .int .i64 y.kd, .int .i64 y.sd, .int .i64 y.pr, .int .u64 y.qt, .int .i64 y.ct]] U fun e w' => e = .returned (.int .i64 0) ∧ ∃ nn la', nn ≤ nma + 1 ∧ Hid (Tw w2.heap.size w' Sa Ma nn 0 (fol D (m + 1) ((m + 1 : Nat) : Int) la') Sb Mb nmb 5 (fol D m grb lab)) ∧ Hid (Below w2.heap.size U w') from fun U hU => by
         have h := tw_take (HT.out.on hU) (Nat.le_trans HB5.out.size hU.size) y (by have := HSQ.out; omega) (by have := HG.out.2.2.1; unfold maxLen; omega)
         obtain ⟨la', hla'⟩ := (HFN.out gr la HG.out.1 0).2
         rw [(HFN.out gr la HG.out.1 0).1, hla'] at h
         refine h.mono ?_
         rintro e w' ⟨a1, nn, a2, a3, a4⟩
         exact ⟨a1, nn, la', a2, a3, a4⟩)
        go_upto_region 17 with fail
        go_big_quiet (fail)
        clear y0 y1 y2 c1' c2'
        have w1' : decide ((f : Int) < (i : Int)) = true := by simp; omega
        have w2' : decide (f < i) = true := by simp; omega
        have w3' : (f : Int) < (i : Int) := by omega
        have CTB := hid (show ∀ (U : World) (nn : Nat) (la' : Fd.Dm), w2.heap.size ≤ U.heap.size → Tw w2.heap.size U Sa Ma nn 0 (fol D (m + 1) ((m + 1 : Nat) : Int) la') Sb Mb nmb 5 (fol D m grb lab) → Calls Try.prog 17 #[.pointer (some ⟨Sb, 0, none⟩), .agg #[.int .u64 y.sq, .int .i64 y.kd, .int .i64 y.sd, .int .i64 y.pr, .int .u64 y.qt, .int .i64 y.ct]] U fun e w' => e = .returned (.int .i64 0) ∧ ∃ n2 lb', n2 ≤ nmb + 1 ∧ Hid (Tw w2.heap.size w' Sa Ma nn 0 (fol D (m + 1) ((m + 1 : Nat) : Int) la') Sb Mb n2 5 (fol D (m + 1) ((m + 1 : Nat) : Int) lb')) ∧ Hid (Below w2.heap.size U w') from fun U nn la' hU hh => by
         have h := tw_take hh.swap hU y (by have := HSQ.out; omega) (by have := HG.out.2.2.2; unfold maxLen; omega)
         obtain ⟨lb', hlb'⟩ := (HFN.out grb lab HG.out.2.1 5).2
         rw [(HFN.out grb lab HG.out.2.1 5).1, hlb'] at h
         refine h.mono ?_
         rintro e w' ⟨a1, n2, a2, a3, a4⟩
         exact ⟨a1, n2, lb', a2, a3.swap, a4⟩)
        go_wp2_with (first | (go_at_call 17; with_reducible refine (CTA.out _ (bdrew _ _)).mono ?_; rintro e w6 ⟨rfl, nn, la', h1, h2, h3⟩; have BW6 := hid ((btr HB5.out (bdrew _ _)).trans h3.out); have X2 := row_cell (row_on HR.out BW6.out) 2; simp only [List.getElem?_toArray, List.getElem?_cons_succ, List.getElem?_cons_zero] at X2; obtain ⟨gd', hgd', _, E0, E1, E2, E3, E4, E5⟩ := HDC.out _ BW6.out; cases hgd') | (go_at_call 17; with_reducible refine (CTB.out _ nn la' BW6.out.size h2.out).mono ?_; rintro e w7 ⟨rfl, n2', lb', k1', k2', k3'⟩))
        go_roundw
        case rel => exact ⟨m + 1, nn, n2', ((m + 1 : Nat) : Int), la', ((m + 1 : Nat) : Int), lb', by omega, by omega, by go_num, hid (by have := HG.out; exact ⟨Int.le_refl _, Int.le_refl _, by omega, by omega⟩), k2', hid (BW6.out.trans k3'.out)⟩
        case measure => simp [intOf]; omega
       ·have c1' : decide (y.sq ≤ sx) = false := by have h1 := HSQ.out; have h2 := HSX.out; simp; omega
        have c2' : ¬ y.sq ≤ sx := by have h1 := HSQ.out; have h2 := HSX.out; omega
        go_upto_region 17 with fail
        go_big_quiet (fail)
        clear c1' c2' e0 e1 e2 e3 e4 e5 HFN HDC HSQ hmD
        have hmk' : m = k1 := by omega
        subst hmk'
        obtain ⟨VA, hVA⟩ : ∃ w, wr.drewN nq = w := ⟨_, rfl⟩
        have BVA := hid (show Below wr.heap.size wr VA from by rw [← hVA]; exact bdrew _ _)
        rw [hVA]
        clear hVA
        have HTA := hid (HT.out.on BVA.out)
        have BWA := hid (btr HB5.out BVA.out)
        clear HT HB5 BVA y0 y1 y2 x2 x3
        have z1 : ((i : Int) == (f : Int)) = false := by simp; omega
        have z2 : decide ((i : Int) = (f : Int)) = false := by simp; omega
        have z3 : decide (i = f) = false := by simp; omega
        have z4 : ¬ i = f := by omega
        have z5 : ¬ (i : Int) = (f : Int) := by omega
        have z6 : (i == f) = false := by simp; omega
        have w1' : decide ((f : Int) ≤ (i : Int)) = true := by simp; omega
        have w2' : decide (f ≤ i) = true := by simp; omega
        have w3' : (f : Int) ≤ (i : Int) := by omega
        go_upto_region 23 with fail
        obtain ⟨VW, hVW⟩ : ∃ w, VA = w := ⟨_, rfl⟩
        have HTV := hid HTA.out
        have BVV := hid BWA.out
        rw [hVW] at HTV BVV ⊢
        clear hVW HTA BWA
        have HS := hid (show ∀ U, Below VW.heap.size VW U → U.cell? ⟨S1, 3, none⟩ = some (.slice (some ⟨g1, 0, none⟩) p pc1) ∧ U.cell? ⟨g1, i * 3, none⟩ = some (.int .u64 sx) ∧ U.cell? ⟨g1, i * 3 + 1, none⟩ = some (.slice p1 n1 c1) ∧ U.cell? ⟨g1, i * 3 + 2, none⟩ = some (.slice p2 n2 c2) from fun U hU => ⟨row_cell (row_on HR.out (btr BVV.out hU)) 3, HA.out U (btr BVV.out hU)⟩)
        have CGA := hid (show ∀ U, Below VW.heap.size VW U → Calls Try.prog 19 #[.pointer (some ⟨Sa, 0, none⟩)] U fun e w' => e = .returned (.bool true) ∧ Hid (Below U.heap.size U w') from fun U hU => by
         obtain ⟨F, hF⟩ := (HTV.out.on hU).left
         have h := sq_good hF
         rw [show decide ((fol D m gr la).gr ≤ (fol D m gr la).sq) = true from decide_eq_true HG.out.1] at h
         exact h)
        have CPA := hid (show ∀ U, Below VW.heap.size VW U → Calls Try.prog 21 #[.pointer (some ⟨Sa, 0, none⟩)] U fun e w' => ∃ q1 d1 q2 d2, e = .returned (.agg #[.int .u64 sx, .slice q1 n1 d1, .slice q2 n2 d2]) ∧ Hid (Fd.Rl w' q1 d1 l1) ∧ Hid (Fd.Rl w' q2 d2 l2) ∧ Hid (Below U.heap.size U w') from fun U hU => by
         obtain ⟨F, hF⟩ := (HTV.out.on hU).left
         have h := sq_pic hF
         rw [show (fol D m gr la).sq = sx from HSX.out.symm, show (fol D m gr la).l1 = l1 from HPT.out.2.2.2.1, show (fol D m gr la).l2 = l2 from HPT.out.2.2.2.2.1, HN1.out, HN2.out] at h
         exact h)
        have CSA := hid (show ∀ (U : World) (q1 : Option Addr) (d1 : Nat) (q2 : Option Addr) (d2 : Nat), Below VW.heap.size VW U → Fd.Rl U q1 d1 l1 → Fd.Rl U q2 d2 l2 → Calls Try.prog 20 #[.agg #[.int .u64 sx, .slice q1 n1 d1, .slice q2 n2 d2], .agg #[.int .u64 sx, .slice p1 n1 c1, .slice p2 n2 c2]] U fun e w' => e = .returned (.bool true) ∧ Hid (Below U.heap.size U w') from fun U q1 d1 q2 d2 hU r1 r2 => by
         have h := Fd.samePicture_same sx q1 q2 p1 p2 d1 d2 c1 c2 l1 l2 U r1 r2 (HLA.out.1.on (btr BVV.out hU)) (HLA.out.2.on (btr BVV.out hU))
         rw [HN1.out, HN2.out] at h
         exact h)
        have CGB := hid (show ∀ U, Below VW.heap.size VW U → Calls Try.prog 19 #[.pointer (some ⟨Sb, 0, none⟩)] U fun e w' => e = .returned (.bool true) ∧ Hid (Below U.heap.size U w') from fun U hU => by
         obtain ⟨F, hF⟩ := (HTV.out.on hU).swap.left
         have h := sq_good hF
         rw [show decide ((fol D m grb lab).gr ≤ (fol D m grb lab).sq) = true from decide_eq_true (HG.out.2.1)] at h
         exact h)
        have CPB := hid (show ∀ U, Below VW.heap.size VW U → Calls Try.prog 21 #[.pointer (some ⟨Sb, 0, none⟩)] U fun e w' => ∃ q1 d1 q2 d2, e = .returned (.agg #[.int .u64 sx, .slice q1 n1 d1, .slice q2 n2 d2]) ∧ Hid (Fd.Rl w' q1 d1 l1) ∧ Hid (Fd.Rl w' q2 d2 l2) ∧ Hid (Below U.heap.size U w') from fun U hU => by
         obtain ⟨F, hF⟩ := (HTV.out.on hU).swap.left
         have h := sq_pic hF
         rw [show (fol D m grb lab).sq = sx from HSX.out.symm, show (fol D m grb lab).l1 = l1 from HPT.out.2.2.2.1, show (fol D m grb lab).l2 = l2 from HPT.out.2.2.2.2.1, HN1.out, HN2.out] at h
         exact h)
        obtain ⟨V0, hV0⟩ : ∃ U, VW.drew = U := ⟨_, rfl⟩
        have DV0 := hid (show Below VW.heap.size VW V0 from by rw [← hV0]; exact bdrew1 _)
        refine wp_region_held_drew (S := fun U => U.cell? ⟨S1, 3, none⟩ = some (.slice (some ⟨g1, 0, none⟩) p pc1) ∧ U.cell? ⟨g1, i * 3, none⟩ = some (.int .u64 sx) ∧ U.cell? ⟨g1, i * 3 + 1, none⟩ = some (.slice p1 n1 c1) ∧ U.cell? ⟨g1, i * 3 + 2, none⟩ = some (.slice p2 n2 c2)) (by kernel_rfl) ?_ (fun hHeld => ?_)
        ·(try dsimp only); rw [hV0]; exact HS.out _ DV0.out
        rw [hV0] at hHeld ⊢
        clear hV0
        refine' wpAnyH_take (i := 0) (oi := _) (v := _) rfl (by kernel_rfl) (by kernel_rfl) (by kernel_rfl) (fun _ _ _ h => h) (Or.inl ⟨by kernel_rfl, ?hyq155⟩) (by assumption) ?restq155
        case hyq155 => (intro w hSw; (try dsimp only at hSw); go_simp; try (with_reducible rfl))
        try simp only [List.getElem_toArray, List.getElem_cons_succ, List.getElem_cons_zero, Act.put, List.setIfInBounds_toArray, List.set_cons_zero, List.set_cons_succ]
        refine wpAnyH_ready (rs := [1]) (by kernel_rfl) (by simp) ?_
        refine (AllReadyH.cons (o := _) rfl (fun K hK => ?_) AllReadyH.nil)
        go_simp
        go_at_call 19
        with_reducible refine (CGA.out V0 DV0.out).mono ?_
        rintro e Z1 ⟨rfl, B6⟩
        have DZ1 := hid (btr DV0.out B6.out)
        clear B6
        (try go_wp2_with fail)
        refine hK.out _ _ ?_ (fun hHeld => ?_)
        ·(try dsimp only); exact HS.out _ DZ1.out
        clear hK K
        try simp only [List.getElem_toArray, List.getElem_cons_succ, List.getElem_cons_zero, Act.put, List.setIfInBounds_toArray, List.set_cons_zero, List.set_cons_succ]
        refine' wpAnyH_take (i := 2) (oi := _) (v := _) rfl (by kernel_rfl) (by kernel_rfl) (by kernel_rfl) (fun _ _ _ h => h) (Or.inl ⟨by kernel_rfl, ?hyq156⟩) (by assumption) ?restq156
        case hyq156 => (intro w hSw; (try dsimp only at hSw); go_simp; try (with_reducible rfl))
        try simp only [List.getElem_toArray, List.getElem_cons_succ, List.getElem_cons_zero, Act.put, List.setIfInBounds_toArray, List.set_cons_zero, List.set_cons_succ]
        refine' wpAnyH_take (i := 3) (oi := _) (v := _) rfl (by kernel_rfl) (by kernel_rfl) (by kernel_rfl) (fun _ _ _ h => h) (Or.inl ⟨by kernel_rfl, ?hyq157⟩) (by assumption) ?restq157
        case hyq157 => (intro w hSw; (try dsimp only at hSw); go_simp; try (with_reducible rfl))
        try simp only [List.getElem_toArray, List.getElem_cons_succ, List.getElem_cons_zero, Act.put, List.setIfInBounds_toArray, List.set_cons_zero, List.set_cons_succ]
        refine' wpAnyH_take (i := 4) (oi := _) (v := _) rfl (by kernel_rfl) (by kernel_rfl) (by kernel_rfl) (fun _ _ _ h => h) (Or.inl ⟨by kernel_rfl, ?hyq158⟩) (by assumption) ?restq158
        case hyq158 => (intro w hSw; (try dsimp only at hSw); go_simp; try (with_reducible rfl))
        try simp only [List.getElem_toArray, List.getElem_cons_succ, List.getElem_cons_zero, Act.put, List.setIfInBounds_toArray, List.set_cons_zero, List.set_cons_succ]
        refine' wpAnyH_take (i := 6) (oi := _) (v := _) rfl (by kernel_rfl) (by kernel_rfl) (by kernel_rfl) (fun _ _ _ h => h) (Or.inl ⟨by kernel_rfl, ?hyq159⟩) (by assumption) ?restq159
        case hyq159 => (intro w hSw; (try dsimp only at hSw); go_simp; try (with_reducible rfl))
        try simp only [List.getElem_toArray, List.getElem_cons_succ, List.getElem_cons_zero, Act.put, List.setIfInBounds_toArray, List.set_cons_zero, List.set_cons_succ]
        refine' wpAnyH_take (i := 7) (oi := _) (v := _) rfl (by kernel_rfl) (by kernel_rfl) (by kernel_rfl) (fun _ _ _ h => h) (Or.inl ⟨by kernel_rfl, ?hyq160⟩) (by assumption) ?restq160
        case hyq160 => (intro w hSw; (try dsimp only at hSw); go_simp; try (with_reducible rfl))
        try simp only [List.getElem_toArray, List.getElem_cons_succ, List.getElem_cons_zero, Act.put, List.setIfInBounds_toArray, List.set_cons_zero, List.set_cons_succ]
        refine' wpAnyH_take (i := 8) (oi := _) (v := _) rfl (by kernel_rfl) (by kernel_rfl) (by kernel_rfl) (fun _ _ _ h => h) (Or.inl ⟨by kernel_rfl, ?hyq161⟩) (by assumption) ?restq161
        case hyq161 => (intro w hSw; (try dsimp only at hSw); go_simp; try (with_reducible rfl))
        try simp only [List.getElem_toArray, List.getElem_cons_succ, List.getElem_cons_zero, Act.put, List.setIfInBounds_toArray, List.set_cons_zero, List.set_cons_succ]
        refine' wpAnyH_take (i := 9) (oi := _) (v := _) rfl (by kernel_rfl) (by kernel_rfl) (by kernel_rfl) (fun _ _ _ h => h) (Or.inl ⟨by kernel_rfl, ?hyq162⟩) (by assumption) ?restq162
        case hyq162 => (intro w hSw; (try dsimp only at hSw); go_simp; try (with_reducible rfl))
        try simp only [List.getElem_toArray, List.getElem_cons_succ, List.getElem_cons_zero, Act.put, List.setIfInBounds_toArray, List.set_cons_zero, List.set_cons_succ]
        refine' wpAnyH_take (i := 10) (oi := _) (v := _) rfl (by kernel_rfl) (by kernel_rfl) (by kernel_rfl) (fun _ _ _ h => h) (Or.inl ⟨by kernel_rfl, ?hyq163⟩) (by assumption) ?restq163
        case hyq163 => (intro w hSw; (try dsimp only at hSw); go_simp; try (with_reducible rfl))
        try simp only [List.getElem_toArray, List.getElem_cons_succ, List.getElem_cons_zero, Act.put, List.setIfInBounds_toArray, List.set_cons_zero, List.set_cons_succ]
        refine' wpAnyH_take (i := 11) (oi := _) (v := _) rfl (by kernel_rfl) (by kernel_rfl) (by kernel_rfl) (fun _ _ _ h => h) (Or.inl ⟨by kernel_rfl, ?hyq164⟩) (by assumption) ?restq164
        case hyq164 => (intro w hSw; (try dsimp only at hSw); go_simp; try (with_reducible rfl))
        try simp only [List.getElem_toArray, List.getElem_cons_succ, List.getElem_cons_zero, Act.put, List.setIfInBounds_toArray, List.set_cons_zero, List.set_cons_succ]
        refine' wpAnyH_take (i := 12) (oi := _) (v := _) rfl (by kernel_rfl) (by kernel_rfl) (by kernel_rfl) (fun _ _ _ h => h) (Or.inl ⟨by kernel_rfl, ?hyq165⟩) (by assumption) ?restq165
        case hyq165 => (intro w hSw; (try dsimp only at hSw); go_simp; try (with_reducible rfl))
        try simp only [List.getElem_toArray, List.getElem_cons_succ, List.getElem_cons_zero, Act.put, List.setIfInBounds_toArray, List.set_cons_zero, List.set_cons_succ]
        refine wpAnyH_ready (rs := [5]) (by kernel_rfl) (by simp) ?_
        refine (AllReadyH.cons (o := _) rfl (fun K hK => ?_) AllReadyH.nil)
        go_simp
        go_at_call 21
        with_reducible refine (CPA.out Z1 DZ1.out).mono ?_
        rintro e Z2 ⟨qa, da, qb, db, rfl, RL1, RL2, B6⟩
        have DZ2 := hid (btr DZ1.out B6.out)
        clear B6
        (try go_wp2_with fail)
        refine hK.out _ _ ?_ (fun hHeld => ?_)
        ·(try dsimp only); exact HS.out _ DZ2.out
        clear hK K
        try simp only [List.getElem_toArray, List.getElem_cons_succ, List.getElem_cons_zero, Act.put, List.setIfInBounds_toArray, List.set_cons_zero, List.set_cons_succ]
        refine wpAnyH_ready (rs := [13]) (by kernel_rfl) (by simp) ?_
        refine (AllReadyH.cons (o := _) rfl (fun K hK => ?_) AllReadyH.nil)
        go_simp
        go_at_call 20
        with_reducible refine (CSA.out Z2 qa da qb db DZ2.out RL1.out RL2.out).mono ?_
        rintro e Z3 ⟨rfl, B6⟩
        have DZ3 := hid (btr DZ2.out B6.out)
        clear B6
        (try go_wp2_with fail)
        refine hK.out _ _ ?_ (fun hHeld => ?_)
        ·(try dsimp only); exact HS.out _ DZ3.out
        clear hK K
        try simp only [List.getElem_toArray, List.getElem_cons_succ, List.getElem_cons_zero, Act.put, List.setIfInBounds_toArray, List.set_cons_zero, List.set_cons_succ]
        refine' wpAnyH_take (i := 14) (oi := _) (v := _) rfl (by kernel_rfl) (by kernel_rfl) (by kernel_rfl) (fun _ _ _ h => h) (Or.inl ⟨by kernel_rfl, ?hyq166⟩) (by assumption) ?restq166
        case hyq166 => (intro w hSw; (try dsimp only at hSw); go_simp; try (with_reducible rfl))
        try simp only [List.getElem_toArray, List.getElem_cons_succ, List.getElem_cons_zero, Act.put, List.setIfInBounds_toArray, List.set_cons_zero, List.set_cons_succ]
        refine' wpAnyH_take (i := 15) (oi := _) (v := _) rfl (by kernel_rfl) (by kernel_rfl) (by kernel_rfl) (fun _ _ _ h => h) (Or.inl ⟨by kernel_rfl, ?hyq167⟩) (by assumption) ?restq167
        case hyq167 => (intro w hSw; (try dsimp only at hSw); go_simp; try (with_reducible rfl))
        try simp only [List.getElem_toArray, List.getElem_cons_succ, List.getElem_cons_zero, Act.put, List.setIfInBounds_toArray, List.set_cons_zero, List.set_cons_succ]
        refine' wpAnyH_take (i := 16) (oi := _) (v := _) rfl (by kernel_rfl) (by kernel_rfl) (by kernel_rfl) (fun _ _ _ h => h) (Or.inl ⟨by kernel_rfl, ?hyq168⟩) (by assumption) ?restq168
        case hyq168 => (intro w hSw; (try dsimp only at hSw); go_simp; try (with_reducible rfl))
        try simp only [List.getElem_toArray, List.getElem_cons_succ, List.getElem_cons_zero, Act.put, List.setIfInBounds_toArray, List.set_cons_zero, List.set_cons_succ]
        refine' wpAnyH_take (i := 17) (oi := _) (v := _) rfl (by kernel_rfl) (by kernel_rfl) (by kernel_rfl) (fun _ _ _ h => h) (Or.inl ⟨by kernel_rfl, ?hyq169⟩) (by assumption) ?restq169
        case hyq169 => (intro w hSw; (try dsimp only at hSw); go_simp; try (with_reducible rfl))
        try simp only [List.getElem_toArray, List.getElem_cons_succ, List.getElem_cons_zero, Act.put, List.setIfInBounds_toArray, List.set_cons_zero, List.set_cons_succ]
        refine' wpAnyH_take (i := 18) (oi := _) (v := _) rfl (by kernel_rfl) (by kernel_rfl) (by kernel_rfl) (fun _ _ _ h => h) (Or.inl ⟨by kernel_rfl, ?hyq170⟩) (by assumption) ?restq170
        case hyq170 => (intro w hSw; (try dsimp only at hSw); go_simp; try (with_reducible rfl))
        try simp only [List.getElem_toArray, List.getElem_cons_succ, List.getElem_cons_zero, Act.put, List.setIfInBounds_toArray, List.set_cons_zero, List.set_cons_succ]
        refine' wpAnyH_take (i := 19) (oi := _) (v := _) rfl (by kernel_rfl) (by kernel_rfl) (by kernel_rfl) (fun _ _ _ h => h) (Or.inl ⟨by kernel_rfl, ?hyq171⟩) (by assumption) ?restq171
        case hyq171 => (intro w hSw; (try dsimp only at hSw); go_simp; try (with_reducible rfl))
        try simp only [List.getElem_toArray, List.getElem_cons_succ, List.getElem_cons_zero, Act.put, List.setIfInBounds_toArray, List.set_cons_zero, List.set_cons_succ]
        refine' wpAnyH_take (i := 20) (oi := _) (v := _) rfl (by kernel_rfl) (by kernel_rfl) (by kernel_rfl) (fun _ _ _ h => h) (Or.inl ⟨by kernel_rfl, ?hyq172⟩) (by assumption) ?restq172
        case hyq172 => (intro w hSw; (try dsimp only at hSw); go_simp; try (with_reducible rfl))
        try simp only [List.getElem_toArray, List.getElem_cons_succ, List.getElem_cons_zero, Act.put, List.setIfInBounds_toArray, List.set_cons_zero, List.set_cons_succ]
        refine' wpAnyH_take (i := 21) (oi := _) (v := _) rfl (by kernel_rfl) (by kernel_rfl) (by kernel_rfl) (fun _ _ _ h => h) (Or.inl ⟨by kernel_rfl, ?hyq173⟩) (by assumption) ?restq173
        case hyq173 => (intro w hSw; (try dsimp only at hSw); go_simp; try (with_reducible rfl))
        try simp only [List.getElem_toArray, List.getElem_cons_succ, List.getElem_cons_zero, Act.put, List.setIfInBounds_toArray, List.set_cons_zero, List.set_cons_succ]
        refine' wpAnyH_take (i := 22) (oi := _) (v := _) rfl (by kernel_rfl) (by kernel_rfl) (by kernel_rfl) (fun _ _ _ h => h) (Or.inl ⟨by kernel_rfl, ?hyq174⟩) (by assumption) ?restq174
        case hyq174 => (intro w hSw; (try dsimp only at hSw); go_simp; try (with_reducible rfl))
        try simp only [List.getElem_toArray, List.getElem_cons_succ, List.getElem_cons_zero, Act.put, List.setIfInBounds_toArray, List.set_cons_zero, List.set_cons_succ]
        refine' wpAnyH_take (i := 23) (oi := _) (v := _) rfl (by kernel_rfl) (by kernel_rfl) (by kernel_rfl) (fun _ _ _ h => h) (Or.inl ⟨by kernel_rfl, ?hyq175⟩) (by assumption) ?restq175
        case hyq175 => (intro w hSw; (try dsimp only at hSw); go_simp; try (with_reducible rfl))
        try simp only [List.getElem_toArray, List.getElem_cons_succ, List.getElem_cons_zero, Act.put, List.setIfInBounds_toArray, List.set_cons_zero, List.set_cons_succ]
        refine' wpAnyH_take (i := 24) (oi := _) (v := _) rfl (by kernel_rfl) (by kernel_rfl) (by kernel_rfl) (fun _ _ _ h => h) (Or.inl ⟨by kernel_rfl, ?hyq176⟩) (by assumption) ?restq176
        case hyq176 => (intro w hSw; (try dsimp only at hSw); go_simp; try (with_reducible rfl))
        try simp only [List.getElem_toArray, List.getElem_cons_succ, List.getElem_cons_zero, Act.put, List.setIfInBounds_toArray, List.set_cons_zero, List.set_cons_succ]
        refine' wpAnyH_take (i := 25) (oi := _) (v := _) rfl (by kernel_rfl) (by kernel_rfl) (by kernel_rfl) (fun _ _ _ h => h) (Or.inl ⟨by kernel_rfl, ?hyq177⟩) (by assumption) ?restq177
        case hyq177 => (intro w hSw; (try dsimp only at hSw); go_simp; try (with_reducible rfl))
        try simp only [List.getElem_toArray, List.getElem_cons_succ, List.getElem_cons_zero, Act.put, List.setIfInBounds_toArray, List.set_cons_zero, List.set_cons_succ]
        refine wpAnyH_ready (rs := [26]) (by kernel_rfl) (by simp) ?_
        refine (AllReadyH.cons (o := _) rfl (fun K hK => ?_) AllReadyH.nil)
        go_simp
        go_at_call 19
        with_reducible refine (CGB.out Z3 DZ3.out).mono ?_
        rintro e Z4 ⟨rfl, B6⟩
        have DZ4 := hid (btr DZ3.out B6.out)
        clear B6
        (try go_wp2_with fail)
        refine hK.out _ _ ?_ (fun hHeld => ?_)
        ·(try dsimp only); exact HS.out _ DZ4.out
        clear hK K
        try simp only [List.getElem_toArray, List.getElem_cons_succ, List.getElem_cons_zero, Act.put, List.setIfInBounds_toArray, List.set_cons_zero, List.set_cons_succ]
        refine' wpAnyH_take (i := 27) (oi := _) (v := _) rfl (by kernel_rfl) (by kernel_rfl) (by kernel_rfl) (fun _ _ _ h => h) (Or.inl ⟨by kernel_rfl, ?hyq178⟩) (by assumption) ?restq178
        case hyq178 => (intro w hSw; (try dsimp only at hSw); go_simp; try (with_reducible rfl))
        try simp only [List.getElem_toArray, List.getElem_cons_succ, List.getElem_cons_zero, Act.put, List.setIfInBounds_toArray, List.set_cons_zero, List.set_cons_succ]
        refine' wpAnyH_take (i := 28) (oi := _) (v := _) rfl (by kernel_rfl) (by kernel_rfl) (by kernel_rfl) (fun _ _ _ h => h) (Or.inl ⟨by kernel_rfl, ?hyq179⟩) (by assumption) ?restq179
        case hyq179 => (intro w hSw; (try dsimp only at hSw); go_simp; try (with_reducible rfl))
        try simp only [List.getElem_toArray, List.getElem_cons_succ, List.getElem_cons_zero, Act.put, List.setIfInBounds_toArray, List.set_cons_zero, List.set_cons_succ]
        refine' wpAnyH_take (i := 29) (oi := _) (v := _) rfl (by kernel_rfl) (by kernel_rfl) (by kernel_rfl) (fun _ _ _ h => h) (Or.inl ⟨by kernel_rfl, ?hyq180⟩) (by assumption) ?restq180
        case hyq180 => (intro w hSw; (try dsimp only at hSw); go_simp; try (with_reducible rfl))
        try simp only [List.getElem_toArray, List.getElem_cons_succ, List.getElem_cons_zero, Act.put, List.setIfInBounds_toArray, List.set_cons_zero, List.set_cons_succ]
        refine' wpAnyH_take (i := 31) (oi := _) (v := _) rfl (by kernel_rfl) (by kernel_rfl) (by kernel_rfl) (fun _ _ _ h => h) (Or.inl ⟨by kernel_rfl, ?hyq181⟩) (by assumption) ?restq181
        case hyq181 => (intro w hSw; (try dsimp only at hSw); go_simp; try (with_reducible rfl))
        try simp only [List.getElem_toArray, List.getElem_cons_succ, List.getElem_cons_zero, Act.put, List.setIfInBounds_toArray, List.set_cons_zero, List.set_cons_succ]
        refine' wpAnyH_take (i := 32) (oi := _) (v := _) rfl (by kernel_rfl) (by kernel_rfl) (by kernel_rfl) (fun _ _ _ h => h) (Or.inl ⟨by kernel_rfl, ?hyq182⟩) (by assumption) ?restq182
        case hyq182 => (intro w hSw; (try dsimp only at hSw); go_simp; try (with_reducible rfl))
        try simp only [List.getElem_toArray, List.getElem_cons_succ, List.getElem_cons_zero, Act.put, List.setIfInBounds_toArray, List.set_cons_zero, List.set_cons_succ]
        refine' wpAnyH_take (i := 33) (oi := _) (v := _) rfl (by kernel_rfl) (by kernel_rfl) (by kernel_rfl) (fun _ _ _ h => h) (Or.inl ⟨by kernel_rfl, ?hyq183⟩) (by assumption) ?restq183
        case hyq183 => (intro w hSw; (try dsimp only at hSw); go_simp; try (with_reducible rfl))
        try simp only [List.getElem_toArray, List.getElem_cons_succ, List.getElem_cons_zero, Act.put, List.setIfInBounds_toArray, List.set_cons_zero, List.set_cons_succ]
        refine' wpAnyH_take (i := 34) (oi := _) (v := _) rfl (by kernel_rfl) (by kernel_rfl) (by kernel_rfl) (fun _ _ _ h => h) (Or.inl ⟨by kernel_rfl, ?hyq184⟩) (by assumption) ?restq184
        case hyq184 => (intro w hSw; (try dsimp only at hSw); go_simp; try (with_reducible rfl))
        try simp only [List.getElem_toArray, List.getElem_cons_succ, List.getElem_cons_zero, Act.put, List.setIfInBounds_toArray, List.set_cons_zero, List.set_cons_succ]
        refine' wpAnyH_take (i := 35) (oi := _) (v := _) rfl (by kernel_rfl) (by kernel_rfl) (by kernel_rfl) (fun _ _ _ h => h) (Or.inl ⟨by kernel_rfl, ?hyq185⟩) (by assumption) ?restq185
        case hyq185 => (intro w hSw; (try dsimp only at hSw); go_simp; try (with_reducible rfl))
        try simp only [List.getElem_toArray, List.getElem_cons_succ, List.getElem_cons_zero, Act.put, List.setIfInBounds_toArray, List.set_cons_zero, List.set_cons_succ]
        refine' wpAnyH_take (i := 36) (oi := _) (v := _) rfl (by kernel_rfl) (by kernel_rfl) (by kernel_rfl) (fun _ _ _ h => h) (Or.inl ⟨by kernel_rfl, ?hyq186⟩) (by assumption) ?restq186
        case hyq186 => (intro w hSw; (try dsimp only at hSw); go_simp; try (with_reducible rfl))
        try simp only [List.getElem_toArray, List.getElem_cons_succ, List.getElem_cons_zero, Act.put, List.setIfInBounds_toArray, List.set_cons_zero, List.set_cons_succ]
        refine' wpAnyH_take (i := 37) (oi := _) (v := _) rfl (by kernel_rfl) (by kernel_rfl) (by kernel_rfl) (fun _ _ _ h => h) (Or.inl ⟨by kernel_rfl, ?hyq187⟩) (by assumption) ?restq187
        case hyq187 => (intro w hSw; (try dsimp only at hSw); go_simp; try (with_reducible rfl))
        try simp only [List.getElem_toArray, List.getElem_cons_succ, List.getElem_cons_zero, Act.put, List.setIfInBounds_toArray, List.set_cons_zero, List.set_cons_succ]
        refine wpAnyH_ready (rs := [30]) (by kernel_rfl) (by simp) ?_
        refine (AllReadyH.cons (o := _) rfl (fun K hK => ?_) AllReadyH.nil)
        go_simp
        go_at_call 21
        with_reducible refine (CPB.out Z4 DZ4.out).mono ?_
        rintro e Z5 ⟨qc, dc, qd, dd, rfl, RL3, RL4, B6⟩
        have DZ5 := hid (btr DZ4.out B6.out)
        clear B6
        (try go_wp2_with fail)
        refine hK.out _ _ ?_ (fun hHeld => ?_)
        ·(try dsimp only); exact HS.out _ DZ5.out
        clear hK K
        try simp only [List.getElem_toArray, List.getElem_cons_succ, List.getElem_cons_zero, Act.put, List.setIfInBounds_toArray, List.set_cons_zero, List.set_cons_succ]
        refine wpAnyH_ready (rs := [38]) (by kernel_rfl) (by simp) ?_
        refine (AllReadyH.cons (o := _) rfl (fun K hK => ?_) AllReadyH.nil)
        go_simp
        go_at_call 20
        with_reducible refine (CSA.out Z5 qc dc qd dd DZ5.out RL3.out RL4.out).mono ?_
        rintro e Z6 ⟨rfl, B6⟩
        have DZ6 := hid (btr DZ5.out B6.out)
        clear B6
        (try go_wp2_with fail)
        refine hK.out _ _ ?_ (fun hHeld => ?_)
        ·(try dsimp only); exact HS.out _ DZ6.out
        clear hK K
        try simp only [List.getElem_toArray, List.getElem_cons_succ, List.getElem_cons_zero, Act.put, List.setIfInBounds_toArray, List.set_cons_zero, List.set_cons_succ]
        refine' wpAnyH_take (i := 39) (oi := _) (v := _) rfl (by kernel_rfl) (by kernel_rfl) (by kernel_rfl) (fun _ _ _ h => h) (Or.inl ⟨by kernel_rfl, ?hyq188⟩) (by assumption) ?restq188
        case hyq188 => (intro w hSw; (try dsimp only at hSw); go_simp; try (with_reducible rfl))
        try simp only [List.getElem_toArray, List.getElem_cons_succ, List.getElem_cons_zero, Act.put, List.setIfInBounds_toArray, List.set_cons_zero, List.set_cons_succ]
        refine' wpAnyH_take (i := 40) (oi := _) (v := _) rfl (by kernel_rfl) (by kernel_rfl) (by kernel_rfl) (fun _ _ _ h => h) (Or.inl ⟨by kernel_rfl, ?hyq189⟩) (by assumption) ?restq189
        case hyq189 => (intro w hSw; (try dsimp only at hSw); go_simp; try (with_reducible rfl))
        try simp only [List.getElem_toArray, List.getElem_cons_succ, List.getElem_cons_zero, Act.put, List.setIfInBounds_toArray, List.set_cons_zero, List.set_cons_succ]
        refine' wpAnyH_take (i := 41) (oi := _) (v := _) rfl (by kernel_rfl) (by kernel_rfl) (by kernel_rfl) (fun _ _ _ h => h) (Or.inl ⟨by kernel_rfl, ?hyq190⟩) (by assumption) ?restq190
        case hyq190 => (intro w hSw; (try dsimp only at hSw); go_simp; try (with_reducible rfl))
        try simp only [List.getElem_toArray, List.getElem_cons_succ, List.getElem_cons_zero, Act.put, List.setIfInBounds_toArray, List.set_cons_zero, List.set_cons_succ]
        refine' wpAnyH_take (i := 42) (oi := _) (v := _) rfl (by kernel_rfl) (by kernel_rfl) (by kernel_rfl) (fun _ _ _ h => h) (Or.inl ⟨by kernel_rfl, ?hyq191⟩) (by assumption) ?restq191
        case hyq191 => (intro w hSw; (try dsimp only at hSw); go_simp; try (with_reducible rfl))
        try simp only [List.getElem_toArray, List.getElem_cons_succ, List.getElem_cons_zero, Act.put, List.setIfInBounds_toArray, List.set_cons_zero, List.set_cons_succ]
        refine wpAnyH_done (by kernel_rfl) ?_ _
        go_wp2
        go_roundw
        case rel => exact ⟨i + 1, nma, nmb, gr, la, grb, lab, by omega, by go_num, by rw [HK1.out], hid (by rw [HK1.out]; have := HG.out; exact ⟨this.1, by omega, this.2.2.1, this.2.2.2, hk1n⟩), hid (by rw [HK1.out]; rw [if_pos (show f < i + 1 by omega)]; exact HTV.out.on DZ6.out), btr BVV.out DZ6.out⟩
        case measure => simp [intOf]; omega
      ·have hnm : m = na := by omega
       have n1' : decide ((m : Int) < (na : Int)) = false := by simp; omega
       have n2' : ¬ (m : Int) < (na : Int) := by omega
       have n3' : decide (m < na) = false := by simp; omega
       have HNM := hid hnm
       clear hnm
       go_upto_region 17 with fail
       go_big_quiet (fail)
       clear n1' n2' n3'
       have hmk' : m = k1 := by omega
       subst hmk'
       obtain ⟨VA, hVA⟩ : ∃ w, wr.drewN nq = w := ⟨_, rfl⟩
       have BVA := hid (show Below wr.heap.size wr VA from by rw [← hVA]; exact bdrew _ _)
       rw [hVA]
       clear hVA
       have HTA := hid (HT.out.on BVA.out)
       have BWA := hid (btr HB5.out BVA.out)
       clear HT HB5 BVA y0 y1 y2 x2 x3
       have z1 : ((i : Int) == (f : Int)) = false := by simp; omega
       have z2 : decide ((i : Int) = (f : Int)) = false := by simp; omega
       have z3 : decide (i = f) = false := by simp; omega
       have z4 : ¬ i = f := by omega
       have z5 : ¬ (i : Int) = (f : Int) := by omega
       have z6 : (i == f) = false := by simp; omega
       have w1' : decide ((f : Int) ≤ (i : Int)) = true := by simp; omega
       have w2' : decide (f ≤ i) = true := by simp; omega
       have w3' : (f : Int) ≤ (i : Int) := by omega
       go_upto_region 23 with fail
       obtain ⟨VW, hVW⟩ : ∃ w, VA = w := ⟨_, rfl⟩
       have HTV := hid HTA.out
       have BVV := hid BWA.out
       rw [hVW] at HTV BVV ⊢
       clear hVW HTA BWA
       have HS := hid (show ∀ U, Below VW.heap.size VW U → U.cell? ⟨S1, 3, none⟩ = some (.slice (some ⟨g1, 0, none⟩) p pc1) ∧ U.cell? ⟨g1, i * 3, none⟩ = some (.int .u64 sx) ∧ U.cell? ⟨g1, i * 3 + 1, none⟩ = some (.slice p1 n1 c1) ∧ U.cell? ⟨g1, i * 3 + 2, none⟩ = some (.slice p2 n2 c2) from fun U hU => ⟨row_cell (row_on HR.out (btr BVV.out hU)) 3, HA.out U (btr BVV.out hU)⟩)
       have CGA := hid (show ∀ U, Below VW.heap.size VW U → Calls Try.prog 19 #[.pointer (some ⟨Sa, 0, none⟩)] U fun e w' => e = .returned (.bool true) ∧ Hid (Below U.heap.size U w') from fun U hU => by
        obtain ⟨F, hF⟩ := (HTV.out.on hU).left
        have h := sq_good hF
        rw [show decide ((fol D m gr la).gr ≤ (fol D m gr la).sq) = true from decide_eq_true HG.out.1] at h
        exact h)
       have CPA := hid (show ∀ U, Below VW.heap.size VW U → Calls Try.prog 21 #[.pointer (some ⟨Sa, 0, none⟩)] U fun e w' => ∃ q1 d1 q2 d2, e = .returned (.agg #[.int .u64 sx, .slice q1 n1 d1, .slice q2 n2 d2]) ∧ Hid (Fd.Rl w' q1 d1 l1) ∧ Hid (Fd.Rl w' q2 d2 l2) ∧ Hid (Below U.heap.size U w') from fun U hU => by
        obtain ⟨F, hF⟩ := (HTV.out.on hU).left
        have h := sq_pic hF
        rw [show (fol D m gr la).sq = sx from HSX.out.symm, show (fol D m gr la).l1 = l1 from HPT.out.2.2.2.1, show (fol D m gr la).l2 = l2 from HPT.out.2.2.2.2.1, HN1.out, HN2.out] at h
        exact h)
       have CSA := hid (show ∀ (U : World) (q1 : Option Addr) (d1 : Nat) (q2 : Option Addr) (d2 : Nat), Below VW.heap.size VW U → Fd.Rl U q1 d1 l1 → Fd.Rl U q2 d2 l2 → Calls Try.prog 20 #[.agg #[.int .u64 sx, .slice q1 n1 d1, .slice q2 n2 d2], .agg #[.int .u64 sx, .slice p1 n1 c1, .slice p2 n2 c2]] U fun e w' => e = .returned (.bool true) ∧ Hid (Below U.heap.size U w') from fun U q1 d1 q2 d2 hU r1 r2 => by
        have h := Fd.samePicture_same sx q1 q2 p1 p2 d1 d2 c1 c2 l1 l2 U r1 r2 (HLA.out.1.on (btr BVV.out hU)) (HLA.out.2.on (btr BVV.out hU))
        rw [HN1.out, HN2.out] at h
        exact h)
       have CGB := hid (show ∀ U, Below VW.heap.size VW U → Calls Try.prog 19 #[.pointer (some ⟨Sb, 0, none⟩)] U fun e w' => e = .returned (.bool true) ∧ Hid (Below U.heap.size U w') from fun U hU => by
        obtain ⟨F, hF⟩ := (HTV.out.on hU).swap.left
        have h := sq_good hF
        rw [show decide ((fol D m grb lab).gr ≤ (fol D m grb lab).sq) = true from decide_eq_true (HG.out.2.1)] at h
        exact h)
       have CPB := hid (show ∀ U, Below VW.heap.size VW U → Calls Try.prog 21 #[.pointer (some ⟨Sb, 0, none⟩)] U fun e w' => ∃ q1 d1 q2 d2, e = .returned (.agg #[.int .u64 sx, .slice q1 n1 d1, .slice q2 n2 d2]) ∧ Hid (Fd.Rl w' q1 d1 l1) ∧ Hid (Fd.Rl w' q2 d2 l2) ∧ Hid (Below U.heap.size U w') from fun U hU => by
        obtain ⟨F, hF⟩ := (HTV.out.on hU).swap.left
        have h := sq_pic hF
        rw [show (fol D m grb lab).sq = sx from HSX.out.symm, show (fol D m grb lab).l1 = l1 from HPT.out.2.2.2.1, show (fol D m grb lab).l2 = l2 from HPT.out.2.2.2.2.1, HN1.out, HN2.out] at h
        exact h)
       obtain ⟨V0, hV0⟩ : ∃ U, VW.drew = U := ⟨_, rfl⟩
       have DV0 := hid (show Below VW.heap.size VW V0 from by rw [← hV0]; exact bdrew1 _)
       refine wp_region_held_drew (S := fun U => U.cell? ⟨S1, 3, none⟩ = some (.slice (some ⟨g1, 0, none⟩) p pc1) ∧ U.cell? ⟨g1, i * 3, none⟩ = some (.int .u64 sx) ∧ U.cell? ⟨g1, i * 3 + 1, none⟩ = some (.slice p1 n1 c1) ∧ U.cell? ⟨g1, i * 3 + 2, none⟩ = some (.slice p2 n2 c2)) (by kernel_rfl) ?_ (fun hHeld => ?_)
       ·(try dsimp only); rw [hV0]; exact HS.out _ DV0.out
       rw [hV0] at hHeld ⊢
       clear hV0
       refine' wpAnyH_take (i := 0) (oi := _) (v := _) rfl (by kernel_rfl) (by kernel_rfl) (by kernel_rfl) (fun _ _ _ h => h) (Or.inl ⟨by kernel_rfl, ?hyq192⟩) (by assumption) ?restq192
       case hyq192 => (intro w hSw; (try dsimp only at hSw); go_simp; try (with_reducible rfl))
       try simp only [List.getElem_toArray, List.getElem_cons_succ, List.getElem_cons_zero, Act.put, List.setIfInBounds_toArray, List.set_cons_zero, List.set_cons_succ]
       refine wpAnyH_ready (rs := [1]) (by kernel_rfl) (by simp) ?_
       refine (AllReadyH.cons (o := _) rfl (fun K hK => ?_) AllReadyH.nil)
       go_simp
       go_at_call 19
       with_reducible refine (CGA.out V0 DV0.out).mono ?_
       rintro e Z1 ⟨rfl, B6⟩
       have DZ1 := hid (btr DV0.out B6.out)
       clear B6
       (try go_wp2_with fail)
       refine hK.out _ _ ?_ (fun hHeld => ?_)
       ·(try dsimp only); exact HS.out _ DZ1.out
       clear hK K
       try simp only [List.getElem_toArray, List.getElem_cons_succ, List.getElem_cons_zero, Act.put, List.setIfInBounds_toArray, List.set_cons_zero, List.set_cons_succ]
       refine' wpAnyH_take (i := 2) (oi := _) (v := _) rfl (by kernel_rfl) (by kernel_rfl) (by kernel_rfl) (fun _ _ _ h => h) (Or.inl ⟨by kernel_rfl, ?hyq193⟩) (by assumption) ?restq193
       case hyq193 => (intro w hSw; (try dsimp only at hSw); go_simp; try (with_reducible rfl))
       try simp only [List.getElem_toArray, List.getElem_cons_succ, List.getElem_cons_zero, Act.put, List.setIfInBounds_toArray, List.set_cons_zero, List.set_cons_succ]
       refine' wpAnyH_take (i := 3) (oi := _) (v := _) rfl (by kernel_rfl) (by kernel_rfl) (by kernel_rfl) (fun _ _ _ h => h) (Or.inl ⟨by kernel_rfl, ?hyq194⟩) (by assumption) ?restq194
       case hyq194 => (intro w hSw; (try dsimp only at hSw); go_simp; try (with_reducible rfl))
       try simp only [List.getElem_toArray, List.getElem_cons_succ, List.getElem_cons_zero, Act.put, List.setIfInBounds_toArray, List.set_cons_zero, List.set_cons_succ]
       refine' wpAnyH_take (i := 4) (oi := _) (v := _) rfl (by kernel_rfl) (by kernel_rfl) (by kernel_rfl) (fun _ _ _ h => h) (Or.inl ⟨by kernel_rfl, ?hyq195⟩) (by assumption) ?restq195
       case hyq195 => (intro w hSw; (try dsimp only at hSw); go_simp; try (with_reducible rfl))
       try simp only [List.getElem_toArray, List.getElem_cons_succ, List.getElem_cons_zero, Act.put, List.setIfInBounds_toArray, List.set_cons_zero, List.set_cons_succ]
       refine' wpAnyH_take (i := 6) (oi := _) (v := _) rfl (by kernel_rfl) (by kernel_rfl) (by kernel_rfl) (fun _ _ _ h => h) (Or.inl ⟨by kernel_rfl, ?hyq196⟩) (by assumption) ?restq196
       case hyq196 => (intro w hSw; (try dsimp only at hSw); go_simp; try (with_reducible rfl))
       try simp only [List.getElem_toArray, List.getElem_cons_succ, List.getElem_cons_zero, Act.put, List.setIfInBounds_toArray, List.set_cons_zero, List.set_cons_succ]
       refine' wpAnyH_take (i := 7) (oi := _) (v := _) rfl (by kernel_rfl) (by kernel_rfl) (by kernel_rfl) (fun _ _ _ h => h) (Or.inl ⟨by kernel_rfl, ?hyq197⟩) (by assumption) ?restq197
       case hyq197 => (intro w hSw; (try dsimp only at hSw); go_simp; try (with_reducible rfl))
       try simp only [List.getElem_toArray, List.getElem_cons_succ, List.getElem_cons_zero, Act.put, List.setIfInBounds_toArray, List.set_cons_zero, List.set_cons_succ]
       refine' wpAnyH_take (i := 8) (oi := _) (v := _) rfl (by kernel_rfl) (by kernel_rfl) (by kernel_rfl) (fun _ _ _ h => h) (Or.inl ⟨by kernel_rfl, ?hyq198⟩) (by assumption) ?restq198
       case hyq198 => (intro w hSw; (try dsimp only at hSw); go_simp; try (with_reducible rfl))
       try simp only [List.getElem_toArray, List.getElem_cons_succ, List.getElem_cons_zero, Act.put, List.setIfInBounds_toArray, List.set_cons_zero, List.set_cons_succ]
       refine' wpAnyH_take (i := 9) (oi := _) (v := _) rfl (by kernel_rfl) (by kernel_rfl) (by kernel_rfl) (fun _ _ _ h => h) (Or.inl ⟨by kernel_rfl, ?hyq199⟩) (by assumption) ?restq199
       case hyq199 => (intro w hSw; (try dsimp only at hSw); go_simp; try (with_reducible rfl))
       try simp only [List.getElem_toArray, List.getElem_cons_succ, List.getElem_cons_zero, Act.put, List.setIfInBounds_toArray, List.set_cons_zero, List.set_cons_succ]
       refine' wpAnyH_take (i := 10) (oi := _) (v := _) rfl (by kernel_rfl) (by kernel_rfl) (by kernel_rfl) (fun _ _ _ h => h) (Or.inl ⟨by kernel_rfl, ?hyq200⟩) (by assumption) ?restq200
       case hyq200 => (intro w hSw; (try dsimp only at hSw); go_simp; try (with_reducible rfl))
       try simp only [List.getElem_toArray, List.getElem_cons_succ, List.getElem_cons_zero, Act.put, List.setIfInBounds_toArray, List.set_cons_zero, List.set_cons_succ]
       refine' wpAnyH_take (i := 11) (oi := _) (v := _) rfl (by kernel_rfl) (by kernel_rfl) (by kernel_rfl) (fun _ _ _ h => h) (Or.inl ⟨by kernel_rfl, ?hyq201⟩) (by assumption) ?restq201
       case hyq201 => (intro w hSw; (try dsimp only at hSw); go_simp; try (with_reducible rfl))
       try simp only [List.getElem_toArray, List.getElem_cons_succ, List.getElem_cons_zero, Act.put, List.setIfInBounds_toArray, List.set_cons_zero, List.set_cons_succ]
       refine' wpAnyH_take (i := 12) (oi := _) (v := _) rfl (by kernel_rfl) (by kernel_rfl) (by kernel_rfl) (fun _ _ _ h => h) (Or.inl ⟨by kernel_rfl, ?hyq202⟩) (by assumption) ?restq202
       case hyq202 => (intro w hSw; (try dsimp only at hSw); go_simp; try (with_reducible rfl))
       try simp only [List.getElem_toArray, List.getElem_cons_succ, List.getElem_cons_zero, Act.put, List.setIfInBounds_toArray, List.set_cons_zero, List.set_cons_succ]
       refine wpAnyH_ready (rs := [5]) (by kernel_rfl) (by simp) ?_
       refine (AllReadyH.cons (o := _) rfl (fun K hK => ?_) AllReadyH.nil)
       go_simp
       go_at_call 21
       with_reducible refine (CPA.out Z1 DZ1.out).mono ?_
       rintro e Z2 ⟨qa, da, qb, db, rfl, RL1, RL2, B6⟩
       have DZ2 := hid (btr DZ1.out B6.out)
       clear B6
       (try go_wp2_with fail)
       refine hK.out _ _ ?_ (fun hHeld => ?_)
       ·(try dsimp only); exact HS.out _ DZ2.out
       clear hK K
       try simp only [List.getElem_toArray, List.getElem_cons_succ, List.getElem_cons_zero, Act.put, List.setIfInBounds_toArray, List.set_cons_zero, List.set_cons_succ]
       refine wpAnyH_ready (rs := [13]) (by kernel_rfl) (by simp) ?_
       refine (AllReadyH.cons (o := _) rfl (fun K hK => ?_) AllReadyH.nil)
       go_simp
       go_at_call 20
       with_reducible refine (CSA.out Z2 qa da qb db DZ2.out RL1.out RL2.out).mono ?_
       rintro e Z3 ⟨rfl, B6⟩
       have DZ3 := hid (btr DZ2.out B6.out)
       clear B6
       (try go_wp2_with fail)
       refine hK.out _ _ ?_ (fun hHeld => ?_)
       ·(try dsimp only); exact HS.out _ DZ3.out
       clear hK K
       try simp only [List.getElem_toArray, List.getElem_cons_succ, List.getElem_cons_zero, Act.put, List.setIfInBounds_toArray, List.set_cons_zero, List.set_cons_succ]
       refine' wpAnyH_take (i := 14) (oi := _) (v := _) rfl (by kernel_rfl) (by kernel_rfl) (by kernel_rfl) (fun _ _ _ h => h) (Or.inl ⟨by kernel_rfl, ?hyq203⟩) (by assumption) ?restq203
       case hyq203 => (intro w hSw; (try dsimp only at hSw); go_simp; try (with_reducible rfl))
       try simp only [List.getElem_toArray, List.getElem_cons_succ, List.getElem_cons_zero, Act.put, List.setIfInBounds_toArray, List.set_cons_zero, List.set_cons_succ]
       refine' wpAnyH_take (i := 15) (oi := _) (v := _) rfl (by kernel_rfl) (by kernel_rfl) (by kernel_rfl) (fun _ _ _ h => h) (Or.inl ⟨by kernel_rfl, ?hyq204⟩) (by assumption) ?restq204
       case hyq204 => (intro w hSw; (try dsimp only at hSw); go_simp; try (with_reducible rfl))
       try simp only [List.getElem_toArray, List.getElem_cons_succ, List.getElem_cons_zero, Act.put, List.setIfInBounds_toArray, List.set_cons_zero, List.set_cons_succ]
       refine' wpAnyH_take (i := 16) (oi := _) (v := _) rfl (by kernel_rfl) (by kernel_rfl) (by kernel_rfl) (fun _ _ _ h => h) (Or.inl ⟨by kernel_rfl, ?hyq205⟩) (by assumption) ?restq205
       case hyq205 => (intro w hSw; (try dsimp only at hSw); go_simp; try (with_reducible rfl))
       try simp only [List.getElem_toArray, List.getElem_cons_succ, List.getElem_cons_zero, Act.put, List.setIfInBounds_toArray, List.set_cons_zero, List.set_cons_succ]
       refine' wpAnyH_take (i := 17) (oi := _) (v := _) rfl (by kernel_rfl) (by kernel_rfl) (by kernel_rfl) (fun _ _ _ h => h) (Or.inl ⟨by kernel_rfl, ?hyq206⟩) (by assumption) ?restq206
       case hyq206 => (intro w hSw; (try dsimp only at hSw); go_simp; try (with_reducible rfl))
       try simp only [List.getElem_toArray, List.getElem_cons_succ, List.getElem_cons_zero, Act.put, List.setIfInBounds_toArray, List.set_cons_zero, List.set_cons_succ]
       refine' wpAnyH_take (i := 18) (oi := _) (v := _) rfl (by kernel_rfl) (by kernel_rfl) (by kernel_rfl) (fun _ _ _ h => h) (Or.inl ⟨by kernel_rfl, ?hyq207⟩) (by assumption) ?restq207
       case hyq207 => (intro w hSw; (try dsimp only at hSw); go_simp; try (with_reducible rfl))
       try simp only [List.getElem_toArray, List.getElem_cons_succ, List.getElem_cons_zero, Act.put, List.setIfInBounds_toArray, List.set_cons_zero, List.set_cons_succ]
       refine' wpAnyH_take (i := 19) (oi := _) (v := _) rfl (by kernel_rfl) (by kernel_rfl) (by kernel_rfl) (fun _ _ _ h => h) (Or.inl ⟨by kernel_rfl, ?hyq208⟩) (by assumption) ?restq208
       case hyq208 => (intro w hSw; (try dsimp only at hSw); go_simp; try (with_reducible rfl))
       try simp only [List.getElem_toArray, List.getElem_cons_succ, List.getElem_cons_zero, Act.put, List.setIfInBounds_toArray, List.set_cons_zero, List.set_cons_succ]
       refine' wpAnyH_take (i := 20) (oi := _) (v := _) rfl (by kernel_rfl) (by kernel_rfl) (by kernel_rfl) (fun _ _ _ h => h) (Or.inl ⟨by kernel_rfl, ?hyq209⟩) (by assumption) ?restq209
       case hyq209 => (intro w hSw; (try dsimp only at hSw); go_simp; try (with_reducible rfl))
       try simp only [List.getElem_toArray, List.getElem_cons_succ, List.getElem_cons_zero, Act.put, List.setIfInBounds_toArray, List.set_cons_zero, List.set_cons_succ]
       refine' wpAnyH_take (i := 21) (oi := _) (v := _) rfl (by kernel_rfl) (by kernel_rfl) (by kernel_rfl) (fun _ _ _ h => h) (Or.inl ⟨by kernel_rfl, ?hyq210⟩) (by assumption) ?restq210
       case hyq210 => (intro w hSw; (try dsimp only at hSw); go_simp; try (with_reducible rfl))
       try simp only [List.getElem_toArray, List.getElem_cons_succ, List.getElem_cons_zero, Act.put, List.setIfInBounds_toArray, List.set_cons_zero, List.set_cons_succ]
       refine' wpAnyH_take (i := 22) (oi := _) (v := _) rfl (by kernel_rfl) (by kernel_rfl) (by kernel_rfl) (fun _ _ _ h => h) (Or.inl ⟨by kernel_rfl, ?hyq211⟩) (by assumption) ?restq211
       case hyq211 => (intro w hSw; (try dsimp only at hSw); go_simp; try (with_reducible rfl))
       try simp only [List.getElem_toArray, List.getElem_cons_succ, List.getElem_cons_zero, Act.put, List.setIfInBounds_toArray, List.set_cons_zero, List.set_cons_succ]
       refine' wpAnyH_take (i := 23) (oi := _) (v := _) rfl (by kernel_rfl) (by kernel_rfl) (by kernel_rfl) (fun _ _ _ h => h) (Or.inl ⟨by kernel_rfl, ?hyq212⟩) (by assumption) ?restq212
       case hyq212 => (intro w hSw; (try dsimp only at hSw); go_simp; try (with_reducible rfl))
       try simp only [List.getElem_toArray, List.getElem_cons_succ, List.getElem_cons_zero, Act.put, List.setIfInBounds_toArray, List.set_cons_zero, List.set_cons_succ]
       refine' wpAnyH_take (i := 24) (oi := _) (v := _) rfl (by kernel_rfl) (by kernel_rfl) (by kernel_rfl) (fun _ _ _ h => h) (Or.inl ⟨by kernel_rfl, ?hyq213⟩) (by assumption) ?restq213
       case hyq213 => (intro w hSw; (try dsimp only at hSw); go_simp; try (with_reducible rfl))
       try simp only [List.getElem_toArray, List.getElem_cons_succ, List.getElem_cons_zero, Act.put, List.setIfInBounds_toArray, List.set_cons_zero, List.set_cons_succ]
       refine' wpAnyH_take (i := 25) (oi := _) (v := _) rfl (by kernel_rfl) (by kernel_rfl) (by kernel_rfl) (fun _ _ _ h => h) (Or.inl ⟨by kernel_rfl, ?hyq214⟩) (by assumption) ?restq214
       case hyq214 => (intro w hSw; (try dsimp only at hSw); go_simp; try (with_reducible rfl))
       try simp only [List.getElem_toArray, List.getElem_cons_succ, List.getElem_cons_zero, Act.put, List.setIfInBounds_toArray, List.set_cons_zero, List.set_cons_succ]
       refine wpAnyH_ready (rs := [26]) (by kernel_rfl) (by simp) ?_
       refine (AllReadyH.cons (o := _) rfl (fun K hK => ?_) AllReadyH.nil)
       go_simp
       go_at_call 19
       with_reducible refine (CGB.out Z3 DZ3.out).mono ?_
       rintro e Z4 ⟨rfl, B6⟩
       have DZ4 := hid (btr DZ3.out B6.out)
       clear B6
       (try go_wp2_with fail)
       refine hK.out _ _ ?_ (fun hHeld => ?_)
       ·(try dsimp only); exact HS.out _ DZ4.out
       clear hK K
       try simp only [List.getElem_toArray, List.getElem_cons_succ, List.getElem_cons_zero, Act.put, List.setIfInBounds_toArray, List.set_cons_zero, List.set_cons_succ]
       refine' wpAnyH_take (i := 27) (oi := _) (v := _) rfl (by kernel_rfl) (by kernel_rfl) (by kernel_rfl) (fun _ _ _ h => h) (Or.inl ⟨by kernel_rfl, ?hyq215⟩) (by assumption) ?restq215
       case hyq215 => (intro w hSw; (try dsimp only at hSw); go_simp; try (with_reducible rfl))
       try simp only [List.getElem_toArray, List.getElem_cons_succ, List.getElem_cons_zero, Act.put, List.setIfInBounds_toArray, List.set_cons_zero, List.set_cons_succ]
       refine' wpAnyH_take (i := 28) (oi := _) (v := _) rfl (by kernel_rfl) (by kernel_rfl) (by kernel_rfl) (fun _ _ _ h => h) (Or.inl ⟨by kernel_rfl, ?hyq216⟩) (by assumption) ?restq216
       case hyq216 => (intro w hSw; (try dsimp only at hSw); go_simp; try (with_reducible rfl))
       try simp only [List.getElem_toArray, List.getElem_cons_succ, List.getElem_cons_zero, Act.put, List.setIfInBounds_toArray, List.set_cons_zero, List.set_cons_succ]
       refine' wpAnyH_take (i := 29) (oi := _) (v := _) rfl (by kernel_rfl) (by kernel_rfl) (by kernel_rfl) (fun _ _ _ h => h) (Or.inl ⟨by kernel_rfl, ?hyq217⟩) (by assumption) ?restq217
       case hyq217 => (intro w hSw; (try dsimp only at hSw); go_simp; try (with_reducible rfl))
       try simp only [List.getElem_toArray, List.getElem_cons_succ, List.getElem_cons_zero, Act.put, List.setIfInBounds_toArray, List.set_cons_zero, List.set_cons_succ]
       refine' wpAnyH_take (i := 31) (oi := _) (v := _) rfl (by kernel_rfl) (by kernel_rfl) (by kernel_rfl) (fun _ _ _ h => h) (Or.inl ⟨by kernel_rfl, ?hyq218⟩) (by assumption) ?restq218
       case hyq218 => (intro w hSw; (try dsimp only at hSw); go_simp; try (with_reducible rfl))
       try simp only [List.getElem_toArray, List.getElem_cons_succ, List.getElem_cons_zero, Act.put, List.setIfInBounds_toArray, List.set_cons_zero, List.set_cons_succ]
       refine' wpAnyH_take (i := 32) (oi := _) (v := _) rfl (by kernel_rfl) (by kernel_rfl) (by kernel_rfl) (fun _ _ _ h => h) (Or.inl ⟨by kernel_rfl, ?hyq219⟩) (by assumption) ?restq219
       case hyq219 => (intro w hSw; (try dsimp only at hSw); go_simp; try (with_reducible rfl))
       try simp only [List.getElem_toArray, List.getElem_cons_succ, List.getElem_cons_zero, Act.put, List.setIfInBounds_toArray, List.set_cons_zero, List.set_cons_succ]
       refine' wpAnyH_take (i := 33) (oi := _) (v := _) rfl (by kernel_rfl) (by kernel_rfl) (by kernel_rfl) (fun _ _ _ h => h) (Or.inl ⟨by kernel_rfl, ?hyq220⟩) (by assumption) ?restq220
       case hyq220 => (intro w hSw; (try dsimp only at hSw); go_simp; try (with_reducible rfl))
       try simp only [List.getElem_toArray, List.getElem_cons_succ, List.getElem_cons_zero, Act.put, List.setIfInBounds_toArray, List.set_cons_zero, List.set_cons_succ]
       refine' wpAnyH_take (i := 34) (oi := _) (v := _) rfl (by kernel_rfl) (by kernel_rfl) (by kernel_rfl) (fun _ _ _ h => h) (Or.inl ⟨by kernel_rfl, ?hyq221⟩) (by assumption) ?restq221
       case hyq221 => (intro w hSw; (try dsimp only at hSw); go_simp; try (with_reducible rfl))
       try simp only [List.getElem_toArray, List.getElem_cons_succ, List.getElem_cons_zero, Act.put, List.setIfInBounds_toArray, List.set_cons_zero, List.set_cons_succ]
       refine' wpAnyH_take (i := 35) (oi := _) (v := _) rfl (by kernel_rfl) (by kernel_rfl) (by kernel_rfl) (fun _ _ _ h => h) (Or.inl ⟨by kernel_rfl, ?hyq222⟩) (by assumption) ?restq222
       case hyq222 => (intro w hSw; (try dsimp only at hSw); go_simp; try (with_reducible rfl))
       try simp only [List.getElem_toArray, List.getElem_cons_succ, List.getElem_cons_zero, Act.put, List.setIfInBounds_toArray, List.set_cons_zero, List.set_cons_succ]
       refine' wpAnyH_take (i := 36) (oi := _) (v := _) rfl (by kernel_rfl) (by kernel_rfl) (by kernel_rfl) (fun _ _ _ h => h) (Or.inl ⟨by kernel_rfl, ?hyq223⟩) (by assumption) ?restq223
       case hyq223 => (intro w hSw; (try dsimp only at hSw); go_simp; try (with_reducible rfl))
       try simp only [List.getElem_toArray, List.getElem_cons_succ, List.getElem_cons_zero, Act.put, List.setIfInBounds_toArray, List.set_cons_zero, List.set_cons_succ]
       refine' wpAnyH_take (i := 37) (oi := _) (v := _) rfl (by kernel_rfl) (by kernel_rfl) (by kernel_rfl) (fun _ _ _ h => h) (Or.inl ⟨by kernel_rfl, ?hyq224⟩) (by assumption) ?restq224
       case hyq224 => (intro w hSw; (try dsimp only at hSw); go_simp; try (with_reducible rfl))
       try simp only [List.getElem_toArray, List.getElem_cons_succ, List.getElem_cons_zero, Act.put, List.setIfInBounds_toArray, List.set_cons_zero, List.set_cons_succ]
       refine wpAnyH_ready (rs := [30]) (by kernel_rfl) (by simp) ?_
       refine (AllReadyH.cons (o := _) rfl (fun K hK => ?_) AllReadyH.nil)
       go_simp
       go_at_call 21
       with_reducible refine (CPB.out Z4 DZ4.out).mono ?_
       rintro e Z5 ⟨qc, dc, qd, dd, rfl, RL3, RL4, B6⟩
       have DZ5 := hid (btr DZ4.out B6.out)
       clear B6
       (try go_wp2_with fail)
       refine hK.out _ _ ?_ (fun hHeld => ?_)
       ·(try dsimp only); exact HS.out _ DZ5.out
       clear hK K
       try simp only [List.getElem_toArray, List.getElem_cons_succ, List.getElem_cons_zero, Act.put, List.setIfInBounds_toArray, List.set_cons_zero, List.set_cons_succ]
       refine wpAnyH_ready (rs := [38]) (by kernel_rfl) (by simp) ?_
       refine (AllReadyH.cons (o := _) rfl (fun K hK => ?_) AllReadyH.nil)
       go_simp
       go_at_call 20
       with_reducible refine (CSA.out Z5 qc dc qd dd DZ5.out RL3.out RL4.out).mono ?_
       rintro e Z6 ⟨rfl, B6⟩
       have DZ6 := hid (btr DZ5.out B6.out)
       clear B6
       (try go_wp2_with fail)
       refine hK.out _ _ ?_ (fun hHeld => ?_)
       ·(try dsimp only); exact HS.out _ DZ6.out
       clear hK K
       try simp only [List.getElem_toArray, List.getElem_cons_succ, List.getElem_cons_zero, Act.put, List.setIfInBounds_toArray, List.set_cons_zero, List.set_cons_succ]
       refine' wpAnyH_take (i := 39) (oi := _) (v := _) rfl (by kernel_rfl) (by kernel_rfl) (by kernel_rfl) (fun _ _ _ h => h) (Or.inl ⟨by kernel_rfl, ?hyq225⟩) (by assumption) ?restq225
       case hyq225 => (intro w hSw; (try dsimp only at hSw); go_simp; try (with_reducible rfl))
       try simp only [List.getElem_toArray, List.getElem_cons_succ, List.getElem_cons_zero, Act.put, List.setIfInBounds_toArray, List.set_cons_zero, List.set_cons_succ]
       refine' wpAnyH_take (i := 40) (oi := _) (v := _) rfl (by kernel_rfl) (by kernel_rfl) (by kernel_rfl) (fun _ _ _ h => h) (Or.inl ⟨by kernel_rfl, ?hyq226⟩) (by assumption) ?restq226
       case hyq226 => (intro w hSw; (try dsimp only at hSw); go_simp; try (with_reducible rfl))
       try simp only [List.getElem_toArray, List.getElem_cons_succ, List.getElem_cons_zero, Act.put, List.setIfInBounds_toArray, List.set_cons_zero, List.set_cons_succ]
       refine' wpAnyH_take (i := 41) (oi := _) (v := _) rfl (by kernel_rfl) (by kernel_rfl) (by kernel_rfl) (fun _ _ _ h => h) (Or.inl ⟨by kernel_rfl, ?hyq227⟩) (by assumption) ?restq227
       case hyq227 => (intro w hSw; (try dsimp only at hSw); go_simp; try (with_reducible rfl))
       try simp only [List.getElem_toArray, List.getElem_cons_succ, List.getElem_cons_zero, Act.put, List.setIfInBounds_toArray, List.set_cons_zero, List.set_cons_succ]
       refine' wpAnyH_take (i := 42) (oi := _) (v := _) rfl (by kernel_rfl) (by kernel_rfl) (by kernel_rfl) (fun _ _ _ h => h) (Or.inl ⟨by kernel_rfl, ?hyq228⟩) (by assumption) ?restq228
       case hyq228 => (intro w hSw; (try dsimp only at hSw); go_simp; try (with_reducible rfl))
       try simp only [List.getElem_toArray, List.getElem_cons_succ, List.getElem_cons_zero, Act.put, List.setIfInBounds_toArray, List.set_cons_zero, List.set_cons_succ]
       refine wpAnyH_done (by kernel_rfl) ?_ _
       go_wp2
       go_roundw
       case rel => exact ⟨i + 1, nma, nmb, gr, la, grb, lab, by omega, by go_num, by rw [HK1.out], hid (by rw [HK1.out]; have := HG.out; exact ⟨this.1, by omega, this.2.2.1, this.2.2.2, hk1n⟩), hid (by rw [HK1.out]; rw [if_pos (show f < i + 1 by omega)]; exact HTV.out.on DZ6.out), btr BVV.out DZ6.out⟩
       case measure => simp [intOf]; omega
  ·have hi5 : i = p := by omega
   subst hi5
   have hke := tl_end TL.out (by rw [HLL.out]; exact hp0)
   rw [HLL.out, HM0.out, HNA.out] at hke
   subst hke
   go_wp2
   go_ret
   exact ⟨rfl, btr HBB.out HB.out⟩
end Go.Proofs.Ytojmcfkbekodpaa
