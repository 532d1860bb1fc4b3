/-
  The document's Share, walked.
-/
import Derived.Test.YtkmlhchkidddmaaRfC
import Derived.Deep.RegionHeld3
namespace Go.Proofs.Ytkmlhchkidddmaa.Ss
open Go.RowKit Go.Deep BigM
set_option linter.unusedVariables false
set_option linter.unusedSimpArgs false
set_option maxHeartbeats 8000000
set_option maxRecDepth 100000
attribute [local go_sem ↓] Go.wp_at_zero Go.wp_at_succ
theorem refShare_ok (A S : Int) (ws : List Int) (b off cap : Nat) (w : World) (hA : Word A) (hws : ∀ x ∈ ws, Word x) (h0 : 0 < ws.length) (hn : ws.length ≤ 1048576) (hr : Rw w b off ws) (hS : sumL ws = S) (hS0 : 0 < S) (hS1 : S < 18446744073709551616) (pl : List Int) (ho : Ord (ws.map fun x => A * x % S) pl) :
    Calls Try.prog 11 #[.int .u64 A, .slice (some ⟨b, off, none⟩) ws.length cap] w fun e w' => ∃ v ps, e = .returned (.tuple #[v, .int .i64 0]) ∧ w'.ownsRow w.heap.size 22 1 v ws.length (ivw ps) ∧ ShAd A S ws ps ∧ Below w.heap.size w w' := by
  have C := hid (refSum_any ws b off cap w hws hn hr)
  rw [show sumV ws = S from by unfold sumV; rw [hS, if_pos hS1], show sumE ws = 0 from by unfold sumE; rw [hS, if_pos hS1]] at C
  have hsh := shr_of (A := A) (ws := ws) (by rw [hS]; exact hS0)
  rw [hS] at hsh
  obtain ⟨k, hk⟩ := Int.eq_ofNat_of_zero_le hsh.l0
  have hk1 := hsh.l1
  rw [hk] at hk1
  have HK := hid (And.intro (show k ≤ ((ws.map fun w => A * w % S).filter fun q => decide (0 < q)).length by omega) (show A = sumL (ws.map fun x => A * x / S) + k by omega))
  have HP := hid (show ∀ i, 0 ≤ sumL ((ws.map fun x => A * x / S).take i) ∧ sumL ((ws.map fun x => A * x / S).take i) ≤ A from fun i => by
    have h1 := sumL_take_le (ws.map fun x => A * x / S) (fun x hx => by
      obtain ⟨y, hy, rfl⟩ := List.mem_map.1 hx
      exact Int.ediv_nonneg (Int.mul_nonneg hA.1 (hws y hy).1) (by omega)) i
    have := hsh.l0
    omega)
  have HW := hid (show ∀ i, i < ws.length → Word (gd ws i) ∧ 0 ≤ gd ws i ∧ gd ws i ≤ S from fun i hi => ⟨hws _ (gd_mem hi), by rw [← hS]; exact word_le hws hi⟩)
  obtain ⟨n, hnn⟩ : ∃ n, ws.length = n := ⟨_, rfl⟩
  have HN := hid hnn
  rw [hnn] at C h0 hn ⊢
  have e0 : ((n : Int) == 0) = false := by simp; omega
  have eS : (S == 0) = false := by simp; omega
  have HR := hid hr
  have HA := hid hA
  have HO := hid ho
  have HRB := hid (rests_bd (A := A) (ws := ws) hS0)
  have HSS := hid (And.intro hS0 hS1)
  clear hr hws hS hnn hA hS0 hS1 hsh hk hk1 ho
  go_enter Try.func11, Try.ntmps11
  go_upto_region 8 with (go_at_call 18; with_reducible refine C.out.mono ?_; rintro e w1 ⟨rfl, h1⟩; have D1 := hid h1; clear h1)
  obtain ⟨W1, hW1⟩ : ∃ W, w1.alloc (.cells #[] 22) = W := ⟨_, rfl⟩
  obtain ⟨W2, hW2⟩ : ∃ W, W1.alloc (.cells #[] 45) = W := ⟨_, rfl⟩
  have B2 := hid (show Below w.heap.size w W2 from by rw [← hW2, ← hW1]; exact ((D1.out.alloc (D1.out.size) _).alloc (by simp; have := D1.out.size; omega) _))
  have hle9 := D1.out.size
  have O8 := hid (show W2.ownsRow w.heap.size 22 1 (.slice (some ⟨w1.heap.size, 0, none⟩) 0 0) 0 (ivw ((ws.map fun x => A * x / S).take 0)) from ⟨rfl, .inr ⟨w1.heap.size, 0, #[], rfl, hle9, by rw [← hW2, Below.heap_alloc _ _ _ (by rw [← hW1]; simp), ← hW1]; exact World.alloc_heap_new _ _, Nat.le_refl _, Nat.zero_le _, rfl, rfl⟩⟩)
  have O9 := hid (show W2.ownsRow w.heap.size 45 1 (.slice (some ⟨W1.heap.size, 0, none⟩) 0 0) 0 [] from ⟨rfl, .inr ⟨W1.heap.size, 0, #[], rfl, by rw [← hW1]; simp; omega, by rw [← hW2]; exact World.alloc_heap_new _ _, Nat.le_refl _, Nat.zero_le _, rfl, rfl⟩⟩)
  have RS0 := hid (RsI.start W2 (ws.map fun x => A * x % S))
  have H00 := hid (show A = A - sumL ((ws.map fun x => A * x / S).take 0) from by simp [sumL])
  clear C e0 eS hle9
  go_upto_region 11 with fail
  clear hW1 hW2 D1
  go_loopw [8, 9, 10, 11] (fun pv rv lv iv wr => ∃ i us, i ≤ n ∧ iv = .int .i64 (i : Nat) ∧ lv = .int .u64 (A - sumL ((ws.map fun x => A * x / S).take i)) ∧ Hid (wr.ownsRow w.heap.size 22 1 pv i (ivw ((ws.map fun x => A * x / S).take i))) ∧ Hid (wr.ownsRow w.heap.size 45 1 rv i us) ∧ Hid (RsI wr (ws.map fun x => A * x % S) i us) ∧ Hid (Below w.heap.size w wr)) (fun _ _ _ iv _ => n - (intOf iv).toNat)
  case atStart => exact ⟨0, [], Nat.zero_le _, rfl, by rw [← H00.out], O8, O9, RS0, B2⟩
  case round =>
    obtain ⟨i, us, hin, rfl, rfl, V8, V9, VR, BW⟩ := hrel
    clear O8 O9 RS0 B2 H00
    by_cases hlt : i < n
    · have hi : i < ws.length := by rw [HN.out]; exact hlt
      have HC := hid (show ∀ U, Below wr.heap.size wr U → U.cell? ⟨b, off + i, none⟩ = some (.int .u64 (gd ws i)) from fun U hU => (HR.out.on (BW.out.trans (hU.mono BW.out.size))).2 i hi)
      obtain ⟨wd, wz, wle⟩ := HW.out i hi
      have hst := sumL_take_gd hi (fun x => A * x / S)
      have p0 := HP.out i
      have p1 := HP.out (i + 1)
      have GP := hid (gd_map (f := fun x => A * x / S) hi)
      have GR := hid (gd_map (f := fun x => A * x % S) hi)
      have HIV := hid (ivw_next (l := ws.map fun x => A * x / S) (i := i) (by rw [List.length_map]; exact hi) GP.out)
      obtain ⟨x, hx⟩ : ∃ x, gd ws i = x := ⟨_, rfl⟩
      rw [hx] at HC wd wz wle hst GP GR HIV
      have BX := hid (word_bd HA.out wd)
      have COA := hid (fun U => of_any A U HA.out)
      have COX := hid (fun U => of_any x U wd)
      have COS := hid (fun U => of_any S U ⟨by have := HSS.out.1; omega, HSS.out.2⟩)
      have HX := hid (show A < pw 1000 ∧ x < pw 1000 ∧ S < pw 900 from by have := wd.2; have := HA.out.2; have := HSS.out.2; have := pw3; have := pw4; omega)
      obtain ⟨T, hT⟩ : ∃ T, sumL ((ws.map fun x => A * x / S).take i) = T := ⟨_, rfl⟩
      rw [hT] at hst p0 ⊢
      rw [hst] at p1
      have hq1 : 0 ≤ A * x / S ∧ A * x / S < 18446744073709551616 := by have := HA.out.2; exact ⟨Int.ediv_nonneg BX.out.1 (by have := HSS.out.1; omega), by omega⟩
      have WQ := wordV_of hq1.2
      have wl : IntKind.u64.wrap (A - T - A * x / S) = A - (T + A * x / S) := by rw [IntKind.wrap_u64]; have := HA.out.2; have := HA.out.1; omega
      have HST := hid hst
      have HLT := hid hlt
      have i0 : (0 : Int) ≤ (i : Int) := by omega
      have i1 : (i : Int) < (n : Int) := by omega
      have wi : IntKind.i64.wrap ((i : Int) + 1) = ((i + 1 : Nat) : Int) := by rw [IntKind.wrap_i64]; omega
      obtain ⟨q8, d8, rfl⟩ := own_form V8.out
      obtain ⟨q9, d9, rfl⟩ := own_form V9.out
      have c0 := HC.out _ (Below.refl _ _)
      clear wd wz wle hst p0 p1 hx hT
      go_upto_region 13 with fail
      have BD := hid (show Below wr.heap.size wr wr.drew from below_drewN (Below.refl _ wr) 1)
      have cd := HC.out _ BD.out
      go_region_held3 (fun U => U.cell? ⟨b, off + i, none⟩ = some (.int .u64 x)) (go_keep) (first | (go_at_call 17; with_reducible refine (COA.out _).mono ?_; rintro e w1 ⟨⟨u1, rfl, h1⟩, h2⟩; have N1 := hid h1; have L1 := hid (BD.out.trans (h2.mono BD.out.size)); have c1 := HC.out _ L1.out; clear h1 h2) | (go_at_call 17; with_reducible refine (COX.out _).mono ?_; rintro e w2 ⟨⟨u2, rfl, h1⟩, h2⟩; have N2 := hid h1; have N1' := hid (N1.out.to h2); have L2 := hid (L1.out.trans (h2.mono L1.out.size)); have c2 := HC.out _ L2.out; clear h1 h2) | (go_at_call 20; with_reducible refine (times_any _ _ _ _ _ N1'.out N2.out HX.out.1 HX.out.2.1).mono ?_; rintro e w3 ⟨⟨u3, rfl, h1⟩, h2⟩; have N3 := hid h1; have L3 := hid (L2.out.trans (h2.mono L2.out.size)); have c3 := HC.out _ L3.out; clear h1 h2) | (go_at_call 17; with_reducible refine (COS.out _).mono ?_; rintro e w4 ⟨⟨u4, rfl, h1⟩, h2⟩; have N4 := hid h1; have N3' := hid (N3.out.to h2); have L4 := hid (L3.out.trans (h2.mono L3.out.size)); have c4 := HC.out _ L4.out; clear h1 h2) | (go_at_call 19; with_reducible refine (divided_any _ _ _ _ _ N3'.out N4.out BX.out.2 HSS.out.1 HX.out.2.2).mono ?_; rintro e w5 ⟨u5, u6, rfl, h1, h2, h3⟩; have N5 := hid h1; have N6 := hid h2; have L5 := hid (L4.out.trans (h3.mono L4.out.size)); have c5 := HC.out _ L5.out; clear h1 h2 h3))
      have O8 := hid (own_on V8.out L5.out)
      have O9 := hid (own_on V9.out L5.out)
      have RR := hid (VR.out.dg (Dg.below L5.out))
      have B5 := hid (BW.out.trans (L5.out.mono BW.out.size))
      clear V8 V9 VR BD cd c0 c1 c2 c3 c4 c5 N1 N1' N2 N3 N3' N4 L1 L2 L3 L4 L5 COA COX COS HX HC
      go_upto_region 15 with (go_at_call 15; with_reducible refine (word_any _ _ _ N5.out).mono ?_; rintro e w9 ⟨rfl, h1⟩; have h1 := h1.symm; subst h1; rw [WQ.1, WQ.2])
      clear N5 WQ
      obtain ⟨qq, hqq⟩ : ∃ q, A * x / S = q := ⟨_, rfl⟩
      obtain ⟨W6, hW6⟩ : ∃ W, w5.alloc (.cells #[.int .u64 qq] 22) = W := ⟨_, rfl⟩
      rw [hqq] at wl HST HIV hq1 ⊢
      have A6 := hid (show Below w5.heap.size w5 W6 from by rw [← hW6]; exact (Below.refl _ _).alloc (Nat.le_refl _) _)
      have R6 := hid (rd_one (w := w5) (.int .u64 qq) 22)
      rw [hW6] at R6
      have O8' := hid (own_on O8.out A6.out)
      have O9' := hid (own_on O9.out A6.out)
      have RR' := hid (RR.out.dg (Dg.below A6.out))
      have N6' := hid (N6.out.to A6.out)
      have B6 := hid (B5.out.trans (A6.out.mono B5.out.size))
      clear O8 O9 RR N6
      go_upto_region 16 with (at_builtin; refine wpList_app_rd (by rfl) (.tmp 59) (.tmp 61) 24 22 _ 1 8 (by rfl) Try.underlying24 infoW rfl (by decide) w.heap.size _ i _ (by rfl) O8'.out (some ⟨w5.heap.size, 0, none⟩) 1 1 [.int .u64 qq] (by rfl) (fun e => by cases e) rfl R6.out (fun u hu => by simp at hu; subst hu; rfl) (by unfold maxLen; omega) (by omega) B6.out.size ?_; intro v' w7 hown hgrow; have O7 := hid hown; have G7 := hid hgrow; clear hown hgrow)
      have T8 := hid (fun g hg => own_ty O8'.out (g := g) hg)
      have DD7 := hid (Dg.grown G7.out (show (22 : TypeId) ≠ 30 by decide) T8.out)
      have P9 := hid (own_grown O9'.out G7.out (show (45 : TypeId) ≠ 22 by decide) T8.out)
      have P8 := hid (show w7.ownsRow w.heap.size 22 1 v' (i + 1) (ivw ((ws.map fun x => A * x / S).take (i + 1))) from by rw [← HIV.out]; exact O7.out)
      have PR := hid (RR'.out.dg DD7.out)
      have P6 := hid (Bn.dg N6'.out DD7.out)
      have B7 := hid (below_app9 B6.out O8'.out G7.out)
      clear T8 DD7 O8' O9' RR' N6' B6 G7 O7 R6 A6 B5
      obtain ⟨q6, m6, d6, rfl⟩ := bn_form P6.out
      obtain ⟨p8, e8, rfl⟩ := own_form P8.out
      obtain ⟨W8, hW8⟩ : ∃ W, w7.alloc (.cells #[.slice q6 m6 d6] 45) = W := ⟨_, rfl⟩
      have A8 := hid (show Below w7.heap.size w7 W8 from by rw [← hW8]; exact (Below.refl _ _).alloc (Nat.le_refl _) _)
      have R8 := hid (rd_one (w := w7) (.slice q6 m6 d6) 45)
      rw [hW8] at R8
      have Q8 := hid (own_on P8.out A8.out)
      have Q9 := hid (own_on P9.out A8.out)
      have QR := hid (PR.out.dg (Dg.below A8.out))
      have Q6 := hid (P6.out.to A8.out)
      have B8 := hid (B7.out.trans (A8.out.mono B7.out.size))
      clear P8 P9 PR P6 B7
      go_upto_region 17 with (at_builtin; refine wpList_app_rd (by rfl) (.tmp 63) (.tmp 65) 49 45 _ 1 24 (by rfl) Try.underlying49 infoR rfl (by decide) w.heap.size _ i _ (by rfl) Q9.out (some ⟨w7.heap.size, 0, none⟩) 1 1 [.slice q6 m6 d6] (by rfl) (fun e => by cases e) rfl R8.out (fun u hu => by simp at hu; subst hu; rfl) (by unfold maxLen; omega) (by omega) B8.out.size ?_; intro v'' w9 hown hgrow; have O9 := hid hown; have G9 := hid hgrow; clear hown hgrow)
      have T9 := hid (fun g hg => own_ty Q9.out (g := g) hg)
      have DD9 := hid (Dg.grown G9.out (show (45 : TypeId) ≠ 30 by decide) T9.out)
      have S8 := hid (own_grown Q8.out G9.out (show (22 : TypeId) ≠ 45 by decide) T9.out)
      have SR := hid ((QR.out.dg DD9.out).next (by rw [GR.out]; exact Bn.dg Q6.out DD9.out))
      have B9 := hid (below_app9 B8.out Q9.out G9.out)
      clear T9 DD9 Q8 Q9 QR Q6 B8 G9 R8 A8
      go_wp2
      go_roundw
      case rel => exact ⟨i + 1, _, HLT.out, by go_num, by rw [HST.out], S8, O9, SR, B9⟩
      case measure => have := HLT.out; simp [intOf]; omega
    · obtain rfl : i = n := by omega
      have eP : (ws.map fun x => A * x / S).take i = ws.map fun x => A * x / S := List.take_of_length_le (by rw [List.length_map, HN.out]; exact Nat.le_refl _)
      rw [eP] at V8 ⊢
      obtain ⟨q8, d8, rfl⟩ := own_form V8.out
      obtain ⟨q9, d9, rfl⟩ := own_form V9.out
      obtain ⟨g8, rfl, b8⟩ := own_addr h0 V8.out
      obtain ⟨g9, rfl, b9⟩ := own_addr h0 V9.out
      have HGN := hid (own_ne V8.out V9.out (by decide))
      have HGB := hid (And.intro b8 b9)
      have eK : A - sumL (ws.map fun x => A * x / S) = ((k : Nat) : Int) - ((0 : Nat) : Int) := by have := HK.out.2; omega
      rw [eK]
      have K0 := hid (Pk.start (ws.map fun x => A * x % S) pl)
      have AD0 := hid (Ad.start (ws.map fun x => A * x / S) pl)
      have i0 : (0 : Int) ≤ (i : Int) := by omega
      have HLR := hid (show (ws.map fun x => A * x % S).length = i from by rw [List.length_map]; exact HN.out)
      have HLP := hid (show (ws.map fun x => A * x / S).length = i from by rw [List.length_map]; exact HN.out)
      clear eP eK b8 b9
      go_upto_region 18 with fail
      go_loopw [10] (fun lv wr => ∃ t ps R us, t ≤ k ∧ lv = .int .u64 ((k : Nat) - (t : Nat) : Int) ∧ Hid (wr.ownsRow w.heap.size 22 1 (.slice (some ⟨g8, 0, none⟩) i d8) i (ivw ps)) ∧ Hid (wr.ownsRow w.heap.size 45 1 (.slice (some ⟨g9, 0, none⟩) i d9) i us) ∧ Hid (RsI wr R i us) ∧ Hid (Pk (ws.map fun x => A * x % S) pl R t) ∧ Hid (Ad (ws.map fun x => A * x / S) pl ps t) ∧ Hid (Below w.heap.size w wr)) (fun lv _ => (intOf lv).toNat)
      case atStart => exact ⟨0, _, _, us, Nat.zero_le _, rfl, V8, V9, VR, K0, AD0, BW⟩
      case round =>
        clear V8 V9 VR BW K0 AD0
        obtain ⟨t, ps, R, us, htk, rfl, V8, V9, VR, PK, AD, BW⟩ := hrel
        by_cases hlt : t < k
        · obtain ⟨z, hz⟩ : ∃ z : Int, ((k : Nat) : Int) - ((t : Nat) : Int) = z := ⟨_, rfl⟩
          rw [hz]
          have zp : (0 : Int) < z := by omega
          have wz : IntKind.u64.wrap (z - 1) = ((k : Nat) : Int) - ((t + 1 : Nat) : Int) := by
            rw [IntKind.wrap_u64]
            have := HK.out.2
            have := HA.out.2
            have h9 := (HP.out i).1
            rw [List.take_of_length_le (by rw [HLP.out]; exact Nat.le_refl _)] at h9
            omega
          have HT := hid (show t < (((ws.map fun w => A * w % S)).filter fun q => decide (0 < q)).length from by have := HK.out.1; omega)
          have HTN := hid (show t < i from by
            have h1 := HT.out
            have := List.length_filter_le (fun q => decide (0 < q)) (ws.map fun w => A * w % S)
            have := HLR.out
            omega)
          have HLT := hid hlt
          have HZ := hid hz
          have HLp := hid (show ps.length = i from by rw [AD.out.len]; exact HLP.out)
          have HLRR := hid (show R.length = i from by rw [PK.out.len]; exact HLR.out)
          have BS0 := hid (Bs.start R)
          clear htk hlt hz
          go_upto_region 22 with fail
          obtain ⟨V, hV⟩ : ∃ V, V = wr := ⟨_, rfl⟩
          subst hV
          go_loopw [16, 17] (fun bv kv wr => ∃ bb kk, kk ≤ i ∧ kv = .int .i64 (kk : Nat) ∧ bv = .int .i64 (bb : Nat) ∧ Hid (Bs R kk bb) ∧ Hid (Below V.heap.size V wr)) (fun _ kv _ => i - (intOf kv).toNat)
          case atStart => exact ⟨0, 1, h0, rfl, rfl, BS0, Below.refl _ _⟩
          case round =>
            clear BS0
            obtain ⟨bb, kk, hki, rfl, rfl, BS, BV⟩ := hrel
            have hbk := BS.out.lt
            by_cases hlk : kk < i
            · obtain ⟨uk, ek, nk⟩ := VR.out.2 kk hlk
              obtain ⟨ub, eb, nb⟩ := VR.out.2 bb (by omega)
              have HC := hid (show ∀ U, Below V.heap.size V U → U.cell? ⟨g9, kk, none⟩ = some uk ∧ U.cell? ⟨g9, bb, none⟩ = some ub from fun U hU => ⟨own_at (own_on V9.out hU) ek, own_at (own_on V9.out hU) eb⟩)
              have BD := hid (show Below V.heap.size V wr.drew from below_drewN BV.out 1)
              have NK := hid (nk.to BD.out)
              have NB := hid (nb.to BD.out)
              have bk9 := PK.out.bd HRB.out (i := kk) (by rw [HLR.out]; exact hlk)
              have bb9 := PK.out.bd HRB.out (i := bb) (by rw [HLR.out]; omega)
              have HBD := hid (show gd R kk < pw 1000 ∧ gd R bb < pw 1000 from by have := HSS.out.2; have := pw4; omega)
              obtain ⟨pk, mk, dk, rfl⟩ := bn_form nk
              obtain ⟨pb, mb, db, rfl⟩ := bn_form nb
              have c0 := HC.out _ BV.out
              have c1 := HC.out _ BD.out
              obtain ⟨c01, c02⟩ := c0
              obtain ⟨c11, c12⟩ := c1
              have k0 : (0 : Int) ≤ (kk : Int) := by omega
              have k1 : (kk : Int) < (i : Int) := by omega
              have b0 : (0 : Int) ≤ (bb : Int) := by omega
              have b1 : (bb : Int) < (i : Int) := by omega
              have wk : IntKind.i64.wrap ((kk : Int) + 1) = ((kk + 1 : Nat) : Int) := by rw [IntKind.wrap_i64]; omega
              have HLK := hid hlk
              clear ek eb nk nb bk9 bb9 hbk hki hlk
              by_cases hc : gd R bb < gd R kk
              · have e1 : cmpI (gd R kk) (gd R bb) = 1 := by unfold cmpI; rw [if_neg (by omega), if_pos hc]
                have CC := hid (compare_below _ _ _ _ _ NK.out NB.out HBD.out.1 HBD.out.2)
                rw [e1] at CC
                have NX := hid (BS.out.up hc)
                clear e1 hc
                go_upto_region 24 with fail
                go_region_held3 (fun U => U.cell? ⟨g9, kk, none⟩ = some (.slice pk mk dk) ∧ U.cell? ⟨g9, bb, none⟩ = some (.slice pb mb db)) (go_keep) (first | (go_at_call 21; with_reducible refine CC.out.mono ?_; rintro e w5 ⟨rfl, h1⟩; have L5 := hid (BD.out.trans (h1.mono BD.out.size)); have c5 := HC.out _ L5.out; obtain ⟨c51, c52⟩ := c5; clear h1))
                go_wp2
                go_roundw
                case rel => exact ⟨kk, kk + 1, HLK.out, by go_num, rfl, NX, L5⟩
                case measure => have := HLK.out; simp [intOf]; omega
              · obtain ⟨v, hv⟩ : ∃ v, cmpI (gd R kk) (gd R bb) = v := ⟨_, rfl⟩
                have v0 : ¬ 0 < v := by rw [← hv]; unfold cmpI; rw [if_neg hc]; split <;> omega
                have v1 : decide (0 < v) = false := decide_eq_false v0
                have CC := hid (compare_below _ _ _ _ _ NK.out NB.out HBD.out.1 HBD.out.2)
                rw [hv] at CC
                have NX := hid (BS.out.stay hc)
                clear hv hc
                go_upto_region 24 with fail
                go_region_held3 (fun U => U.cell? ⟨g9, kk, none⟩ = some (.slice pk mk dk) ∧ U.cell? ⟨g9, bb, none⟩ = some (.slice pb mb db)) (go_keep) (first | (go_at_call 21; with_reducible refine CC.out.mono ?_; rintro e w5 ⟨rfl, h1⟩; have L5 := hid (BD.out.trans (h1.mono BD.out.size)); have c5 := HC.out _ L5.out; obtain ⟨c51, c52⟩ := c5; clear h1))
                go_wp2
                go_roundw
                case rel => exact ⟨bb, kk + 1, HLK.out, by go_num, rfl, NX, L5⟩
                case measure => have := HLK.out; simp [intOf]; omega
            · obtain rfl : kk = i := by omega
              have hpl := PK.out.best HO.out (fun q hq => (HRB.out q hq).1) HT.out (by rw [HLR.out]; exact BS.out)
              have NP := hid (PK.out.next (by rw [HO.out.len, HLR.out]; exact HTN.out) (by rw [HLR.out]; exact hbk) hpl)
              have NA := hid (AD.out.next HO.out (by rw [HLR.out]; exact HTN.out) (by rw [HLP.out, HLR.out]) (by rw [HLR.out]; exact hbk) hpl)
              obtain ⟨r0, r1⟩ := AD.out.room HA.out.1 HSS.out.1 (fun i hi => (HW.out i hi).2) HO.out HK.out.1 HLT.out (by rw [HN.out]; exact hbk) hpl
              have W8 := own_on V8.out BV.out
              have W9 := own_on V9.out BV.out
              have c8 := own_at W8 (ivw_get (l := ps) (i := bb) (by rw [HLp.out]; exact hbk))
              have f8 := own_frz W8 bb
              obtain ⟨x, hx⟩ : ∃ x, gd ps bb = x := ⟨_, rfl⟩
              rw [hx] at c8 r0 r1 NA
              have wx : IntKind.u64.wrap (x + 1) = x + 1 := by rw [IntKind.wrap_u64]; have := HA.out.2; omega
              obtain ⟨X1, hX1⟩ : ∃ X, wr.setCell ⟨g8, bb, none⟩ (.int .u64 (x + 1)) = X := ⟨_, rfl⟩
              obtain ⟨X2, hX2⟩ : ∃ X, X1.alloc (.cells #[] 30) = X := ⟨_, rfl⟩
              have Y8 := own_set W8 bb (.int .u64 (x + 1))
              rw [ivw_set, hX1] at Y8
              have Y9 := own_other (i := bb) (v := .int .u64 (x + 1)) W9 HGN.out.symm
              rw [hX1] at Y9
              obtain ⟨cu8, hc8⟩ := own_row W8
              have D1 : Dg wr X1 := by rw [← hX1]; exact Dg.set (by decide) hc8
              have Z2 : Below X1.heap.size X1 X2 := by rw [← hX2]; exact (Below.refl _ _).alloc (Nat.le_refl _) _
              have Z8 := own_on Y8 Z2
              have Z9 := own_on Y9 Z2
              obtain ⟨cu9, hc9⟩ := own_row Z9
              have f9 := own_frz Z9 bb
              obtain ⟨u9, eu9, _⟩ := VR.out.2 bb hbk
              have c9 := own_at Z9 eu9
              have N0 : Bn X2 (.slice (some ⟨X1.heap.size, 0, none⟩) 0 0) 0 := by rw [← hX2]; exact bn_nil X1
              have RR := ((VR.out.dg (Dg.below BV.out)).dg D1).dg (Dg.below Z2)
              have BX := BW.out.trans (BV.out.mono BW.out.size)
              have BX1 : Below w.heap.size w X1 := by rw [← hX1]; exact below_set BX HGB.out.1
              have BX2 := BX1.trans (Z2.mono BX1.size)
              have E8 := hid (own_other (i := bb) (v := .slice (some ⟨X1.heap.size, 0, none⟩) 0 0) Z8 HGN.out)
              have E9 := hid (own_set Z9 bb (.slice (some ⟨X1.heap.size, 0, none⟩) 0 0))
              have D3 : Dg X2 (X2.setCell ⟨g9, bb, none⟩ (.slice (some ⟨X1.heap.size, 0, none⟩) 0 0)) := Dg.set (by decide) hc9
              have ER := hid ((RR.set HLRR.out hbk N0).dg D3)
              have EB := hid (below_set (i := bb) (v := .slice (some ⟨X1.heap.size, 0, none⟩) 0 0) BX2 HGB.out.2)
              have b0 : (0 : Int) ≤ (bb : Int) := by omega
              have b1 : (bb : Int) < (kk : Int) := by omega
              clear W8 W9 r0 r1 hx Y8 Y9 hc8 D1 Z2 Z8 Z9 hc9 N0 RR BX BX1 BX2 D3 eu9 hpl hbk
              go_wp2
              go_roundw
              case rel => exact ⟨t + 1, _, _, _, HLT.out, by go_num, E8, E9, ER, NP, NA, EB⟩
              case measure => have h9 := HZ.out; have h8 := HLT.out; simp [intOf]; omega
        · obtain rfl : t = k := by omega
          have zz : ((t : Nat) : Int) - ((t : Nat) : Int) = 0 := by omega
          rw [zz]
          have HSH := hid (show ShAd A S ws ps from ⟨pl, t, HO.out, AD.out, HK.out.2⟩)
          go_wp2
          go_ret2
          exact ⟨_, ps, rfl, V8.out, HSH.out, BW.out⟩
end Go.Proofs.Ytkmlhchkidddmaa.Ss
