/-
  The document's changes.
-/
import Derived.Test.YtiphgfghdbmlcaaFeX
namespace Go.Proofs.Ytiphgfghdbmlcaa
open Go.RowKit Go.Deep
set_option linter.unusedVariables false
set_option linter.unusedSimpArgs false
set_option maxHeartbeats 8000000
set_option maxRecDepth 100000
theorem rchanges_any (s : Int) (p1 p2 : Option Addr) (c1 c2 : Nat) (A B : List Lv) (w : World) (h1 : Rl w p1 c1 A) (h2 : Rl w p2 c2 B) (k1 : Lok s A) (k2 : Lok s B) (hs : A.length + B.length ≤ 1000000) :
    Calls Try.prog 33 #[.int .i64 s, .slice p1 A.length c1, .slice p2 B.length c2] w fun e w' => ∃ q d, e = .returned (.slice q (chg s A B).length d) ∧ Dw w.heap.size w' q d (chg s A B) ∧ Below w.heap.size w w' := by
  have hmax1 := h1.max
  have hcap1 := h1.cap
  have hmax2 := h2.max
  have hcap2 := h2.cap
  unfold maxLen at hmax1 hmax2
  have HL1 := hid h1
  have HL2 := hid h2
  have HK1 := hid k1
  have HK2 := hid k2
  have AA := hid (fun (x : Int) (U : World) (hU : Below w.heap.size w U) => at_any x p1 c1 A U (h1.on hU))
  have AB := hid (fun (x : Int) (U : World) (hU : Below w.heap.size w U) => at_any x p2 c2 B U (h2.on hU))
  have WO := hid (fun (x y : Int) (U : World) => worse_any s x y U)
  have HCL := hid (chg_len s A B)
  obtain ⟨n1, hn1⟩ : ∃ n, A.length = n := ⟨_, rfl⟩
  obtain ⟨n2, hn2⟩ : ∃ n, B.length = n := ⟨_, rfl⟩
  have HN1 := hid hn1
  have HN2 := hid hn2
  rw [hn1] at hcap1 hs AA ⊢
  rw [hn2] at hcap2 hs AB ⊢
  clear h1 h2 k1 k2 hn1 hn2
  go_enter Try.func33, Try.ntmps33
  go_wp2
  go_loopw [7, 8, 9] (fun ov iv kv wr => ∃ (i k : Nat) (q : Option Addr) (m d : Nat) (L : List Dm), i ≤ n1 ∧ k ≤ n2 ∧ ov = .slice q m d ∧ iv = .int .i64 i ∧ kv = .int .i64 k ∧ Hid (m = L.length) ∧ Hid (wr.ownsRow w.heap.size 48 6 (.slice q m d) m (dvc L)) ∧ Hid (L ++ chg s (A.drop i) (B.drop k) = chg s A B) ∧ Hid (Mg s A B i k) ∧ Hid (Below w.heap.size w wr)) (fun _ iv kv _ => (n1 - (intOf iv).toNat) + (n2 - (intOf kv).toNat))
  case atStart => exact ⟨0, 0, none, 0, 0, [], by omega, by omega, rfl, rfl, rfl, rfl, own_nil _ _ _ _, by simp [hid], Mg.zero _ _ _, Below.refl _ _⟩
  case round =>
    obtain ⟨i, k, q, m, d, L, hi, hk, rfl, rfl, rfl, HM, HO, HE, HG, HB⟩ := hrel
    have hm : m ≤ 1000000 := by
      have a := HCL.out
      rw [← HE.out, List.length_append, ← HM.out, HN1.out, HN2.out] at a
      omega
    have i0 : (0 : Int) ≤ (i : Int) := by omega
    have k0 : (0 : Int) ≤ (k : Int) := by omega
    by_cases hik : i < n1
    · have hiA : i < A.length := by have := HN1.out; omega
      obtain ⟨g1, o1, rfl, _, a0, _, _⟩ := (HL1.out.on HB.out).cells hiA
      obtain ⟨x, hx⟩ : ∃ x, A[i] = x := ⟨_, rfl⟩
      rw [hx] at a0
      have HXA := hid hx
      have i1 : (i : Int) < (n1 : Int) := by omega
      have I2 := hid (show ((i : Int) == (n1 : Int)) = false by simp; omega)
      have i3 : decide (i < n1) = true := by simp; omega
      clear hx
      by_cases hkk : k < n2
      · have hkB : k < B.length := by have := HN2.out; omega
        obtain ⟨g2, o2, rfl, _, b0, _, _⟩ := (HL2.out.on HB.out).cells hkB
        obtain ⟨y, hy⟩ : ∃ y, B[k] = y := ⟨_, rfl⟩
        rw [hy] at b0
        have HYB := hid hy
        have k1 : (k : Int) < (n2 : Int) := by omega
        have k2 : ((k : Int) == (n2 : Int)) = false := by simp; omega
        have W1 := hid (fun (U : World) => WO.out y.pr x.pr U)
        have W2 := hid (fun (U : World) => WO.out x.pr y.pr U)
        clear hy
        cases hb1 : bt s x.pr y.pr with
        | true =>
          rw [hb1] at W1
          have HC := hid (show ∀ hk : k < B.length, bt s A[i].pr B[k].pr = true from fun _ => by rw [HXA.out, HYB.out]; exact hb1)
          clear hb1
          have hza : atL A x.pr = x := by rw [← HXA.out]; exact HK1.out.self hiA
          have hzb : atL B x.pr = lv0 := by rw [← HXA.out]; exact HG.out.noneR HK2.out hiA HC.out
          have CA := hid (fun (U : World) (hU : Below w.heap.size w U) => AA.out x.pr U hU)
          have CB := hid (fun (U : World) (hU : Below w.heap.size w U) => AB.out x.pr U hU)
          rw [hza] at CA
          rw [hzb] at CB
          obtain ⟨za, eza⟩ : ∃ z, x = z := ⟨_, rfl⟩
          obtain ⟨zb, ezb⟩ : ∃ z, lv0 = z := ⟨_, rfl⟩
          have HX := hid (show chg s (A.drop i) (B.drop k) = ⟨0, 1, s, x.pr, zb.qt, zb.ct⟩ :: chg s (A.drop (i + 1)) (B.drop (k)) from by rw [chg_left hiA HC.out, HXA.out, ← ezb]; rfl)
          have NE : za ≠ zb := by rw [← eza, ← ezb, ← HXA.out]; exact HK1.out.nz hiA
          have q1 : ∀ U, (Op.equalIn 10000 89 (.agg #[.int .i64 za.pr, .int .u64 za.qt, .int .i64 za.ct]) (.agg #[.int .i64 zb.pr, .int .u64 zb.qt, .int .i64 zb.ct])).run Try.prog U = .ok false U := fun U => by rw [eqL_at]; simp [NE]
          have HG2 := hid (HG.out.left HK1.out HK2.out hiA HC.out)
          obtain ⟨P, eP⟩ : ∃ z, x.pr = z := ⟨_, rfl⟩
          have CA2 := hid (show ∀ (U : World), Below w.heap.size w U → Calls Try.prog 54 #[.slice (some ⟨g1, o1, none⟩) n1 c1, .int .i64 P] U fun e w' => e = .returned (.agg #[.int .i64 za.pr, .int .u64 za.qt, .int .i64 za.ct]) ∧ Below U.heap.size U w' from fun U hU => by rw [← eP, ← eza]; exact CA.out U hU)
          have CB2 := hid (show ∀ (U : World), Below w.heap.size w U → Calls Try.prog 54 #[.slice (some ⟨g2, o2, none⟩) n2 c2, .int .i64 P] U fun e w' => e = .returned (.agg #[.int .i64 zb.pr, .int .u64 zb.qt, .int .i64 zb.ct]) ∧ Below U.heap.size U w' from fun U hU => by rw [← eP, ← ezb]; exact CB.out U hU)
          rw [eP] at a0 HX
          rw [eP] at W1 W2
          clear CA CB hza hzb eza ezb NE eP
          go_upto_region 8 with fail
          go_quiet ((go_at_call 53; with_reducible exact Calls.quiet_of_same (W1.out _)))
          go_upto_region 15 with (first | (go_at_call 54; with_reducible refine (CA2.out _ (btr HB.out (bdrew _ _))).mono ?_; rintro e w1 ⟨rfl, hb⟩; have HBa := hid (btr (btr HB.out (bdrew _ _)) hb); have HBb := hid (btr (bdrew wr _) hb); clear hb CA2) | (go_at_call 54; with_reducible refine (CB2.out w1 HBa.out).mono ?_; rintro e w2 ⟨rfl, hb⟩; have HBc := hid (btr HBa.out hb); have HBd := hid (btr HBb.out hb); clear hb))
          obtain ⟨V, hV⟩ : ∃ V, (w2.alloc (.cells #[.int .i64 za.pr, .int .u64 za.qt, .int .i64 za.ct] 89)).alloc (.cells #[.int .i64 zb.pr, .int .u64 zb.qt, .int .i64 zb.ct] 89) = V := ⟨_, rfl⟩
          obtain ⟨R, hR⟩ : ∃ R, w2.heap.size = R := ⟨_, rfl⟩
          obtain ⟨hb0, x0, x1, hsz⟩ := alloc2 hR hV
          have HV := hid (btr HBc.out hb0)
          have HVr := hid (btr HBd.out hb0)
          obtain ⟨r0, r1, r2⟩ := row3 (x0 _ _ rfl)
          obtain ⟨t0, t1, t2⟩ := row3 (x1 _ _ rfl)
          rw [hV, hR]
          clear hb0 x0 x1 hsz hV hR HBa HBb HBc HBd
          have HOv := hid (own_on HO.out (btr HVr.out (ball V (.cells #[.int .u64 0, .int .i64 1, .int .i64 s, .int .i64 P, .int .u64 zb.qt, .int .i64 zb.ct] 48))))
          have HBv := hid (btr HV.out (ball V (.cells #[.int .u64 0, .int .i64 1, .int .i64 s, .int .i64 P, .int .u64 zb.qt, .int .i64 zb.ct] 48)))
          have RN := hid (rd_new V ⟨0, 1, s, P, zb.qt, zb.ct⟩)
          have HLN := hid (dvc_len [⟨0, 1, s, P, zb.qt, zb.ct⟩])
          go_wp2_with (at_builtin; refine wpList_app_rd (by rfl) (.tmp 99) (.tmp 107) 39 48 _ 6 48 (by rfl) Try.underlying39 infoD6 rfl (by decide) w.heap.size _ m (dvc L) (by rfl) HOv.out (some ⟨V.heap.size, 0, none⟩) 1 1 (dvc [⟨0, 1, s, P, zb.qt, zb.ct⟩]) (by rfl) (fun e => by cases e) HLN.out RN.out (dvc_one _) (by unfold maxLen; omega) (by omega) HBv.out.size ?_; intro v' w3 hown hgrow; obtain ⟨q3, d3, rfl⟩ := own_form hown; have HO3 := hid hown; have HB3 := hid (below_grown (base := 0) HBv.out HOv.out hgrow); clear hown hgrow)
          go_roundw
          case rel => exact ⟨i + 1, k, q3, m + 1, d3, L ++ [⟨0, 1, s, P, zb.qt, zb.ct⟩], by omega, by omega, rfl, by go_num, by go_num, by rw [List.length_append, ← HM.out]; rfl, by rw [dvc_app]; exact HO3.out, by rw [List.append_assoc, List.singleton_append, ← HX.out]; exact HE.out, HG2.out, HB3.out⟩
          case measure => simp [intOf]; omega
        | false =>
          rw [hb1] at W1
          have HB1 := hid hb1
          cases hb2 : bt s y.pr x.pr with
          | true =>
            rw [hb2] at W2
            have HC := hid (show ∀ hi : i < A.length, bt s B[k].pr A[i].pr = true from fun _ => by rw [HXA.out, HYB.out]; exact hb2)
            clear hb1 hb2
            have hza : atL A y.pr = lv0 := by rw [← HYB.out]; exact HG.out.noneL HK1.out hkB HC.out
            have hzb : atL B y.pr = y := by rw [← HYB.out]; exact HK2.out.self hkB
            have CA := hid (fun (U : World) (hU : Below w.heap.size w U) => AA.out y.pr U hU)
            have CB := hid (fun (U : World) (hU : Below w.heap.size w U) => AB.out y.pr U hU)
            rw [hza] at CA
            rw [hzb] at CB
            obtain ⟨za, eza⟩ : ∃ z, lv0 = z := ⟨_, rfl⟩
            obtain ⟨zb, ezb⟩ : ∃ z, y = z := ⟨_, rfl⟩
            have HX := hid (show chg s (A.drop i) (B.drop k) = ⟨0, 1, s, y.pr, zb.qt, zb.ct⟩ :: chg s (A.drop (i)) (B.drop (k + 1)) from by rw [chg_right hkB HC.out, HYB.out, ← ezb]; rfl)
            have NE : za ≠ zb := by rw [← eza, ← ezb, ← HYB.out]; exact (HK2.out.nz hkB).symm
            have q1 : ∀ U, (Op.equalIn 10000 89 (.agg #[.int .i64 za.pr, .int .u64 za.qt, .int .i64 za.ct]) (.agg #[.int .i64 zb.pr, .int .u64 zb.qt, .int .i64 zb.ct])).run Try.prog U = .ok false U := fun U => by rw [eqL_at]; simp [NE]
            have HG2 := hid (HG.out.right HK1.out HK2.out hkB HC.out)
            obtain ⟨P, eP⟩ : ∃ z, y.pr = z := ⟨_, rfl⟩
            have CA2 := hid (show ∀ (U : World), Below w.heap.size w U → Calls Try.prog 54 #[.slice (some ⟨g1, o1, none⟩) n1 c1, .int .i64 P] U fun e w' => e = .returned (.agg #[.int .i64 za.pr, .int .u64 za.qt, .int .i64 za.ct]) ∧ Below U.heap.size U w' from fun U hU => by rw [← eP, ← eza]; exact CA.out U hU)
            have CB2 := hid (show ∀ (U : World), Below w.heap.size w U → Calls Try.prog 54 #[.slice (some ⟨g2, o2, none⟩) n2 c2, .int .i64 P] U fun e w' => e = .returned (.agg #[.int .i64 zb.pr, .int .u64 zb.qt, .int .i64 zb.ct]) ∧ Below U.heap.size U w' from fun U hU => by rw [← eP, ← ezb]; exact CB.out U hU)
            rw [eP] at b0 HX
            rw [eP] at W1 W2
            clear CA CB hza hzb eza ezb NE eP
            go_upto_region 8 with fail
            go_quiet ((go_at_call 53; with_reducible exact Calls.quiet_of_same (W1.out _)))
            go_upto_region 11 with fail
            have i2 := I2.out
            have i4 : decide ((i : Int) = (n1 : Int)) = false := by simp; omega
            have i5 : decide (i = n1) = false := by simp; omega
            go_quiet ((go_at_call 53; refine (W2.out _).mono ?_; rintro e1 u1 ⟨rfl, rfl⟩; exact ⟨rfl, _, rfl⟩))
            go_upto_region 15 with (first | (go_at_call 54; with_reducible refine (CA2.out _ (btr HB.out (bdrew _ _))).mono ?_; rintro e w1 ⟨rfl, hb⟩; have HBa := hid (btr (btr HB.out (bdrew _ _)) hb); have HBb := hid (btr (bdrew wr _) hb); clear hb CA2) | (go_at_call 54; with_reducible refine (CB2.out w1 HBa.out).mono ?_; rintro e w2 ⟨rfl, hb⟩; have HBc := hid (btr HBa.out hb); have HBd := hid (btr HBb.out hb); clear hb))
            obtain ⟨V, hV⟩ : ∃ V, (w2.alloc (.cells #[.int .i64 za.pr, .int .u64 za.qt, .int .i64 za.ct] 89)).alloc (.cells #[.int .i64 zb.pr, .int .u64 zb.qt, .int .i64 zb.ct] 89) = V := ⟨_, rfl⟩
            obtain ⟨R, hR⟩ : ∃ R, w2.heap.size = R := ⟨_, rfl⟩
            obtain ⟨hb0, x0, x1, hsz⟩ := alloc2 hR hV
            have HV := hid (btr HBc.out hb0)
            have HVr := hid (btr HBd.out hb0)
            obtain ⟨r0, r1, r2⟩ := row3 (x0 _ _ rfl)
            obtain ⟨t0, t1, t2⟩ := row3 (x1 _ _ rfl)
            rw [hV, hR]
            clear hb0 x0 x1 hsz hV hR HBa HBb HBc HBd
            have HOv := hid (own_on HO.out (btr HVr.out (ball V (.cells #[.int .u64 0, .int .i64 1, .int .i64 s, .int .i64 P, .int .u64 zb.qt, .int .i64 zb.ct] 48))))
            have HBv := hid (btr HV.out (ball V (.cells #[.int .u64 0, .int .i64 1, .int .i64 s, .int .i64 P, .int .u64 zb.qt, .int .i64 zb.ct] 48)))
            have RN := hid (rd_new V ⟨0, 1, s, P, zb.qt, zb.ct⟩)
            have HLN := hid (dvc_len [⟨0, 1, s, P, zb.qt, zb.ct⟩])
            go_wp2_with (at_builtin; refine wpList_app_rd (by rfl) (.tmp 99) (.tmp 107) 39 48 _ 6 48 (by rfl) Try.underlying39 infoD6 rfl (by decide) w.heap.size _ m (dvc L) (by rfl) HOv.out (some ⟨V.heap.size, 0, none⟩) 1 1 (dvc [⟨0, 1, s, P, zb.qt, zb.ct⟩]) (by rfl) (fun e => by cases e) HLN.out RN.out (dvc_one _) (by unfold maxLen; omega) (by omega) HBv.out.size ?_; intro v' w3 hown hgrow; obtain ⟨q3, d3, rfl⟩ := own_form hown; have HO3 := hid hown; have HB3 := hid (below_grown (base := 0) HBv.out HOv.out hgrow); clear hown hgrow)
            go_roundw
            case rel => exact ⟨i, k + 1, q3, m + 1, d3, L ++ [⟨0, 1, s, P, zb.qt, zb.ct⟩], by omega, by omega, rfl, by go_num, by go_num, by rw [List.length_append, ← HM.out]; rfl, by rw [dvc_app]; exact HO3.out, by rw [List.append_assoc, List.singleton_append, ← HX.out]; exact HE.out, HG2.out, HB3.out⟩
            case measure => simp [intOf]; omega
          | false =>
            rw [hb2] at W2
            have HP := hid (show A[i].pr = B[k].pr from by rw [HXA.out, HYB.out]; exact bt_tri hb1 hb2)
            clear hb1 hb2
            by_cases hxy : A[i] = B[k]
            · have hza : atL A x.pr = x := by rw [← HXA.out]; exact HK1.out.self hiA
              have hzb : atL B x.pr = y := by rw [← HXA.out, HP.out, ← HYB.out]; exact HK2.out.self hkB
              have CA := hid (fun (U : World) (hU : Below w.heap.size w U) => AA.out x.pr U hU)
              have CB := hid (fun (U : World) (hU : Below w.heap.size w U) => AB.out x.pr U hU)
              rw [hza] at CA
              rw [hzb] at CB
              obtain ⟨za, eza⟩ : ∃ z, x = z := ⟨_, rfl⟩
              obtain ⟨zb, ezb⟩ : ∃ z, y = z := ⟨_, rfl⟩
              have HX := hid (show chg s (A.drop i) (B.drop k) = chg s (A.drop (i + 1)) (B.drop (k + 1)) from chg_bothE hiA hkB hxy)
              have NE : za = zb := by rw [← eza, ← ezb, ← HXA.out, ← HYB.out]; exact hxy
              have q1 : ∀ U, (Op.equalIn 10000 89 (.agg #[.int .i64 za.pr, .int .u64 za.qt, .int .i64 za.ct]) (.agg #[.int .i64 zb.pr, .int .u64 zb.qt, .int .i64 zb.ct])).run Try.prog U = .ok true U := fun U => by rw [eqL_at]; simp [NE]
              have HG2 := hid (HG.out.both HK1.out HK2.out hiA hkB HP.out)
              obtain ⟨P, eP⟩ : ∃ z, x.pr = z := ⟨_, rfl⟩
              have CA2 := hid (show ∀ (U : World), Below w.heap.size w U → Calls Try.prog 54 #[.slice (some ⟨g1, o1, none⟩) n1 c1, .int .i64 P] U fun e w' => e = .returned (.agg #[.int .i64 za.pr, .int .u64 za.qt, .int .i64 za.ct]) ∧ Below U.heap.size U w' from fun U hU => by rw [← eP, ← eza]; exact CA.out U hU)
              have CB2 := hid (show ∀ (U : World), Below w.heap.size w U → Calls Try.prog 54 #[.slice (some ⟨g2, o2, none⟩) n2 c2, .int .i64 P] U fun e w' => e = .returned (.agg #[.int .i64 zb.pr, .int .u64 zb.qt, .int .i64 zb.ct]) ∧ Below U.heap.size U w' from fun U hU => by rw [← eP, ← ezb]; exact CB.out U hU)
              rw [eP] at a0
              rw [eP] at W1 W2
              clear CA CB hza hzb eza ezb NE eP hxy
              go_upto_region 8 with fail
              go_quiet ((go_at_call 53; with_reducible exact Calls.quiet_of_same (W1.out _)))
              go_upto_region 11 with fail
              have i2 := I2.out
              have i4 : decide ((i : Int) = (n1 : Int)) = false := by simp; omega
              have i5 : decide (i = n1) = false := by simp; omega
              go_quiet ((go_at_call 53; refine (W2.out _).mono ?_; rintro e1 u1 ⟨rfl, rfl⟩; exact ⟨rfl, _, rfl⟩))
              go_upto_region 15 with (first | (go_at_call 54; with_reducible refine (CA2.out _ (btr HB.out (bdrew _ _))).mono ?_; rintro e w1 ⟨rfl, hb⟩; have HBa := hid (btr (btr HB.out (bdrew _ _)) hb); have HBb := hid (btr (bdrew wr _) hb); clear hb CA2) | (go_at_call 54; with_reducible refine (CB2.out w1 HBa.out).mono ?_; rintro e w2 ⟨rfl, hb⟩; have HBc := hid (btr HBa.out hb); have HBd := hid (btr HBb.out hb); clear hb))
              obtain ⟨V, hV⟩ : ∃ V, (w2.alloc (.cells #[.int .i64 za.pr, .int .u64 za.qt, .int .i64 za.ct] 89)).alloc (.cells #[.int .i64 zb.pr, .int .u64 zb.qt, .int .i64 zb.ct] 89) = V := ⟨_, rfl⟩
              obtain ⟨R, hR⟩ : ∃ R, w2.heap.size = R := ⟨_, rfl⟩
              obtain ⟨hb0, x0, x1, hsz⟩ := alloc2 hR hV
              have HV := hid (btr HBc.out hb0)
              have HVr := hid (btr HBd.out hb0)
              obtain ⟨r0, r1, r2⟩ := row3 (x0 _ _ rfl)
              obtain ⟨t0, t1, t2⟩ := row3 (x1 _ _ rfl)
              rw [hV, hR]
              clear hb0 x0 x1 hsz hV hR HBa HBb HBc HBd
              go_wp2
              go_roundw
              case rel => exact ⟨i + 1, k + 1, q, m, d, L, by omega, by omega, rfl, by go_num, by go_num, HM.out, own_on HO.out HVr.out, by rw [← HX.out]; exact HE.out, HG2.out, HV.out⟩
              case measure => simp [intOf]; omega
            · have hza : atL A x.pr = x := by rw [← HXA.out]; exact HK1.out.self hiA
              have hzb : atL B x.pr = y := by rw [← HXA.out, HP.out, ← HYB.out]; exact HK2.out.self hkB
              have CA := hid (fun (U : World) (hU : Below w.heap.size w U) => AA.out x.pr U hU)
              have CB := hid (fun (U : World) (hU : Below w.heap.size w U) => AB.out x.pr U hU)
              rw [hza] at CA
              rw [hzb] at CB
              obtain ⟨za, eza⟩ : ∃ z, x = z := ⟨_, rfl⟩
              obtain ⟨zb, ezb⟩ : ∃ z, y = z := ⟨_, rfl⟩
              have HX := hid (show chg s (A.drop i) (B.drop k) = ⟨0, 1, s, x.pr, zb.qt, zb.ct⟩ :: chg s (A.drop (i + 1)) (B.drop (k + 1)) from by rw [chg_bothN hiA hkB HP.out hxy, HYB.out, ← ezb, ← HXA.out, HP.out, HYB.out]; rfl)
              have NE : za ≠ zb := by rw [← eza, ← ezb, ← HXA.out, ← HYB.out]; exact hxy
              have q1 : ∀ U, (Op.equalIn 10000 89 (.agg #[.int .i64 za.pr, .int .u64 za.qt, .int .i64 za.ct]) (.agg #[.int .i64 zb.pr, .int .u64 zb.qt, .int .i64 zb.ct])).run Try.prog U = .ok false U := fun U => by rw [eqL_at]; simp [NE]
              have HG2 := hid (HG.out.both HK1.out HK2.out hiA hkB HP.out)
              obtain ⟨P, eP⟩ : ∃ z, x.pr = z := ⟨_, rfl⟩
              have CA2 := hid (show ∀ (U : World), Below w.heap.size w U → Calls Try.prog 54 #[.slice (some ⟨g1, o1, none⟩) n1 c1, .int .i64 P] U fun e w' => e = .returned (.agg #[.int .i64 za.pr, .int .u64 za.qt, .int .i64 za.ct]) ∧ Below U.heap.size U w' from fun U hU => by rw [← eP, ← eza]; exact CA.out U hU)
              have CB2 := hid (show ∀ (U : World), Below w.heap.size w U → Calls Try.prog 54 #[.slice (some ⟨g2, o2, none⟩) n2 c2, .int .i64 P] U fun e w' => e = .returned (.agg #[.int .i64 zb.pr, .int .u64 zb.qt, .int .i64 zb.ct]) ∧ Below U.heap.size U w' from fun U hU => by rw [← eP, ← ezb]; exact CB.out U hU)
              rw [eP] at a0 HX
              rw [eP] at W1 W2
              clear CA CB hza hzb eza ezb NE eP hxy
              go_upto_region 8 with fail
              go_quiet ((go_at_call 53; with_reducible exact Calls.quiet_of_same (W1.out _)))
              go_upto_region 11 with fail
              have i2 := I2.out
              have i4 : decide ((i : Int) = (n1 : Int)) = false := by simp; omega
              have i5 : decide (i = n1) = false := by simp; omega
              go_quiet ((go_at_call 53; refine (W2.out _).mono ?_; rintro e1 u1 ⟨rfl, rfl⟩; exact ⟨rfl, _, rfl⟩))
              go_upto_region 15 with (first | (go_at_call 54; with_reducible refine (CA2.out _ (btr HB.out (bdrew _ _))).mono ?_; rintro e w1 ⟨rfl, hb⟩; have HBa := hid (btr (btr HB.out (bdrew _ _)) hb); have HBb := hid (btr (bdrew wr _) hb); clear hb CA2) | (go_at_call 54; with_reducible refine (CB2.out w1 HBa.out).mono ?_; rintro e w2 ⟨rfl, hb⟩; have HBc := hid (btr HBa.out hb); have HBd := hid (btr HBb.out hb); clear hb))
              obtain ⟨V, hV⟩ : ∃ V, (w2.alloc (.cells #[.int .i64 za.pr, .int .u64 za.qt, .int .i64 za.ct] 89)).alloc (.cells #[.int .i64 zb.pr, .int .u64 zb.qt, .int .i64 zb.ct] 89) = V := ⟨_, rfl⟩
              obtain ⟨R, hR⟩ : ∃ R, w2.heap.size = R := ⟨_, rfl⟩
              obtain ⟨hb0, x0, x1, hsz⟩ := alloc2 hR hV
              have HV := hid (btr HBc.out hb0)
              have HVr := hid (btr HBd.out hb0)
              obtain ⟨r0, r1, r2⟩ := row3 (x0 _ _ rfl)
              obtain ⟨t0, t1, t2⟩ := row3 (x1 _ _ rfl)
              rw [hV, hR]
              clear hb0 x0 x1 hsz hV hR HBa HBb HBc HBd
              have HOv := hid (own_on HO.out (btr HVr.out (ball V (.cells #[.int .u64 0, .int .i64 1, .int .i64 s, .int .i64 P, .int .u64 zb.qt, .int .i64 zb.ct] 48))))
              have HBv := hid (btr HV.out (ball V (.cells #[.int .u64 0, .int .i64 1, .int .i64 s, .int .i64 P, .int .u64 zb.qt, .int .i64 zb.ct] 48)))
              have RN := hid (rd_new V ⟨0, 1, s, P, zb.qt, zb.ct⟩)
              have HLN := hid (dvc_len [⟨0, 1, s, P, zb.qt, zb.ct⟩])
              go_wp2_with (at_builtin; refine wpList_app_rd (by rfl) (.tmp 99) (.tmp 107) 39 48 _ 6 48 (by rfl) Try.underlying39 infoD6 rfl (by decide) w.heap.size _ m (dvc L) (by rfl) HOv.out (some ⟨V.heap.size, 0, none⟩) 1 1 (dvc [⟨0, 1, s, P, zb.qt, zb.ct⟩]) (by rfl) (fun e => by cases e) HLN.out RN.out (dvc_one _) (by unfold maxLen; omega) (by omega) HBv.out.size ?_; intro v' w3 hown hgrow; obtain ⟨q3, d3, rfl⟩ := own_form hown; have HO3 := hid hown; have HB3 := hid (below_grown (base := 0) HBv.out HOv.out hgrow); clear hown hgrow)
              go_roundw
              case rel => exact ⟨i + 1, k + 1, q3, m + 1, d3, L ++ [⟨0, 1, s, P, zb.qt, zb.ct⟩], by omega, by omega, rfl, by go_num, by go_num, by rw [List.length_append, ← HM.out]; rfl, by rw [dvc_app]; exact HO3.out, by rw [List.append_assoc, List.singleton_append, ← HX.out]; exact HE.out, HG2.out, HB3.out⟩
              case measure => simp [intOf]; omega
      · obtain rfl : k = n2 := by omega
        have k2 : ((k : Int) == (k : Int)) = true := by simp
        have HC := hid (show ∀ hk : k < B.length, bt s A[i].pr B[k].pr = true from fun h => by have := HN2.out; omega)
        have hza : atL A x.pr = x := by rw [← HXA.out]; exact HK1.out.self hiA
        have hzb : atL B x.pr = lv0 := by rw [← HXA.out]; exact HG.out.noneR HK2.out hiA HC.out
        have CA := hid (fun (U : World) (hU : Below w.heap.size w U) => AA.out x.pr U hU)
        have CB := hid (fun (U : World) (hU : Below w.heap.size w U) => AB.out x.pr U hU)
        rw [hza] at CA
        rw [hzb] at CB
        obtain ⟨za, eza⟩ : ∃ z, x = z := ⟨_, rfl⟩
        obtain ⟨zb, ezb⟩ : ∃ z, lv0 = z := ⟨_, rfl⟩
        have HX := hid (show chg s (A.drop i) (B.drop k) = ⟨0, 1, s, x.pr, zb.qt, zb.ct⟩ :: chg s (A.drop (i + 1)) (B.drop (k)) from by rw [chg_left hiA HC.out, HXA.out, ← ezb]; rfl)
        have NE : za ≠ zb := by rw [← eza, ← ezb, ← HXA.out]; exact HK1.out.nz hiA
        have q1 : ∀ U, (Op.equalIn 10000 89 (.agg #[.int .i64 za.pr, .int .u64 za.qt, .int .i64 za.ct]) (.agg #[.int .i64 zb.pr, .int .u64 zb.qt, .int .i64 zb.ct])).run Try.prog U = .ok false U := fun U => by rw [eqL_at]; simp [NE]
        have HG2 := hid (HG.out.left HK1.out HK2.out hiA HC.out)
        obtain ⟨P, eP⟩ : ∃ z, x.pr = z := ⟨_, rfl⟩
        have CA2 := hid (show ∀ (U : World), Below w.heap.size w U → Calls Try.prog 54 #[.slice (some ⟨g1, o1, none⟩) n1 c1, .int .i64 P] U fun e w' => e = .returned (.agg #[.int .i64 za.pr, .int .u64 za.qt, .int .i64 za.ct]) ∧ Below U.heap.size U w' from fun U hU => by rw [← eP, ← eza]; exact CA.out U hU)
        have CB2 := hid (show ∀ (U : World), Below w.heap.size w U → Calls Try.prog 54 #[.slice p2 k c2, .int .i64 P] U fun e w' => e = .returned (.agg #[.int .i64 zb.pr, .int .u64 zb.qt, .int .i64 zb.ct]) ∧ Below U.heap.size U w' from fun U hU => by rw [← eP, ← ezb]; exact CB.out U hU)
        rw [eP] at a0 HX
        clear CA CB hza hzb eza ezb NE eP
        go_upto_region 8 with fail
        go_quiet (fail)
        go_upto_region 15 with (first | (go_at_call 54; with_reducible refine (CA2.out _ (btr HB.out (bdrew _ _))).mono ?_; rintro e w1 ⟨rfl, hb⟩; have HBa := hid (btr (btr HB.out (bdrew _ _)) hb); have HBb := hid (btr (bdrew wr _) hb); clear hb CA2) | (go_at_call 54; with_reducible refine (CB2.out w1 HBa.out).mono ?_; rintro e w2 ⟨rfl, hb⟩; have HBc := hid (btr HBa.out hb); have HBd := hid (btr HBb.out hb); clear hb))
        obtain ⟨V, hV⟩ : ∃ V, (w2.alloc (.cells #[.int .i64 za.pr, .int .u64 za.qt, .int .i64 za.ct] 89)).alloc (.cells #[.int .i64 zb.pr, .int .u64 zb.qt, .int .i64 zb.ct] 89) = V := ⟨_, rfl⟩
        obtain ⟨R, hR⟩ : ∃ R, w2.heap.size = R := ⟨_, rfl⟩
        obtain ⟨hb0, x0, x1, hsz⟩ := alloc2 hR hV
        have HV := hid (btr HBc.out hb0)
        have HVr := hid (btr HBd.out hb0)
        obtain ⟨r0, r1, r2⟩ := row3 (x0 _ _ rfl)
        obtain ⟨t0, t1, t2⟩ := row3 (x1 _ _ rfl)
        rw [hV, hR]
        clear hb0 x0 x1 hsz hV hR HBa HBb HBc HBd
        have HOv := hid (own_on HO.out (btr HVr.out (ball V (.cells #[.int .u64 0, .int .i64 1, .int .i64 s, .int .i64 P, .int .u64 zb.qt, .int .i64 zb.ct] 48))))
        have HBv := hid (btr HV.out (ball V (.cells #[.int .u64 0, .int .i64 1, .int .i64 s, .int .i64 P, .int .u64 zb.qt, .int .i64 zb.ct] 48)))
        have RN := hid (rd_new V ⟨0, 1, s, P, zb.qt, zb.ct⟩)
        have HLN := hid (dvc_len [⟨0, 1, s, P, zb.qt, zb.ct⟩])
        go_wp2_with (at_builtin; refine wpList_app_rd (by rfl) (.tmp 99) (.tmp 107) 39 48 _ 6 48 (by rfl) Try.underlying39 infoD6 rfl (by decide) w.heap.size _ m (dvc L) (by rfl) HOv.out (some ⟨V.heap.size, 0, none⟩) 1 1 (dvc [⟨0, 1, s, P, zb.qt, zb.ct⟩]) (by rfl) (fun e => by cases e) HLN.out RN.out (dvc_one _) (by unfold maxLen; omega) (by omega) HBv.out.size ?_; intro v' w3 hown hgrow; obtain ⟨q3, d3, rfl⟩ := own_form hown; have HO3 := hid hown; have HB3 := hid (below_grown (base := 0) HBv.out HOv.out hgrow); clear hown hgrow)
        go_roundw
        case rel => exact ⟨i + 1, k, q3, m + 1, d3, L ++ [⟨0, 1, s, P, zb.qt, zb.ct⟩], by omega, by omega, rfl, by go_num, by go_num, by rw [List.length_append, ← HM.out]; rfl, by rw [dvc_app]; exact HO3.out, by rw [List.append_assoc, List.singleton_append, ← HX.out]; exact HE.out, HG2.out, HB3.out⟩
        case measure => simp [intOf]; omega
    · obtain rfl : i = n1 := by omega
      by_cases hkk : k < n2
      · have hkB : k < B.length := by have := HN2.out; omega
        obtain ⟨g2, o2, rfl, _, b0, _, _⟩ := (HL2.out.on HB.out).cells hkB
        obtain ⟨y, hy⟩ : ∃ y, B[k] = y := ⟨_, rfl⟩
        rw [hy] at b0
        have HYB := hid hy
        have k1 : (k : Int) < (n2 : Int) := by omega
        have k2 : ((k : Int) == (n2 : Int)) = false := by simp; omega
        have i2 : ((i : Int) == (i : Int)) = true := by simp
        have HC := hid (show ∀ hi : i < A.length, bt s B[k].pr A[i].pr = true from fun h => by have := HN1.out; omega)
        clear hy
        have hza : atL A y.pr = lv0 := by rw [← HYB.out]; exact HG.out.noneL HK1.out hkB HC.out
        have hzb : atL B y.pr = y := by rw [← HYB.out]; exact HK2.out.self hkB
        have CA := hid (fun (U : World) (hU : Below w.heap.size w U) => AA.out y.pr U hU)
        have CB := hid (fun (U : World) (hU : Below w.heap.size w U) => AB.out y.pr U hU)
        rw [hza] at CA
        rw [hzb] at CB
        obtain ⟨za, eza⟩ : ∃ z, lv0 = z := ⟨_, rfl⟩
        obtain ⟨zb, ezb⟩ : ∃ z, y = z := ⟨_, rfl⟩
        have HX := hid (show chg s (A.drop i) (B.drop k) = ⟨0, 1, s, y.pr, zb.qt, zb.ct⟩ :: chg s (A.drop (i)) (B.drop (k + 1)) from by rw [chg_right hkB HC.out, HYB.out, ← ezb]; rfl)
        have NE : za ≠ zb := by rw [← eza, ← ezb, ← HYB.out]; exact (HK2.out.nz hkB).symm
        have q1 : ∀ U, (Op.equalIn 10000 89 (.agg #[.int .i64 za.pr, .int .u64 za.qt, .int .i64 za.ct]) (.agg #[.int .i64 zb.pr, .int .u64 zb.qt, .int .i64 zb.ct])).run Try.prog U = .ok false U := fun U => by rw [eqL_at]; simp [NE]
        have HG2 := hid (HG.out.right HK1.out HK2.out hkB HC.out)
        obtain ⟨P, eP⟩ : ∃ z, y.pr = z := ⟨_, rfl⟩
        have CA2 := hid (show ∀ (U : World), Below w.heap.size w U → Calls Try.prog 54 #[.slice p1 i c1, .int .i64 P] U fun e w' => e = .returned (.agg #[.int .i64 za.pr, .int .u64 za.qt, .int .i64 za.ct]) ∧ Below U.heap.size U w' from fun U hU => by rw [← eP, ← eza]; exact CA.out U hU)
        have CB2 := hid (show ∀ (U : World), Below w.heap.size w U → Calls Try.prog 54 #[.slice (some ⟨g2, o2, none⟩) n2 c2, .int .i64 P] U fun e w' => e = .returned (.agg #[.int .i64 zb.pr, .int .u64 zb.qt, .int .i64 zb.ct]) ∧ Below U.heap.size U w' from fun U hU => by rw [← eP, ← ezb]; exact CB.out U hU)
        rw [eP] at b0 HX
        clear CA CB hza hzb eza ezb NE eP
        go_upto_region 8 with fail
        go_quiet (fail)
        go_upto_region 11 with fail
        go_quiet (fail)
        go_upto_region 15 with (first | (go_at_call 54; with_reducible refine (CA2.out _ (btr HB.out (bdrew _ _))).mono ?_; rintro e w1 ⟨rfl, hb⟩; have HBa := hid (btr (btr HB.out (bdrew _ _)) hb); have HBb := hid (btr (bdrew wr _) hb); clear hb CA2) | (go_at_call 54; with_reducible refine (CB2.out w1 HBa.out).mono ?_; rintro e w2 ⟨rfl, hb⟩; have HBc := hid (btr HBa.out hb); have HBd := hid (btr HBb.out hb); clear hb))
        obtain ⟨V, hV⟩ : ∃ V, (w2.alloc (.cells #[.int .i64 za.pr, .int .u64 za.qt, .int .i64 za.ct] 89)).alloc (.cells #[.int .i64 zb.pr, .int .u64 zb.qt, .int .i64 zb.ct] 89) = V := ⟨_, rfl⟩
        obtain ⟨R, hR⟩ : ∃ R, w2.heap.size = R := ⟨_, rfl⟩
        obtain ⟨hb0, x0, x1, hsz⟩ := alloc2 hR hV
        have HV := hid (btr HBc.out hb0)
        have HVr := hid (btr HBd.out hb0)
        obtain ⟨r0, r1, r2⟩ := row3 (x0 _ _ rfl)
        obtain ⟨t0, t1, t2⟩ := row3 (x1 _ _ rfl)
        rw [hV, hR]
        clear hb0 x0 x1 hsz hV hR HBa HBb HBc HBd
        have HOv := hid (own_on HO.out (btr HVr.out (ball V (.cells #[.int .u64 0, .int .i64 1, .int .i64 s, .int .i64 P, .int .u64 zb.qt, .int .i64 zb.ct] 48))))
        have HBv := hid (btr HV.out (ball V (.cells #[.int .u64 0, .int .i64 1, .int .i64 s, .int .i64 P, .int .u64 zb.qt, .int .i64 zb.ct] 48)))
        have RN := hid (rd_new V ⟨0, 1, s, P, zb.qt, zb.ct⟩)
        have HLN := hid (dvc_len [⟨0, 1, s, P, zb.qt, zb.ct⟩])
        go_wp2_with (at_builtin; refine wpList_app_rd (by rfl) (.tmp 99) (.tmp 107) 39 48 _ 6 48 (by rfl) Try.underlying39 infoD6 rfl (by decide) w.heap.size _ m (dvc L) (by rfl) HOv.out (some ⟨V.heap.size, 0, none⟩) 1 1 (dvc [⟨0, 1, s, P, zb.qt, zb.ct⟩]) (by rfl) (fun e => by cases e) HLN.out RN.out (dvc_one _) (by unfold maxLen; omega) (by omega) HBv.out.size ?_; intro v' w3 hown hgrow; obtain ⟨q3, d3, rfl⟩ := own_form hown; have HO3 := hid hown; have HB3 := hid (below_grown (base := 0) HBv.out HOv.out hgrow); clear hown hgrow)
        go_roundw
        case rel => exact ⟨i, k + 1, q3, m + 1, d3, L ++ [⟨0, 1, s, P, zb.qt, zb.ct⟩], by omega, by omega, rfl, by go_num, by go_num, by rw [List.length_append, ← HM.out]; rfl, by rw [dvc_app]; exact HO3.out, by rw [List.append_assoc, List.singleton_append, ← HX.out]; exact HE.out, HG2.out, HB3.out⟩
        case measure => simp [intOf]; omega
      · obtain rfl : k = n2 := by omega
        have E := hid (show L = chg s A B from by
          have := HE.out
          rw [show A.drop i = [] from List.drop_eq_nil_of_le (by have := HN1.out; omega), show B.drop k = [] from List.drop_eq_nil_of_le (by have := HN2.out; omega), chg_nn, List.append_nil] at this
          exact this)
        go_wp2
        go_ret
        refine ⟨q, d, by rw [← E.out, ← HM.out]; rfl, ?_, HB.out⟩
        unfold Dw
        rw [← E.out, ← HM.out]
        exact HO.out
end Go.Proofs.Ytiphgfghdbmlcaa
