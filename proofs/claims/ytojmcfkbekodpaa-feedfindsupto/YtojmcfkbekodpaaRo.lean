/-
  A publisher over a book, command by command: the walk.
-/
import Derived.Test.YtojmcfkbekodpaaPv
namespace Go.Proofs.Ytojmcfkbekodpaa
open Go.RowKit Go.Deep Go.Shelf
set_option linter.unusedVariables false
set_option linter.unusedSimpArgs false
set_option maxHeartbeats 16000000
set_option maxRecDepth 100000
attribute [local go_sem ↓] Go.wp_at_zero Go.wp_at_succ
theorem shown_ok (d : Nat) (d1 : 1 ≤ d) (d2 : d ≤ 64) (cap meet : Int) (hcf : cfg cap meet = true) (q : Option Addr) (c0 : Nat) (l : List Cm) (W : World) (hl : Cmz W q l) (hok : ∀ c ∈ l, CmOk c) (hm : l.length ≤ 1048576) :
    Calls Try.prog 15 #[.int .i64 d, .agg #[.int .i64 cap, .int .i64 meet], .slice q l.length c0] W fun e w' => ∃ lo S B P dq dc D pq pc L b, e = .returned (.tuple #[.pointer (some ⟨S, 0, none⟩), .bool true]) ∧ Sv lo B P S dq dc D pq pc L w' ∧ Ply cap meet d l b D (L.map Pic.pl) ∧ D.length ≤ 2300000 * l.length ∧ L.length = l.length + 1 ∧ Below W.heap.size W w' := by
  have HW := hid (World.alloc_heap_new W (.cells #[.int .i64 cap, .int .i64 meet] 23))
  have HB0 := hid (ball W (.cells #[.int .i64 cap, .int .i64 meet] 23))
  obtain ⟨W1, hW⟩ : ∃ W1, W.alloc (.cells #[.int .i64 cap, .int .i64 meet] 23) = W1 := ⟨_, rfl⟩
  rw [hW] at HW HB0
  have CP := hid (fun U => Fd.newP_ok d d1 d2 U)
  have CN := hid (show ∀ U, Calls Try.prog 9 #[.agg #[.int .i64 cap, .int .i64 meet]] U fun e w' => ∃ B b, e = .returned (.tuple #[.pointer (some ⟨B, 0, none⟩), .int .i64 0]) ∧ Pl U B b w' ∧ Fr b cap meet from fun U => by
    refine (pl_new cap meet U).mono ?_
    rintro e w' (⟨h1, _⟩ | ⟨h1, B, b, rfl, h2, h3⟩)
    · rw [hcf] at h1; cases h1
    · exact ⟨B, b, rfl, h2, h3⟩)
  obtain ⟨n, hnn⟩ : ∃ n, l.length = n := ⟨_, rfl⟩
  have HN := hid hnn
  rw [hnn] at hm ⊢
  have hm' : n < 9223372036854775808 := by omega
  have HL := hid hl
  have HOK := hid hok
  have HE := hid hW
  have HD := hid (And.intro d1 d2)
  have HCF := hid hcf
  clear hW hl hok hnn hcf d1 d2
  go_enter Try.func15, Try.ntmps15
  go_upto_region 1 with fail
  rw [HE.out]
  go_upto_region 2 with (go_at_call 8; with_reducible refine (CP.out _).mono ?_; rintro e w2 ⟨P, rfl, hp, hP, hb⟩; have HP := hid hp; have HPP := hid hP; have HB2 := hid hb; clear hb hp hP)
  have k0 := row_cell (row_on HW.out HB2.out) 0
  have k1 := row_cell (row_on HW.out HB2.out) 1
  simp only [List.getElem?_toArray, List.getElem?_cons_succ, List.getElem?_cons_zero] at k0 k1
  go_upto_region 3 with (go_at_call 9; with_reducible refine (CN.out _).mono ?_; rintro e w3 ⟨B, b0, rfl, h1, h2⟩; have HPL := hid h1; have HFR := hid h2; clear h1 h2)
  have HSN := hid (HFR.out.snd HCF.out)
  have ST := hid (show Js W1 B P d b0 0 [] [] w3 from ⟨HPL.out.back HB2.out, HSN.out, Pq.on ⟨none, 0, none, 0, HP.out, Fd.Lo.nil0 _ _, Fd.Lo.nil0 _ _⟩ HPL.out.be, HPP.out⟩)
  clear k0 k1 CP CN HW HPL HSN HP HPP HB2 HE
  have CPI := hid (show Calls Try.prog 13 #[.pointer (some ⟨P, 0, none⟩)] w3 fun e w' => ∃ q1 e1 q2 e2, e = .returned (.agg #[.int .u64 0, .slice q1 0 e1, .slice q2 0 e2]) ∧ Hid (Fd.Lo 0 w' q1 e1 []) ∧ Hid (Fd.Lo 0 w' q2 e2 []) ∧ Hid (Below w3.heap.size w3 w') from by
    obtain ⟨p1, c1, p2, c2, h1, h2, h3⟩ := ST.out.pq
    have h := Fd.pictureP_any P d _ p1 p2 c1 c2 _ _ _ h1.row h1.r1 h1.r2 (by have := h1.n1; omega) (by have := h1.n2; omega)
    refine h.mono ?_
    rintro e w' ⟨q1, e1, q2, e2, g1, g2, g3, _, g5⟩
    exact ⟨q1, e1, q2, e2, g1, g2.base (Nat.zero_le _), g3.base (Nat.zero_le _), g5⟩)
  go_upto_region 6 with (go_at_call 13; with_reducible refine (CPI.out).mono ?_; rintro e w4 ⟨q1, e1, q2, e2, rfl, R1, R2, B4⟩)
  obtain ⟨x0, hx0⟩ : ∃ x : Pic, x = ⟨0, q1, e1, [], q2, e2, []⟩ := ⟨_, rfl⟩
  obtain ⟨Xa, hXa⟩ : ∃ X, w4.alloc (.cells #[.int .u64 0, .slice q1 0 e1, .slice q2 0 e2] 49) = X := ⟨_, rfl⟩
  obtain ⟨S, hS⟩ : ∃ S, w4.heap.size + 1 = S := ⟨_, rfl⟩
  have hXs : Xa.heap.size = S := by rw [← hXa, ← hS]; exact Array.size_push _
  have BXa : Below w4.heap.size w4 Xa := by rw [← hXa]; exact ball _ _
  have hr0 : Xa.heap[w4.heap.size]? = some (.cells #[.int .u64 0, .slice q1 0 e1, .slice q2 0 e2] 49 (0, 0)) := by rw [← hXa]; exact World.alloc_heap_new _ _
  obtain ⟨X, hX⟩ : ∃ X, Xa.alloc (.cells #[.pointer (some ⟨P, 0, none⟩), .pointer (some ⟨B, 0, none⟩), .slice none 0 0, .slice (some ⟨w4.heap.size, 0, none⟩) 1 1] 61) = X := ⟨_, rfl⟩
  have BX : Below Xa.heap.size Xa X := by rw [← hX]; exact ball _ _
  have hrS : X.heap[S]? = some (.cells #[.pointer (some ⟨P, 0, none⟩), .pointer (some ⟨B, 0, none⟩), .slice none 0 0, .slice (some ⟨w4.heap.size, 0, none⟩) 1 1] 61 (0, 0)) := by rw [← hX, ← hXs]; exact World.alloc_heap_new _ _
  have BB := btr B4.out (btr BXa BX)
  have J0 := hid (show Js W1 B P d b0 ((([] : List Fd.Dm).length : Nat) : Int) (bl b0 1 d) (bl b0 2 d) X from by rw [fr_bl HFR.out, fr_bl HFR.out]; exact ST.out.on BB)
  have hlo : W1.heap.size ≤ w4.heap.size := Nat.le_trans ST.out.pl.be.size B4.out.size
  have V0 := hid (show Sv W1.heap.size B P S none 0 [] (some ⟨w4.heap.size, 0, none⟩) 1 [x0] X from by
    refine ⟨hrS, by omega, Fd.Dw.nil0 _ _, ?_, fun x hx => ?_⟩
    · subst hx0
      exact ⟨rfl, .inr ⟨w4.heap.size, 1, _, rfl, hlo, row_on hr0 BX, Nat.le_refl _, by unfold maxLen; omega, rfl, rfl⟩⟩
    · rw [List.mem_singleton] at hx
      subst hx hx0
      exact ⟨R1.out.on (btr BXa BX), R2.out.on (btr BXa BX)⟩)
  have Y0 := hid (show Ply cap meet d (l.take 0) b0 [] ([x0].map Pic.pl) from by subst hx0; exact Ply.nil HFR.out)
  rw [hXa, hX, hS]
  clear hXa hX hS hXs BXa hr0 BX hrS BB hlo R1 R2 B4 ST CPI HFR hx0 HCF
  obtain ⟨g0, hg0⟩ : ∃ g, w4.heap.size = g := ⟨_, rfl⟩
  rw [hg0] at V0
  clear hg0
  go_wp2
  go_loopw [13] (fun iv wr => ∃ (i : Nat) (b : Bs) (dq : Option Addr) (dc : Nat) (D : List Fd.Dm) (pq : Option Addr) (pc : Nat) (L : List Pic), i ≤ n ∧ iv = .int .i64 i ∧ Hid (Js W1 B P d b (D.length : Nat) (bl b 1 d) (bl b 2 d) wr) ∧ Hid (Sv W1.heap.size B P S dq dc D pq pc L wr) ∧ Hid (Ply cap meet d (l.take i) b D (L.map Pic.pl)) ∧ Hid (D.length ≤ 2300000 * i) ∧ Hid (L.length = i + 1)) (fun iv _ => n - (intOf iv).toNat)
  case atStart => exact ⟨0, b0, none, 0, [], some ⟨g0, 0, none⟩, 1, [x0], Nat.zero_le _, rfl, J0, V0, Y0, hid (by simp), hid rfl⟩
  case round =>
    obtain ⟨i, b, dq, dc, D, pq, pc, L, hin, rfl, HJ, HV, HY, HDL, HLL⟩ := hrel
    by_cases hlt : i < n
    · have hil : i < l.length := by rw [HN.out]; exact hlt
      have hck := HOK.out l[i] (List.getElem_mem hil)
      have HTK := hid (take_snoc hil)
      obtain ⟨qb, qo, hq, a0, a1, a2, a3, a4, a5, a6, a7, a8⟩ := cmz_cells HL.out (btr HB0.out HJ.out.pl.be) hil
      obtain ⟨c, hc⟩ : ∃ c, l[i] = c := ⟨_, rfl⟩
      rw [hc] at hck a0 a1 a2 a3 a4 a5 a6 a7 a8 HTK
      have HCK := hid hck
      clear hc
      subst hq
      have CD := hid (js_do2 c HJ.out hck)
      unfold cmr at CD
      clear hck
      have i0' : (0 : Int) ≤ (i : Int) := by omega
      have i1 : (i : Int) < (n : Int) := by omega
      go_upto_region 10 with (go_at_call 10; with_reducible refine (CD.out).mono ?_; rintro e w4 ⟨b', p2, q2, es, rfl, h1, h2, h3, h4, h5, h6⟩; have J4 := hid h1; have RE4 := hid h2; have DD4 := hid h3; have TR4 := hid h4; have LN4 := hid h5; have KP4 := hid h6; clear h1 h2 h3 h4 h5 h6)
      clear a0 a1 a2 a3 a4 a5 a6 a7 a8 CD
      have V4 := hid (HV.out.kept KP4.out (fun j c t hf hc => fp_kinds HJ.out.pl.bm hf hc))
      have HGB := hid (And.intro HJ.out.pl.gb HJ.out.sn)
      clear HV KP4 HJ
      have CX1 := hid (show Calls Try.prog 12 #[.pointer (some ⟨B, 0, none⟩), .int .i64 1, .int .i64 4096] w4 _ from js_depth 1 4096 J4.out (.inl rfl))
      have CX2 := hid (show ∀ U, Below w4.heap.size w4 U → Calls Try.prog 12 #[.pointer (some ⟨B, 0, none⟩), .int .i64 2, .int .i64 4096] U _ from fun U hU => js_depth 2 4096 (J4.out.on hU) (.inr rfl))
      have HPR := hid (show ∃ x, w4.heap[P]? = some (.cells x 73 (0, 0)) from by obtain ⟨_, _, _, _, h, _⟩ := J4.out.pq; exact ⟨_, h.row⟩)
      have HT := hid (show (tdl (bl b 1 d) (bl b 2 d) b' d (es.map fev)).length ≤ es.length + 256 from by
        obtain ⟨_, _, _, _, h, _⟩ := J4.out.pq
        have := tdl_len (b := b') (d := d) (E := es.map fev) h.n1 h.n2 HD.out.2
        rw [List.length_map] at this
        exact this)
      have HYN := hid (Ply.snoc HY.out HCK.out HGB.out.1 HGB.out.2 DD4.out)
      obtain ⟨T, hT⟩ : ∃ T, tdl (bl b 1 d) (bl b 2 d) b' d (es.map fev) = T := ⟨_, rfl⟩
      obtain ⟨m, hmE⟩ : ∃ m, es.length = m := ⟨_, rfl⟩
      obtain ⟨t, htT⟩ : ∃ t, T.length = t := ⟨_, rfl⟩
      obtain ⟨nD, hnD⟩ : ∃ t, D.length = t := ⟨_, rfl⟩
      obtain ⟨nb, hnb⟩ : ∃ t, (bl b' 1 4096).length = t := ⟨_, rfl⟩
      obtain ⟨ns, hns⟩ : ∃ t, (bl b' 2 4096).length = t := ⟨_, rfl⟩
      have hm0 : m ≤ 2200001 := by have := LN4.out; omega
      have ht0 : t ≤ m + 256 := by have := HT.out; rw [hT] at this; omega
      have hnD0 : nD ≤ 2300000 * i := by have := HDL.out; omega
      have HUW := hid (show Fd.uw ((nD : Int) + t) = ((nD + t : Nat) : Int) from by
        rw [Fd.uw_eq, Int.emod_eq_of_lt (by omega) (by omega)]
        omega)
      have CPB := hid (show ∀ (U : World) (pb ps : Option Addr) (cb cs : Nat), Below w4.heap.size w4 U → Fd.Rl U pb cb (bl b' 1 4096) → Fd.Rl U ps cs (bl b' 2 4096) → Calls Try.prog 11 #[.pointer (some ⟨P, 0, none⟩), .slice pb nb cb, .slice ps ns cs, .slice p2 m q2] U fun e w' => ∃ q dd, e = .returned (.tuple #[.slice q t dd, .int .i64 0]) ∧ Hid (Fd.Dw U.heap.size w' q dd (Fd.nmb nD T)) ∧ Hid (Js W1 B P d b' ((nD + t : Nat) : Int) (bl b' 1 d) (bl b' 2 d) w') ∧ Hid (Sv W1.heap.size B P S dq dc D pq pc L w') from fun U pb ps cb cs hU r1 r2 => by
        have h := js_publish (J4.out.on hU) TR4.out (Nat.le_trans LN4.out (by omega)) (show d ≤ 4096 by have := HD.out.2; omega) r1 r2 (RE4.out.on hU)
        have hTD : Fd.trd (es.map fev) ++ Fd.chg 1 (bl b 1 d) (bl b' 1 d) ++ Fd.chg 2 (bl b 2 d) (bl b' 2 d) = T := hT
        rw [hTD, Fd.nmb_len, htT, hmE, hnb, hns, hnD, HUW.out] at h
        refine h.mono ?_
        rintro e w' ⟨q, dd, h1, h2, h3, h4⟩
        refine ⟨q, dd, h1, h2, h3, ?_⟩
        obtain ⟨x, hx⟩ := HPR.out
        exact (V4.out.on hU).kept h4 (fun j c t hj hc => by subst hj; rw [row_on hx hU] at hc; cases hc; decide))
      rw [hnb] at CX1
      have CX2' := hid (show ∀ U, Below w4.heap.size w4 U → Calls Try.prog 12 #[.pointer (some ⟨B, 0, none⟩), .int .i64 2, .int .i64 4096] U fun e w' => ∃ p c, e = .returned (.slice p ns c) ∧ Fd.Rl w' p c (bl b' 2 4096) ∧ Below U.heap.size U w' from fun U hU => by have := CX2.out U hU; rw [hns] at this; exact this)
      rw [hmE]
      rw [hT, htT, hnD, HTK.out] at HYN
      have HND := hid hnD
      have HTT := hid htT
      clear hT hmE htT hnb hns CX2 HT hil HUW HDL hnD
      go_upto_region 13 with (first | (go_at_call 12; with_reducible refine (CX1.out).mono ?_; rintro e w5 ⟨pb, cb, rfl, h1, h2⟩; have R5 := hid h1; have B5 := hid h2; clear h1 h2) | (go_at_call 12; with_reducible refine (CX2'.out _ B5.out).mono ?_; rintro e w6 ⟨ps, cs, rfl, h1, h2⟩; have R6 := hid h1; have B6 := hid h2; clear h1 h2) | (go_at_call 11; with_reducible refine (CPB.out _ _ _ _ _ (btr B5.out B6.out) (R5.out.on B6.out) R6.out).mono ?_; rintro e w7 ⟨pm, cm, rfl, D7, J7, V7⟩))
      have D7' := hid (D7.out.base (Nat.zero_le _))
      clear D7 R5 B5 R6 B6 CX1 CX2' CPB HPR RE4 TR4 LN4 J4 V4 DD4
      have hr7 := V7.out.row
      obtain ⟨nL, hnL⟩ : ∃ t, L.length = t := ⟨_, rfl⟩
      rw [HND.out, hnL] at hr7
      have HR7 := hid hr7
      have u2 := row_cell hr7 2
      simp only [List.getElem?_toArray, List.getElem?_cons_succ, List.getElem?_cons_zero] at u2
      have HOW := hid (show w7.ownsRow W1.heap.size 47 6 (.slice dq nD dc) nD (Fd.dvc D) from by have := V7.out.da; unfold Fd.Dw at this; rw [HND.out] at this; exact this)
      have HNL := hid hnL
      have hnL1 : nL ≤ 1048577 := by have := HLL.out; omega
      have HM7 := hid (show w7.ownsRow 0 47 6 (.slice pm t cm) t (Fd.dvc (Fd.nmb nD T)) from by have := D7'.out; unfold Fd.Dw at this; rw [Fd.nmb_len, HTT.out] at this; exact this)
      have HQ7 := hid (Fd.own_cap HM7.out).2.2
      have HLO := hid (Nat.le_trans J7.out.pl.be.size (Nat.le_refl _))
      clear hr7 hnL
      go_upto_region 14 with (at_builtin; refine Fd.wpList_app_rd (by rfl) (.tmp 83) (.tmp 84) 39 47 _ 6 48 (by rfl) Try.underlying39 Fd.infoD6 rfl (by decide) W1.heap.size _ nD (Fd.dvc D) (by rfl) HOW.out pm cm t (Fd.dvc (Fd.nmb nD T)) (by rfl) HQ7.out (by rw [Fd.dvc_len, Fd.nmb_len, HTT.out]) (fun ad e => by subst e; exact (Fd.own_cells HM7.out).2) (Fd.dvc_one _) (by unfold maxLen; omega) (by omega) HLO.out (fun v' w8 h2 h3 => ?_); obtain ⟨dq', dc', rfl⟩ := Fd.own_form h2; have O8 := hid h2; have G8 := hid h3; have hr8 := (kp_grown h3).row HR7.out (fun hf => by obtain ⟨cur, hc⟩ := Fd.own_ty HOW.out hf; rw [HR7.out] at hc; cases hc); have u8 := row_cell hr8 2; have f8 := row_frz hr8 2; simp only [List.getElem?_toArray, List.getElem?_cons_succ, List.getElem?_cons_zero] at u8; clear h2 h3 hr8)
      obtain ⟨U9, hU9⟩ : ∃ U, w8.setCell ⟨S, 2, none⟩ (.slice dq' (nD + t) dc') = U := ⟨_, rfl⟩
      have HZL := hid (show (((D ++ Fd.nmb nD T).length : Nat) : Int) = ((nD + t : Nat) : Int) from by rw [List.length_append, Fd.nmb_len, HND.out, HTT.out])
      have hSD := sv_data (Z := D ++ Fd.nmb nD T) J7.out V7.out (by rw [HND.out]; exact G8.out) (by have := O8.out; rw [← Fd.dvc_app] at this; exact this) (by rw [List.length_append, Fd.nmb_len, HND.out, HTT.out])
      rw [hU9] at hSD ⊢
      have J9 := hid hSD.1
      have V9 := hid hSD.2
      have HDZ := hid (show (D ++ Fd.nmb nD T).length ≤ 2300000 * (i + 1) from by rw [List.length_append, Fd.nmb_len, HND.out, HTT.out]; omega)
      clear hSD hU9 u2 u8 f8 HOW HM7 HQ7 HLO HR7 D7' J7 V7 O8 G8
      obtain ⟨sn, hsn⟩ : ∃ s : Int, ((nD + t : Nat) : Int) = s := ⟨_, rfl⟩
      rw [hsn] at J9 HYN HZL
      clear hsn
      obtain ⟨n1, hn1⟩ : ∃ x, (bl b' 1 d).length = x := ⟨_, rfl⟩
      obtain ⟨n2, hn2⟩ : ∃ x, (bl b' 2 d).length = x := ⟨_, rfl⟩
      have CPI := hid (show ∀ U, Below U9.heap.size U9 U → Calls Try.prog 13 #[.pointer (some ⟨P, 0, none⟩)] U fun e w' => ∃ q1 e1 q2 e2, e = .returned (.agg #[.int .u64 sn, .slice q1 n1 e1, .slice q2 n2 e2]) ∧ Hid (Fd.Lo 0 w' q1 e1 (bl b' 1 d)) ∧ Hid (Fd.Lo 0 w' q2 e2 (bl b' 2 d)) ∧ Hid (Below U.heap.size U w') from fun U hU => by
        obtain ⟨p1, c1, p2, c2, h1, h2, h3⟩ := (J9.out.on hU).pq
        have h := Fd.pictureP_any P d _ p1 p2 c1 c2 _ _ _ h1.row h1.r1 h1.r2 (by have := h1.n1; omega) (by have := h1.n2; omega)
        rw [hn1, hn2] at h
        refine h.mono ?_
        rintro e w' ⟨q1, e1, q2, e2, g1, g2, g3, _, g5⟩
        exact ⟨q1, e1, q2, e2, g1, g2.base (Nat.zero_le _), g3.base (Nat.zero_le _), g5⟩)
      have HN1 := hid hn1
      have HN2 := hid hn2
      clear hn1 hn2
      obtain ⟨V0, hV0⟩ : ∃ U, U9.drew = U := ⟨_, rfl⟩
      have DV0 := hid (show Below U9.heap.size U9 V0 from by rw [← hV0]; exact bdrew1 _)
      refine wp_region_held_drew (S := fun _ => True) (by kernel_rfl) trivial (fun hHeld => ?_)
      rw [hV0]
      clear hV0
      refine' wpAnyH_take (i := 0) (oi := _) (v := _) rfl (by kernel_rfl) (by kernel_rfl) (by kernel_rfl) (fun _ _ _ h => h) (Or.inl ⟨by kernel_rfl, ?_⟩) (by assumption) ?_
      rotate_left
      · (intro w hSw; (try dsimp only at hSw); go_simp; try (with_reducible rfl))
      try simp only [List.getElem_toArray, List.getElem_cons_succ, List.getElem_cons_zero, Act.put, List.setIfInBounds_toArray, List.set_cons_zero, List.set_cons_succ]
      refine' wpAnyH_take (i := 1) (oi := _) (v := _) rfl (by kernel_rfl) (by kernel_rfl) (by kernel_rfl) (fun _ _ _ h => h) (Or.inl ⟨by kernel_rfl, ?_⟩) (by assumption) ?_
      rotate_left
      · (intro w hSw; (try dsimp only at hSw); go_simp; try (with_reducible rfl))
      try simp only [List.getElem_toArray, List.getElem_cons_succ, List.getElem_cons_zero, Act.put, List.setIfInBounds_toArray, List.set_cons_zero, List.set_cons_succ]
      refine' wpAnyH_take (i := 2) (oi := _) (v := _) rfl (by kernel_rfl) (by kernel_rfl) (by kernel_rfl) (fun _ _ _ h => h) (Or.inl ⟨by kernel_rfl, ?_⟩) (by assumption) ?_
      rotate_left
      · (intro w hSw; (try dsimp only at hSw); go_simp; try (with_reducible rfl))
      try simp only [List.getElem_toArray, List.getElem_cons_succ, List.getElem_cons_zero, Act.put, List.setIfInBounds_toArray, List.set_cons_zero, List.set_cons_succ]
      refine' wpAnyH_take (i := 3) (oi := _) (v := _) rfl (by kernel_rfl) (by kernel_rfl) (by kernel_rfl) (fun _ _ _ h => h) (Or.inl ⟨by kernel_rfl, ?_⟩) (by assumption) ?_
      rotate_left
      · (intro w hSw; (try dsimp only at hSw); go_simp; try (with_reducible rfl))
      try simp only [List.getElem_toArray, List.getElem_cons_succ, List.getElem_cons_zero, Act.put, List.setIfInBounds_toArray, List.set_cons_zero, List.set_cons_succ]
      refine' wpAnyH_take (i := 5) (oi := _) (v := _) rfl (by kernel_rfl) (by kernel_rfl) (by kernel_rfl) (fun _ _ _ h => h) (Or.inl ⟨by kernel_rfl, ?_⟩) (by assumption) ?_
      rotate_left
      · (intro w hSw; (try dsimp only at hSw); go_simp; try (with_reducible rfl))
      try simp only [List.getElem_toArray, List.getElem_cons_succ, List.getElem_cons_zero, Act.put, List.setIfInBounds_toArray, List.set_cons_zero, List.set_cons_succ]
      refine wpAnyH_ready (rs := [4, 6]) (by kernel_rfl) (by simp) ?_
      refine (AllReadyH.cons (o := _) rfl (fun K hK => ?_) (AllReadyH.cons (o := _) rfl (fun K hK => ?_) AllReadyH.nil))
      · have uS := row_cell (V9.out.on DV0.out).row 3
        simp only [List.getElem?_toArray, List.getElem?_cons_succ, List.getElem?_cons_zero] at uS
        rw [HNL.out] at uS
        go_simp
        clear uS
        refine hK.out _ _ trivial (fun hHeld => ?_)
        clear hK K
        try simp only [List.getElem_toArray, List.getElem_cons_succ, List.getElem_cons_zero, Act.put, List.setIfInBounds_toArray, List.set_cons_zero, List.set_cons_succ]
        refine wpAnyH_ready (rs := [6]) (by kernel_rfl) (by simp) ?_
        refine (AllReadyH.cons (o := _) rfl (fun K hK => ?_) AllReadyH.nil)
        go_simp
        go_at_call 13
        with_reducible refine (CPI.out V0 DV0.out).mono ?_
        rintro e Y1 ⟨q1, e1, q2, e2, rfl, R1, R2, B6⟩
        have DY1 := hid (btr DV0.out B6.out)
        (try go_wp2_with fail)
        refine hK.out _ _ trivial (fun hHeld => ?_)
        clear hK K
        try simp only [List.getElem_toArray, List.getElem_cons_succ, List.getElem_cons_zero, Act.put, List.setIfInBounds_toArray, List.set_cons_zero, List.set_cons_succ]
        refine wpAnyH_ready (rs := [7]) (by kernel_rfl) (by simp) ?_
        refine (AllReadyH.cons (o := _) rfl (fun K hK => ?_) AllReadyH.nil)
        go_simp
        obtain ⟨Y2, hY2⟩ : ∃ Y, Y1.alloc (.cells #[.int .u64 sn, .slice q1 n1 e1, .slice q2 n2 e2] 49) = Y := ⟨_, rfl⟩
        obtain ⟨g2, hg2⟩ : ∃ g, Y1.heap.size = g := ⟨_, rfl⟩
        have B7 := hid (show Below Y1.heap.size Y1 Y2 from by rw [← hY2]; exact ball _ _)
        have G2 := hid (show Y2.heap[g2]? = some (.cells #[.int .u64 sn, .slice q1 n1 e1, .slice q2 n2 e2] 49 (0, 0)) from by rw [← hY2, ← hg2]; exact World.alloc_heap_new _ _)
        have DY2 := hid (btr DY1.out B7.out)
        rw [hY2, hg2]
        clear hY2 hg2
        refine hK.out _ _ trivial (fun hHeld => ?_)
        clear hK K
        try simp only [List.getElem_toArray, List.getElem_cons_succ, List.getElem_cons_zero, Act.put, List.setIfInBounds_toArray, List.set_cons_zero, List.set_cons_succ]
        refine wpAnyH_ready (rs := [8]) (by kernel_rfl) (by simp) ?_
        refine (AllReadyH.cons (o := _) rfl (fun K hK => ?_) AllReadyH.nil)
        refine step_pic (by rfl) (.tmp 92) (.tmp 95) (by rfl) W1.heap.size (.slice pq nL pc) nL L (by rfl) (by have := (V9.out.on DY2.out).pi; rw [HNL.out] at this; exact this) g2 ⟨sn, q1, e1, bl b' 1 d, q2, e2, bl b' 2 d⟩ (by rfl) (by simp only [HN1.out, HN2.out]; exact G2.out) (by omega) (Nat.le_trans J9.out.pl.be.size DY2.out.size) (fun p' c' Y3 O3 G3 => ?_)
        have K3 := hid (kp_grown G3.out)
        have hr3 := K3.out.row (V9.out.on DY2.out).row (fun hf => by
          obtain ⟨cur, hc⟩ := Fd.own_ty (V9.out.on DY2.out).pi (by rw [HNL.out]; exact hf)
          rw [(V9.out.on DY2.out).row] at hc
          cases hc)
        have HR3 := hid hr3
        clear hr3
        refine hK.out _ _ trivial (fun hHeld => ?_)
        clear hK K
        try simp only [List.getElem_toArray, List.getElem_cons_succ, List.getElem_cons_zero, Act.put, List.setIfInBounds_toArray, List.set_cons_zero, List.set_cons_succ]
        refine' wpAnyH_take (i := 9) (oi := _) (v := _) rfl (by kernel_rfl) (by kernel_rfl) (by kernel_rfl) (fun _ _ _ h => h) (Or.inl ⟨by kernel_rfl, ?_⟩) (by assumption) ?_
        rotate_left
        · (intro w hSw; (try dsimp only at hSw); go_simp; try (with_reducible rfl))
        try simp only [List.getElem_toArray, List.getElem_cons_succ, List.getElem_cons_zero, Act.put, List.setIfInBounds_toArray, List.set_cons_zero, List.set_cons_succ]
        refine' wpAnyH_take (i := 10) (oi := _) (v := _) rfl (by kernel_rfl) (by kernel_rfl) (by kernel_rfl) (fun _ _ _ h => h) (Or.inl ⟨by kernel_rfl, ?_⟩) (by assumption) ?_
        rotate_left
        · (intro w hSw; (try dsimp only at hSw); go_simp; try (with_reducible rfl))
        try simp only [List.getElem_toArray, List.getElem_cons_succ, List.getElem_cons_zero, Act.put, List.setIfInBounds_toArray, List.set_cons_zero, List.set_cons_succ]
        refine wpAnyH_ready (rs := [11]) (by kernel_rfl) (by simp) ?_
        refine (AllReadyH.cons (o := _) rfl (fun K hK => ?_) AllReadyH.nil)
        have u3 := row_cell HR3.out 3
        have f3 := row_frz HR3.out 3
        simp only [List.getElem?_toArray, List.getElem?_cons_succ, List.getElem?_cons_zero] at u3
        go_simp
        clear u3 f3
        refine hK.out _ _ trivial (fun hHeld => ?_)
        clear hK K
        try simp only [List.getElem_toArray, List.getElem_cons_succ, List.getElem_cons_zero, Act.put, List.setIfInBounds_toArray, List.set_cons_zero, List.set_cons_succ]
        refine wpAnyH_done (by kernel_rfl) ?_ _
        have hSP := sv_pic (x := ⟨sn, q1, e1, bl b' 1 d, q2, e2, bl b' 2 d⟩) (J9.out.on DY2.out) (V9.out.on DY2.out) (R1.out.on B7.out) (R2.out.on B7.out) (by rw [HNL.out]; exact G3.out) O3.out (by rw [HNL.out])
        go_wp2
        go_roundw
        case rel => exact ⟨i + 1, b', _, _, D ++ Fd.nmb nD T, _, _, L ++ [⟨sn, q1, e1, bl b' 1 d, q2, e2, bl b' 2 d⟩], by omega, by go_num, (by have := hSP.1; rw [← HZL.out] at this; exact hid this), hid hSP.2, (by rw [List.map_append]; exact HYN), HDZ, hid (by rw [List.length_append, List.length_singleton, HLL.out])⟩
        case measure => simp [intOf]; omega
      · go_simp
        go_at_call 13
        with_reducible refine (CPI.out V0 DV0.out).mono ?_
        rintro e Y1 ⟨q1, e1, q2, e2, rfl, R1, R2, B6⟩
        have DY1 := hid (btr DV0.out B6.out)
        (try go_wp2_with fail)
        refine hK.out _ _ trivial (fun hHeld => ?_)
        clear hK K
        try simp only [List.getElem_toArray, List.getElem_cons_succ, List.getElem_cons_zero, Act.put, List.setIfInBounds_toArray, List.set_cons_zero, List.set_cons_succ]
        refine wpAnyH_ready (rs := [4, 7]) (by kernel_rfl) (by simp) ?_
        refine (AllReadyH.cons (o := _) rfl (fun K hK => ?_) (AllReadyH.cons (o := _) rfl (fun K hK => ?_) AllReadyH.nil))
        · have uS := row_cell (V9.out.on DY1.out).row 3
          simp only [List.getElem?_toArray, List.getElem?_cons_succ, List.getElem?_cons_zero] at uS
          rw [HNL.out] at uS
          go_simp
          clear uS
          refine hK.out _ _ trivial (fun hHeld => ?_)
          clear hK K
          try simp only [List.getElem_toArray, List.getElem_cons_succ, List.getElem_cons_zero, Act.put, List.setIfInBounds_toArray, List.set_cons_zero, List.set_cons_succ]
          refine wpAnyH_ready (rs := [7]) (by kernel_rfl) (by simp) ?_
          refine (AllReadyH.cons (o := _) rfl (fun K hK => ?_) AllReadyH.nil)
          go_simp
          obtain ⟨Y2, hY2⟩ : ∃ Y, Y1.alloc (.cells #[.int .u64 sn, .slice q1 n1 e1, .slice q2 n2 e2] 49) = Y := ⟨_, rfl⟩
          obtain ⟨g2, hg2⟩ : ∃ g, Y1.heap.size = g := ⟨_, rfl⟩
          have B7 := hid (show Below Y1.heap.size Y1 Y2 from by rw [← hY2]; exact ball _ _)
          have G2 := hid (show Y2.heap[g2]? = some (.cells #[.int .u64 sn, .slice q1 n1 e1, .slice q2 n2 e2] 49 (0, 0)) from by rw [← hY2, ← hg2]; exact World.alloc_heap_new _ _)
          have DY2 := hid (btr DY1.out B7.out)
          rw [hY2, hg2]
          clear hY2 hg2
          refine hK.out _ _ trivial (fun hHeld => ?_)
          clear hK K
          try simp only [List.getElem_toArray, List.getElem_cons_succ, List.getElem_cons_zero, Act.put, List.setIfInBounds_toArray, List.set_cons_zero, List.set_cons_succ]
          refine wpAnyH_ready (rs := [8]) (by kernel_rfl) (by simp) ?_
          refine (AllReadyH.cons (o := _) rfl (fun K hK => ?_) AllReadyH.nil)
          refine step_pic (by rfl) (.tmp 92) (.tmp 95) (by rfl) W1.heap.size (.slice pq nL pc) nL L (by rfl) (by have := (V9.out.on DY2.out).pi; rw [HNL.out] at this; exact this) g2 ⟨sn, q1, e1, bl b' 1 d, q2, e2, bl b' 2 d⟩ (by rfl) (by simp only [HN1.out, HN2.out]; exact G2.out) (by omega) (Nat.le_trans J9.out.pl.be.size DY2.out.size) (fun p' c' Y3 O3 G3 => ?_)
          have K3 := hid (kp_grown G3.out)
          have hr3 := K3.out.row (V9.out.on DY2.out).row (fun hf => by
            obtain ⟨cur, hc⟩ := Fd.own_ty (V9.out.on DY2.out).pi (by rw [HNL.out]; exact hf)
            rw [(V9.out.on DY2.out).row] at hc
            cases hc)
          have HR3 := hid hr3
          clear hr3
          refine hK.out _ _ trivial (fun hHeld => ?_)
          clear hK K
          try simp only [List.getElem_toArray, List.getElem_cons_succ, List.getElem_cons_zero, Act.put, List.setIfInBounds_toArray, List.set_cons_zero, List.set_cons_succ]
          refine' wpAnyH_take (i := 9) (oi := _) (v := _) rfl (by kernel_rfl) (by kernel_rfl) (by kernel_rfl) (fun _ _ _ h => h) (Or.inl ⟨by kernel_rfl, ?_⟩) (by assumption) ?_
          rotate_left
          · (intro w hSw; (try dsimp only at hSw); go_simp; try (with_reducible rfl))
          try simp only [List.getElem_toArray, List.getElem_cons_succ, List.getElem_cons_zero, Act.put, List.setIfInBounds_toArray, List.set_cons_zero, List.set_cons_succ]
          refine' wpAnyH_take (i := 10) (oi := _) (v := _) rfl (by kernel_rfl) (by kernel_rfl) (by kernel_rfl) (fun _ _ _ h => h) (Or.inl ⟨by kernel_rfl, ?_⟩) (by assumption) ?_
          rotate_left
          · (intro w hSw; (try dsimp only at hSw); go_simp; try (with_reducible rfl))
          try simp only [List.getElem_toArray, List.getElem_cons_succ, List.getElem_cons_zero, Act.put, List.setIfInBounds_toArray, List.set_cons_zero, List.set_cons_succ]
          refine wpAnyH_ready (rs := [11]) (by kernel_rfl) (by simp) ?_
          refine (AllReadyH.cons (o := _) rfl (fun K hK => ?_) AllReadyH.nil)
          have u3 := row_cell HR3.out 3
          have f3 := row_frz HR3.out 3
          simp only [List.getElem?_toArray, List.getElem?_cons_succ, List.getElem?_cons_zero] at u3
          go_simp
          clear u3 f3
          refine hK.out _ _ trivial (fun hHeld => ?_)
          clear hK K
          try simp only [List.getElem_toArray, List.getElem_cons_succ, List.getElem_cons_zero, Act.put, List.setIfInBounds_toArray, List.set_cons_zero, List.set_cons_succ]
          refine wpAnyH_done (by kernel_rfl) ?_ _
          have hSP := sv_pic (x := ⟨sn, q1, e1, bl b' 1 d, q2, e2, bl b' 2 d⟩) (J9.out.on DY2.out) (V9.out.on DY2.out) (R1.out.on B7.out) (R2.out.on B7.out) (by rw [HNL.out]; exact G3.out) O3.out (by rw [HNL.out])
          go_wp2
          go_roundw
          case rel => exact ⟨i + 1, b', _, _, D ++ Fd.nmb nD T, _, _, L ++ [⟨sn, q1, e1, bl b' 1 d, q2, e2, bl b' 2 d⟩], by omega, by go_num, (by have := hSP.1; rw [← HZL.out] at this; exact hid this), hid hSP.2, (by rw [List.map_append]; exact HYN), HDZ, hid (by rw [List.length_append, List.length_singleton, HLL.out])⟩
          case measure => simp [intOf]; omega
        · go_simp
          obtain ⟨Y2, hY2⟩ : ∃ Y, Y1.alloc (.cells #[.int .u64 sn, .slice q1 n1 e1, .slice q2 n2 e2] 49) = Y := ⟨_, rfl⟩
          obtain ⟨g2, hg2⟩ : ∃ g, Y1.heap.size = g := ⟨_, rfl⟩
          have B7 := hid (show Below Y1.heap.size Y1 Y2 from by rw [← hY2]; exact ball _ _)
          have G2 := hid (show Y2.heap[g2]? = some (.cells #[.int .u64 sn, .slice q1 n1 e1, .slice q2 n2 e2] 49 (0, 0)) from by rw [← hY2, ← hg2]; exact World.alloc_heap_new _ _)
          have DY2 := hid (btr DY1.out B7.out)
          rw [hY2, hg2]
          clear hY2 hg2
          refine hK.out _ _ trivial (fun hHeld => ?_)
          clear hK K
          try simp only [List.getElem_toArray, List.getElem_cons_succ, List.getElem_cons_zero, Act.put, List.setIfInBounds_toArray, List.set_cons_zero, List.set_cons_succ]
          refine wpAnyH_ready (rs := [4]) (by kernel_rfl) (by simp) ?_
          refine (AllReadyH.cons (o := _) rfl (fun K hK => ?_) AllReadyH.nil)
          have uS := row_cell (V9.out.on DY2.out).row 3
          simp only [List.getElem?_toArray, List.getElem?_cons_succ, List.getElem?_cons_zero] at uS
          rw [HNL.out] at uS
          go_simp
          clear uS
          refine hK.out _ _ trivial (fun hHeld => ?_)
          clear hK K
          try simp only [List.getElem_toArray, List.getElem_cons_succ, List.getElem_cons_zero, Act.put, List.setIfInBounds_toArray, List.set_cons_zero, List.set_cons_succ]
          refine wpAnyH_ready (rs := [8]) (by kernel_rfl) (by simp) ?_
          refine (AllReadyH.cons (o := _) rfl (fun K hK => ?_) AllReadyH.nil)
          refine step_pic (by rfl) (.tmp 92) (.tmp 95) (by rfl) W1.heap.size (.slice pq nL pc) nL L (by rfl) (by have := (V9.out.on DY2.out).pi; rw [HNL.out] at this; exact this) g2 ⟨sn, q1, e1, bl b' 1 d, q2, e2, bl b' 2 d⟩ (by rfl) (by simp only [HN1.out, HN2.out]; exact G2.out) (by omega) (Nat.le_trans J9.out.pl.be.size DY2.out.size) (fun p' c' Y3 O3 G3 => ?_)
          have K3 := hid (kp_grown G3.out)
          have hr3 := K3.out.row (V9.out.on DY2.out).row (fun hf => by
            obtain ⟨cur, hc⟩ := Fd.own_ty (V9.out.on DY2.out).pi (by rw [HNL.out]; exact hf)
            rw [(V9.out.on DY2.out).row] at hc
            cases hc)
          have HR3 := hid hr3
          clear hr3
          refine hK.out _ _ trivial (fun hHeld => ?_)
          clear hK K
          try simp only [List.getElem_toArray, List.getElem_cons_succ, List.getElem_cons_zero, Act.put, List.setIfInBounds_toArray, List.set_cons_zero, List.set_cons_succ]
          refine' wpAnyH_take (i := 9) (oi := _) (v := _) rfl (by kernel_rfl) (by kernel_rfl) (by kernel_rfl) (fun _ _ _ h => h) (Or.inl ⟨by kernel_rfl, ?_⟩) (by assumption) ?_
          rotate_left
          · (intro w hSw; (try dsimp only at hSw); go_simp; try (with_reducible rfl))
          try simp only [List.getElem_toArray, List.getElem_cons_succ, List.getElem_cons_zero, Act.put, List.setIfInBounds_toArray, List.set_cons_zero, List.set_cons_succ]
          refine' wpAnyH_take (i := 10) (oi := _) (v := _) rfl (by kernel_rfl) (by kernel_rfl) (by kernel_rfl) (fun _ _ _ h => h) (Or.inl ⟨by kernel_rfl, ?_⟩) (by assumption) ?_
          rotate_left
          · (intro w hSw; (try dsimp only at hSw); go_simp; try (with_reducible rfl))
          try simp only [List.getElem_toArray, List.getElem_cons_succ, List.getElem_cons_zero, Act.put, List.setIfInBounds_toArray, List.set_cons_zero, List.set_cons_succ]
          refine wpAnyH_ready (rs := [11]) (by kernel_rfl) (by simp) ?_
          refine (AllReadyH.cons (o := _) rfl (fun K hK => ?_) AllReadyH.nil)
          have u3 := row_cell HR3.out 3
          have f3 := row_frz HR3.out 3
          simp only [List.getElem?_toArray, List.getElem?_cons_succ, List.getElem?_cons_zero] at u3
          go_simp
          clear u3 f3
          refine hK.out _ _ trivial (fun hHeld => ?_)
          clear hK K
          try simp only [List.getElem_toArray, List.getElem_cons_succ, List.getElem_cons_zero, Act.put, List.setIfInBounds_toArray, List.set_cons_zero, List.set_cons_succ]
          refine wpAnyH_done (by kernel_rfl) ?_ _
          have hSP := sv_pic (x := ⟨sn, q1, e1, bl b' 1 d, q2, e2, bl b' 2 d⟩) (J9.out.on DY2.out) (V9.out.on DY2.out) (R1.out.on B7.out) (R2.out.on B7.out) (by rw [HNL.out]; exact G3.out) O3.out (by rw [HNL.out])
          go_wp2
          go_roundw
          case rel => exact ⟨i + 1, b', _, _, D ++ Fd.nmb nD T, _, _, L ++ [⟨sn, q1, e1, bl b' 1 d, q2, e2, bl b' 2 d⟩], by omega, by go_num, (by have := hSP.1; rw [← HZL.out] at this; exact hid this), hid hSP.2, (by rw [List.map_append]; exact HYN), HDZ, hid (by rw [List.length_append, List.length_singleton, HLL.out])⟩
          case measure => simp [intOf]; omega
    · have hi5 : i = n := by omega
      subst hi5
      go_wp2
      go_ret2
      exact ⟨_, S, B, P, dq, dc, D, pq, pc, L, b, rfl, HV.out, (by have := HY.out; rw [List.take_of_length_le (by rw [HN.out]; exact Nat.le_refl _)] at this; exact this), (by have := HDL.out; omega), (by have := HLL.out; omega), btr HB0.out HJ.out.pl.be⟩
end Go.Proofs.Ytojmcfkbekodpaa
