/-
  FhD
-/
import Derived.Test.YtojmcfkbekodpaaFhB
import Derived.Test.YtojmcfkbekodpaaHa
namespace Go.Proofs.Ytojmcfkbekodpaa.Fd
open Go.RowKit Go.Deep
set_option linter.unusedVariables false
set_option linter.unusedSimpArgs false
set_option maxHeartbeats 8000000
set_option maxRecDepth 100000
theorem Lo.setAt {w : World} {g c : Nat} {l : List Lv} (h : Lo 0 w (Option.some ⟨g, 0, none⟩) c l) {i : Nat} (hi : i < l.length) (v : Lv) : Lo 0 (w.setCells g (i * 3) (lrow v).toList) (Option.some ⟨g, 0, none⟩) c (l.set i v) := by
  obtain ⟨g', cur, e, hr, hs, hlc, hcm, ht⟩ := h.atL (by omega)
  injection e with e
  injection e with e
  subst e
  unfold Lo
  rw [List.length_set]
  refine own_ext (Nat.zero_le _) (setCells_row _ _ _ _ hr) hlc hcm (by rw [spl_size]; exact hs) (by rw [lvc_len, List.length_set]) (fun j hj => ?_)
  have e1 := lvc_at (l := l.set i v) (j := j) (by rw [List.length_set]; exact hj)
  rw [e1]
  by_cases hj2 : j < i * 3 ∨ i * 3 + 3 ≤ j
  · rw [spl_out _ _ _ _ (by rw [lrow_len]; exact hj2), Lo.curAt ht hj, lvc_at hj]
    have : ¬ i = j / 3 := by omega
    simp only [List.getElem_set, this, if_false]
  · have e2 : j / 3 = i := by omega
    have e3 : j % 3 = j - i * 3 := by omega
    have := spl_in (lrow v).toList cur (i * 3) (j - i * 3) (by rw [lrow_len]; omega) (by rw [hs]; omega)
    rw [show i * 3 + (j - i * 3) = j by omega] at this
    rw [this, e3]
    simp only [e2, List.getElem_set_self]
theorem infoL1 : (Try.prog.info? 71).map (·.size) = some 3 := by kernel_rfl
theorem change_any (p : Option Addr) (c : Nat) (l : List Lv) (d : Dm) (w : World) (h : Lo 0 w p c l) (ho : Lok d.sd l) (hg : dgn d = (d.ct == 0)) :
    Calls Try.prog 66 #[.slice p l.length c, .agg #[.int .u64 d.sq, .int .i64 d.kd, .int .i64 d.sd, .int .i64 d.pr, .int .u64 d.qt, .int .i64 d.ct]] w fun e w' => ∃ q c', e = .returned (.slice q (dnl d.sd (lvD d) (d.ct == 0) l).length c') ∧ Lo 0 w' q c' (dnl d.sd (lvD d) (d.ct == 0) l) ∧ Kp (fun g => OfP p g) w w' ∧ Fr w.heap.size p q := by
  obtain ⟨D, hD⟩ : ∃ D, dnl d.sd (lvD d) (d.ct == 0) l = D := ⟨_, rfl⟩
  rw [hD]
  have HDn := hid hD
  obtain ⟨R, hR⟩ : ∃ R, w.heap.size = R := ⟨_, rfl⟩
  obtain ⟨W, hW⟩ : ∃ W, w.alloc (.cells #[.int .u64 d.sq, .int .i64 d.kd, .int .i64 d.sd, .int .i64 d.pr, .int .u64 d.qt, .int .i64 d.ct] 47) = W := ⟨_, rfl⟩
  have hb0 : Below w.heap.size w W := by rw [← hW]; exact ball _ _
  have HD := hid (show W.heap[R]? = some (.cells #[.int .u64 d.sq, .int .i64 d.kd, .int .i64 d.sd, .int .i64 d.pr, .int .u64 d.qt, .int .i64 d.ct] 47 (0, 0)) from by rw [← hW, ← hR]; exact World.alloc_heap_new _ _)
  have G := hid (fun (U : World) => isGone_any d U)
  rw [hg] at G
  have CS := hid (bsearch_any R d.sd d.pr p c l W (h.rl.on hb0) ho (row_cell HD.out 2) (row_lt HD.out))
  have HLn := hid ho.len
  have HO := hid ho
  have HL := hid h
  obtain ⟨n, hn⟩ : ∃ n, l.length = n := ⟨_, rfl⟩
  have HN := hid hn
  rw [hn] at CS ⊢
  have HB := hid hb0
  have HW := hid hW
  have HR := hid hR
  obtain ⟨k0, k1, k2, k3, k4, k5⟩ := row6 HD.out
  clear h ho hg hb0 hW hR hn hD
  go_enter Try.func66, Try.ntmps66
  go_upto_region 1 with fail
  rw [HW.out, HR.out]
  go_upto_region 2 with (go_at_call 79; with_reducible refine (CS.out).mono ?_; rintro e w1 ⟨i, bb, rfl, hp, hb⟩; have HP := hid hp; have HB1 := hid hb; clear hp hb)
  have hin : i ≤ n := by have := HP.out.le; rw [HN.out] at this; exact this
  have hnl : n ≤ 262144 := by have := HLn.out; have := HN.out; omega
  clear k0 k1 k2 k3 k4 k5
  obtain ⟨k0, k1, k2, k3, k4, k5⟩ := row6 (row_on HD.out HB1.out)
  go_upto_region 3 with fail
  obtain ⟨W3, hW3⟩ : ∃ W3, w1.alloc (.cells #[.int .i64 d.pr, .int .u64 d.qt, .int .i64 d.ct] 71) = W3 := ⟨_, rfl⟩
  obtain ⟨R3, hR3⟩ : ∃ R3, w1.heap.size = R3 := ⟨_, rfl⟩
  have HB3 := hid (show Below W.heap.size W W3 from by rw [← hW3]; exact btr HB1.out (ball _ _))
  have HL3 := hid (show W3.heap[R3]? = some (.cells #[.int .i64 d.pr, .int .u64 d.qt, .int .i64 d.ct] 71 (0, 0)) from by rw [← hW3, ← hR3]; exact World.alloc_heap_new _ _)
  have HR3 := hid (show w.heap.size ≤ R3 from by rw [← hR3]; exact (btr HB.out HB1.out).size)
  rw [hW3, hR3]
  clear hW3 hR3 k0 k1 k2 k3 k4 k5
  obtain ⟨k0, k1, k2, k3, k4, k5⟩ := row6 (row_on HD.out HB3.out)
  cases hgo : (d.ct == 0) with
  | true =>
    rw [hgo] at G
    have HGO := hid hgo
    clear hgo
    cases bb with
    | true =>
      have E := hid (show D = l.take i ++ l.drop (i + 1) from by rw [← HDn.out, HGO.out, dnl_gone_in HP.out HO.out, List.eraseIdx_eq_take_drop_succ])
      have hil : i < l.length := (HP.out.b.1 rfl).1
      obtain ⟨g, cur, rfl, _⟩ := HL.out.atL (by omega)
      have b1 : IntKind.i64.wrap ((i : Int) + 1) = (i : Int) + 1 := by rw [IntKind.wrap_i64]; omega
      have HDE := hid (fun (U : World) (hU : Below w.heap.size w U) => delete_any g c l i (i + 1) U (HL.out.on hU) (by omega) (by omega) HLn.out)
      rw [HN.out, ← E.out, show ((i + 1 : Nat) : Int) = (i : Int) + 1 from by omega] at HDE
      clear hil
      go_wp2_with (first | (go_at_call 65; with_reducible refine (G.out _).mono ?_; rintro e w4 ⟨rfl, hb⟩; have HB4 := hid (btr HB.out (btr HB3.out hb)); have CD := hid (HDE.out w4 HB4.out); clear hb) | (go_at_call 81; with_reducible refine (CD.out).mono ?_; rintro e w5 ⟨rfl, h1, h2⟩; have F1 := hid h1; have F2 := hid h2; clear h1 h2))
      go_ret
      exact ⟨_, _, rfl, F1.out, (Kp.of _ HB4.out).trans F2.out (fun b _ e => by rw [e]; exact OfP.mk g), Fr.refl _ _⟩
    | false =>
      have E := hid (show D = l from by rw [← HDn.out, HGO.out, dnl_gone_out HP.out HO.out])
      go_wp2_with (first | (go_at_call 65; with_reducible refine (G.out _).mono ?_; rintro e w4 ⟨rfl, hb⟩; have HB4 := hid (btr HB.out (btr HB3.out hb)); clear hb))
      go_ret
      exact ⟨p, c, by rw [E.out, HN.out]; rfl, by rw [E.out]; exact HL.out.on HB4.out, Kp.of _ HB4.out, Fr.refl _ _⟩
  | false =>
    rw [hgo] at G
    have HGO := hid hgo
    clear hgo
    cases bb with
    | true =>
      have E := hid (show D = l.set i (lvD d) from by rw [← HDn.out, HGO.out, dnl_set HP.out HO.out])
      have hil : i < l.length := (HP.out.b.1 rfl).1
      obtain ⟨g, cur, rfl, hr, hs, _⟩ := HL.out.atL (by omega)
      have hilt : (i : Int) < (n : Int) := by have := HN.out; omega
      have hi0 : (0 : Int) ≤ (i : Int) := by omega
      have HI := hid hil
      have HRW := hid hr
      have TH0 := hid (show i * 3 + 3 ≤ cur.size from by have := HL.out.rl.cap; rw [hs]; omega)
      clear hil hr hs
      go_upto_region 6 with (first | (go_at_call 65; with_reducible refine (G.out _).mono ?_; rintro e w4 ⟨rfl, hb⟩; have HB4 := hid (btr HB.out (btr HB3.out hb)); have HL4 := hid (row_on HL3.out hb); clear hb))
      obtain ⟨m0, m1, m2⟩ := row3 HL4.out
      have TH := hid (row_there (row_on HRW.out HB4.out) (i * 3) 3 TH0.out)
      go_wp2_with (refine wpList_store_mid (by rfl) 71 (.tmp 39) (.tmp 38) (by rfl) g (i * 3) #[.int .i64 d.pr, .int .u64 d.qt, .int .i64 d.ct] (by rfl) (by rfl) TH.out infoL1 (by simp [Value.oneCell']) ?_)
      go_ret
      exact ⟨some ⟨g, 0, none⟩, c, by rw [E.out, List.length_set, HN.out]; rfl, by rw [E.out]; exact (HL.out.on HB4.out).setAt HI.out (lvD d), (Kp.of _ HB4.out).trans (setCells_kp g _ _ _) (fun b _ e => by rw [e]; exact OfP.mk g), Fr.refl _ _⟩
    | false =>
      have E := hid (show D = ins i ⟨d.pr, d.qt, d.ct⟩ l from by rw [← HDn.out, HGO.out, dnl_new HP.out HO.out]; rfl)
      have HIns := hid (fun (U : World) (V : Nat) (hU : Below w.heap.size w U) (hV : U.heap[V]? = some (.cells #[.int .i64 d.pr, .int .u64 d.qt, .int .i64 d.ct] 71 (0, 0))) (hne : w.heap.size ≤ V) => insert_any p c l i ⟨d.pr, d.qt, d.ct⟩ V U (HL.out.on hU) HP.out.le HLn.out hV (fun e => by obtain ⟨cu, hc⟩ := HL.out.ty e; have := row_lt hc; omega))
      rw [HN.out, ← E.out] at HIns
      go_upto_region 8 with (first | (go_at_call 65; with_reducible refine (G.out _).mono ?_; rintro e w4 ⟨rfl, hb⟩; have HB4 := hid (btr HB.out (btr HB3.out hb)); have HL4 := hid (row_on HL3.out hb); clear hb))
      obtain ⟨m0, m1, m2⟩ := row3 HL4.out
      have HV5 := hid (World.alloc_heap_new w4 (.cells #[.int .i64 d.pr, .int .u64 d.qt, .int .i64 d.ct] 71))
      have HB5 := hid (btr HB4.out (ball w4 (.cells #[.int .i64 d.pr, .int .u64 d.qt, .int .i64 d.ct] 71)))
      have CI := hid (HIns.out _ _ HB5.out HV5.out HB4.out.size)
      go_wp2_with (go_at_call 82; with_reducible refine (CI.out).mono ?_; rintro e w6 ⟨q, c', rfl, h1, h2, h3⟩; have F1 := hid h1; have F2 := hid h2; have F3 := hid h3; clear h1 h2 h3)
      go_ret
      exact ⟨q, c', rfl, F1.out, (Kp.of _ HB5.out).trans F2.out (fun _ _ h => h), F3.out.mono HB5.out.size⟩
end Go.Proofs.Ytojmcfkbekodpaa.Fd
namespace Go.Proofs.Ytojmcfkbekodpaa.Fd
open Go.RowKit Go.Deep
set_option linter.unusedVariables false
set_option linter.unusedSimpArgs false
set_option maxHeartbeats 8000000
set_option maxRecDepth 100000
/-- a subscriber lies. -/
structure Su (w : World) (S M nm hold : Nat) (s : Ss) (p1 : Option Addr) (c1 : Nat) (p2 : Option Addr) (c2 : Nat) : Prop where
  sb : Sb w S M nm s.sq hold s.gr p1 c1 s.l1 p2 c2 s.l2 s.L s.la
  ap : ∀ g, OfP p1 g → ¬ OfP p2 g
theorem Su.on {w w' : World} {S M nm hold : Nat} {s : Ss} {p1 p2 : Option Addr} {c1 c2 : Nat} (h : Su w S M nm hold s p1 c1 p2 c2) (hb : Below w.heap.size w w') : Su w' S M nm hold s p1 c1 p2 c2 := ⟨h.sb.on hb, h.ap⟩
theorem Su.lt {w : World} {S M nm hold : Nat} {s : Ss} {p1 p2 : Option Addr} {c1 c2 : Nat} (h : Su w S M nm hold s p1 c1 p2 c2) : (∀ g, OfP p1 g → g < w.heap.size) ∧ (∀ g, OfP p2 g → g < w.heap.size) :=
  ⟨fun g hg => by obtain ⟨cu, hc⟩ := h.sb.o1.ty hg; exact row_lt hc, fun g hg => by obtain ⟨cu, hc⟩ := h.sb.o2.ty hg; exact row_lt hc⟩
theorem do_sellS {w : World} {S M nm hold : Nat} {s : Ss} {p1 p2 : Option Addr} {c1 c2 : Nat} (h : Su w S M nm hold s p1 c1 p2 c2) (d : Dm) (hok : dOk d = true) (hq : 0 ≤ d.sq ∧ d.sq < 18446744073709551616) (hk : d.kd = 1) (hsd : d.sd = 2) : Calls Try.prog 41 #[.pointer (some ⟨S, 0, none⟩), .agg #[.int .u64 d.sq, .int .i64 d.kd, .int .i64 d.sd, .int .i64 d.pr, .int .u64 d.qt, .int .i64 d.ct]] w fun e w' => e = .returned (.tuple #[]) ∧ ∃ q1 e1 q2 e2, Su w' S M nm hold (doS s d) q1 e1 q2 e2 ∧ Kp (fun g => g = S ∨ OfP p1 g ∨ OfP p2 g) w w' ∧ Fr w.heap.size p1 q1 ∧ Fr w.heap.size p2 q2 := by
  have hgn : dgn d = (d.ct == 0) := by
    have := (dOk_iff d).1 hok
    rw [Bool.eq_iff_iff]
    simp only [dgn, decide_eq_true_eq, beq_iff_eq]
    omega
  have hlok : Lok 2 (dnl d.sd (lvD d) (d.ct == 0) s.l2) := by
    have := h.sb.k2.dnS hok
    unfold dnS at this
    rw [if_pos ⟨hk, hsd⟩, ← hsd] at this
    rw [← hsd]
    exact this
  have e0 : doS s d = ⟨d.sq, s.gr, s.l1, dnl d.sd (lvD d) (d.ct == 0) s.l2, s.L, s.la⟩ := by
    unfold doS dnS
    simp [hk, hsd]
  obtain ⟨sq, gr, l1, l2, L, la⟩ := s
  obtain ⟨h, ap⟩ := h
  rw [e0]
  clear e0
  dsimp only at h hlok ⊢
  obtain ⟨D, hD⟩ : ∃ D, dnl d.sd (lvD d) (d.ct == 0) l2 = D := ⟨_, rfl⟩
  obtain ⟨R, hR⟩ : ∃ R, w.heap.size = R := ⟨_, rfl⟩
  obtain ⟨W, hW⟩ : ∃ W, w.alloc (.cells #[.int .u64 d.sq, .int .i64 d.kd, .int .i64 d.sd, .int .i64 d.pr, .int .u64 d.qt, .int .i64 d.ct] 47) = W := ⟨_, rfl⟩
  have hb0 : Below w.heap.size w W := by rw [← hW]; exact ball _ _
  have HD := hid (show W.heap[R]? = some (.cells #[.int .u64 d.sq, .int .i64 d.kd, .int .i64 d.sd, .int .i64 d.pr, .int .u64 d.qt, .int .i64 d.ct] 47 (0, 0)) from by rw [← hW, ← hR]; exact World.alloc_heap_new _ _)
  have HS := hid (h.on hb0)
  have HB := hid hb0
  have HW := hid hW
  have HR := hid hR
  have CE := hid (change_any p2 c2 l2 d W.drew (HS.out.o2.on (bdrew1 W)) (by rw [hsd]; exact h.k2) hgn)
  rw [hD] at CE hlok ⊢
  have q1 : (d.kd == 2) = false := by simp [hk]
  have q2 : (d.sd == 1) = false := by simp [hsd]
  obtain ⟨n2, hn2⟩ : ∃ n, l2.length = n := ⟨_, rfl⟩
  obtain ⟨m, hm⟩ : ∃ n, D.length = n := ⟨_, rfl⟩
  have HN := hid hn2
  have HM0 := hid hm
  obtain ⟨k0, k1, k2, k3, k4, k5⟩ := row12 HS.out.row
  obtain ⟨j0, j1, j2, j3, j4, j5⟩ := row6 HD.out
  rw [hn2] at CE k2
  rw [hm] at CE
  have HNW := hid hlok
  have HAP := hid ap
  have HLT := hid (Su.lt (s := ⟨sq, gr, l1, l2, L, la⟩) ⟨h, ap⟩)
  clear h hb0 hW hR k0 k1 k3 k4 k5 hk hsd hgn hn2 hm hlok ap hD hok
  go_enter Try.func41, Try.ntmps41
  go_upto_region 2 with fail
  rw [HW.out, HR.out]
  go_upto_region 1 with fail
  have LW := hid (show ∀ (w1 : World), Kp (fun g => OfP p2 g) W.drew w1 → w1.heap[S]? = some (.cells #[.int .u64 sq, .slice p1 l1.length c1, .slice p2 l2.length c2, .int .i64 hold, .map (some M), .int .u64 gr, .int .u64 la.sq, .int .i64 la.kd, .int .i64 la.sd, .int .i64 la.pr, .int .u64 la.qt, .int .i64 la.ct] 105 (0, 0)) ∧ w1.heap[R]? = some (.cells #[.int .u64 d.sq, .int .i64 d.kd, .int .i64 d.sd, .int .i64 d.pr, .int .u64 d.qt, .int .i64 d.ct] 47 (0, 0)) from fun w1 hk => by
    have hs := HS.out.on (bdrew1 W)
    refine ⟨hk.row hs.row (fun e => ?_), hk.row (row_on HD.out (bdrew1 W)) (fun e => ?_)⟩
    · obtain ⟨cu, hc⟩ := hs.o2.ty e; exact row_ne hc hs.row (by decide) rfl
    · obtain ⟨cu, hc⟩ := hs.o2.ty e; exact row_ne hc (row_on HD.out (bdrew1 W)) (by decide) rfl)
  go_region_law (go_simp; go_at_call 66; with_reducible refine (CE.out).mono ?_; rintro e w1 ⟨q, c', rfl, h1, h2, h3⟩; have F1 := hid h1; have F2 := hid h2; have F3 := hid h3; obtain ⟨g1, g2⟩ := LW.out w1 h2; have G1 := hid g1; have G2 := hid g2; have z2 := row_cell g1 2; have z3 := row_frz g1 2; clear h1 h2 h3 g1 g2)
  all_goals
    clear z2 z3
    obtain ⟨V, hV⟩ : ∃ V, w1.setCell ⟨S, 2, none⟩ (.slice q m c') = V := ⟨_, rfl⟩
    have GV := hid (show V.heap[S]? = some (.cells #[.int .u64 sq, .slice p1 l1.length c1, .slice q m c', .int .i64 hold, .map (some M), .int .u64 gr, .int .u64 la.sq, .int .i64 la.kd, .int .i64 la.sd, .int .i64 la.pr, .int .u64 la.qt, .int .i64 la.ct] 105 (0, 0)) from by rw [← hV]; exact set_row _ G1.out)
    have GD := hid (show V.heap[R]? = some (.cells #[.int .u64 d.sq, .int .i64 d.kd, .int .i64 d.sd, .int .i64 d.pr, .int .u64 d.qt, .int .i64 d.ct] 47 (0, 0)) from by rw [← hV]; exact set_oth _ G2.out (row_ne G2.out G1.out (by decide)))
    have KV := hid (show Kp (fun g => g = S) w1 V from by rw [← hV]; exact Kp.set _ _ _ _)
    rw [hV]
    clear hV
    have z0 := row_cell GV.out 0
    have z1 := row_frz GV.out 0
    obtain ⟨t0, t1, t2, t3, t4, t5⟩ := row6 GD.out
    go_wp2
    go_end0
    have hf : Fr w.heap.size p2 q := F3.out.mono (by have := HB.out.size; simpa using this)
    refine ⟨rfl, p1, c1, q, c', ⟨?_, ?_⟩, ?_, Fr.refl _ _, hf⟩
    · have hs := HS.out.on (bdrew1 W)
      have K2 := KV.out.trans (Kp.set V S 0 (.int .u64 d.sq)) (fun _ _ h => h)
      have ns : ∀ g, (∃ cu, w1.heap[g]? = some (.cells cu 71 (0, 0))) → ¬ g = S := fun g hg e => by obtain ⟨cu, hc⟩ := hg; exact row_ne hc G1.out (by decide) e
      have oo := hs.o1.kept F2.out (fun g hg => HAP.out g hg)
      have hM := hs.hm.kept F2.out (fun e => by obtain ⟨cu, hc⟩ := hs.o2.ty e; exact map_ne hs.hm hc rfl)
      refine ⟨?_, oo.kept K2 (fun g hg => ns g (oo.ty hg)), F1.out.kept K2 (fun g hg => ns g (F1.out.ty hg)), hs.k1, HNW.out, hM.kept K2 (fun e => map_ne hM G1.out e), hq, hs.gr⟩
      dsimp only
      rw [HM0.out]
      exact set_row _ GV.out
    · intro g hg hg2
      have hb := HLT.out.1 g hg
      rcases hf g hg2 with e | e
      · exact HAP.out g hg e
      · omega
    · refine (((Kp.of _ (btr HB.out (bdrew1 W))).trans F2.out (fun _ _ h => .inr (.inr h))).trans KV.out (fun _ _ h => .inl h)).trans (Kp.set V S 0 (.int .u64 d.sq)) (fun _ _ h => .inl h)
theorem do_buyS {w : World} {S M nm hold : Nat} {s : Ss} {p1 p2 : Option Addr} {c1 c2 : Nat} (h : Su w S M nm hold s p1 c1 p2 c2) (d : Dm) (hok : dOk d = true) (hq : 0 ≤ d.sq ∧ d.sq < 18446744073709551616) (hk : d.kd = 1) (hsd : d.sd = 1) : Calls Try.prog 41 #[.pointer (some ⟨S, 0, none⟩), .agg #[.int .u64 d.sq, .int .i64 d.kd, .int .i64 d.sd, .int .i64 d.pr, .int .u64 d.qt, .int .i64 d.ct]] w fun e w' => e = .returned (.tuple #[]) ∧ ∃ q1 e1 q2 e2, Su w' S M nm hold (doS s d) q1 e1 q2 e2 ∧ Kp (fun g => g = S ∨ OfP p1 g ∨ OfP p2 g) w w' ∧ Fr w.heap.size p1 q1 ∧ Fr w.heap.size p2 q2 := by
  have hgn : dgn d = (d.ct == 0) := by
    have := (dOk_iff d).1 hok
    rw [Bool.eq_iff_iff]
    simp only [dgn, decide_eq_true_eq, beq_iff_eq]
    omega
  have hlok : Lok 1 (dnl d.sd (lvD d) (d.ct == 0) s.l1) := by
    have := h.sb.k1.dnS hok
    unfold dnS at this
    rw [if_pos ⟨hk, hsd⟩, ← hsd] at this
    rw [← hsd]
    exact this
  have e0 : doS s d = ⟨d.sq, s.gr, dnl d.sd (lvD d) (d.ct == 0) s.l1, s.l2, s.L, s.la⟩ := by
    unfold doS dnS
    simp [hk, hsd]
  obtain ⟨sq, gr, l1, l2, L, la⟩ := s
  obtain ⟨h, ap⟩ := h
  rw [e0]
  clear e0
  dsimp only at h hlok ⊢
  obtain ⟨D, hD⟩ : ∃ D, dnl d.sd (lvD d) (d.ct == 0) l1 = D := ⟨_, rfl⟩
  obtain ⟨R, hR⟩ : ∃ R, w.heap.size = R := ⟨_, rfl⟩
  obtain ⟨W, hW⟩ : ∃ W, w.alloc (.cells #[.int .u64 d.sq, .int .i64 d.kd, .int .i64 d.sd, .int .i64 d.pr, .int .u64 d.qt, .int .i64 d.ct] 47) = W := ⟨_, rfl⟩
  have hb0 : Below w.heap.size w W := by rw [← hW]; exact ball _ _
  have HD := hid (show W.heap[R]? = some (.cells #[.int .u64 d.sq, .int .i64 d.kd, .int .i64 d.sd, .int .i64 d.pr, .int .u64 d.qt, .int .i64 d.ct] 47 (0, 0)) from by rw [← hW, ← hR]; exact World.alloc_heap_new _ _)
  have HS := hid (h.on hb0)
  have HB := hid hb0
  have HW := hid hW
  have HR := hid hR
  have CE := hid (change_any p1 c1 l1 d W.drew (HS.out.o1.on (bdrew1 W)) (by rw [hsd]; exact h.k1) hgn)
  rw [hD] at CE hlok ⊢
  have q1 : (d.kd == 2) = false := by simp [hk]
  have q2 : (d.sd == 1) = true := by simp [hsd]
  obtain ⟨n2, hn2⟩ : ∃ n, l1.length = n := ⟨_, rfl⟩
  obtain ⟨m, hm⟩ : ∃ n, D.length = n := ⟨_, rfl⟩
  have HN := hid hn2
  have HM0 := hid hm
  obtain ⟨k0, k1, k2, k3, k4, k5⟩ := row12 HS.out.row
  obtain ⟨j0, j1, j2, j3, j4, j5⟩ := row6 HD.out
  rw [hn2] at CE k1
  rw [hm] at CE
  have HNW := hid hlok
  have HAP := hid ap
  have HLT := hid (Su.lt (s := ⟨sq, gr, l1, l2, L, la⟩) ⟨h, ap⟩)
  clear h hb0 hW hR k0 k2 k3 k4 k5 hk hsd hgn hn2 hm hlok ap hD hok
  go_enter Try.func41, Try.ntmps41
  go_upto_region 2 with fail
  rw [HW.out, HR.out]
  go_upto_region 5 with fail
  have LW := hid (show ∀ (w1 : World), Kp (fun g => OfP p1 g) W.drew w1 → w1.heap[S]? = some (.cells #[.int .u64 sq, .slice p1 l1.length c1, .slice p2 l2.length c2, .int .i64 hold, .map (some M), .int .u64 gr, .int .u64 la.sq, .int .i64 la.kd, .int .i64 la.sd, .int .i64 la.pr, .int .u64 la.qt, .int .i64 la.ct] 105 (0, 0)) ∧ w1.heap[R]? = some (.cells #[.int .u64 d.sq, .int .i64 d.kd, .int .i64 d.sd, .int .i64 d.pr, .int .u64 d.qt, .int .i64 d.ct] 47 (0, 0)) from fun w1 hk => by
    have hs := HS.out.on (bdrew1 W)
    refine ⟨hk.row hs.row (fun e => ?_), hk.row (row_on HD.out (bdrew1 W)) (fun e => ?_)⟩
    · obtain ⟨cu, hc⟩ := hs.o1.ty e; exact row_ne hc hs.row (by decide) rfl
    · obtain ⟨cu, hc⟩ := hs.o1.ty e; exact row_ne hc (row_on HD.out (bdrew1 W)) (by decide) rfl)
  go_region_law (go_simp; go_at_call 66; with_reducible refine (CE.out).mono ?_; rintro e w1 ⟨q, c', rfl, h1, h2, h3⟩; have F1 := hid h1; have F2 := hid h2; have F3 := hid h3; obtain ⟨g1, g2⟩ := LW.out w1 h2; have G1 := hid g1; have G2 := hid g2; have z2 := row_cell g1 1; have z3 := row_frz g1 1; clear h1 h2 h3 g1 g2)
  all_goals
    clear z2 z3
    obtain ⟨V, hV⟩ : ∃ V, w1.setCell ⟨S, 1, none⟩ (.slice q m c') = V := ⟨_, rfl⟩
    have GV := hid (show V.heap[S]? = some (.cells #[.int .u64 sq, .slice q m c', .slice p2 l2.length c2, .int .i64 hold, .map (some M), .int .u64 gr, .int .u64 la.sq, .int .i64 la.kd, .int .i64 la.sd, .int .i64 la.pr, .int .u64 la.qt, .int .i64 la.ct] 105 (0, 0)) from by rw [← hV]; exact set_row _ G1.out)
    have GD := hid (show V.heap[R]? = some (.cells #[.int .u64 d.sq, .int .i64 d.kd, .int .i64 d.sd, .int .i64 d.pr, .int .u64 d.qt, .int .i64 d.ct] 47 (0, 0)) from by rw [← hV]; exact set_oth _ G2.out (row_ne G2.out G1.out (by decide)))
    have KV := hid (show Kp (fun g => g = S) w1 V from by rw [← hV]; exact Kp.set _ _ _ _)
    rw [hV]
    clear hV
    have z0 := row_cell GV.out 0
    have z1 := row_frz GV.out 0
    obtain ⟨t0, t1, t2, t3, t4, t5⟩ := row6 GD.out
    go_wp2
    go_end0
    have hf : Fr w.heap.size p1 q := F3.out.mono (by have := HB.out.size; simpa using this)
    refine ⟨rfl, q, c', p2, c2, ⟨?_, ?_⟩, ?_, hf, Fr.refl _ _⟩
    · have hs := HS.out.on (bdrew1 W)
      have K2 := KV.out.trans (Kp.set V S 0 (.int .u64 d.sq)) (fun _ _ h => h)
      have ns : ∀ g, (∃ cu, w1.heap[g]? = some (.cells cu 71 (0, 0))) → ¬ g = S := fun g hg e => by obtain ⟨cu, hc⟩ := hg; exact row_ne hc G1.out (by decide) e
      have oo := hs.o2.kept F2.out (fun g hg => fun e => HAP.out g e hg)
      have hM := hs.hm.kept F2.out (fun e => by obtain ⟨cu, hc⟩ := hs.o1.ty e; exact map_ne hs.hm hc rfl)
      refine ⟨?_, F1.out.kept K2 (fun g hg => ns g (F1.out.ty hg)), oo.kept K2 (fun g hg => ns g (oo.ty hg)), HNW.out, hs.k2, hM.kept K2 (fun e => map_ne hM G1.out e), hq, hs.gr⟩
      dsimp only
      rw [HM0.out]
      exact set_row _ GV.out
    · intro g hg hg2
      have hb := HLT.out.2 g hg2
      rcases hf g hg with e | e
      · exact HAP.out g e hg2
      · omega
    · refine (((Kp.of _ (btr HB.out (bdrew1 W))).trans F2.out (fun _ _ h => .inr (.inl h))).trans KV.out (fun _ _ h => .inl h)).trans (Kp.set V S 0 (.int .u64 d.sq)) (fun _ _ h => .inl h)
theorem do_trade {w : World} {S M nm hold : Nat} {s : Ss} {p1 p2 : Option Addr} {c1 c2 : Nat} (h : Su w S M nm hold s p1 c1 p2 c2) (d : Dm) (hok : dOk d = true) (hq : 0 ≤ d.sq ∧ d.sq < 18446744073709551616) (hk : d.kd = 2) : Calls Try.prog 41 #[.pointer (some ⟨S, 0, none⟩), .agg #[.int .u64 d.sq, .int .i64 d.kd, .int .i64 d.sd, .int .i64 d.pr, .int .u64 d.qt, .int .i64 d.ct]] w fun e w' => e = .returned (.tuple #[]) ∧ ∃ q1 e1 q2 e2, Su w' S M nm hold (doS s d) q1 e1 q2 e2 ∧ Kp (fun g => g = S ∨ OfP p1 g ∨ OfP p2 g) w w' ∧ Fr w.heap.size p1 q1 ∧ Fr w.heap.size p2 q2 := by
  have e0 : doS s d = ⟨d.sq, s.gr, s.l1, s.l2, s.L, d⟩ := by
    unfold doS dnS
    simp [hk]
  obtain ⟨sq, gr, l1, l2, L, la⟩ := s
  obtain ⟨h, ap⟩ := h
  rw [e0]
  clear e0
  dsimp only at h ⊢
  obtain ⟨R, hR⟩ : ∃ R, w.heap.size = R := ⟨_, rfl⟩
  obtain ⟨W, hW⟩ : ∃ W, w.alloc (.cells #[.int .u64 d.sq, .int .i64 d.kd, .int .i64 d.sd, .int .i64 d.pr, .int .u64 d.qt, .int .i64 d.ct] 47) = W := ⟨_, rfl⟩
  have hb0 : Below w.heap.size w W := by rw [← hW]; exact ball _ _
  have HD := hid (show W.heap[R]? = some (.cells #[.int .u64 d.sq, .int .i64 d.kd, .int .i64 d.sd, .int .i64 d.pr, .int .u64 d.qt, .int .i64 d.ct] 47 (0, 0)) from by rw [← hW, ← hR]; exact World.alloc_heap_new _ _)
  have HS := hid (h.on hb0)
  have HB := hid hb0
  have HW := hid hW
  have HR := hid hR
  have q1 : (d.kd == 2) = true := by simp [hk]
  have HAP := hid ap
  obtain ⟨j0, j1, j2, j3, j4, j5⟩ := row6 HD.out
  clear h hb0 hW hR hk ap hok
  have TH := hid (row_there HS.out.row 6 6 (by simp))
  have AD := hid (show ∀ a b c d e f : Value, (Try.prog.info? 47).map (·.size) = some (#[a, b, c, d, e, f] : Array Value).size from fun _ _ _ _ _ _ => infoD)
  go_enter Try.func41, Try.ntmps41
  go_upto_region 2 with fail
  rw [HW.out, HR.out]
  go_upto_region 6 with (refine wpList_store_mid (by rfl) 47 (.tmp 22) (.tmp 20) (by rfl) S 6 #[.int .u64 d.sq, .int .i64 d.kd, .int .i64 d.sd, .int .i64 d.pr, .int .u64 d.qt, .int .i64 d.ct] (by rfl) (by rfl) TH.out (AD.out _ _ _ _ _ _) (by simp [Value.oneCell']) ?_)
  obtain ⟨V, hV⟩ : ∃ V, W.setCells S 6 #[.int .u64 d.sq, .int .i64 d.kd, .int .i64 d.sd, .int .i64 d.pr, .int .u64 d.qt, .int .i64 d.ct].toList = V := ⟨_, rfl⟩
  have hV' : (((((W.setCell ⟨S, 6, none⟩ (.int .u64 d.sq)).setCell ⟨S, 7, none⟩ (.int .i64 d.kd)).setCell ⟨S, 8, none⟩ (.int .i64 d.sd)).setCell ⟨S, 9, none⟩ (.int .i64 d.pr)).setCell ⟨S, 10, none⟩ (.int .u64 d.qt)).setCell ⟨S, 11, none⟩ (.int .i64 d.ct) = V := hV
  have KV := hid (show Kp (fun g => g = S) W V from by rw [← hV']; exact (((((Kp.set _ _ _ _).trans (Kp.set _ _ _ _) (fun _ _ h => h)).trans (Kp.set _ _ _ _) (fun _ _ h => h)).trans (Kp.set _ _ _ _) (fun _ _ h => h)).trans (Kp.set _ _ _ _) (fun _ _ h => h)).trans (Kp.set _ _ _ _) (fun _ _ h => h))
  have GV := hid (show V.heap[S]? = some (.cells #[.int .u64 sq, .slice p1 l1.length c1, .slice p2 l2.length c2, .int .i64 hold, .map (some M), .int .u64 gr, .int .u64 d.sq, .int .i64 d.kd, .int .i64 d.sd, .int .i64 d.pr, .int .u64 d.qt, .int .i64 d.ct] 105 (0, 0)) from by rw [← hV']; exact set_row _ (set_row _ (set_row _ (set_row _ (set_row _ (set_row _ HS.out.row))))))
  have GD := hid (KV.out.row HD.out (fun e => row_ne HD.out HS.out.row (by decide) e))
  try rw [hV]
  clear hV hV' j0 j1 j2 j3 j4 j5
  have z0 := row_cell GV.out 0
  have z1 := row_frz GV.out 0
  obtain ⟨t0, t1, t2, t3, t4, t5⟩ := row6 GD.out
  go_wp2
  go_end0
  refine ⟨rfl, p1, c1, p2, c2, ⟨?_, HAP.out⟩, ?_, Fr.refl _ _, Fr.refl _ _⟩
  · have hs := HS.out
    have K2 := KV.out.trans (Kp.set V S 0 (.int .u64 d.sq)) (fun _ _ h => h)
    have ns : ∀ g, (∃ cu, W.heap[g]? = some (.cells cu 71 (0, 0))) → ¬ g = S := fun g hg e => by obtain ⟨cu, hc⟩ := hg; exact row_ne hc hs.row (by decide) e
    exact ⟨set_row _ GV.out, hs.o1.kept K2 (fun g hg => ns g (hs.o1.ty hg)), hs.o2.kept K2 (fun g hg => ns g (hs.o2.ty hg)), hs.k1, hs.k2, hs.hm.kept K2 (fun e => map_ne hs.hm hs.row e), hq, hs.gr⟩
  · exact ((Kp.of _ HB.out).trans KV.out (fun _ _ h => .inl h)).trans (Kp.set V S 0 (.int .u64 d.sq)) (fun _ _ h => .inl h)
theorem do_any {w : World} {S M nm hold : Nat} {s : Ss} {p1 p2 : Option Addr} {c1 c2 : Nat} (h : Su w S M nm hold s p1 c1 p2 c2) (d : Dm) (hok : dOk d = true) (hq : 0 ≤ d.sq ∧ d.sq < 18446744073709551616) : Calls Try.prog 41 #[.pointer (some ⟨S, 0, none⟩), .agg #[.int .u64 d.sq, .int .i64 d.kd, .int .i64 d.sd, .int .i64 d.pr, .int .u64 d.qt, .int .i64 d.ct]] w fun e w' => e = .returned (.tuple #[]) ∧ ∃ q1 e1 q2 e2, Su w' S M nm hold (doS s d) q1 e1 q2 e2 ∧ Kp (fun g => g = S ∨ OfP p1 g ∨ OfP p2 g) w w' ∧ Fr w.heap.size p1 q1 ∧ Fr w.heap.size p2 q2 := by
  have h' := (dOk_iff _).1 hok
  by_cases hk : d.kd = 1
  · by_cases hs : d.sd = 1
    · exact do_buyS h d hok hq hk hs
    · exact do_sellS h d hok hq hk (by omega)
  · exact do_trade h d hok hq (by omega)
end Go.Proofs.Ytojmcfkbekodpaa.Fd
