/-
  A side's levels are changed by a message.
-/
import Derived.Test.YtiphgfghdbmlcaaHd
import Derived.Test.YtiphgfghdbmlcaaFhC
namespace Go.Proofs.Ytiphgfghdbmlcaa
open Go.RowKit Go.Deep
set_option linter.unusedVariables false
set_option linter.unusedSimpArgs false
set_option maxHeartbeats 8000000
set_option maxRecDepth 100000
theorem Lo.setAt {w : World} {g c : Nat} {l : List Lv} (h : Lo 0 w (Option.some ⟨g, 0, none⟩) c l) {i : Nat} (hi : i < l.length) (v : Lv) : Lo 0 (w.setCells g (i * 3) (lrow v).toList) (Option.some ⟨g, 0, none⟩) c (l.set i v) := by
  obtain ⟨g', cur, e, hr, hs, hlc, hcm, ht⟩ := h.atL (by omega)
  injection e with e
  injection e with e
  subst e
  unfold Lo
  rw [List.length_set]
  refine own_ext (Nat.zero_le _) (setCells_row _ _ _ _ hr) hlc hcm (by rw [spl_size]; exact hs) (by rw [lvc_len, List.length_set]) (fun j hj => ?_)
  have e1 := lvc_at (l := l.set i v) (j := j) (by rw [List.length_set]; exact hj)
  rw [e1]
  by_cases hj2 : j < i * 3 ∨ i * 3 + 3 ≤ j
  · rw [spl_out _ _ _ _ (by rw [lrow_len]; exact hj2), Lo.curAt ht hj, lvc_at hj]
    have : ¬ i = j / 3 := by omega
    simp only [List.getElem_set, this, if_false]
  · have e2 : j / 3 = i := by omega
    have e3 : j % 3 = j - i * 3 := by omega
    have := spl_in (lrow v).toList cur (i * 3) (j - i * 3) (by rw [lrow_len]; omega) (by rw [hs]; omega)
    rw [show i * 3 + (j - i * 3) = j by omega] at this
    rw [this, e3]
    simp only [e2, List.getElem_set_self]
theorem infoL1 : (Try.prog.info? 89).map (·.size) = some 3 := by kernel_rfl
theorem change_any (p : Option Addr) (c : Nat) (l : List Lv) (d : Dm) (w : World) (h : Lo 0 w p c l) (ho : Lok d.sd l) (hg : dgn d = (d.ct == 0)) :
    Calls Try.prog 66 #[.slice p l.length c, .agg #[.int .u64 d.sq, .int .i64 d.kd, .int .i64 d.sd, .int .i64 d.pr, .int .u64 d.qt, .int .i64 d.ct]] w fun e w' => ∃ q c', e = .returned (.slice q (dnl d.sd (lvD d) (d.ct == 0) l).length c') ∧ Lo 0 w' q c' (dnl d.sd (lvD d) (d.ct == 0) l) ∧ Kp (fun g => OfP p g) w w' ∧ Fr w.heap.size p q := by
  obtain ⟨D, hD⟩ : ∃ D, dnl d.sd (lvD d) (d.ct == 0) l = D := ⟨_, rfl⟩
  rw [hD]
  have HDn := hid hD
  obtain ⟨R, hR⟩ : ∃ R, w.heap.size = R := ⟨_, rfl⟩
  obtain ⟨W, hW⟩ : ∃ W, w.alloc (.cells #[.int .u64 d.sq, .int .i64 d.kd, .int .i64 d.sd, .int .i64 d.pr, .int .u64 d.qt, .int .i64 d.ct] 48) = W := ⟨_, rfl⟩
  have hb0 : Below w.heap.size w W := by rw [← hW]; exact ball _ _
  have HD := hid (show W.heap[R]? = some (.cells #[.int .u64 d.sq, .int .i64 d.kd, .int .i64 d.sd, .int .i64 d.pr, .int .u64 d.qt, .int .i64 d.ct] 48 (0, 0)) from by rw [← hW, ← hR]; exact World.alloc_heap_new _ _)
  have G := hid (fun (U : World) => isGone_any d U)
  rw [hg] at G
  have CS := hid (bsearch_any R d.sd d.pr p c l W (h.rl.on hb0) ho (row_cell HD.out 2) (row_lt HD.out))
  have HLn := hid ho.len
  have HO := hid ho
  have HL := hid h
  obtain ⟨n, hn⟩ : ∃ n, l.length = n := ⟨_, rfl⟩
  have HN := hid hn
  rw [hn] at CS ⊢
  have HB := hid hb0
  have HW := hid hW
  have HR := hid hR
  obtain ⟨k0, k1, k2, k3, k4, k5⟩ := row6 HD.out
  clear h ho hg hb0 hW hR hn hD
  go_enter Try.func66, Try.ntmps66
  go_upto_region 1 with fail
  rw [HW.out, HR.out]
  go_upto_region 2 with (go_at_call 69; with_reducible refine (CS.out).mono ?_; rintro e w1 ⟨i, bb, rfl, hp, hb⟩; have HP := hid hp; have HB1 := hid hb; clear hp hb)
  have hin : i ≤ n := by have := HP.out.le; rw [HN.out] at this; exact this
  have hnl : n ≤ 262144 := by have := HLn.out; have := HN.out; omega
  clear k0 k1 k2 k3 k4 k5
  obtain ⟨k0, k1, k2, k3, k4, k5⟩ := row6 (row_on HD.out HB1.out)
  go_upto_region 3 with fail
  obtain ⟨W3, hW3⟩ : ∃ W3, w1.alloc (.cells #[.int .i64 d.pr, .int .u64 d.qt, .int .i64 d.ct] 89) = W3 := ⟨_, rfl⟩
  obtain ⟨R3, hR3⟩ : ∃ R3, w1.heap.size = R3 := ⟨_, rfl⟩
  have HB3 := hid (show Below W.heap.size W W3 from by rw [← hW3]; exact btr HB1.out (ball _ _))
  have HL3 := hid (show W3.heap[R3]? = some (.cells #[.int .i64 d.pr, .int .u64 d.qt, .int .i64 d.ct] 89 (0, 0)) from by rw [← hW3, ← hR3]; exact World.alloc_heap_new _ _)
  have HR3 := hid (show w.heap.size ≤ R3 from by rw [← hR3]; exact (btr HB.out HB1.out).size)
  rw [hW3, hR3]
  clear hW3 hR3 k0 k1 k2 k3 k4 k5
  obtain ⟨k0, k1, k2, k3, k4, k5⟩ := row6 (row_on HD.out HB3.out)
  cases hgo : (d.ct == 0) with
  | true =>
    rw [hgo] at G
    have HGO := hid hgo
    clear hgo
    cases bb with
    | true =>
      have E := hid (show D = l.take i ++ l.drop (i + 1) from by rw [← HDn.out, HGO.out, dnl_gone_in HP.out HO.out, List.eraseIdx_eq_take_drop_succ])
      have hil : i < l.length := (HP.out.b.1 rfl).1
      obtain ⟨g, cur, rfl, _⟩ := HL.out.atL (by omega)
      have b1 : IntKind.i64.wrap ((i : Int) + 1) = (i : Int) + 1 := by rw [IntKind.wrap_i64]; omega
      have HDE := hid (fun (U : World) (hU : Below w.heap.size w U) => delete_any g c l i (i + 1) U (HL.out.on hU) (by omega) (by omega) HLn.out)
      rw [HN.out, ← E.out, show ((i + 1 : Nat) : Int) = (i : Int) + 1 from by omega] at HDE
      clear hil
      go_wp2_with (first | (go_at_call 63; with_reducible refine (G.out _).mono ?_; rintro e w4 ⟨rfl, hb⟩; have HB4 := hid (btr HB.out (btr HB3.out hb)); have CD := hid (HDE.out w4 HB4.out); clear hb) | (go_at_call 71; with_reducible refine (CD.out).mono ?_; rintro e w5 ⟨rfl, h1, h2⟩; have F1 := hid h1; have F2 := hid h2; clear h1 h2))
      go_ret
      exact ⟨_, _, rfl, F1.out, (Kp.of _ HB4.out).trans F2.out (fun b _ e => by rw [e]; exact OfP.mk g), Fr.refl _ _⟩
    | false =>
      have E := hid (show D = l from by rw [← HDn.out, HGO.out, dnl_gone_out HP.out HO.out])
      go_wp2_with (first | (go_at_call 63; with_reducible refine (G.out _).mono ?_; rintro e w4 ⟨rfl, hb⟩; have HB4 := hid (btr HB.out (btr HB3.out hb)); clear hb))
      go_ret
      exact ⟨p, c, by rw [E.out, HN.out]; rfl, by rw [E.out]; exact HL.out.on HB4.out, Kp.of _ HB4.out, Fr.refl _ _⟩
  | false =>
    rw [hgo] at G
    have HGO := hid hgo
    clear hgo
    cases bb with
    | true =>
      have E := hid (show D = l.set i (lvD d) from by rw [← HDn.out, HGO.out, dnl_set HP.out HO.out])
      have hil : i < l.length := (HP.out.b.1 rfl).1
      obtain ⟨g, cur, rfl, hr, hs, _⟩ := HL.out.atL (by omega)
      have hilt : (i : Int) < (n : Int) := by have := HN.out; omega
      have hi0 : (0 : Int) ≤ (i : Int) := by omega
      have HI := hid hil
      have HRW := hid hr
      have TH0 := hid (show i * 3 + 3 ≤ cur.size from by have := HL.out.rl.cap; rw [hs]; omega)
      clear hil hr hs
      go_upto_region 6 with (first | (go_at_call 63; with_reducible refine (G.out _).mono ?_; rintro e w4 ⟨rfl, hb⟩; have HB4 := hid (btr HB.out (btr HB3.out hb)); have HL4 := hid (row_on HL3.out hb); clear hb))
      obtain ⟨m0, m1, m2⟩ := row3 HL4.out
      have TH := hid (row_there (row_on HRW.out HB4.out) (i * 3) 3 TH0.out)
      go_wp2_with (refine wpList_store_mid (by rfl) 89 (.tmp 39) (.tmp 38) (by rfl) g (i * 3) #[.int .i64 d.pr, .int .u64 d.qt, .int .i64 d.ct] (by rfl) (by rfl) TH.out infoL1 (by simp [Value.oneCell']) ?_)
      go_ret
      exact ⟨some ⟨g, 0, none⟩, c, by rw [E.out, List.length_set, HN.out]; rfl, by rw [E.out]; exact (HL.out.on HB4.out).setAt HI.out (lvD d), (Kp.of _ HB4.out).trans (setCells_kp g _ _ _) (fun b _ e => by rw [e]; exact OfP.mk g), Fr.refl _ _⟩
    | false =>
      have E := hid (show D = ins i ⟨d.pr, d.qt, d.ct⟩ l from by rw [← HDn.out, HGO.out, dnl_new HP.out HO.out]; rfl)
      have HIns := hid (fun (U : World) (V : Nat) (hU : Below w.heap.size w U) (hV : U.heap[V]? = some (.cells #[.int .i64 d.pr, .int .u64 d.qt, .int .i64 d.ct] 89 (0, 0))) (hne : w.heap.size ≤ V) => insert_any p c l i ⟨d.pr, d.qt, d.ct⟩ V U (HL.out.on hU) HP.out.le HLn.out hV (fun e => by obtain ⟨cu, hc⟩ := HL.out.ty e; have := row_lt hc; omega))
      rw [HN.out, ← E.out] at HIns
      go_upto_region 8 with (first | (go_at_call 63; with_reducible refine (G.out _).mono ?_; rintro e w4 ⟨rfl, hb⟩; have HB4 := hid (btr HB.out (btr HB3.out hb)); have HL4 := hid (row_on HL3.out hb); clear hb))
      obtain ⟨m0, m1, m2⟩ := row3 HL4.out
      have HV5 := hid (World.alloc_heap_new w4 (.cells #[.int .i64 d.pr, .int .u64 d.qt, .int .i64 d.ct] 89))
      have HB5 := hid (btr HB4.out (ball w4 (.cells #[.int .i64 d.pr, .int .u64 d.qt, .int .i64 d.ct] 89)))
      have CI := hid (HIns.out _ _ HB5.out HV5.out HB4.out.size)
      go_wp2_with (go_at_call 72; with_reducible refine (CI.out).mono ?_; rintro e w6 ⟨q, c', rfl, h1, h2, h3⟩; have F1 := hid h1; have F2 := hid h2; have F3 := hid h3; clear h1 h2 h3)
      go_ret
      exact ⟨q, c', rfl, F1.out, (Kp.of _ HB5.out).trans F2.out (fun _ _ h => h), F3.out.mono HB5.out.size⟩
end Go.Proofs.Ytiphgfghdbmlcaa
