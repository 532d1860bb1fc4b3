/-
  Encode of a book that can be.
-/
import Derived.Test.YtjpkodllemoniaaDoorWiH
import Derived.Lib.SmallJoins
namespace Go.Proofs.YtjpkodllemoniaaDoor.Wi
open Go.RowKit Go.Deep Go.Proofs.YtjpkodllemoniaaDoor.Crc
open Go.Proofs.YtjpkodllemoniaaDoor.Cp (btr ball row_on row_cell row_lt row_ne row6 Or Osz ors ors_len own_form)
open Go.Proofs.YtjpkodllemoniaaDoor.Sr (Rt RtW RtOk AllOk BoOk Rz)
set_option linter.unusedVariables false
set_option linter.unusedSimpArgs false
set_option maxHeartbeats 8000000
set_option maxRecDepth 100000
attribute [local go_sem ↓] Go.wp_at_zero Go.wp_at_succ
theorem Wo.parts {base : Nat} {w : World} {B n : Nat} {xs : List Nat} (h : Wo base w B xs) (hn : xs.length = n) : ∃ g c, w.heap[B]? = some (.cells #[.slice (some ⟨g, 0, none⟩) n c] 41 (0, 0)) ∧ w.ownsRow base 5 1 (.slice (some ⟨g, 0, none⟩) n c) n (bv xs) := by
  subst hn
  exact h.2
theorem own_bs {base : Nat} {w : World} {g n c : Nat} {xs : List Nat} (h : w.ownsRow base 5 1 (.slice (some ⟨g, 0, none⟩) n c) n (bv xs)) : Bs w g 0 xs := fun i hi => by
  have := h.cells (g := g) rfl i (.int .u8 ((xs[i] : Nat) : Int)) (by simp [bv, hi])
  rw [Addr.add_mid] at this
  exact this
theorem Laid.on2 {w w' : World} {base : Nat} (h : Laid w) (hb : Below base w w') (h0 : 0 < base) : Laid w' := fun k hk => (hb.cell (p := ⟨0, k, none⟩) h0).trans (h k hk)
theorem encode_ok (cap meet high seq : Int) (pb ps : Option Addr) (cb cs n m : Nat) (b s : List Or) (w : World) (ok : BoOk ⟨cap, meet, pb, cb, b, ps, cs, s, high, seq⟩) (rb : Rz w pb b) (rs : Rz w ps s)
    (hw1 : ∀ i (hi : i < b.length), RtW b[i]) (hw2 : ∀ i (hi : i < s.length), RtW s[i]) (hm1 : ∀ i (hi : i < b.length), MbW b[i]) (hm2 : ∀ i (hi : i < s.length), MbW s[i]) (hh : 0 ≤ high ∧ high < 18446744073709551616) (hq : 0 ≤ seq ∧ seq < 18446744073709551616)
    (nb : pb = none → n = 0 ∧ cb = 0) (ns : ps = none → m = 0 ∧ cs = 0) (hn : b.length = n) (hm : s.length = m) (hL : Laid w) :
    Calls Tryd.prog 6 #[.agg #[.int .i64 cap, .int .i64 meet, .slice pb n cb, .slice ps m cs, .int .u64 high, .int .u64 seq]] w fun e w' => ∃ g c, e = .returned (.tuple #[.slice (some ⟨g, 0, none⟩) (bts cap meet high seq b s).length c, .int .i64 0]) ∧ w'.ownsRow w.heap.size 5 1 (.slice (some ⟨g, 0, none⟩) (bts cap meet high seq b s).length c) (bts cap meet high seq b s).length (bv (bts cap meet high seq b s)) ∧ Below w.heap.size w w' := by
  have hf := ok.few
  have hcf := ok.cfg
  simp only at hf hcf
  have PO := hid (putOk_app (putOk_of ok.okb hw1 hm1) (putOk_of ok.oks hw2 hm2))
  have LN := hid (show (b ++ s).length = n + m from by rw [List.length_append, hn, hm])
  have NM := hid (show n + m ≤ 4096 from by omega)
  have CV := hid (fun (U : World) (hU : Below w.heap.size w U) => Sr.valid_any ⟨cap, meet, pb, cb, b, ps, cs, s, high, seq⟩ 0 (.inl ⟨ok, rfl⟩) U (rb.on hU) (rs.on hU) hw1 hw2 ⟨by simp only; omega, by simp only; omega⟩)
  unfold Sr.bor at CV
  simp only at CV
  rw [hn, hm] at CV
  have ZL := hid (show (btz cap meet high seq b s).length = 31 + 29 * (n + m) from by rw [btz_len, hn, hm])
  have HD := hid (show btz cap meet high seq b s = mag ++ hd cap meet high seq n m ++ obs (b ++ s) from by unfold btz; rw [hn, hm])
  have ZO := hid (btz_oct cap meet high seq b s)
  have BT := hid (show bts cap meet high seq b s = btz cap meet high seq b s ++ le 4 (crc (btz cap meet high seq b s)) from rfl)
  have OBb := hid (rz_osz rb)
  have OBs := hid (rz_osz rs)
  have HNb := hid hn
  have HNs := hid hm
  have NB := hid nb
  have NS := hid ns
  have WH := hid (fun (base B : Nat) (xs : List Nat) (U : World) (hW : Wr base U B xs) (hl : xs.length + 23 ≤ 1000000000) (hb : base ≤ U.heap.size) => whead_any (pb := pb) (ps := ps) (cb := cb) (cs := cs) (n := n) (m := m) (cap := cap) (meet := meet) (high := high) (seq := seq) ⟨by omega, by omega⟩ ⟨by omega, by omega⟩ hh hq ⟨by omega, by omega⟩ U hW hl hb)
  have LA := hid hL
  have POS := hid (show 0 < w.heap.size from World.block_lt_of_cell? w _ (hL 0 (by decide)))
  clear ok rb rs hw1 hw2 hm1 hm2 hh hq nb ns hn hm hL hf hcf
  obtain ⟨l, hl⟩ : ∃ l, b ++ s = l := ⟨_, rfl⟩
  obtain ⟨N, hN⟩ : ∃ N, n + m = N := ⟨_, rfl⟩
  obtain ⟨z, hz⟩ : ∃ z, btz cap meet high seq b s = z := ⟨_, rfl⟩
  obtain ⟨hdz, hhd⟩ : ∃ z, mag ++ hd cap meet high seq n m = z := ⟨_, rfl⟩
  have HHL := hid (show hdz.length = 31 from by rw [← hhd, List.length_append, hd_len]; rfl)
  obtain ⟨bt, hbt⟩ : ∃ z, bts cap meet high seq b s = z := ⟨_, rfl⟩
  rw [hl] at PO LN
  rw [hN] at LN NM
  rw [hz] at ZL HD ZO BT
  rw [hN] at ZL
  rw [hhd, hl] at HD
  rw [hbt] at BT ⊢
  have CC := hid (fun (U : World) (h1 : Below w.heap.size w U) => concat_any U.heap.size pb ps cb cs n m b s (U.alloc (.cells #[.slice pb n cb, .slice ps m cs] 24)) (World.alloc_heap_new _ _) ((OBb.out.on h1).on (ball _ _)) ((OBs.out.on h1).on (ball _ _)) NB.out NS.out HNb.out HNs.out (by have := NM.out; omega))
  rw [hl, hN] at CC
  clear OBb OBs HNb HNs NB NS hz hbt hl hN
  obtain ⟨W0, hW0⟩ : ∃ U, w.alloc (.cells #[.int .i64 cap, .int .i64 meet, .slice pb n cb, .slice ps m cs, .int .u64 high, .int .u64 seq] 27) = U := ⟨_, rfl⟩
  obtain ⟨R, hR⟩ : ∃ R, w.heap.size = R := ⟨_, rfl⟩
  have BA := hid (show Below w.heap.size w W0 from by rw [← hW0]; exact ball _ _)
  have RB0 := hid (show W0.heap[R]? = some (.cells #[.int .i64 cap, .int .i64 meet, .slice pb n cb, .slice ps m cs, .int .u64 high, .int .u64 seq] 27 (0, 0)) from by rw [← hW0, ← hR]; exact World.alloc_heap_new _ _)
  obtain ⟨b0, b1, b2, b3, b4, b5⟩ := row6 RB0.out
  obtain ⟨base, hbase⟩ : ∃ x, w.heap.size = x := ⟨_, rfl⟩
  rw [hbase] at POS
  go_enter Tryd.func6, Tryd.ntmps6
  go_upto_region 1 with fail
  clear hW0 hR
  go_upto_region 2 with (go_at_call 13; with_reducible refine (CV.out _ BA.out).mono ?_; rintro e w1 ⟨rfl, h1⟩; have B1 := hid h1; clear h1)
  clear CV b0 b1 b2 b3 b4 b5
  have cv := Go.Joins.run_convert_bytes_const_at (P := Tryd.prog) w1 41 5 #[.int .u8 66, .int .u8 82, .int .u8 83, .int .u8 66, .int .u8 79, .int .u8 79, .int .u8 75, .int .u8 49] 8 8 w1.heap.size rfl Tryd.underlying41 Tryd.underlying5
  go_upto_region 5 with fail
  clear cv
  obtain ⟨W2, hW2⟩ : ∃ W, w1.alloc (.cells #[.int .u8 66, .int .u8 82, .int .u8 83, .int .u8 66, .int .u8 79, .int .u8 79, .int .u8 75, .int .u8 49] 5 (8, 9)) = W := ⟨_, rfl⟩
  obtain ⟨g0, hg0⟩ : ∃ g, w1.heap.size = g := ⟨_, rfl⟩
  obtain ⟨W3, hW3⟩ : ∃ W, W2.alloc (.cells #[.slice (some ⟨g0, 0, none⟩) 8 8] 41) = W := ⟨_, rfl⟩
  obtain ⟨B, hB⟩ : ∃ g, g0 + 1 = g := ⟨_, rfl⟩
  have hB2 : W2.heap.size = B := by rw [← hW2, ← hB, ← hg0]; simp
  have b12 := hid (show Below w1.heap.size w1 W2 from by rw [← hW2]; exact ball _ _)
  have b23 := hid (show Below W2.heap.size W2 W3 from by rw [← hW3]; exact ball _ _)
  have BW3 := hid (btr BA.out (btr B1.out (btr b12.out b23.out)))
  have HB0 := hid (show base ≤ W3.heap.size from by rw [← hbase]; exact BW3.out.size)
  have WR3 := hid (show Wr base W3 B mag from by
    have s1 : base ≤ g0 := by rw [← hbase, ← hg0]; exact Nat.le_trans BA.out.size B1.out.size
    have r1 : W3.heap[g0]? = some (.cells #[.int .u8 66, .int .u8 82, .int .u8 83, .int .u8 66, .int .u8 79, .int .u8 79, .int .u8 75, .int .u8 49] 5 (8, 9)) := row_on (by rw [← hW2, ← hg0]; exact World.alloc_heap_new _ _) b23.out
    refine ⟨by omega, g0, 8, by rw [← hW3, ← hB2]; exact World.alloc_heap_new _ _, .inr ⟨s1, rfl, rfl, (8, 9), r1⟩⟩)
  have RB3 := hid (row_on RB0.out (btr B1.out (btr b12.out b23.out)))
  have LW3 := hid (LA.out.on BW3.out)
  rw [hW2, hg0, hW3, hB]
  clear hW2 hg0 hW3 hB hB2 b12 b23 BA B1 RB0 LA
  obtain ⟨b0, b1, b2, b3, b4, b5⟩ := row6 RB3.out
  go_upto_region 6 with (go_at_call 14; with_reducible refine (WH.out base B mag _ WR3.out (by decide) HB0.out).mono ?_; rintro e w4 ⟨rfl, h1, h2⟩; have WR4 := hid h1; have KT4 := hid h2; clear h1 h2)
  clear b0 b1 b2 b3 b4 b5 WR3 WH
  rw [hhd] at WR4
  have RB4 := hid (KT4.out.2 _ _ _ RB3.out (by decide) (by decide))
  obtain ⟨b0, b1, b2, b3, b4, b5⟩ := row6 RB4.out
  have BW4 := hid (show Below w.heap.size w w4 from BW3.out.trans (by rw [hbase]; exact KT4.out.1))
  have C1 := hid (CC.out w4 BW4.out)
  go_upto_region 7 with (go_at_call 15; with_reducible refine C1.out.mono ?_; rintro e w5 ⟨v5, rfl, h1, h2⟩; have O5 := hid h1; have B5' := hid (btr (ball w4 (.cells #[.slice pb n cb, .slice ps m cs] 24)) h2); clear h1 h2; obtain ⟨pl, cl, rfl⟩ := own_form O5.out)
  have B5 := hid (show Below w4.heap.size w4 w5 from B5'.out)
  have OL5 := hid (show w5.ownsRow 0 46 7 (.slice pl N cl) N (ors l) from Cp.own_base O5.out (Nat.zero_le _))
  have WR5 := hid (WR4.out.on B5.out)
  have BW5 := hid (btr BW4.out B5.out)
  have HB5 := hid (show base ≤ w5.heap.size from by rw [← hbase]; exact BW5.out.size)
  have LW5 := hid ((LW3.out.on2 KT4.out.1 POS.out).on B5.out)
  clear b0 b1 b2 b3 b4 b5 C1 CC O5 B5' B5 WR4 RB4 RB3 KT4 BW3 BW4 LW3 HB0
  have WO := hid (fun (U : World) (xs : List Nat) (o : Or) (ho : PutOk o) (hW : Wr base U B xs) (hl : xs.length + 29 ≤ 1000000000) (hb : base ≤ U.heap.size) => worder_any (i := o.id) (mb := o.mb) (ty := o.ty) (pr := o.pr) (vi := o.vi) (hi := o.hi) (pk := o.pk) ho.1 ho.2.1 ho.2.2.1 ho.2.2.2.1 ho.2.2.2.2.1 ho.2.2.2.2.2.1 ho.2.2.2.2.2.2 U hW hl hb)
  go_loopw [24] (fun iv wr => ∃ i : Nat, i ≤ N ∧ iv = .int .i64 i ∧ Hid (Wo base wr B (hdz ++ obs (l.take i))) ∧ Hid (Kt base w5 wr)) (fun iv _ => N - (intOf iv).toNat)
  case atStart => exact ⟨0, Nat.zero_le _, rfl, show Wo base w5 B (hdz ++ obs (l.take 0)) from by simpa [obs] using WR5.out, Kt.refl _ _⟩
  case round =>
    clear WR5
    obtain ⟨i, hin, rfl, WR, KT⟩ := hrel
    have HS := hid (Nat.le_trans HB5.out KT.out.1.size)
    by_cases hlt : i < N
    · have hil : i < l.length := by rw [LN.out]; exact hlt
      have OW := own_kt OL5.out KT.out (by decide) (by decide)
      obtain ⟨gl, ol, rfl, a0, a1, a2, a3, a4, a5, a6⟩ := Cp.osz_cells (rz_osz (Cp.own_rz LN.out OW)) (Below.refl _ _) hil
      have PY := hid (PO.out i hil)
      have HNX := hid (obs_next l hil)
      have HLX := hid (show (hdz ++ obs (l.take i)).length = 31 + 29 * i from by rw [List.length_append, HHL.out, obs_len, List.length_take]; omega)
      obtain ⟨y, hy⟩ : ∃ y, l[i] = y := ⟨_, rfl⟩
      rw [hy] at a0 a1 a2 a3 a4 a5 a6 PY HNX
      obtain ⟨yi, ym, yt, yp, yv, yh, yk⟩ := y
      dsimp only at a0 a1 a2 a3 a4 a5 a6
      have i0 : (0 : Int) ≤ (i : Int) := by omega
      have i1 : (i : Int) < (N : Int) := by omega
      have wi : IntKind.i64.wrap ((i : Int) + 1) = ((i + 1 : Nat) : Int) := by have := NM.out; rw [IntKind.wrap_i64]; omega
      have HLT := hid hlt
      clear hy hil hlt OW hin
      go_upto_region 9 with fail
      obtain ⟨W7, hW7⟩ : ∃ W, wr.alloc (.cells #[.int .u64 yi, .int .u32 ym, .int .i64 yt, .int .i64 yp, .int .u64 yv, .int .u64 yh, .int .u64 yk] 46) = W := ⟨_, rfl⟩
      obtain ⟨gy, hgy⟩ : ∃ g, wr.heap.size = g := ⟨_, rfl⟩
      have B7 := hid (show Below wr.heap.size wr W7 from by rw [← hW7]; exact ball _ _)
      obtain ⟨y0, y1, y2, y3, y4, y5, y6⟩ := row7 (show W7.heap[gy]? = some (.cells #[.int .u64 yi, .int .u32 ym, .int .i64 yt, .int .i64 yp, .int .u64 yv, .int .u64 yh, .int .u64 yk] 46 (0, 0)) from by rw [← hW7, ← hgy]; exact World.alloc_heap_new _ _)
      have WR7 := hid (WR.out.on B7.out)
      have HS7 := hid (Nat.le_trans HS.out B7.out.size)
      have KT7 := hid (KT.out.trans (Kt.of B7.out HS.out))
      have HNM := hid (show i < 4096 from by have := NM.out; have := HLT.out; omega)
      rw [hW7, hgy]
      clear hW7 hgy a0 a1 a2 a3 a4 a5 a6 WR KT
      go_wp2_with (go_at_call 16; with_reducible refine (WO.out W7 _ ⟨yi, ym, yt, yp, yv, yh, yk⟩ PY.out WR7.out.wr (by have := HLX.out; have := HNM.out; omega) HS7.out).mono ?_; rintro e w8 ⟨rfl, h1, h2⟩; have WR8 := hid h1; have KT8 := hid h2; clear h1 h2)
      go_roundw
      case rel => exact ⟨i + 1, HLT.out, by go_num, by rw [HNX.out, ← List.append_assoc]; exact WR8.out, KT7.out.trans KT8.out⟩
      case measure => have := HLT.out; simp [intOf]; omega
    · obtain rfl : i = N := by omega
      have iF : decide ((i : Int) < (i : Int)) = false := by simp
      have WRZ := hid (show Wo base wr B z from by
        have := WR.out
        rw [List.take_of_length_le (by rw [LN.out]; exact Nat.le_refl _), ← HD.out] at this
        exact this)
      obtain ⟨gz, cz, rz1, rz2⟩ := WRZ.out.parts rfl
      have SM := hid (wsum_any (.slice (some ⟨gz, 0, none⟩) z.length cz) z wr (by have := ZL.out; have := NM.out; omega) ZO.out (.inr ⟨gz, 0, cz, rfl, own_bs rz2⟩) (LW5.out.on2 KT.out.1 POS.out))
      have k0 := row_cell rz1 0
      have hcr := crc_lt z
      have wc : IntKind.u64.wrap ((crc z : Nat) : Int) = ((crc z : Nat) : Int) := by rw [IntKind.wrap_u64]; omega
      have P4 := hid (show Calls Tryd.prog 17 #[.pointer (some ⟨B, 0, none⟩), .int .i64 4, .int .u64 ((crc z : Nat) : Int)] wr fun e w' => e = .returned (.tuple #[]) ∧ Wo base w' B (z ++ le 4 ((crc z : Nat) : Int).toNat) ∧ Kt base wr w' from wput_any (k := 4) wr WRZ.out.wr (by decide) (by decide) (by omega) (by omega) (by have := ZL.out; have := NM.out; omega) HS.out)
      obtain ⟨cr, hcz⟩ : ∃ c, crc z = c := ⟨_, rfl⟩
      rw [hcz] at SM wc P4 hcr
      rw [hcz] at BT
      simp only [List.getElem?_toArray, List.getElem?_cons_zero] at k0
      clear hcz rz1 rz2
      go_upto_region 12 with (first | (go_at_call 18; with_reducible refine SM.out.mono ?_; rintro e w8 ⟨rfl, rfl⟩) | (go_at_call 17; with_reducible refine P4.out.mono ?_; rintro e w9 ⟨rfl, h1, h2⟩; have WR9 := hid h1; have KT9 := hid h2; clear h1 h2))
      rw [Int.toNat_natCast, ← BT.out] at WR9
      obtain ⟨gf, cf, rf1, rf2⟩ := WR9.out.parts rfl
      have k1 := row_cell rf1 0
      have RF2 := hid rf2
      simp only [List.getElem?_toArray, List.getElem?_cons_zero] at k1
      clear k0 rf1 rf2
      go_wp2
      go_ret2
      exact ⟨gf, cf, rfl, by rw [hbase]; exact RF2.out, by
        have h1 : Below base w5 w9 := KT.out.1.trans KT9.out.1
        exact BW5.out.trans (by rw [hbase]; exact h1)⟩
end Go.Proofs.YtjpkodllemoniaaDoor.Wi
