/-
  The document's Encode of a book that can be.
-/
import Derived.Test.YtjpkodllemoniaaDoorWiJ
import Derived.Test.YtjpkodllemoniaaDoorCpV
namespace Go.Proofs.YtjpkodllemoniaaDoor.Wi
open Go.RowKit Go.Deep Go.Proofs.YtjpkodllemoniaaDoor.Crc
open Go.Proofs.YtjpkodllemoniaaDoor.Cp (btr ball row_on row_cell row_lt row_ne row6 Or Osz ors ors_len own_form own_empty own_lo own_ne own_on own_rz grow_row ors_app step_osz dvalid_any bdrew1)
open Go.Proofs.YtjpkodllemoniaaDoor.Sr (Rt RtW RtOk AllOk BoOk Rz)
set_option linter.unusedVariables false
set_option linter.unusedSimpArgs false
set_option maxHeartbeats 8000000
set_option maxRecDepth 100000
attribute [local go_sem ↓] Go.wp_at_zero Go.wp_at_succ
theorem rencode_no (cap meet high seq : Int) (pb ps : Option Addr) (cb cs n m : Nat) (b s : List Or) (w : World) (no : ¬ BoOk ⟨cap, meet, pb, cb, b, ps, cs, s, high, seq⟩) (rb : Osz w pb b) (rs : Osz w ps s)
    (hw1 : ∀ i (hi : i < b.length), RtW b[i]) (hw2 : ∀ i (hi : i < s.length), RtW s[i]) (nb : pb = none → n = 0 ∧ cb = 0) (ns : ps = none → m = 0 ∧ cs = 0) (hn : b.length = n) (hm : s.length = m) (hbig : n ≤ 4000000000000 ∧ m ≤ 4000000000000) :
    Calls Tryd.prog 7 #[.agg #[.int .i64 cap, .int .i64 meet, .slice pb n cb, .slice ps m cs, .int .u64 high, .int .u64 seq]] w fun e w' => e = .returned (.tuple #[.slice none 0 0, .int .i64 120]) ∧ Below w.heap.size w w' := by
  have CV := hid (fun (U : World) (hU : Below w.heap.size w U) => dvalid_any cap meet pb ps cb cs n m b s high seq 120 (.inr ⟨no, rfl⟩) U (rb.on hU) (rs.on hU) nb ns hn hm hw1 hw2 hbig)
  clear no rb rs hw1 hw2 hbig nb ns hn hm
  obtain ⟨W0, hW0⟩ : ∃ U, w.alloc (.cells #[.int .i64 cap, .int .i64 meet, .slice pb n cb, .slice ps m cs, .int .u64 high, .int .u64 seq] 27) = U := ⟨_, rfl⟩
  obtain ⟨R, hR⟩ : ∃ R, w.heap.size = R := ⟨_, rfl⟩
  have BA := hid (show Below w.heap.size w W0 from by rw [← hW0]; exact ball _ _)
  obtain ⟨b0, b1, b2, b3, b4, b5⟩ := row6 (show W0.heap[R]? = some (.cells #[.int .i64 cap, .int .i64 meet, .slice pb n cb, .slice ps m cs, .int .u64 high, .int .u64 seq] 27 (0, 0)) from by rw [← hW0, ← hR]; exact World.alloc_heap_new _ _)
  go_enter Tryd.func7, Tryd.ntmps7
  go_upto_region 1 with fail
  clear hW0 hR
  go_upto_region 2 with (go_at_call 19; with_reducible refine (CV.out _ BA.out).mono ?_; rintro e w1 ⟨rfl, h1⟩; have B1 := hid h1; clear h1)
  go_wp2
  go_ret2
  exact ⟨rfl, btr BA.out B1.out⟩
theorem rencode_ok (cap meet high seq : Int) (pb ps : Option Addr) (cb cs n m : Nat) (b s : List Or) (w : World) (ok : BoOk ⟨cap, meet, pb, cb, b, ps, cs, s, high, seq⟩) (rb : Osz w pb b) (rs : Osz w ps s)
    (hw1 : ∀ i (hi : i < b.length), RtW b[i]) (hw2 : ∀ i (hi : i < s.length), RtW s[i]) (hm1 : ∀ i (hi : i < b.length), MbW b[i]) (hm2 : ∀ i (hi : i < s.length), MbW s[i]) (hh : 0 ≤ high ∧ high < 18446744073709551616) (hq : 0 ≤ seq ∧ seq < 18446744073709551616) (nb : pb = none → n = 0 ∧ cb = 0) (ns : ps = none → m = 0 ∧ cs = 0) (hn : b.length = n) (hm : s.length = m) :
    Calls Tryd.prog 7 #[.agg #[.int .i64 cap, .int .i64 meet, .slice pb n cb, .slice ps m cs, .int .u64 high, .int .u64 seq]] w fun e w' => ∃ g c, e = .returned (.tuple #[.slice (some ⟨g, 0, none⟩) (bts cap meet high seq b s).length c, .int .i64 0]) ∧ w'.ownsRow w.heap.size 5 1 (.slice (some ⟨g, 0, none⟩) (bts cap meet high seq b s).length c) (bts cap meet high seq b s).length (bv (bts cap meet high seq b s)) ∧ Below w.heap.size w w' := by
  have hf := ok.few
  have hcf := ok.cfg
  simp only at hf hcf
  have PO := hid (putOk_app (putOk_of ok.okb hw1 hm1) (putOk_of ok.oks hw2 hm2))
  have LN := hid (show (b ++ s).length = n + m from by rw [List.length_append, hn, hm])
  have NM := hid (show n + m ≤ 4096 from by omega)
  have CV := hid (fun (U : World) (hU : Below w.heap.size w U) => dvalid_any cap meet pb ps cb cs n m b s high seq 0 (.inl ⟨ok, rfl⟩) U (rb.on hU) (rs.on hU) nb ns hn hm hw1 hw2 ⟨by omega, by omega⟩)
  have HD := hid (show btz cap meet high seq b s = mag ++ hd cap meet high seq n m ++ obs (b ++ s) from by unfold btz; rw [hn, hm])
  have ZL := hid (show (btz cap meet high seq b s).length = 31 + 29 * (n + m) from by rw [btz_len, hn, hm])
  have ZO := hid (btz_oct cap meet high seq b s)
  have BT := hid (show bts cap meet high seq b s = btz cap meet high seq b s ++ le 4 (crc (btz cap meet high seq b s)) from rfl)
  have HBZ := hid rb
  have HSZ := hid rs
  have HNL := hid hn
  have HML := hid hm
  have HBN := hid nb
  have HSN := hid ns
  have X0 := hid (show 0 ≤ cap ∧ cap < 18446744073709551616 from ⟨by omega, by omega⟩)
  have X1 := hid (show 0 ≤ meet ∧ meet < 18446744073709551616 from ⟨by omega, by omega⟩)
  have X2 := hid hh
  have X3 := hid hq
  have X4 := hid (show 0 ≤ (n : Int) ∧ (n : Int) < 18446744073709551616 from ⟨by omega, by omega⟩)
  have X5 := hid (show 0 ≤ (m : Int) ∧ (m : Int) < 18446744073709551616 from ⟨by omega, by omega⟩)
  have w1e : IntKind.u64.wrap cap = cap := by rw [IntKind.wrap_u64]; omega
  have w2e : IntKind.u64.wrap meet = meet := by rw [IntKind.wrap_u64]; omega
  have w3e : IntKind.u64.wrap (n : Int) = (n : Int) := by rw [IntKind.wrap_u64]; omega
  have w4e : IntKind.u64.wrap (m : Int) = (m : Int) := by rw [IntKind.wrap_u64]; omega
  clear ok rb rs hw1 hw2 hm1 hm2 hh hq nb ns hn hm hf hcf
  obtain ⟨z, hz⟩ : ∃ z, btz cap meet high seq b s = z := ⟨_, rfl⟩
  obtain ⟨bt, hbt⟩ : ∃ z, bts cap meet high seq b s = z := ⟨_, rfl⟩
  rw [hz] at ZL HD ZO BT
  rw [hbt] at BT ⊢
  clear hz hbt
  obtain ⟨W0, hW0⟩ : ∃ U, w.alloc (.cells #[.int .i64 cap, .int .i64 meet, .slice pb n cb, .slice ps m cs, .int .u64 high, .int .u64 seq] 27) = U := ⟨_, rfl⟩
  obtain ⟨R, hR⟩ : ∃ R, w.heap.size = R := ⟨_, rfl⟩
  have BA := hid (show Below w.heap.size w W0 from by rw [← hW0]; exact ball _ _)
  have RBz := hid (show W0.heap[R]? = some (.cells #[.int .i64 cap, .int .i64 meet, .slice pb n cb, .slice ps m cs, .int .u64 high, .int .u64 seq] 27 (0, 0)) from by rw [← hW0, ← hR]; exact World.alloc_heap_new _ _)
  obtain ⟨b0, b1, b2, b3, b4, b5⟩ := row6 RBz.out
  obtain ⟨base, hbase⟩ : ∃ x, w.heap.size = x := ⟨_, rfl⟩
  have HBS := hid hbase
  have P1 := hid (fun (U : World) (g cap n N' : Nat) (ys : List Nat) (x : Int) (hO : Oc base U g cap n ys) (hn0 : ys.length = n) (hN : n + 1 = N') (h0 : 0 ≤ x) (h1 : x < 18446744073709551616) (hl : N' ≤ 1000000000) (hb : base ≤ U.heap.size) => show Calls Tryd.prog 20 #[.slice (some ⟨g, 0, none⟩) n cap, .int .u64 x, .int .i64 1] U fun e w' => ∃ g' cap', e = .returned (.slice (some ⟨g', 0, none⟩) N' cap') ∧ w'.ownsRow base 5 1 (.slice (some ⟨g', 0, none⟩) N' cap') N' (bv (ys ++ le 1 x.toNat)) ∧ Kt base U w' from by subst hN; exact rput_any U hO hn0 (by decide) (by decide) h0 h1 hl hb)
  have P2 := hid (fun (U : World) (g cap n N' : Nat) (ys : List Nat) (x : Int) (hO : Oc base U g cap n ys) (hn0 : ys.length = n) (hN : n + 2 = N') (h0 : 0 ≤ x) (h1 : x < 18446744073709551616) (hl : N' ≤ 1000000000) (hb : base ≤ U.heap.size) => show Calls Tryd.prog 20 #[.slice (some ⟨g, 0, none⟩) n cap, .int .u64 x, .int .i64 2] U fun e w' => ∃ g' cap', e = .returned (.slice (some ⟨g', 0, none⟩) N' cap') ∧ w'.ownsRow base 5 1 (.slice (some ⟨g', 0, none⟩) N' cap') N' (bv (ys ++ le 2 x.toNat)) ∧ Kt base U w' from by subst hN; exact rput_any U hO hn0 (by decide) (by decide) h0 h1 hl hb)
  have P4 := hid (fun (U : World) (g cap n N' : Nat) (ys : List Nat) (x : Int) (hO : Oc base U g cap n ys) (hn0 : ys.length = n) (hN : n + 4 = N') (h0 : 0 ≤ x) (h1 : x < 18446744073709551616) (hl : N' ≤ 1000000000) (hb : base ≤ U.heap.size) => show Calls Tryd.prog 20 #[.slice (some ⟨g, 0, none⟩) n cap, .int .u64 x, .int .i64 4] U fun e w' => ∃ g' cap', e = .returned (.slice (some ⟨g', 0, none⟩) N' cap') ∧ w'.ownsRow base 5 1 (.slice (some ⟨g', 0, none⟩) N' cap') N' (bv (ys ++ le 4 x.toNat)) ∧ Kt base U w' from by subst hN; exact rput_any U hO hn0 (by decide) (by decide) h0 h1 hl hb)
  have P8 := hid (fun (U : World) (g cap n N' : Nat) (ys : List Nat) (x : Int) (hO : Oc base U g cap n ys) (hn0 : ys.length = n) (hN : n + 8 = N') (h0 : 0 ≤ x) (h1 : x < 18446744073709551616) (hl : N' ≤ 1000000000) (hb : base ≤ U.heap.size) => show Calls Tryd.prog 20 #[.slice (some ⟨g, 0, none⟩) n cap, .int .u64 x, .int .i64 8] U fun e w' => ∃ g' cap', e = .returned (.slice (some ⟨g', 0, none⟩) N' cap') ∧ w'.ownsRow base 5 1 (.slice (some ⟨g', 0, none⟩) N' cap') N' (bv (ys ++ le 8 x.toNat)) ∧ Kt base U w' from by subst hN; exact rput_any U hO hn0 (by decide) (by decide) h0 h1 hl hb)
  go_enter Tryd.func7, Tryd.ntmps7
  go_upto_region 1 with fail
  clear hW0 hR
  go_upto_region 2 with (go_at_call 19; with_reducible refine (CV.out _ BA.out).mono ?_; rintro e w1 ⟨rfl, h1⟩; have B1 := hid h1; clear h1)
  clear CV b0 b1 b2 b3 b4 b5
  have cv := Go.Joins.run_convert_bytes_const_at (P := Tryd.prog) w1 29 5 #[.int .u8 66, .int .u8 82, .int .u8 83, .int .u8 66, .int .u8 79, .int .u8 79, .int .u8 75, .int .u8 49] 8 8 w1.heap.size rfl Tryd.underlying29 Tryd.underlying5
  go_upto_region 5 with fail
  clear cv
  obtain ⟨W2, hW2⟩ : ∃ W, w1.alloc (.cells #[.int .u8 66, .int .u8 82, .int .u8 83, .int .u8 66, .int .u8 79, .int .u8 79, .int .u8 75, .int .u8 49] 5 (8, 9)) = W := ⟨_, rfl⟩
  obtain ⟨g0, hg0⟩ : ∃ g, w1.heap.size = g := ⟨_, rfl⟩
  have b12 := hid (show Below w1.heap.size w1 W2 from by rw [← hW2]; exact ball _ _)
  have s1 := hid (show base ≤ g0 from by rw [← hbase, ← hg0]; exact Nat.le_trans BA.out.size B1.out.size)
  have BW0 := hid (btr BA.out (btr B1.out b12.out))
  have BS0 := hid (show base ≤ W2.heap.size from by rw [← hbase]; exact BW0.out.size)
  have O0 := hid (show Oc base W2 g0 8 8 mag from .inr ⟨s1.out, rfl, rfl, (8, 9), by rw [← hW2, ← hg0]; exact World.alloc_heap_new _ _⟩)
  have RB0 := hid (row_on RBz.out (btr B1.out b12.out))
  have HY0 := hid (show mag.length = 8 from rfl)
  have KT0 := hid (Kt.refl base W2)
  rw [hW2, hg0]
  clear hW2 hg0 s1 b12 BA B1 RBz
  obtain ⟨ys0, hy0⟩ : ∃ ys, mag = ys := ⟨_, rfl⟩
  rw [hy0] at O0 HY0
  have HE0 := hid hy0
  clear hy0
  obtain ⟨b0, b1, b2, b3, b4, b5⟩ := row6 RB0.out
  have TT := hid (P2.out _ g0 8 8 10 ys0 (cap) O0.out HY0.out rfl X0.out.1 X0.out.2 (by decide) BS0.out)
  go_upto_region 6 with (go_at_call 20; with_reducible refine TT.out.mono ?_; rintro e V1 ⟨g1, c1, rfl, h1, h2⟩; have O1a := hid h1; have KT1a := hid h2; clear h1 h2)
  clear b0 b1 b2 b3 b4 b5
  have RB1 := hid (KT1a.out.2 _ _ _ RB0.out (by decide) (by decide))
  have BS1 := hid (Nat.le_trans BS0.out KT1a.out.1.size)
  have KT1 := hid (KT0.out.trans KT1a.out)
  obtain ⟨ys1, hy1⟩ : ∃ ys, ys0 ++ le 2 (cap).toNat = ys := ⟨_, rfl⟩
  have HE1 := hid hy1
  have HY1 := hid (show ys1.length = 10 from by rw [← hy1, List.length_append, le_len, HY0.out])
  have O1 := hid (show V1.ownsRow base 5 1 (.slice (some ⟨g1, 0, none⟩) 10 c1) 10 (bv ys1) from by rw [← hy1]; exact O1a.out)
  clear hy1 O1a KT1a O0 RB0 BS0 KT0 TT
  obtain ⟨b0, b1, b2, b3, b4, b5⟩ := row6 RB1.out
  have TT := hid (P1.out _ g1 c1 10 11 ys1 (meet) (.inl O1.out) HY1.out rfl X1.out.1 X1.out.2 (by decide) BS1.out)
  go_upto_region 7 with (go_at_call 20; with_reducible refine TT.out.mono ?_; rintro e V2 ⟨g2, c2, rfl, h1, h2⟩; have O2a := hid h1; have KT2a := hid h2; clear h1 h2)
  clear b0 b1 b2 b3 b4 b5
  have RB2 := hid (KT2a.out.2 _ _ _ RB1.out (by decide) (by decide))
  have BS2 := hid (Nat.le_trans BS1.out KT2a.out.1.size)
  have KT2 := hid (KT1.out.trans KT2a.out)
  obtain ⟨ys2, hy2⟩ : ∃ ys, ys1 ++ le 1 (meet).toNat = ys := ⟨_, rfl⟩
  have HE2 := hid hy2
  have HY2 := hid (show ys2.length = 11 from by rw [← hy2, List.length_append, le_len, HY1.out])
  have O2 := hid (show V2.ownsRow base 5 1 (.slice (some ⟨g2, 0, none⟩) 11 c2) 11 (bv ys2) from by rw [← hy2]; exact O2a.out)
  clear hy2 O2a KT2a O1 RB1 BS1 KT1 TT
  obtain ⟨b0, b1, b2, b3, b4, b5⟩ := row6 RB2.out
  have TT := hid (P8.out _ g2 c2 11 19 ys2 (high) (.inl O2.out) HY2.out rfl X2.out.1 X2.out.2 (by decide) BS2.out)
  go_upto_region 8 with (go_at_call 20; with_reducible refine TT.out.mono ?_; rintro e V3 ⟨g3, c3, rfl, h1, h2⟩; have O3a := hid h1; have KT3a := hid h2; clear h1 h2)
  clear b0 b1 b2 b3 b4 b5
  have RB3 := hid (KT3a.out.2 _ _ _ RB2.out (by decide) (by decide))
  have BS3 := hid (Nat.le_trans BS2.out KT3a.out.1.size)
  have KT3 := hid (KT2.out.trans KT3a.out)
  obtain ⟨ys3, hy3⟩ : ∃ ys, ys2 ++ le 8 (high).toNat = ys := ⟨_, rfl⟩
  have HE3 := hid hy3
  have HY3 := hid (show ys3.length = 19 from by rw [← hy3, List.length_append, le_len, HY2.out])
  have O3 := hid (show V3.ownsRow base 5 1 (.slice (some ⟨g3, 0, none⟩) 19 c3) 19 (bv ys3) from by rw [← hy3]; exact O3a.out)
  clear hy3 O3a KT3a O2 RB2 BS2 KT2 TT
  obtain ⟨b0, b1, b2, b3, b4, b5⟩ := row6 RB3.out
  have TT := hid (P8.out _ g3 c3 19 27 ys3 (seq) (.inl O3.out) HY3.out rfl X3.out.1 X3.out.2 (by decide) BS3.out)
  go_upto_region 9 with (go_at_call 20; with_reducible refine TT.out.mono ?_; rintro e V4 ⟨g4, c4, rfl, h1, h2⟩; have O4a := hid h1; have KT4a := hid h2; clear h1 h2)
  clear b0 b1 b2 b3 b4 b5
  have RB4 := hid (KT4a.out.2 _ _ _ RB3.out (by decide) (by decide))
  have BS4 := hid (Nat.le_trans BS3.out KT4a.out.1.size)
  have KT4 := hid (KT3.out.trans KT4a.out)
  obtain ⟨ys4, hy4⟩ : ∃ ys, ys3 ++ le 8 (seq).toNat = ys := ⟨_, rfl⟩
  have HE4 := hid hy4
  have HY4 := hid (show ys4.length = 27 from by rw [← hy4, List.length_append, le_len, HY3.out])
  have O4 := hid (show V4.ownsRow base 5 1 (.slice (some ⟨g4, 0, none⟩) 27 c4) 27 (bv ys4) from by rw [← hy4]; exact O4a.out)
  clear hy4 O4a KT4a O3 RB3 BS3 KT3 TT
  obtain ⟨b0, b1, b2, b3, b4, b5⟩ := row6 RB4.out
  have TT := hid (P2.out _ g4 c4 27 29 ys4 ((n : Int)) (.inl O4.out) HY4.out rfl X4.out.1 X4.out.2 (by decide) BS4.out)
  go_upto_region 10 with (go_at_call 20; with_reducible refine TT.out.mono ?_; rintro e V5 ⟨g5, c5, rfl, h1, h2⟩; have O5a := hid h1; have KT5a := hid h2; clear h1 h2)
  clear b0 b1 b2 b3 b4 b5
  have RB5 := hid (KT5a.out.2 _ _ _ RB4.out (by decide) (by decide))
  have BS5 := hid (Nat.le_trans BS4.out KT5a.out.1.size)
  have KT5 := hid (KT4.out.trans KT5a.out)
  obtain ⟨ys5, hy5⟩ : ∃ ys, ys4 ++ le 2 ((n : Int)).toNat = ys := ⟨_, rfl⟩
  have HE5 := hid hy5
  have HY5 := hid (show ys5.length = 29 from by rw [← hy5, List.length_append, le_len, HY4.out])
  have O5 := hid (show V5.ownsRow base 5 1 (.slice (some ⟨g5, 0, none⟩) 29 c5) 29 (bv ys5) from by rw [← hy5]; exact O5a.out)
  clear hy5 O5a KT5a O4 RB4 BS4 KT4 TT
  obtain ⟨b0, b1, b2, b3, b4, b5⟩ := row6 RB5.out
  have TT := hid (P2.out _ g5 c5 29 31 ys5 ((m : Int)) (.inl O5.out) HY5.out rfl X5.out.1 X5.out.2 (by decide) BS5.out)
  go_upto_region 11 with (go_at_call 20; with_reducible refine TT.out.mono ?_; rintro e V6 ⟨g6, c6, rfl, h1, h2⟩; have O6a := hid h1; have KT6a := hid h2; clear h1 h2)
  clear b0 b1 b2 b3 b4 b5
  have RB6 := hid (KT6a.out.2 _ _ _ RB5.out (by decide) (by decide))
  have BS6 := hid (Nat.le_trans BS5.out KT6a.out.1.size)
  have KT6 := hid (KT5.out.trans KT6a.out)
  obtain ⟨ys6, hy6⟩ : ∃ ys, ys5 ++ le 2 ((m : Int)).toNat = ys := ⟨_, rfl⟩
  have HE6 := hid hy6
  have HY6 := hid (show ys6.length = 31 from by rw [← hy6, List.length_append, le_len, HY5.out])
  have O6 := hid (show V6.ownsRow base 5 1 (.slice (some ⟨g6, 0, none⟩) 31 c6) 31 (bv ys6) from by rw [← hy6]; exact O6a.out)
  clear hy6 O6a KT6a O5 RB5 BS5 KT5 TT
  have HHD := hid (show ys6 = mag ++ hd cap meet high seq n m from by
    rw [← HE6.out, ← HE5.out, ← HE4.out, ← HE3.out, ← HE2.out, ← HE1.out, ← HE0.out]
    simp [hd, List.append_assoc])
  rw [← HHD.out] at HD
  clear HE0 HE1 HE2 HE3 HE4 HE5 HE6 HY0 HY1 HY2 HY3 HY4 HY5 X0 X1 X2 X3 X4 X5 w1e w2e w3e w4e HHD
  have BW6 := hid (show Below w.heap.size w V6 from BW0.out.trans (by rw [HBS.out]; exact KT6.out.1))
  clear BW0 KT6
  obtain ⟨U1, hU1⟩ : ∃ U, V6.drew = U := ⟨_, rfl⟩
  have bU1 := hid (show Below V6.heap.size V6 U1 from by rw [← hU1]; exact bdrew1 _)
  have DU1 := hid (btr BW6.out bU1.out)
  have r2 := hid (row_on RB6.out bU1.out)
  refine wp_region_held_drew (S := (fun U => U.cell? ⟨R, 2, none⟩ = some (.slice pb n cb) ∧ U.cell? ⟨R, 3, none⟩ = some (.slice ps m cs))) (by kernel_rfl) ?_ (fun hHeld => ?_)
  · (try dsimp only); rw [hU1]; exact ⟨row_cell r2.out 2, row_cell r2.out 3⟩
  rw [hU1] at hHeld ⊢
  clear hU1
  refine' wpAnyH_take (i := 1) (oi := _) (v := _) rfl (by kernel_rfl) (by kernel_rfl) (by kernel_rfl) (fun _ _ _ h => h) (Or.inl ⟨by kernel_rfl, ?_⟩) (by assumption) ?_
  rotate_left
  · (intro w hSw; (try dsimp only at hSw); go_simp; try (with_reducible rfl))
  try simp only [List.getElem_toArray, List.getElem_cons_succ, List.getElem_cons_zero, Act.put, List.setIfInBounds_toArray, List.set_cons_zero, List.set_cons_succ]
  refine' wpAnyH_take (i := 2) (oi := _) (v := _) rfl (by kernel_rfl) (by kernel_rfl) (by kernel_rfl) (fun _ _ _ h => h) (Or.inl ⟨by kernel_rfl, ?_⟩) (by assumption) ?_
  rotate_left
  · (intro w hSw; (try dsimp only at hSw); go_simp; try (with_reducible rfl))
  try simp only [List.getElem_toArray, List.getElem_cons_succ, List.getElem_cons_zero, Act.put, List.setIfInBounds_toArray, List.set_cons_zero, List.set_cons_succ]
  refine' wpAnyH_take (i := 4) (oi := _) (v := _) rfl (by kernel_rfl) (by kernel_rfl) (by kernel_rfl) (fun _ _ _ h => h) (Or.inl ⟨by kernel_rfl, ?_⟩) (by assumption) ?_
  rotate_left
  · (intro w hSw; (try dsimp only at hSw); go_simp; try (with_reducible rfl))
  try simp only [List.getElem_toArray, List.getElem_cons_succ, List.getElem_cons_zero, Act.put, List.setIfInBounds_toArray, List.set_cons_zero, List.set_cons_succ]
  refine' wpAnyH_take (i := 5) (oi := _) (v := _) rfl (by kernel_rfl) (by kernel_rfl) (by kernel_rfl) (fun _ _ _ h => h) (Or.inl ⟨by kernel_rfl, ?_⟩) (by assumption) ?_
  rotate_left
  · (intro w hSw; (try dsimp only at hSw); go_simp; try (with_reducible rfl))
  try simp only [List.getElem_toArray, List.getElem_cons_succ, List.getElem_cons_zero, Act.put, List.setIfInBounds_toArray, List.set_cons_zero, List.set_cons_succ]
  refine wpAnyH_ready (rs := [0]) (by kernel_rfl) (by simp) ?_
  refine (AllReadyH.cons (o := _) rfl (fun K hK => ?_) AllReadyH.nil)
  go_simp
  obtain ⟨X3, hX3⟩ : ∃ X, U1.alloc (.cells #[] 46) = X := ⟨_, rfl⟩
  have bX3 := hid (show Below U1.heap.size U1 X3 from by rw [← hX3]; exact ball _ _)
  have zX3 : X3.heap[U1.heap.size]? = some (.cells #[] 46 (0, 0)) := by rw [← hX3]; exact World.alloc_heap_new _ _
  have DX3 := hid (btr DU1.out bX3.out)
  have r5 := hid (row_on r2.out bX3.out)
  obtain ⟨q4, hg4⟩ : ∃ g, U1.heap.size = g := ⟨_, rfl⟩
  have QQ := hid hg4
  have ne6 := hid (show R ≠ q4 from by have := row_lt r2.out; omega)
  have yg4 := hid (Nat.le_trans DU1.out.size (Nat.le_refl _))
  rw [hg4] at zX3 yg4
  have ZX3 := hid zX3
  rw [hX3, hg4]
  clear hX3 hg4 zX3
  refine hK.out _ _ ?_ (fun hHeld => ?_)
  · (try dsimp only); exact ⟨row_cell r5.out 2, row_cell r5.out 3⟩
  clear hK K
  try simp only [List.getElem_toArray, List.getElem_cons_succ, List.getElem_cons_zero, Act.put, List.setIfInBounds_toArray, List.set_cons_zero, List.set_cons_succ]
  refine wpAnyH_ready (rs := [3]) (by kernel_rfl) (by simp) ?_
  refine (AllReadyH.cons (o := _) rfl (fun K hK => ?_) AllReadyH.nil)
  refine step_osz (by rfl) (.tmp 48) (.tmp 50) (by rfl) w.heap.size _ 0 [] (by rfl) (own_empty (size := 7) ZX3.out yg4.out) pb cb b n HNL.out (by rfl) (HBZ.out.on DX3.out) HBN.out (by have := NM.out; omega) DX3.out.size (fun v5 w5 hown hgrow => ?_)
  obtain ⟨q5, d5, rfl⟩ := own_form hown
  have h0n : 0 + n = n := Nat.zero_add n
  rw [h0n] at hown ⊢
  have Q5 := hid hown
  clear h0n
  have B5 := hid (show Below w.heap.size w w5 from DX3.out.grown hgrow DX3.out.size (fun j hj => own_lo (own_empty (size := 7) ZX3.out yg4.out) hj))
  have E5 := hid (show ∀ k cs (e : TypeId) fz, V6.heap[k]? = some (Obj.cells cs e fz) → w5.heap[k]? = some (Obj.cells cs e fz) from fun k cs e fz hk => grow_row hgrow (row_on (row_on hk bU1.out) bX3.out) (fun j hj => by
    have h1 := row_lt (row_on hk bU1.out)
    have h2 : j = q4 := by cases hj; rfl
    have h3 := QQ.out
    omega))
  have R5 := hid (E5.out _ _ _ _ RB6.out)
  clear hown hgrow
  refine hK.out _ _ ?_ (fun hHeld => ?_)
  · (try dsimp only); exact ⟨row_cell R5.out 2, row_cell R5.out 3⟩
  clear hK K
  try simp only [List.getElem_toArray, List.getElem_cons_succ, List.getElem_cons_zero, Act.put, List.setIfInBounds_toArray, List.set_cons_zero, List.set_cons_succ]
  refine wpAnyH_ready (rs := [6]) (by kernel_rfl) (by simp) ?_
  refine (AllReadyH.cons (o := _) rfl (fun K hK => ?_) AllReadyH.nil)
  refine step_osz (by rfl) (.tmp 51) (.tmp 53) (by rfl) w.heap.size _ n _ (by rfl) Q5.out ps cs s m HML.out (by rfl) (HSZ.out.on B5.out) HSN.out (by have := NM.out; omega) B5.out.size (fun v6 w6 hown hgrow => ?_)
  obtain ⟨q6, d6, rfl⟩ := own_form hown
  have Q6 := hid hown
  have B6 := hid (show Below w.heap.size w w6 from B5.out.grown hgrow B5.out.size (fun j hj => own_lo Q5.out hj))
  have E6 := hid (show ∀ k cs, V6.heap[k]? = some (Obj.cells cs 5 (0, 0)) → w6.heap[k]? = some (Obj.cells cs 5 (0, 0)) from fun k cs hk => grow_row hgrow (E5.out _ _ _ _ hk) (fun j hj => by
    obtain ⟨cur, hc⟩ := Cp.own_ty Q5.out hj
    exact row_ne hc (E5.out _ _ _ _ hk) (by decide)))
  have R6 := hid (show w6.heap[R]? = _ from grow_row hgrow R5.out (own_ne Q5.out R5.out))
  clear hown hgrow
  refine hK.out _ _ ?_ (fun hHeld => ?_)
  · (try dsimp only); exact ⟨row_cell R6.out 2, row_cell R6.out 3⟩
  clear hK K
  try simp only [List.getElem_toArray, List.getElem_cons_succ, List.getElem_cons_zero, Act.put, List.setIfInBounds_toArray, List.set_cons_zero, List.set_cons_succ]
  refine' wpAnyH_take (i := 7) (oi := _) (v := _) rfl (by kernel_rfl) (by kernel_rfl) (by kernel_rfl) (fun _ _ _ h => h) (Or.inl ⟨by kernel_rfl, ?_⟩) (by assumption) ?_
  rotate_left
  · (intro w hSw; (try dsimp only at hSw); go_simp; try (with_reducible rfl))
  try simp only [List.getElem_toArray, List.getElem_cons_succ, List.getElem_cons_zero, Act.put, List.setIfInBounds_toArray, List.set_cons_zero, List.set_cons_succ]
  refine wpAnyH_done (by kernel_rfl) ?_ _
  have OA := hid (show w6.ownsRow w.heap.size 46 7 (.slice q6 (n + m) d6) (n + m) (ors (b ++ s)) from by rw [ors_app]; exact Q6.out)
  have OH := hid (show w6.ownsRow base 5 1 (.slice (some ⟨g6, 0, none⟩) 31 c6) 31 (bv ys6) from Cp.own_same O6.out (fun g hg => by
    obtain ⟨cur, hc⟩ := Cp.own_ty O6.out hg
    rw [E6.out g cur hc, hc]))
  have BSX := hid (show base ≤ w6.heap.size from by rw [← HBS.out]; exact B6.out.size)
  rw [HBS.out] at OA
  clear Q6 Q5 E6 E5 R6 R5 r5 r2 RB6 O6 B5 DX3 bX3 DU1 bU1 ne6 yg4 ZX3 QQ HBZ HSZ HBN HSN HNL HML BS6
  obtain ⟨l, hl⟩ : ∃ l, b ++ s = l := ⟨_, rfl⟩
  obtain ⟨N, hN⟩ : ∃ N, n + m = N := ⟨_, rfl⟩
  rw [hl] at PO LN OA HD
  rw [hN] at LN NM OA ZL ⊢
  clear hl hN
  go_upto_region 13 with fail
  go_loopw [5, 7] (fun sv iv wr => ∃ (i g c nn : Nat), i ≤ N ∧ iv = .int .i64 i ∧ sv = .slice (some ⟨g, 0, none⟩) nn c ∧ Hid (nn = 31 + 29 * i) ∧ Hid (wr.ownsRow base 5 1 (.slice (some ⟨g, 0, none⟩) nn c) nn (bv (ys6 ++ obs (l.take i)))) ∧ Hid (Kt base w6 wr)) (fun _ iv _ => N - (intOf iv).toNat)
  case atStart => exact ⟨0, g6, c6, 31, Nat.zero_le _, rfl, rfl, hid rfl, hid (by simpa [obs] using OH.out), hid (Kt.refl _ _)⟩
  case round =>
    clear OH
    obtain ⟨i, g, c, nn, hin, rfl, rfl, HNN, O, KT⟩ := hrel
    have HS := hid (Nat.le_trans BSX.out KT.out.1.size)
    by_cases hlt : i < N
    · have hil : i < l.length := by rw [LN.out]; exact hlt
      have OW := own_kt OA.out KT.out (by decide) (by decide)
      obtain ⟨gl, ol, rfl, a0, a1, a2, a3, a4, a5, a6⟩ := Cp.osz_cells (rz_osz (own_rz LN.out OW)) (Below.refl _ _) hil
      have PY := hid (PO.out i hil)
      have HNX := hid (obs_next l hil)
      obtain ⟨y, hy⟩ : ∃ y, l[i] = y := ⟨_, rfl⟩
      rw [hy] at a0 a1 a2 a3 a4 a5 a6 PY HNX
      obtain ⟨yi, ym, yt, yp, yv, yh, yk⟩ := y
      dsimp only at a0 a1 a2 a3 a4 a5 a6
      have i0 : (0 : Int) ≤ (i : Int) := by omega
      have i1 : (i : Int) < (N : Int) := by omega
      have wi : IntKind.i64.wrap ((i : Int) + 1) = ((i + 1 : Nat) : Int) := by have := NM.out; rw [IntKind.wrap_i64]; omega
      have HLT := hid hlt
      have HNM := hid (show nn ≤ 118815 from by have := NM.out; have := HNN.out; omega)
      have HYL := hid (show (ys6 ++ obs (l.take i)).length = nn from by rw [List.length_append, HY6.out, obs_len, List.length_take, HNN.out]; omega)
      obtain ⟨xs, hxs⟩ : ∃ xs, ys6 ++ obs (l.take i) = xs := ⟨_, rfl⟩
      rw [hxs] at HYL O
      have HXS := hid hxs
      obtain ⟨p0, p1, p2, p3, p4, p5, p6⟩ := PY.out
      have X0 := hid (show 0 ≤ yi ∧ yi < 18446744073709551616 from p0)
      have X1 := hid (show 0 ≤ ym ∧ ym < 18446744073709551616 from p1)
      have X2 := hid (show 0 ≤ yt ∧ yt < 18446744073709551616 from p2)
      have X3 := hid (show 0 ≤ yp ∧ yp < 18446744073709551616 from p3)
      have X4 := hid (show 0 ≤ yv ∧ yv < 18446744073709551616 from p4)
      have X5 := hid (show 0 ≤ yh ∧ yh < 18446744073709551616 from p5)
      have X6 := hid (show 0 ≤ yk ∧ yk < 18446744073709551616 from p6)
      have u1 : IntKind.u64.wrap ym = ym := by have := X1.out; rw [IntKind.wrap_u64]; omega
      have u2 : IntKind.u64.wrap yt = yt := by have := X2.out; rw [IntKind.wrap_u64]; omega
      have u3 : IntKind.u64.wrap yp = yp := by have := X3.out; rw [IntKind.wrap_u64]; omega
      clear hy hil hlt OW hin hxs p0 p1 p2 p3 p4 p5 p6
      go_upto_region 16 with fail
      obtain ⟨W7, hW7⟩ : ∃ W, wr.alloc (.cells #[.int .u64 yi, .int .u32 ym, .int .i64 yt, .int .i64 yp, .int .u64 yv, .int .u64 yh, .int .u64 yk] 46) = W := ⟨_, rfl⟩
      obtain ⟨gy, hgy⟩ : ∃ g, wr.heap.size = g := ⟨_, rfl⟩
      have B7 := hid (show Below wr.heap.size wr W7 from by rw [← hW7]; exact ball _ _)
      have RB0 := hid (show W7.heap[gy]? = some (.cells #[.int .u64 yi, .int .u32 ym, .int .i64 yt, .int .i64 yp, .int .u64 yv, .int .u64 yh, .int .u64 yk] 46 (0, 0)) from by rw [← hW7, ← hgy]; exact World.alloc_heap_new _ _)
      have O0 := hid (own_on O.out B7.out)
      have BS0 := hid (Nat.le_trans HS.out B7.out.size)
      have KT0 := hid (KT.out.trans (Kt.of B7.out HS.out))
      rw [hW7, hgy]
      clear hW7 hgy a0 a1 a2 a3 a4 a5 a6 O KT B7
      obtain ⟨y0, y1, y2, y3, y4, y5, y6⟩ := row7 RB0.out
      obtain ⟨nn1, hn1⟩ : ∃ z, nn + 8 = z := ⟨_, rfl⟩
      have HN1 := hid hn1
      have HM1 := hid (show nn1 ≤ 118823 from by have := HNM.out; omega)
      clear hn1
      have TT := hid (P8.out _ g c nn nn1 xs yi (.inl O0.out) HYL.out HN1.out X0.out.1 X0.out.2 (by have := HM1.out; omega) BS0.out)
      go_upto_region 17 with (go_at_call 20; with_reducible refine TT.out.mono ?_; rintro e V1 ⟨h1, d1, rfl, h1, h2⟩; have O1a := hid h1; have KT1a := hid h2; clear h1 h2)
      clear y0 y1 y2 y3 y4 y5 y6
      have RB1 := hid (KT1a.out.2 _ _ _ RB0.out (by decide) (by decide))
      have BS1 := hid (Nat.le_trans BS0.out KT1a.out.1.size)
      have KT1 := hid (KT0.out.trans KT1a.out)
      obtain ⟨xs1, hy1⟩ : ∃ ys, xs ++ le 8 (yi).toNat = ys := ⟨_, rfl⟩
      have HE1 := hid hy1
      have HL1 := hid (show xs1.length = nn1 from by rw [← hy1, List.length_append, le_len, HYL.out, HN1.out])
      have O1 := hid (show V1.ownsRow base 5 1 (.slice (some ⟨h1, 0, none⟩) nn1 d1) nn1 (bv xs1) from by rw [← hy1]; exact O1a.out)
      clear hy1 O1a KT1a O0 RB0 BS0 KT0 TT
      obtain ⟨y0, y1, y2, y3, y4, y5, y6⟩ := row7 RB1.out
      obtain ⟨nn2, hn2⟩ : ∃ z, nn1 + 4 = z := ⟨_, rfl⟩
      have HN2 := hid hn2
      have HM2 := hid (show nn2 ≤ 118827 from by have := HM1.out; omega)
      clear hn2
      have TT := hid (P4.out _ h1 d1 nn1 nn2 xs1 ym (.inl O1.out) HL1.out HN2.out X1.out.1 X1.out.2 (by have := HM2.out; omega) BS1.out)
      go_upto_region 18 with (go_at_call 20; with_reducible refine TT.out.mono ?_; rintro e V2 ⟨h2, d2, rfl, h1, h2⟩; have O2a := hid h1; have KT2a := hid h2; clear h1 h2)
      clear y0 y1 y2 y3 y4 y5 y6
      have RB2 := hid (KT2a.out.2 _ _ _ RB1.out (by decide) (by decide))
      have BS2 := hid (Nat.le_trans BS1.out KT2a.out.1.size)
      have KT2 := hid (KT1.out.trans KT2a.out)
      obtain ⟨xs2, hy2⟩ : ∃ ys, xs1 ++ le 4 (ym).toNat = ys := ⟨_, rfl⟩
      have HE2 := hid hy2
      have HL2 := hid (show xs2.length = nn2 from by rw [← hy2, List.length_append, le_len, HL1.out, HN2.out])
      have O2 := hid (show V2.ownsRow base 5 1 (.slice (some ⟨h2, 0, none⟩) nn2 d2) nn2 (bv xs2) from by rw [← hy2]; exact O2a.out)
      clear hy2 O2a KT2a O1 RB1 BS1 KT1 TT
      obtain ⟨y0, y1, y2, y3, y4, y5, y6⟩ := row7 RB2.out
      obtain ⟨nn3, hn3⟩ : ∃ z, nn2 + 1 = z := ⟨_, rfl⟩
      have HN3 := hid hn3
      have HM3 := hid (show nn3 ≤ 118828 from by have := HM2.out; omega)
      clear hn3
      have TT := hid (P1.out _ h2 d2 nn2 nn3 xs2 yt (.inl O2.out) HL2.out HN3.out X2.out.1 X2.out.2 (by have := HM3.out; omega) BS2.out)
      go_upto_region 19 with (go_at_call 20; with_reducible refine TT.out.mono ?_; rintro e V3 ⟨h3, d3, rfl, h1, h2⟩; have O3a := hid h1; have KT3a := hid h2; clear h1 h2)
      clear y0 y1 y2 y3 y4 y5 y6
      have RB3 := hid (KT3a.out.2 _ _ _ RB2.out (by decide) (by decide))
      have BS3 := hid (Nat.le_trans BS2.out KT3a.out.1.size)
      have KT3 := hid (KT2.out.trans KT3a.out)
      obtain ⟨xs3, hy3⟩ : ∃ ys, xs2 ++ le 1 (yt).toNat = ys := ⟨_, rfl⟩
      have HE3 := hid hy3
      have HL3 := hid (show xs3.length = nn3 from by rw [← hy3, List.length_append, le_len, HL2.out, HN3.out])
      have O3 := hid (show V3.ownsRow base 5 1 (.slice (some ⟨h3, 0, none⟩) nn3 d3) nn3 (bv xs3) from by rw [← hy3]; exact O3a.out)
      clear hy3 O3a KT3a O2 RB2 BS2 KT2 TT
      obtain ⟨y0, y1, y2, y3, y4, y5, y6⟩ := row7 RB3.out
      obtain ⟨nn4, hn4⟩ : ∃ z, nn3 + 4 = z := ⟨_, rfl⟩
      have HN4 := hid hn4
      have HM4 := hid (show nn4 ≤ 118832 from by have := HM3.out; omega)
      clear hn4
      have TT := hid (P4.out _ h3 d3 nn3 nn4 xs3 yp (.inl O3.out) HL3.out HN4.out X3.out.1 X3.out.2 (by have := HM4.out; omega) BS3.out)
      go_upto_region 20 with (go_at_call 20; with_reducible refine TT.out.mono ?_; rintro e V4 ⟨h4, d4, rfl, h1, h2⟩; have O4a := hid h1; have KT4a := hid h2; clear h1 h2)
      clear y0 y1 y2 y3 y4 y5 y6
      have RB4 := hid (KT4a.out.2 _ _ _ RB3.out (by decide) (by decide))
      have BS4 := hid (Nat.le_trans BS3.out KT4a.out.1.size)
      have KT4 := hid (KT3.out.trans KT4a.out)
      obtain ⟨xs4, hy4⟩ : ∃ ys, xs3 ++ le 4 (yp).toNat = ys := ⟨_, rfl⟩
      have HE4 := hid hy4
      have HL4 := hid (show xs4.length = nn4 from by rw [← hy4, List.length_append, le_len, HL3.out, HN4.out])
      have O4 := hid (show V4.ownsRow base 5 1 (.slice (some ⟨h4, 0, none⟩) nn4 d4) nn4 (bv xs4) from by rw [← hy4]; exact O4a.out)
      clear hy4 O4a KT4a O3 RB3 BS3 KT3 TT
      obtain ⟨y0, y1, y2, y3, y4, y5, y6⟩ := row7 RB4.out
      obtain ⟨nn5, hn5⟩ : ∃ z, nn4 + 4 = z := ⟨_, rfl⟩
      have HN5 := hid hn5
      have HM5 := hid (show nn5 ≤ 118836 from by have := HM4.out; omega)
      clear hn5
      have TT := hid (P4.out _ h4 d4 nn4 nn5 xs4 yv (.inl O4.out) HL4.out HN5.out X4.out.1 X4.out.2 (by have := HM5.out; omega) BS4.out)
      go_upto_region 21 with (go_at_call 20; with_reducible refine TT.out.mono ?_; rintro e V5 ⟨h5, d5, rfl, h1, h2⟩; have O5a := hid h1; have KT5a := hid h2; clear h1 h2)
      clear y0 y1 y2 y3 y4 y5 y6
      have RB5 := hid (KT5a.out.2 _ _ _ RB4.out (by decide) (by decide))
      have BS5 := hid (Nat.le_trans BS4.out KT5a.out.1.size)
      have KT5 := hid (KT4.out.trans KT5a.out)
      obtain ⟨xs5, hy5⟩ : ∃ ys, xs4 ++ le 4 (yv).toNat = ys := ⟨_, rfl⟩
      have HE5 := hid hy5
      have HL5 := hid (show xs5.length = nn5 from by rw [← hy5, List.length_append, le_len, HL4.out, HN5.out])
      have O5 := hid (show V5.ownsRow base 5 1 (.slice (some ⟨h5, 0, none⟩) nn5 d5) nn5 (bv xs5) from by rw [← hy5]; exact O5a.out)
      clear hy5 O5a KT5a O4 RB4 BS4 KT4 TT
      obtain ⟨y0, y1, y2, y3, y4, y5, y6⟩ := row7 RB5.out
      obtain ⟨nn6, hn6⟩ : ∃ z, nn5 + 4 = z := ⟨_, rfl⟩
      have HN6 := hid hn6
      have HM6 := hid (show nn6 ≤ 118840 from by have := HM5.out; omega)
      clear hn6
      have TT := hid (P4.out _ h5 d5 nn5 nn6 xs5 yh (.inl O5.out) HL5.out HN6.out X5.out.1 X5.out.2 (by have := HM6.out; omega) BS5.out)
      go_upto_region 22 with (go_at_call 20; with_reducible refine TT.out.mono ?_; rintro e V6 ⟨h6, d6, rfl, h1, h2⟩; have O6a := hid h1; have KT6a := hid h2; clear h1 h2)
      clear y0 y1 y2 y3 y4 y5 y6
      have RB6 := hid (KT6a.out.2 _ _ _ RB5.out (by decide) (by decide))
      have BS6 := hid (Nat.le_trans BS5.out KT6a.out.1.size)
      have KT6 := hid (KT5.out.trans KT6a.out)
      obtain ⟨xs6, hy6⟩ : ∃ ys, xs5 ++ le 4 (yh).toNat = ys := ⟨_, rfl⟩
      have HE6 := hid hy6
      have HL6 := hid (show xs6.length = nn6 from by rw [← hy6, List.length_append, le_len, HL5.out, HN6.out])
      have O6 := hid (show V6.ownsRow base 5 1 (.slice (some ⟨h6, 0, none⟩) nn6 d6) nn6 (bv xs6) from by rw [← hy6]; exact O6a.out)
      clear hy6 O6a KT6a O5 RB5 BS5 KT5 TT
      obtain ⟨y0, y1, y2, y3, y4, y5, y6⟩ := row7 RB6.out
      obtain ⟨nn7, hn7⟩ : ∃ z, nn6 + 4 = z := ⟨_, rfl⟩
      have HN7 := hid hn7
      have HM7 := hid (show nn7 ≤ 118844 from by have := HM6.out; omega)
      clear hn7
      have TT := hid (P4.out _ h6 d6 nn6 nn7 xs6 yk (.inl O6.out) HL6.out HN7.out X6.out.1 X6.out.2 (by have := HM7.out; omega) BS6.out)
      go_wp2_with (go_at_call 20; with_reducible refine TT.out.mono ?_; rintro e V7 ⟨h7, d7, rfl, h1, h2⟩; have O7a := hid h1; have KT7a := hid h2; clear h1 h2)
      clear y0 y1 y2 y3 y4 y5 y6
      have RB7 := hid (KT7a.out.2 _ _ _ RB6.out (by decide) (by decide))
      have BS7 := hid (Nat.le_trans BS6.out KT7a.out.1.size)
      have KT7 := hid (KT6.out.trans KT7a.out)
      obtain ⟨xs7, hy7⟩ : ∃ ys, xs6 ++ le 4 (yk).toNat = ys := ⟨_, rfl⟩
      have HE7 := hid hy7
      have HL7 := hid (show xs7.length = nn7 from by rw [← hy7, List.length_append, le_len, HL6.out, HN7.out])
      have O7 := hid (show V7.ownsRow base 5 1 (.slice (some ⟨h7, 0, none⟩) nn7 d7) nn7 (bv xs7) from by rw [← hy7]; exact O7a.out)
      clear hy7 O7a KT7a O6 RB6 BS6 KT6 TT
      go_roundw
      case rel => exact ⟨i + 1, h7, d7, nn7, HLT.out, by go_num, rfl, hid (by have := HNN.out; have := HN1.out; have := HN2.out; have := HN3.out; have := HN4.out; have := HN5.out; have := HN6.out; have := HN7.out; omega), hid (by
        have e : ys6 ++ obs (l.take (i + 1)) = xs7 := by
          rw [HNX.out, ← List.append_assoc, HXS.out, ← HE7.out, ← HE6.out, ← HE5.out, ← HE4.out, ← HE3.out, ← HE2.out, ← HE1.out]
          simp [ob, List.append_assoc]
        rw [e]
        exact O7.out), KT7⟩
      case measure => have := HLT.out; simp [intOf]; omega
    · obtain rfl : i = N := by omega
      have iF : decide ((i : Int) < (i : Int)) = false := by simp
      have OZ := hid (show wr.ownsRow base 5 1 (.slice (some ⟨g, 0, none⟩) nn c) nn (bv z) from by
        have := O.out
        rw [List.take_of_length_le (by rw [LN.out]; exact Nat.le_refl _), ← HD.out] at this
        exact this)
      have HZL := hid (show z.length = nn from by rw [ZL.out, HNN.out])
      have SM := hid (rsum_any (.slice (some ⟨g, 0, none⟩) z.length c) z wr (by have := ZL.out; have := NM.out; omega) ZO.out (.inr ⟨g, 0, c, rfl, own_bs (n := z.length) (c := c) (by rw [HZL.out]; exact OZ.out)⟩))
      rw [HZL.out] at SM
      have hcr := crc_lt z
      have wc : IntKind.u64.wrap ((crc z : Nat) : Int) = ((crc z : Nat) : Int) := by rw [IntKind.wrap_u64]; omega
      obtain ⟨nf, hnf⟩ : ∃ q, nn + 4 = q := ⟨_, rfl⟩
      have HNF := hid hnf
      have P4z := hid (P4.out wr g c nn nf z ((crc z : Nat) : Int) (.inl OZ.out) HZL.out hnf (by omega) (by omega) (by have := HNN.out; have := NM.out; omega) HS.out)
      obtain ⟨cr, hcz⟩ : ∃ c, crc z = c := ⟨_, rfl⟩
      rw [hcz] at SM wc P4z hcr
      rw [hcz] at BT
      clear hcz hnf
      go_wp2_with (first | (go_at_call 21; with_reducible refine SM.out.mono ?_; rintro e w8 ⟨rfl, rfl⟩) | (go_at_call 20; with_reducible refine P4z.out.mono ?_; rintro e w9 ⟨g9, c9, rfl, h1, h2⟩; have O9 := hid h1; have KT9 := hid h2; clear h1 h2))
      rw [Int.toNat_natCast, ← BT.out] at O9
      have HBL : bt.length = nf := by rw [BT.out, List.length_append, le_len, HZL.out, HNF.out]
      go_ret2
      rw [HBL]
      exact ⟨g9, c9, rfl, by rw [HBS.out]; exact O9.out, by
        have h1 : Below base w6 w9 := KT.out.1.trans KT9.out.1
        exact B6.out.trans (by rw [HBS.out]; exact h1)⟩
end Go.Proofs.YtjpkodllemoniaaDoor.Wi
