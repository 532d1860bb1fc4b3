/-
  SnapshotEncodes is walked.
-/
import Derived.Test.YtjpkodllemoniaaDoorWiK
import Derived.Test.YtjpkodllemoniaaDoorWiL
import Derived.Test.YtjpkodllemoniaaDoorWiM
namespace Go.Proofs.YtjpkodllemoniaaDoor.Wi
open Go.RowKit Go.Deep Go.Proofs.YtjpkodllemoniaaDoor.Crc
open Go.Proofs.YtjpkodllemoniaaDoor.Cp (btr ball row_on row_cell row_lt row_ne row6 Or Osz ors ors_len own_form own_on own_rz Kp)
open Go.Proofs.YtjpkodllemoniaaDoor.Sr (Rt RtW RtOk AllOk BoOk Rz)
set_option linter.unusedVariables false
set_option linter.unusedSimpArgs false
set_option maxHeartbeats 8000000
set_option maxRecDepth 100000
attribute [local go_sem ↓] Go.wp_at_zero Go.wp_at_succ
theorem boOk_iff {cap meet : Int} {p1 q1 p2 q2 : Option Addr} {c1 d1 c2 d2 : Nat} {b s : List Rt} {high seq : Int} : BoOk ⟨cap, meet, p1, c1, b, p2, c2, s, high, seq⟩ ↔ BoOk ⟨cap, meet, q1, d1, b, q2, d2, s, high, seq⟩ :=
  ⟨fun h => ⟨h.cfg, h.few, h.sb, h.ss, h.apart, h.okb, h.oks, h.one⟩, fun h => ⟨h.cfg, h.few, h.sb, h.ss, h.apart, h.okb, h.oks, h.one⟩⟩
theorem infoBk : (Tryd.prog.info? 27).map (·.size) = some 6 := by kernel_rfl
theorem own_osz' {base m : Nat} {w : World} {p : Option Addr} {c : Nat} {os : List Rt} (hm : os.length = m) (h : w.ownsRow base 46 7 (.slice p m c) m (ors os)) : Osz w p os := by
  subst hm
  exact (Cp.own_osz h).1
theorem grown_kp {w w' : World} {o : Option Nat} (h : w.grownBy w' o) : Kp (fun b => o = some b) w w' := by
  obtain ⟨h1, h2, h3, h4, h5⟩ := h
  exact ⟨h1, h2, h3, h4, fun b hb hn => h5 b hb (fun e => hn e.symm)⟩
theorem encodes_ok (cap meet high seq : Int) (pb ps : Option Addr) (cb cs : Nat) (b s : List Rt) (w : World) (ok : BoOk ⟨cap, meet, pb, cb, b, ps, cs, s, high, seq⟩) (hb : Cp.Sl w pb cb b) (hs : Cp.Sl w ps cs s) (hw1 : ∀ i (hi : i < b.length), RtW b[i]) (hw2 : ∀ i (hi : i < s.length), RtW s[i]) (hm1 : ∀ i (hi : i < b.length), MbW b[i]) (hm2 : ∀ i (hi : i < s.length), MbW s[i]) (hh : 0 ≤ high ∧ high < 18446744073709551616) (hq : 0 ≤ seq ∧ seq < 18446744073709551616) (hL : Laid w) :
    Calls Tryd.prog 3 #[.agg #[.int .i64 cap, .int .i64 meet, .slice pb b.length cb, .slice ps s.length cs, .int .u64 high, .int .u64 seq]] w fun e w' => e = .returned (.bool true) ∧ Below w.heap.size w w' := by
  have hy1 := hb.by'
  have hy2 := hs.by'
  have CY := hid (fun (U : World) (hU : Below w.heap.size w U) => Cp.copy_any cap meet high seq pb ps cb cs b s U (hb.on hU) (hs.on hU))
  have CB0' := hid (fun (U : World) (p1 p2 : Option Addr) (d1 d2 : Nat) (hU : Below w.heap.size w U) (hp1 : Osz U p1 b) (hp2 : Osz U p2 s) => Cp.books_same cap meet high seq b s p1 p2 pb ps d1 d2 cb cs U hp1 hp2 (hb.on hU).os' (hs.on hU).os' hb.len hs.len)
  have EN0 := hid (fun (U : World) (p1 p2 : Option Addr) (d1 d2 : Nat) (hU : Below w.heap.size w U) (hp1 : Rz U p1 b) (hp2 : Rz U p2 s) (n1 : p1 = none → b.length = 0 ∧ d1 = 0) (n2 : p2 = none → s.length = 0 ∧ d2 = 0) => encode_ok cap meet high seq p1 p2 d1 d2 b.length s.length b s U (boOk_iff.1 ok) hp1 hp2 hw1 hw2 hm1 hm2 hh hq n1 n2 rfl rfl (hL.on hU))
  have RN0 := hid (fun (U : World) (hU : Below w.heap.size w U) => rencode_ok cap meet high seq pb ps cb cs b.length s.length b s U ok (hb.on hU).os' (hs.on hU).os' hw1 hw2 hm1 hm2 hh hq hb.nl hs.nl rfl rfl)
  have BL := hid (show (bts cap meet high seq b s).length ≤ 1000000 from by
    have := ok.few
    have := ok.cfg
    simp only at *
    rw [bts_len]; omega)
  obtain ⟨bt, hbt⟩ : ∃ z, bts cap meet high seq b s = z := ⟨_, rfl⟩
  rw [hbt] at EN0 RN0 BL
  obtain ⟨L, hbl⟩ : ∃ z, bt.length = z := ⟨_, rfl⟩
  rw [hbl] at EN0 RN0 BL
  have HBL := hid hbl
  clear hbt hbl
  obtain ⟨n, hn⟩ : ∃ n, b.length = n := ⟨_, rfl⟩
  obtain ⟨m, hm⟩ : ∃ n, s.length = n := ⟨_, rfl⟩
  have HN := hid hn
  have HM := hid hm
  rw [hn] at CY CB0' EN0 RN0
  rw [hm] at CY CB0' EN0 RN0
  rw [hn, hm]
  clear ok hw1 hw2 hm1 hm2 hh hq hb hs hn hm hy1 hy2 hL
  obtain ⟨gB, hgB⟩ : ∃ g, w.heap.size = g := ⟨_, rfl⟩
  obtain ⟨U1, hU1⟩ : ∃ U, w.alloc (.cells #[.int .i64 cap, .int .i64 meet, .slice pb n cb, .slice ps m cs, .int .u64 high, .int .u64 seq] 27) = U := ⟨_, rfl⟩
  have HB1 := hid (show U1.heap[gB]? = some (.cells #[.int .i64 cap, .int .i64 meet, .slice pb n cb, .slice ps m cs, .int .u64 high, .int .u64 seq] 27 (0, 0)) from by rw [← hU1, ← hgB]; exact World.alloc_heap_new _ _)
  have BU1 := hid (show Below w.heap.size w U1 from by rw [← hU1]; exact ball _ _)
  obtain ⟨b0, b1, b2, b3, b4, b5⟩ := row6 HB1.out
  go_enter Tryd.func3, Tryd.ntmps3
  go_upto_region 1 with fail
  clear hgB hU1
  go_upto_region 2 with (go_at_call 5; with_reducible refine (CY.out _ BU1.out).mono ?_; rintro e w1 ⟨pb2, ps2, cb2, cs2, rfl, h1, h2, h3⟩; have OX := hid h1; have OY := hid h2; have B1 := hid h3; clear h1 h2 h3; obtain ⟨gX, hgX⟩ : ∃ g, w1.heap.size = g := ⟨_, rfl⟩; obtain ⟨W2, hW2⟩ : ∃ W, w1.alloc (.cells #[.int .i64 cap, .int .i64 meet, .slice pb2 n cb2, .slice ps2 m cs2, .int .u64 high, .int .u64 seq] 27) = W := ⟨_, rfl⟩)
  have BW2 := hid (show Below U1.heap.size U1 W2 from btr B1.out (by rw [← hW2]; exact ball _ _))
  have HX2 := hid (show W2.heap[gX]? = some (.cells #[.int .i64 cap, .int .i64 meet, .slice pb2 n cb2, .slice ps2 m cs2, .int .u64 high, .int .u64 seq] 27 (0, 0)) from by rw [← hW2, ← hgX]; exact World.alloc_heap_new _ _)
  have OX2 := hid (show W2.ownsRow _ 46 7 _ n _ from own_on OX.out (by rw [← hW2]; exact ball _ _))
  have OY2 := hid (show W2.ownsRow _ 46 7 _ m _ from own_on OY.out (by rw [← hW2]; exact ball _ _))
  have NX := hid (show pb2 = none → n = 0 ∧ cb2 = 0 from fun e => by
    obtain ⟨h1, ⟨e1, _⟩ | ⟨g, c', cur, e1, _⟩⟩ := OX2.out
    · obtain ⟨_, h2, h3⟩ := Value.slice.inj e1; exact ⟨h2, h3⟩
    · rw [(Value.slice.inj e1).1] at e; cases e)
  have NY := hid (show ps2 = none → m = 0 ∧ cs2 = 0 from fun e => by
    obtain ⟨h1, ⟨e1, _⟩ | ⟨g, c', cur, e1, _⟩⟩ := OY2.out
    · obtain ⟨_, h2, h3⟩ := Value.slice.inj e1; exact ⟨h2, h3⟩
    · rw [(Value.slice.inj e1).1] at e; cases e)
  have HB2 := hid (row_on HB1.out BW2.out)
  have BA2 := hid (btr BU1.out BW2.out)
  have EN := hid (fun (U : World) (hU : Below W2.heap.size W2 U) => EN0.out U pb2 ps2 cb2 cs2 (btr BA2.out hU) (own_rz HN.out (own_on OX2.out hU)) (own_rz HM.out (own_on OY2.out hU)) NX.out NY.out)
  have SM := hid (fun (U : World) (hU : Below W2.heap.size W2 U) => CB0'.out U pb2 ps2 cb2 cs2 (btr BA2.out hU) (own_osz' HN.out (own_on OX2.out hU)) (own_osz' HM.out (own_on OY2.out hU)))
  have RN := hid (fun (U : World) (hU : Below W2.heap.size W2 U) => RN0.out U (btr BA2.out hU))
  (try rw [hgX])
  (try rw [hW2])
  clear hgX hW2 b0 b1 b2 b3 b4 b5 CY CB0' EN0 RN0 B1 OX OY OX2 OY2 NX NY HB1 BU1 BW2
  obtain ⟨b0, b1, b2, b3, b4, b5⟩ := row6 HX2.out
  have BN2 := hid (Below.refl W2.heap.size W2)
  go_upto_region 3 with (go_at_call 6; with_reducible refine (EN.out _ BN2.out).mono ?_; rintro e w3 ⟨gx, cx, rfl, h1, h2⟩; have Ox := hid h1; have Dx := hid h2; clear h1 h2)
  clear b0 b1 b2 b3 b4 b5
  have BN3 := hid (btr BN2.out Dx.out)
  obtain ⟨b0, b1, b2, b3, b4, b5⟩ := row6 (row_on HX2.out BN3.out)
  go_upto_region 4 with (go_at_call 6; with_reducible refine (EN.out _ BN3.out).mono ?_; rintro e w4 ⟨gy, cy, rfl, h1, h2⟩; have Oy := hid h1; have Dy := hid h2; clear h1 h2)
  clear b0 b1 b2 b3 b4 b5
  have BN4 := hid (btr BN3.out Dy.out)
  obtain ⟨b0, b1, b2, b3, b4, b5⟩ := row6 (row_on HB2.out BN4.out)
  go_upto_region 5 with (go_at_call 7; with_reducible refine (RN.out _ BN4.out).mono ?_; rintro e w5 ⟨gz, cz, rfl, h1, h2⟩; have Oz := hid h1; have Dz := hid h2; clear h1 h2)
  clear b0 b1 b2 b3 b4 b5
  have BN5 := hid (btr BN4.out Dz.out)
  obtain ⟨b0, b1, b2, b3, b4, b5⟩ := row6 (row_on HB2.out BN5.out)
  obtain ⟨x0, x1, x2, x3, x4, x5⟩ := row6 (row_on HX2.out BN5.out)
  have PX := hid (own_on (own_on Ox.out Dy.out) Dz.out)
  have PY := hid (own_on Oy.out Dz.out)
  have PZ := hid Oz.out
  have GX := hid (show W2.heap.size ≤ gx ∧ gx < w3.heap.size from ⟨(own_row' Ox.out).1, by obtain ⟨_, _, cur, h, _⟩ := own_row' Ox.out; exact row_lt h⟩)
  have GY := hid (show w3.heap.size ≤ gy ∧ gy < w4.heap.size from ⟨(own_row' Oy.out).1, by obtain ⟨_, _, cur, h, _⟩ := own_row' Oy.out; exact row_lt h⟩)
  have GZ := hid (show w4.heap.size ≤ gz ∧ gz < w5.heap.size from ⟨(own_row' Oz.out).1, by obtain ⟨_, _, cur, h, _⟩ := own_row' Oz.out; exact row_lt h⟩)
  have SZ := hid (show w3.heap.size ≤ w4.heap.size from Dy.out.size)
  clear Ox Oy Oz Dx Dy Dz BN2 BN3 BN4
  have cvx := conv_bytes w5 gx 0 cx bt L HBL.out (own_bs PX.out)
  have cvz := conv_bytes w5 gz 0 cz bt L HBL.out (own_bs PZ.out)
  have CVS := hid (fun (U : World) (g c : Nat) (h : Bs U g 0 bt) => conv_bytes U g 0 c bt L HBL.out h)
  obtain ⟨S, hS⟩ : ∃ S, txt bt = S := ⟨_, rfl⟩
  rw [hS] at cvx cvz CVS
  clear hS
  have eS : (S.toList == S.toList) = true := by simp
  have eN : (S.toList != S.toList) = false := by simp
  go_upto_region 8 with (go_at_call 8; with_reducible refine (SM.out w5 BN5.out).mono ?_; rintro e w6 ⟨rfl, h1⟩; have D6 := hid h1; clear h1)
  clear b0 b1 b2 b3 b4 b5 x0 x1 x2 x3 x4 x5 cvx cvz EN RN SM
  have BN6 := hid (btr BN5.out D6.out)
  have PX6 := hid (own_on PX.out D6.out)
  have PY6 := hid (own_on PY.out D6.out)
  have PZ6 := hid (own_on PZ.out D6.out)
  clear PX PY PZ
  go_loopw [10] (fun iv wr => ∃ i : Nat, i ≤ L ∧ iv = .int .i64 i ∧ Hid (Kp (fun k => k = gx) w6 wr) ∧ Hid (∃ xs : List Nat, wr.ownsRow W2.heap.size 5 1 (.slice (some ⟨gx, 0, none⟩) L cx) L (bv xs))) (fun iv _ => L - (intOf iv).toNat)
  case atStart => exact ⟨0, Nat.zero_le _, rfl, hid (Kp.refl _ _), hid ⟨_, PX6.out⟩⟩
  case round =>
    obtain ⟨i, hin, rfl, KP, OX⟩ := hrel
    obtain ⟨xs, OX⟩ := OX.out
    have OX := hid OX
    by_cases hlt : i < L
    · have HLT := hid hlt
      have i0 : (0 : Int) ≤ (i : Int) := by omega
      have i1 : (i : Int) < (L : Int) := by omega
      have wi : IntKind.i64.wrap ((i : Int) + 1) = ((i + 1 : Nat) : Int) := by have := BL.out; rw [IntKind.wrap_i64]; omega
      obtain ⟨⟨u, hu⟩, hfz⟩ := own_cell' OX.out hlt
      have OX2 := hid (own_put OX.out hlt 238)
      have KP2 := hid (KP.out.trans (Kp.set wr gx i (.int .u8 ((238 : Nat) : Int))) (fun g _ h => h))
      clear hlt hin OX KP
      go_wp2
      go_roundw
      case rel => exact ⟨i + 1, HLT.out, by go_num, KP2, hid ⟨_, OX2.out⟩⟩
      case measure => have := HLT.out; simp [intOf]; omega
    · obtain rfl : i = L := by omega
      have iF : decide ((i : Int) < (i : Int)) = false := by simp
      obtain ⟨W7, hW7⟩ : ∃ U, wr.alloc (.cells #[.int .u8 221, .int .u8 221] 5) = U := ⟨_, rfl⟩
      obtain ⟨g7, hg7⟩ : ∃ g, wr.heap.size = g := ⟨_, rfl⟩
      have B7 := hid (show Below wr.heap.size wr W7 from by rw [← hW7]; exact ball _ _)
      have SZW := hid (show W2.heap.size ≤ W7.heap.size from Nat.le_trans BN6.out.size (Nat.le_trans KP.out.size B7.out.size))
      obtain ⟨v8, w8, hr, hg⟩ := run_own_two W7 29 (own_on OX.out B7.out) g7 2 221 221 (by rw [← hW7, ← hg7]; exact World.alloc_heap_new _ _) (by have := BL.out; omega) SZW.out
      have R8 := hid hr
      have KP8 := hid (show Kp (fun k => k = gx) w6 w8 from (KP.out.trans (Kp.of (fun _ => False) B7.out) (fun _ _ h => h.elim)).trans (grown_kp hg) (fun g _ h => (Option.some.inj h).symm))
      clear hr hg KP OX B7 SZW hin hlt
      go_upto_region 12 with (at_builtin; (try rw [hW7]); (try rw [hg7]); refine Go.Lib.wpList_append_run _ rfl _ _ _ _ rfl _ _ rfl rfl _ _ R8.out ?_)
      clear hW7 hg7 R8
      have LY : gy < w6.heap.size := by have h1 := GY.out; have h2 := GZ.out; have h3 := D6.out.size; omega
      have LZ : gz < w6.heap.size := by have h2 := GZ.out; have h3 := D6.out.size; omega
      have QY := own_bs (Cp.own_same PY6.out (fun g hg => KP8.out.obj g (by cases hg; exact LY) (by cases hg; have := GY.out; have := GX.out; show ¬ gy = gx; omega)))
      have QZ := own_bs (Cp.own_same PZ6.out (fun g hg => KP8.out.obj g (by cases hg; exact LZ) (by cases hg; have := GZ.out; have := GX.out; have := SZ.out; show ¬ gz = gx; omega)))
      have cvy := CVS.out w8 gy cy QY
      have cvz := CVS.out w8 gz cz QZ
      clear QY QZ LY LZ
      go_wp2
      go_ret
      exact ⟨rfl, (btr BA2.out BN6.out).trans (KP8.out.below (Nat.le_trans (btr BA2.out BN6.out).size (Nat.le_refl _)) (fun g hg e => by have := GX.out; have := BA2.out.size; have e' : g = gx := e; omega))⟩
theorem encodes_no (cap meet high seq : Int) (pb ps : Option Addr) (cb cs : Nat) (b s : List Rt) (w : World) (ok : ¬ BoOk ⟨cap, meet, pb, cb, b, ps, cs, s, high, seq⟩) (hb : Cp.Sl w pb cb b) (hs : Cp.Sl w ps cs s) (hw1 : ∀ i (hi : i < b.length), RtW b[i]) (hw2 : ∀ i (hi : i < s.length), RtW s[i]) (hm1 : ∀ i (hi : i < b.length), MbW b[i]) (hm2 : ∀ i (hi : i < s.length), MbW s[i]) (hh : 0 ≤ high ∧ high < 18446744073709551616) (hq : 0 ≤ seq ∧ seq < 18446744073709551616) (hL : Laid w) :
    Calls Tryd.prog 3 #[.agg #[.int .i64 cap, .int .i64 meet, .slice pb b.length cb, .slice ps s.length cs, .int .u64 high, .int .u64 seq]] w fun e w' => e = .returned (.bool true) ∧ Below w.heap.size w w' := by
  have hy1 := hb.by'
  have hy2 := hs.by'
  have CY := hid (fun (U : World) (hU : Below w.heap.size w U) => Cp.copy_any cap meet high seq pb ps cb cs b s U (hb.on hU) (hs.on hU))
  have CB0' := hid (fun (U : World) (p1 p2 : Option Addr) (d1 d2 : Nat) (hU : Below w.heap.size w U) (hp1 : Osz U p1 b) (hp2 : Osz U p2 s) => Cp.books_same cap meet high seq b s p1 p2 pb ps d1 d2 cb cs U hp1 hp2 (hb.on hU).os' (hs.on hU).os' hb.len hs.len)
  have EN0 := hid (fun (U : World) (p1 p2 : Option Addr) (d1 d2 : Nat) (hU : Below w.heap.size w U) (hp1 : Rz U p1 b) (hp2 : Rz U p2 s) (n1 : p1 = none → b.length = 0 ∧ d1 = 0) (n2 : p2 = none → s.length = 0 ∧ d2 = 0) => encode_no cap meet high seq p1 p2 d1 d2 b.length s.length b s U (fun h => ok (boOk_iff.1 h)) hp1 hp2 hw1 hw2 rfl rfl ⟨by omega, by omega⟩)
  have RN0 := hid (fun (U : World) (hU : Below w.heap.size w U) => rencode_no cap meet high seq pb ps cb cs b.length s.length b s U ok (hb.on hU).os' (hs.on hU).os' hw1 hw2 hb.nl hs.nl rfl rfl ⟨by omega, by omega⟩)
  obtain ⟨n, hn⟩ : ∃ n, b.length = n := ⟨_, rfl⟩
  obtain ⟨m, hm⟩ : ∃ n, s.length = n := ⟨_, rfl⟩
  have HN := hid hn
  have HM := hid hm
  rw [hn] at CY CB0' EN0 RN0
  rw [hm] at CY CB0' EN0 RN0
  rw [hn, hm]
  clear ok hw1 hw2 hm1 hm2 hh hq hb hs hn hm hy1 hy2 hL
  obtain ⟨gB, hgB⟩ : ∃ g, w.heap.size = g := ⟨_, rfl⟩
  obtain ⟨U1, hU1⟩ : ∃ U, w.alloc (.cells #[.int .i64 cap, .int .i64 meet, .slice pb n cb, .slice ps m cs, .int .u64 high, .int .u64 seq] 27) = U := ⟨_, rfl⟩
  have HB1 := hid (show U1.heap[gB]? = some (.cells #[.int .i64 cap, .int .i64 meet, .slice pb n cb, .slice ps m cs, .int .u64 high, .int .u64 seq] 27 (0, 0)) from by rw [← hU1, ← hgB]; exact World.alloc_heap_new _ _)
  have BU1 := hid (show Below w.heap.size w U1 from by rw [← hU1]; exact ball _ _)
  obtain ⟨b0, b1, b2, b3, b4, b5⟩ := row6 HB1.out
  go_enter Tryd.func3, Tryd.ntmps3
  go_upto_region 1 with fail
  clear hgB hU1
  go_upto_region 2 with (go_at_call 5; with_reducible refine (CY.out _ BU1.out).mono ?_; rintro e w1 ⟨pb2, ps2, cb2, cs2, rfl, h1, h2, h3⟩; have OX := hid h1; have OY := hid h2; have B1 := hid h3; clear h1 h2 h3; obtain ⟨gX, hgX⟩ : ∃ g, w1.heap.size = g := ⟨_, rfl⟩; obtain ⟨W2, hW2⟩ : ∃ W, w1.alloc (.cells #[.int .i64 cap, .int .i64 meet, .slice pb2 n cb2, .slice ps2 m cs2, .int .u64 high, .int .u64 seq] 27) = W := ⟨_, rfl⟩)
  have BW2 := hid (show Below U1.heap.size U1 W2 from btr B1.out (by rw [← hW2]; exact ball _ _))
  have HX2 := hid (show W2.heap[gX]? = some (.cells #[.int .i64 cap, .int .i64 meet, .slice pb2 n cb2, .slice ps2 m cs2, .int .u64 high, .int .u64 seq] 27 (0, 0)) from by rw [← hW2, ← hgX]; exact World.alloc_heap_new _ _)
  have OX2 := hid (show W2.ownsRow _ 46 7 _ n _ from own_on OX.out (by rw [← hW2]; exact ball _ _))
  have OY2 := hid (show W2.ownsRow _ 46 7 _ m _ from own_on OY.out (by rw [← hW2]; exact ball _ _))
  have NX := hid (show pb2 = none → n = 0 ∧ cb2 = 0 from fun e => by
    obtain ⟨h1, ⟨e1, _⟩ | ⟨g, c', cur, e1, _⟩⟩ := OX2.out
    · obtain ⟨_, h2, h3⟩ := Value.slice.inj e1; exact ⟨h2, h3⟩
    · rw [(Value.slice.inj e1).1] at e; cases e)
  have NY := hid (show ps2 = none → m = 0 ∧ cs2 = 0 from fun e => by
    obtain ⟨h1, ⟨e1, _⟩ | ⟨g, c', cur, e1, _⟩⟩ := OY2.out
    · obtain ⟨_, h2, h3⟩ := Value.slice.inj e1; exact ⟨h2, h3⟩
    · rw [(Value.slice.inj e1).1] at e; cases e)
  have HB2 := hid (row_on HB1.out BW2.out)
  have BA2 := hid (btr BU1.out BW2.out)
  have EN := hid (fun (U : World) (hU : Below W2.heap.size W2 U) => EN0.out U pb2 ps2 cb2 cs2 (btr BA2.out hU) (own_rz HN.out (own_on OX2.out hU)) (own_rz HM.out (own_on OY2.out hU)) NX.out NY.out)
  have SM := hid (fun (U : World) (hU : Below W2.heap.size W2 U) => CB0'.out U pb2 ps2 cb2 cs2 (btr BA2.out hU) (own_osz' HN.out (own_on OX2.out hU)) (own_osz' HM.out (own_on OY2.out hU)))
  have RN := hid (fun (U : World) (hU : Below W2.heap.size W2 U) => RN0.out U (btr BA2.out hU))
  (try rw [hgX])
  (try rw [hW2])
  clear hgX hW2 b0 b1 b2 b3 b4 b5 CY CB0' EN0 RN0 B1 OX OY OX2 OY2 NX NY HB1 BU1 BW2
  obtain ⟨b0, b1, b2, b3, b4, b5⟩ := row6 HX2.out
  have BN2 := hid (Below.refl W2.heap.size W2)
  go_upto_region 3 with (go_at_call 6; with_reducible refine (EN.out _ BN2.out).mono ?_; rintro e w3 ⟨rfl, h2⟩; have Dx := hid h2; clear h2)
  clear b0 b1 b2 b3 b4 b5
  have BN3 := hid (btr BN2.out Dx.out)
  obtain ⟨b0, b1, b2, b3, b4, b5⟩ := row6 (row_on HX2.out BN3.out)
  go_upto_region 4 with (go_at_call 6; with_reducible refine (EN.out _ BN3.out).mono ?_; rintro e w4 ⟨rfl, h2⟩; have Dy := hid h2; clear h2)
  clear b0 b1 b2 b3 b4 b5
  have BN4 := hid (btr BN3.out Dy.out)
  obtain ⟨b0, b1, b2, b3, b4, b5⟩ := row6 (row_on HB2.out BN4.out)
  go_upto_region 5 with (go_at_call 7; with_reducible refine (RN.out _ BN4.out).mono ?_; rintro e w5 ⟨rfl, h2⟩; have Dz := hid h2; clear h2)
  clear b0 b1 b2 b3 b4 b5
  have BN5 := hid (btr BN4.out Dz.out)
  obtain ⟨b0, b1, b2, b3, b4, b5⟩ := row6 (row_on HB2.out BN5.out)
  obtain ⟨x0, x1, x2, x3, x4, x5⟩ := row6 (row_on HX2.out BN5.out)
  clear Dx Dy Dz BN2 BN3 BN4
  have cvx := conv_none w5
  have CVS := hid (fun (U : World) => conv_none U)
  obtain ⟨S, hS⟩ : ∃ S, txt [] = S := ⟨_, rfl⟩
  rw [hS] at cvx CVS
  clear hS
  have eS : (S.toList == S.toList) = true := by simp
  have eN : (S.toList != S.toList) = false := by simp
  go_upto_region 8 with (go_at_call 8; with_reducible refine (SM.out w5 BN5.out).mono ?_; rintro e w6 ⟨rfl, h1⟩; have D6 := hid h1; clear h1)
  clear b0 b1 b2 b3 b4 b5 x0 x1 x2 x3 x4 x5 cvx  EN RN SM
  have BN6 := hid (btr BN5.out D6.out)
  go_loopw [10] (fun iv wr => iv = .int .i64 (0 : Nat) ∧ Hid (wr = w6)) (fun iv _ => 0)
  case atStart => exact ⟨rfl, rfl⟩
  case round =>
    obtain ⟨rfl, hwr⟩ := hrel
    obtain rfl := hwr.out
    clear hwr
    have iF : decide ((0 : Int) < (0 : Int)) = false := by simp
    obtain ⟨W7, hW7⟩ : ∃ U, wr.alloc (.cells #[.int .u8 221, .int .u8 221] 5) = U := ⟨_, rfl⟩
    obtain ⟨g7, hg7⟩ : ∃ g, wr.heap.size = g := ⟨_, rfl⟩
    have B7 := hid (show Below wr.heap.size wr W7 from by rw [← hW7]; exact ball _ _)
    obtain ⟨v8, w8, hr, hg⟩ := run_own_two (base := 0) (n := 0) (v := .slice none 0 0) (xs := []) W7 29 ⟨rfl, .inl ⟨rfl, rfl⟩⟩ g7 2 221 221 (by rw [← hW7, ← hg7]; exact World.alloc_heap_new _ _) (by omega) (Nat.zero_le _)
    have R8 := hid hr
    have B8 := hid (show Below wr.heap.size wr w8 from btr B7.out ((grown_kp hg).below (Nat.le_refl _) (fun g _ e => by cases e)))
    clear hr hg B7
    go_upto_region 12 with (at_builtin; (try rw [hW7]); (try rw [hg7]); refine Go.Lib.wpList_append_run _ rfl _ _ _ _ rfl _ _ rfl rfl _ _ R8.out ?_)
    clear hW7 hg7 R8
    have cvy := CVS.out w8
    go_wp2
    go_ret
    exact ⟨rfl, btr (btr BA2.out BN6.out) B8.out⟩
end Go.Proofs.YtjpkodllemoniaaDoor.Wi
