/-
  head, order.
-/
import Derived.Test.YtjpkodllemoniaaDoorWiE
namespace Go.Proofs.YtjpkodllemoniaaDoor.Wi
open Go.RowKit Go.Deep Go.Proofs.YtjpkodllemoniaaDoor.Crc
open Go.Proofs.YtjpkodllemoniaaDoor.Cp (btr ball row_on row_cell row_lt row6 Or orow)
set_option linter.unusedVariables false
set_option linter.unusedSimpArgs false
set_option maxHeartbeats 8000000
set_option maxRecDepth 100000
attribute [local go_sem ↓] Go.wp_at_zero Go.wp_at_succ
theorem row7 {w : World} {g : Nat} {t : TypeId} {a0 a1 a2 a3 a4 a5 a6 : Value} (h : w.heap[g]? = some (.cells #[a0, a1, a2, a3, a4, a5, a6] t (0, 0))) : w.cell? ⟨g, 0, none⟩ = some a0 ∧ w.cell? ⟨g, 1, none⟩ = some a1 ∧ w.cell? ⟨g, 2, none⟩ = some a2 ∧ w.cell? ⟨g, 3, none⟩ = some a3 ∧ w.cell? ⟨g, 4, none⟩ = some a4 ∧ w.cell? ⟨g, 5, none⟩ = some a5 ∧ w.cell? ⟨g, 6, none⟩ = some a6 :=
  ⟨row_cell h 0, row_cell h 1, row_cell h 2, row_cell h 3, row_cell h 4, row_cell h 5, row_cell h 6⟩
/-- the head behind the magic. -/
def hd (cap meet high seq : Int) (n m : Nat) : List Nat := le 2 cap.toNat ++ le 1 meet.toNat ++ le 8 high.toNat ++ le 8 seq.toNat ++ le 2 n ++ le 2 m
/-- an order's bytes. -/
def ob (o : Or) : List Nat := le 8 o.id.toNat ++ le 4 o.mb.toNat ++ le 1 o.ty.toNat ++ le 4 o.pr.toNat ++ le 4 o.vi.toNat ++ le 4 o.hi.toNat ++ le 4 o.pk.toNat
theorem hd_len (cap meet high seq : Int) (n m : Nat) : (hd cap meet high seq n m).length = 23 := by simp [hd, le_len]
theorem ob_len (o : Or) : (ob o).length = 29 := by simp [ob, le_len]
theorem whead_any {base B : Nat} {xs : List Nat} {cap meet high seq : Int} {pb ps : Option Addr} {n m cb cs : Nat} (hc : 0 ≤ cap ∧ cap < 18446744073709551616) (hm : 0 ≤ meet ∧ meet < 18446744073709551616) (hh : 0 ≤ high ∧ high < 18446744073709551616) (hs : 0 ≤ seq ∧ seq < 18446744073709551616) (hn : n < 9223372036854775808 ∧ m < 9223372036854775808) (w : World) (hW : Wr base w B xs) (hl : xs.length + 23 ≤ 1000000000) (hb : base ≤ w.heap.size) :
    Calls Tryd.prog 14 #[.pointer (some ⟨B, 0, none⟩), .agg #[.int .i64 cap, .int .i64 meet, .slice pb n cb, .slice ps m cs, .int .u64 high, .int .u64 seq]] w fun e w' => e = .returned (.tuple #[]) ∧ Wo base w' B (xs ++ hd cap meet high seq n m) ∧ Kt base w w' := by

  have w1 : IntKind.u64.wrap cap = cap := by rw [IntKind.wrap_u64]; omega
  have w2 : IntKind.u64.wrap meet = meet := by rw [IntKind.wrap_u64]; omega
  have w3 : IntKind.u64.wrap (n : Int) = (n : Int) := by rw [IntKind.wrap_u64]; omega
  have w4 : IntKind.u64.wrap (m : Int) = (m : Int) := by rw [IntKind.wrap_u64]; omega
  have P1 := hid (fun (U : World) (ys : List Nat) (x : Int) (hW : Wr base U B ys) (h0 : 0 ≤ x) (h1 : x < 18446744073709551616) (hl : ys.length + 1 ≤ 1000000000) (hb : base ≤ U.heap.size) => show Calls Tryd.prog 17 #[.pointer (some ⟨B, 0, none⟩), .int .i64 1, .int .u64 x] U fun e w' => e = .returned (.tuple #[]) ∧ Wo base w' B (ys ++ le 1 x.toNat) ∧ Kt base U w' from wput_any U hW (by decide) (by decide) h0 h1 hl hb)
  have P2 := hid (fun (U : World) (ys : List Nat) (x : Int) (hW : Wr base U B ys) (h0 : 0 ≤ x) (h1 : x < 18446744073709551616) (hl : ys.length + 2 ≤ 1000000000) (hb : base ≤ U.heap.size) => show Calls Tryd.prog 17 #[.pointer (some ⟨B, 0, none⟩), .int .i64 2, .int .u64 x] U fun e w' => e = .returned (.tuple #[]) ∧ Wo base w' B (ys ++ le 2 x.toNat) ∧ Kt base U w' from wput_any U hW (by decide) (by decide) h0 h1 hl hb)
  have P8 := hid (fun (U : World) (ys : List Nat) (x : Int) (hW : Wr base U B ys) (h0 : 0 ≤ x) (h1 : x < 18446744073709551616) (hl : ys.length + 8 ≤ 1000000000) (hb : base ≤ U.heap.size) => show Calls Tryd.prog 17 #[.pointer (some ⟨B, 0, none⟩), .int .i64 8, .int .u64 x] U fun e w' => e = .returned (.tuple #[]) ∧ Wo base w' B (ys ++ le 8 x.toNat) ∧ Kt base U w' from wput_any U hW (by decide) (by decide) h0 h1 hl hb)
  obtain ⟨W0, hW0⟩ : ∃ U, w.alloc (.cells #[.int .i64 cap, .int .i64 meet, .slice pb n cb, .slice ps m cs, .int .u64 high, .int .u64 seq] 27) = U := ⟨_, rfl⟩
  obtain ⟨R, hR⟩ : ∃ R, w.heap.size = R := ⟨_, rfl⟩
  have BA := hid (show Below w.heap.size w W0 from by rw [← hW0]; exact ball _ _)
  have WR0 := hid (hW.on BA.out)
  have RB0 := hid (show W0.heap[R]? = some (.cells #[.int .i64 cap, .int .i64 meet, .slice pb n cb, .slice ps m cs, .int .u64 high, .int .u64 seq] 27 (0, 0)) from by rw [← hW0, ← hR]; exact World.alloc_heap_new _ _)
  have KT0 := hid (Kt.of BA.out hb)
  have HB := hid hb
  have BS0 := hid (Nat.le_trans hb BA.out.size)
  have HL := hid hl
  have X0 := hid (show 0 ≤ cap ∧ cap < 18446744073709551616 from hc)
  have X1 := hid (show 0 ≤ meet ∧ meet < 18446744073709551616 from hm)
  have X2 := hid (show 0 ≤ high ∧ high < 18446744073709551616 from hh)
  have X3 := hid (show 0 ≤ seq ∧ seq < 18446744073709551616 from hs)
  have X4 := hid (show 0 ≤ (n : Int) ∧ (n : Int) < 18446744073709551616 from ⟨by omega, by omega⟩)
  have X5 := hid (show 0 ≤ (m : Int) ∧ (m : Int) < 18446744073709551616 from ⟨by omega, by omega⟩)
  clear hW hl hb
  go_enter Tryd.func14, Tryd.ntmps14
  go_upto_region 1 with fail
  clear hW0 hR
  obtain ⟨b0, b1, b2, b3, b4, b5⟩ := row6 RB0.out
  go_upto_region 2 with (go_at_call 17; with_reducible refine (P2.out _ xs (cap) WR0.out X0.out.1 X0.out.2 (by have := HL.out; omega) BS0.out).mono ?_; rintro e W1 ⟨rfl, h1, h2⟩; have WR1a := hid h1; have KT1a := hid h2; clear h1 h2)
  clear b0 b1 b2 b3 b4 b5
  have RB1 := hid (KT1a.out.2 _ _ _ RB0.out (by decide) (by decide))
  have BS1 := hid (Nat.le_trans BS0.out KT1a.out.1.size)
  have KT1 := hid (KT0.out.trans KT1a.out)
  obtain ⟨ys1, hy1⟩ : ∃ ys, xs ++ le 2 (cap).toNat = ys := ⟨_, rfl⟩
  have HE1 := hid hy1
  have HY1 := hid (show ys1.length = xs.length + 2 from by rw [← hy1, List.length_append, le_len])
  have WR1 := hid (show Wo base W1 B ys1 from by rw [← hy1]; exact WR1a.out)
  clear hy1 WR1a KT1a WR0 RB0 BS0 KT0
  obtain ⟨b0, b1, b2, b3, b4, b5⟩ := row6 RB1.out
  go_upto_region 3 with (go_at_call 17; with_reducible refine (P1.out _ ys1 (meet) WR1.out.wr X1.out.1 X1.out.2 (by have := HL.out; have := HY1.out; omega) BS1.out).mono ?_; rintro e W2 ⟨rfl, h1, h2⟩; have WR2a := hid h1; have KT2a := hid h2; clear h1 h2)
  clear b0 b1 b2 b3 b4 b5
  have RB2 := hid (KT2a.out.2 _ _ _ RB1.out (by decide) (by decide))
  have BS2 := hid (Nat.le_trans BS1.out KT2a.out.1.size)
  have KT2 := hid (KT1.out.trans KT2a.out)
  obtain ⟨ys2, hy2⟩ : ∃ ys, ys1 ++ le 1 (meet).toNat = ys := ⟨_, rfl⟩
  have HE2 := hid hy2
  have HY2 := hid (show ys2.length = xs.length + 3 from by rw [← hy2, List.length_append, le_len, HY1.out])
  have WR2 := hid (show Wo base W2 B ys2 from by rw [← hy2]; exact WR2a.out)
  clear hy2 WR2a KT2a WR1 RB1 BS1 KT1
  obtain ⟨b0, b1, b2, b3, b4, b5⟩ := row6 RB2.out
  go_upto_region 4 with (go_at_call 17; with_reducible refine (P8.out _ ys2 (high) WR2.out.wr X2.out.1 X2.out.2 (by have := HL.out; have := HY2.out; omega) BS2.out).mono ?_; rintro e W3 ⟨rfl, h1, h2⟩; have WR3a := hid h1; have KT3a := hid h2; clear h1 h2)
  clear b0 b1 b2 b3 b4 b5
  have RB3 := hid (KT3a.out.2 _ _ _ RB2.out (by decide) (by decide))
  have BS3 := hid (Nat.le_trans BS2.out KT3a.out.1.size)
  have KT3 := hid (KT2.out.trans KT3a.out)
  obtain ⟨ys3, hy3⟩ : ∃ ys, ys2 ++ le 8 (high).toNat = ys := ⟨_, rfl⟩
  have HE3 := hid hy3
  have HY3 := hid (show ys3.length = xs.length + 11 from by rw [← hy3, List.length_append, le_len, HY2.out])
  have WR3 := hid (show Wo base W3 B ys3 from by rw [← hy3]; exact WR3a.out)
  clear hy3 WR3a KT3a WR2 RB2 BS2 KT2
  obtain ⟨b0, b1, b2, b3, b4, b5⟩ := row6 RB3.out
  go_upto_region 5 with (go_at_call 17; with_reducible refine (P8.out _ ys3 (seq) WR3.out.wr X3.out.1 X3.out.2 (by have := HL.out; have := HY3.out; omega) BS3.out).mono ?_; rintro e W4 ⟨rfl, h1, h2⟩; have WR4a := hid h1; have KT4a := hid h2; clear h1 h2)
  clear b0 b1 b2 b3 b4 b5
  have RB4 := hid (KT4a.out.2 _ _ _ RB3.out (by decide) (by decide))
  have BS4 := hid (Nat.le_trans BS3.out KT4a.out.1.size)
  have KT4 := hid (KT3.out.trans KT4a.out)
  obtain ⟨ys4, hy4⟩ : ∃ ys, ys3 ++ le 8 (seq).toNat = ys := ⟨_, rfl⟩
  have HE4 := hid hy4
  have HY4 := hid (show ys4.length = xs.length + 19 from by rw [← hy4, List.length_append, le_len, HY3.out])
  have WR4 := hid (show Wo base W4 B ys4 from by rw [← hy4]; exact WR4a.out)
  clear hy4 WR4a KT4a WR3 RB3 BS3 KT3
  obtain ⟨b0, b1, b2, b3, b4, b5⟩ := row6 RB4.out
  go_upto_region 6 with (go_at_call 17; with_reducible refine (P2.out _ ys4 ((n : Int)) WR4.out.wr X4.out.1 X4.out.2 (by have := HL.out; have := HY4.out; omega) BS4.out).mono ?_; rintro e W5 ⟨rfl, h1, h2⟩; have WR5a := hid h1; have KT5a := hid h2; clear h1 h2)
  clear b0 b1 b2 b3 b4 b5
  have RB5 := hid (KT5a.out.2 _ _ _ RB4.out (by decide) (by decide))
  have BS5 := hid (Nat.le_trans BS4.out KT5a.out.1.size)
  have KT5 := hid (KT4.out.trans KT5a.out)
  obtain ⟨ys5, hy5⟩ : ∃ ys, ys4 ++ le 2 ((n : Int)).toNat = ys := ⟨_, rfl⟩
  have HE5 := hid hy5
  have HY5 := hid (show ys5.length = xs.length + 21 from by rw [← hy5, List.length_append, le_len, HY4.out])
  have WR5 := hid (show Wo base W5 B ys5 from by rw [← hy5]; exact WR5a.out)
  clear hy5 WR5a KT5a WR4 RB4 BS4 KT4
  obtain ⟨b0, b1, b2, b3, b4, b5⟩ := row6 RB5.out
  go_wp2_with (go_at_call 17; with_reducible refine (P2.out _ ys5 ((m : Int)) WR5.out.wr X5.out.1 X5.out.2 (by have := HL.out; have := HY5.out; omega) BS5.out).mono ?_; rintro e W6 ⟨rfl, h1, h2⟩; have WR6a := hid h1; have KT6a := hid h2; clear h1 h2)
  clear b0 b1 b2 b3 b4 b5
  have RB6 := hid (KT6a.out.2 _ _ _ RB5.out (by decide) (by decide))
  have BS6 := hid (Nat.le_trans BS5.out KT6a.out.1.size)
  have KT6 := hid (KT5.out.trans KT6a.out)
  obtain ⟨ys6, hy6⟩ : ∃ ys, ys5 ++ le 2 ((m : Int)).toNat = ys := ⟨_, rfl⟩
  have HE6 := hid hy6
  have HY6 := hid (show ys6.length = xs.length + 23 from by rw [← hy6, List.length_append, le_len, HY5.out])
  have WR6 := hid (show Wo base W6 B ys6 from by rw [← hy6]; exact WR6a.out)
  clear hy6 WR6a KT6a WR5 RB5 BS5 KT5
  go_end0
  refine ⟨rfl, ?_, KT6.out⟩
  have e := WR6.out
  rw [← HE6.out, ← HE5.out, ← HE4.out, ← HE3.out, ← HE2.out, ← HE1.out] at e
  simpa [hd, List.append_assoc] using e
theorem worder_any {base B : Nat} {xs : List Nat} {i mb ty pr vi hi pk : Int} (h0 : 0 ≤ i ∧ i < 18446744073709551616) (h1 : 0 ≤ mb ∧ mb < 18446744073709551616) (h2 : 0 ≤ ty ∧ ty < 18446744073709551616) (h3 : 0 ≤ pr ∧ pr < 18446744073709551616) (h4 : 0 ≤ vi ∧ vi < 18446744073709551616) (h5 : 0 ≤ hi ∧ hi < 18446744073709551616) (h6 : 0 ≤ pk ∧ pk < 18446744073709551616) (w : World) (hW : Wr base w B xs) (hl : xs.length + 29 ≤ 1000000000) (hb : base ≤ w.heap.size) :
    Calls Tryd.prog 16 #[.pointer (some ⟨B, 0, none⟩), .agg #[.int .u64 i, .int .u32 mb, .int .i64 ty, .int .i64 pr, .int .u64 vi, .int .u64 hi, .int .u64 pk]] w fun e w' => e = .returned (.tuple #[]) ∧ Wo base w' B (xs ++ ob ⟨i, mb, ty, pr, vi, hi, pk⟩) ∧ Kt base w w' := by

  have w1 : IntKind.u64.wrap mb = mb := by rw [IntKind.wrap_u64]; omega
  have w2 : IntKind.u64.wrap ty = ty := by rw [IntKind.wrap_u64]; omega
  have w3 : IntKind.u64.wrap pr = pr := by rw [IntKind.wrap_u64]; omega
  have P1 := hid (fun (U : World) (ys : List Nat) (x : Int) (hW : Wr base U B ys) (h0 : 0 ≤ x) (h1 : x < 18446744073709551616) (hl : ys.length + 1 ≤ 1000000000) (hb : base ≤ U.heap.size) => show Calls Tryd.prog 17 #[.pointer (some ⟨B, 0, none⟩), .int .i64 1, .int .u64 x] U fun e w' => e = .returned (.tuple #[]) ∧ Wo base w' B (ys ++ le 1 x.toNat) ∧ Kt base U w' from wput_any U hW (by decide) (by decide) h0 h1 hl hb)
  have P4 := hid (fun (U : World) (ys : List Nat) (x : Int) (hW : Wr base U B ys) (h0 : 0 ≤ x) (h1 : x < 18446744073709551616) (hl : ys.length + 4 ≤ 1000000000) (hb : base ≤ U.heap.size) => show Calls Tryd.prog 17 #[.pointer (some ⟨B, 0, none⟩), .int .i64 4, .int .u64 x] U fun e w' => e = .returned (.tuple #[]) ∧ Wo base w' B (ys ++ le 4 x.toNat) ∧ Kt base U w' from wput_any U hW (by decide) (by decide) h0 h1 hl hb)
  have P8 := hid (fun (U : World) (ys : List Nat) (x : Int) (hW : Wr base U B ys) (h0 : 0 ≤ x) (h1 : x < 18446744073709551616) (hl : ys.length + 8 ≤ 1000000000) (hb : base ≤ U.heap.size) => show Calls Tryd.prog 17 #[.pointer (some ⟨B, 0, none⟩), .int .i64 8, .int .u64 x] U fun e w' => e = .returned (.tuple #[]) ∧ Wo base w' B (ys ++ le 8 x.toNat) ∧ Kt base U w' from wput_any U hW (by decide) (by decide) h0 h1 hl hb)
  obtain ⟨W0, hW0⟩ : ∃ U, w.alloc (.cells #[.int .u64 i, .int .u32 mb, .int .i64 ty, .int .i64 pr, .int .u64 vi, .int .u64 hi, .int .u64 pk] 46) = U := ⟨_, rfl⟩
  obtain ⟨R, hR⟩ : ∃ R, w.heap.size = R := ⟨_, rfl⟩
  have BA := hid (show Below w.heap.size w W0 from by rw [← hW0]; exact ball _ _)
  have WR0 := hid (hW.on BA.out)
  have RB0 := hid (show W0.heap[R]? = some (.cells #[.int .u64 i, .int .u32 mb, .int .i64 ty, .int .i64 pr, .int .u64 vi, .int .u64 hi, .int .u64 pk] 46 (0, 0)) from by rw [← hW0, ← hR]; exact World.alloc_heap_new _ _)
  have KT0 := hid (Kt.of BA.out hb)
  have HB := hid hb
  have BS0 := hid (Nat.le_trans hb BA.out.size)
  have HL := hid hl
  have X0 := hid (show 0 ≤ i ∧ i < 18446744073709551616 from h0)
  have X1 := hid (show 0 ≤ mb ∧ mb < 18446744073709551616 from h1)
  have X2 := hid (show 0 ≤ ty ∧ ty < 18446744073709551616 from h2)
  have X3 := hid (show 0 ≤ pr ∧ pr < 18446744073709551616 from h3)
  have X4 := hid (show 0 ≤ vi ∧ vi < 18446744073709551616 from h4)
  have X5 := hid (show 0 ≤ hi ∧ hi < 18446744073709551616 from h5)
  have X6 := hid (show 0 ≤ pk ∧ pk < 18446744073709551616 from h6)
  clear hW hl hb
  go_enter Tryd.func16, Tryd.ntmps16
  go_upto_region 1 with fail
  clear hW0 hR
  obtain ⟨b0, b1, b2, b3, b4, b5, b6⟩ := row7 RB0.out
  go_upto_region 2 with (go_at_call 17; with_reducible refine (P8.out _ xs (i) WR0.out X0.out.1 X0.out.2 (by have := HL.out; omega) BS0.out).mono ?_; rintro e W1 ⟨rfl, h1, h2⟩; have WR1a := hid h1; have KT1a := hid h2; clear h1 h2)
  clear b0 b1 b2 b3 b4 b5 b6
  have RB1 := hid (KT1a.out.2 _ _ _ RB0.out (by decide) (by decide))
  have BS1 := hid (Nat.le_trans BS0.out KT1a.out.1.size)
  have KT1 := hid (KT0.out.trans KT1a.out)
  obtain ⟨ys1, hy1⟩ : ∃ ys, xs ++ le 8 (i).toNat = ys := ⟨_, rfl⟩
  have HE1 := hid hy1
  have HY1 := hid (show ys1.length = xs.length + 8 from by rw [← hy1, List.length_append, le_len])
  have WR1 := hid (show Wo base W1 B ys1 from by rw [← hy1]; exact WR1a.out)
  clear hy1 WR1a KT1a WR0 RB0 BS0 KT0
  obtain ⟨b0, b1, b2, b3, b4, b5, b6⟩ := row7 RB1.out
  go_upto_region 3 with (go_at_call 17; with_reducible refine (P4.out _ ys1 (mb) WR1.out.wr X1.out.1 X1.out.2 (by have := HL.out; have := HY1.out; omega) BS1.out).mono ?_; rintro e W2 ⟨rfl, h1, h2⟩; have WR2a := hid h1; have KT2a := hid h2; clear h1 h2)
  clear b0 b1 b2 b3 b4 b5 b6
  have RB2 := hid (KT2a.out.2 _ _ _ RB1.out (by decide) (by decide))
  have BS2 := hid (Nat.le_trans BS1.out KT2a.out.1.size)
  have KT2 := hid (KT1.out.trans KT2a.out)
  obtain ⟨ys2, hy2⟩ : ∃ ys, ys1 ++ le 4 (mb).toNat = ys := ⟨_, rfl⟩
  have HE2 := hid hy2
  have HY2 := hid (show ys2.length = xs.length + 12 from by rw [← hy2, List.length_append, le_len, HY1.out])
  have WR2 := hid (show Wo base W2 B ys2 from by rw [← hy2]; exact WR2a.out)
  clear hy2 WR2a KT2a WR1 RB1 BS1 KT1
  obtain ⟨b0, b1, b2, b3, b4, b5, b6⟩ := row7 RB2.out
  go_upto_region 4 with (go_at_call 17; with_reducible refine (P1.out _ ys2 (ty) WR2.out.wr X2.out.1 X2.out.2 (by have := HL.out; have := HY2.out; omega) BS2.out).mono ?_; rintro e W3 ⟨rfl, h1, h2⟩; have WR3a := hid h1; have KT3a := hid h2; clear h1 h2)
  clear b0 b1 b2 b3 b4 b5 b6
  have RB3 := hid (KT3a.out.2 _ _ _ RB2.out (by decide) (by decide))
  have BS3 := hid (Nat.le_trans BS2.out KT3a.out.1.size)
  have KT3 := hid (KT2.out.trans KT3a.out)
  obtain ⟨ys3, hy3⟩ : ∃ ys, ys2 ++ le 1 (ty).toNat = ys := ⟨_, rfl⟩
  have HE3 := hid hy3
  have HY3 := hid (show ys3.length = xs.length + 13 from by rw [← hy3, List.length_append, le_len, HY2.out])
  have WR3 := hid (show Wo base W3 B ys3 from by rw [← hy3]; exact WR3a.out)
  clear hy3 WR3a KT3a WR2 RB2 BS2 KT2
  obtain ⟨b0, b1, b2, b3, b4, b5, b6⟩ := row7 RB3.out
  go_upto_region 5 with (go_at_call 17; with_reducible refine (P4.out _ ys3 (pr) WR3.out.wr X3.out.1 X3.out.2 (by have := HL.out; have := HY3.out; omega) BS3.out).mono ?_; rintro e W4 ⟨rfl, h1, h2⟩; have WR4a := hid h1; have KT4a := hid h2; clear h1 h2)
  clear b0 b1 b2 b3 b4 b5 b6
  have RB4 := hid (KT4a.out.2 _ _ _ RB3.out (by decide) (by decide))
  have BS4 := hid (Nat.le_trans BS3.out KT4a.out.1.size)
  have KT4 := hid (KT3.out.trans KT4a.out)
  obtain ⟨ys4, hy4⟩ : ∃ ys, ys3 ++ le 4 (pr).toNat = ys := ⟨_, rfl⟩
  have HE4 := hid hy4
  have HY4 := hid (show ys4.length = xs.length + 17 from by rw [← hy4, List.length_append, le_len, HY3.out])
  have WR4 := hid (show Wo base W4 B ys4 from by rw [← hy4]; exact WR4a.out)
  clear hy4 WR4a KT4a WR3 RB3 BS3 KT3
  obtain ⟨b0, b1, b2, b3, b4, b5, b6⟩ := row7 RB4.out
  go_upto_region 6 with (go_at_call 17; with_reducible refine (P4.out _ ys4 (vi) WR4.out.wr X4.out.1 X4.out.2 (by have := HL.out; have := HY4.out; omega) BS4.out).mono ?_; rintro e W5 ⟨rfl, h1, h2⟩; have WR5a := hid h1; have KT5a := hid h2; clear h1 h2)
  clear b0 b1 b2 b3 b4 b5 b6
  have RB5 := hid (KT5a.out.2 _ _ _ RB4.out (by decide) (by decide))
  have BS5 := hid (Nat.le_trans BS4.out KT5a.out.1.size)
  have KT5 := hid (KT4.out.trans KT5a.out)
  obtain ⟨ys5, hy5⟩ : ∃ ys, ys4 ++ le 4 (vi).toNat = ys := ⟨_, rfl⟩
  have HE5 := hid hy5
  have HY5 := hid (show ys5.length = xs.length + 21 from by rw [← hy5, List.length_append, le_len, HY4.out])
  have WR5 := hid (show Wo base W5 B ys5 from by rw [← hy5]; exact WR5a.out)
  clear hy5 WR5a KT5a WR4 RB4 BS4 KT4
  obtain ⟨b0, b1, b2, b3, b4, b5, b6⟩ := row7 RB5.out
  go_upto_region 7 with (go_at_call 17; with_reducible refine (P4.out _ ys5 (hi) WR5.out.wr X5.out.1 X5.out.2 (by have := HL.out; have := HY5.out; omega) BS5.out).mono ?_; rintro e W6 ⟨rfl, h1, h2⟩; have WR6a := hid h1; have KT6a := hid h2; clear h1 h2)
  clear b0 b1 b2 b3 b4 b5 b6
  have RB6 := hid (KT6a.out.2 _ _ _ RB5.out (by decide) (by decide))
  have BS6 := hid (Nat.le_trans BS5.out KT6a.out.1.size)
  have KT6 := hid (KT5.out.trans KT6a.out)
  obtain ⟨ys6, hy6⟩ : ∃ ys, ys5 ++ le 4 (hi).toNat = ys := ⟨_, rfl⟩
  have HE6 := hid hy6
  have HY6 := hid (show ys6.length = xs.length + 25 from by rw [← hy6, List.length_append, le_len, HY5.out])
  have WR6 := hid (show Wo base W6 B ys6 from by rw [← hy6]; exact WR6a.out)
  clear hy6 WR6a KT6a WR5 RB5 BS5 KT5
  obtain ⟨b0, b1, b2, b3, b4, b5, b6⟩ := row7 RB6.out
  go_wp2_with (go_at_call 17; with_reducible refine (P4.out _ ys6 (pk) WR6.out.wr X6.out.1 X6.out.2 (by have := HL.out; have := HY6.out; omega) BS6.out).mono ?_; rintro e W7 ⟨rfl, h1, h2⟩; have WR7a := hid h1; have KT7a := hid h2; clear h1 h2)
  clear b0 b1 b2 b3 b4 b5 b6
  have RB7 := hid (KT7a.out.2 _ _ _ RB6.out (by decide) (by decide))
  have BS7 := hid (Nat.le_trans BS6.out KT7a.out.1.size)
  have KT7 := hid (KT6.out.trans KT7a.out)
  obtain ⟨ys7, hy7⟩ : ∃ ys, ys6 ++ le 4 (pk).toNat = ys := ⟨_, rfl⟩
  have HE7 := hid hy7
  have HY7 := hid (show ys7.length = xs.length + 29 from by rw [← hy7, List.length_append, le_len, HY6.out])
  have WR7 := hid (show Wo base W7 B ys7 from by rw [← hy7]; exact WR7a.out)
  clear hy7 WR7a KT7a WR6 RB6 BS6 KT6
  go_end0
  refine ⟨rfl, ?_, KT7.out⟩
  have e := WR7.out
  rw [← HE7.out, ← HE6.out, ← HE5.out, ← HE4.out, ← HE3.out, ← HE2.out, ← HE1.out] at e
  simpa [ob, List.append_assoc] using e
end Go.Proofs.YtjpkodllemoniaaDoor.Wi
