/-
  snapshot.Decode.
-/
import Derived.Test.YtjpkodllemoniaaDoorXc
import Derived.Test.YtjpkodllemoniaaDoorXb
import Derived.Test.YtjpkodllemoniaaDoorRcE
namespace Go.Proofs.YtjpkodllemoniaaDoor.Wi
open Go.RowKit Go.Deep Go.Proofs.YtjpkodllemoniaaDoor.Crc
open Go.Proofs.YtjpkodllemoniaaDoor.Cp (btr ball row_on row_cell row_lt row_frz row_ne set_row row6 Kp Or Osz orow)
open Go.Proofs.YtjpkodllemoniaaDoor.Sr (RtW BoOk Rz)
set_option linter.unusedVariables false
set_option linter.unusedSimpArgs false
set_option maxHeartbeats 16000000
set_option maxRecDepth 100000
attribute [local go_sem ↓] Go.wp_at_zero Go.wp_at_succ
/-- the zero book. -/
def zb : Array Value := #[.int .i64 0, .int .i64 0, .slice none 0 0, .slice none 0 0, .int .u64 0, .int .u64 0]
theorem chain6 {V : World} {R : Nat} {t : TypeId} {c0 c1 c2 c3 c4 c5 : Value} (a0 a1 a2 a3 a4 a5 : Value) (h : V.heap[R]? = some (.cells #[c0, c1, c2, c3, c4, c5] t (0, 0))) :
    ((((((V.setCell ⟨R, 0, none⟩ a0).setCell ⟨R, 1, none⟩ a1).setCell ⟨R, 2, none⟩ a2).setCell ⟨R, 3, none⟩ a3).setCell ⟨R, 4, none⟩ a4).setCell ⟨R, 5, none⟩ a5).heap[R]? = some (.cells #[a0, a1, a2, a3, a4, a5] t (0, 0)) :=
  set_row a5 (set_row a4 (set_row a3 (set_row a2 (set_row a1 (set_row a0 h)))))
theorem chain6_kp (V : World) (R : Nat) (a0 a1 a2 a3 a4 a5 : Value) : Kp (fun b => b = R) V ((((((V.setCell ⟨R, 0, none⟩ a0).setCell ⟨R, 1, none⟩ a1).setCell ⟨R, 2, none⟩ a2).setCell ⟨R, 3, none⟩ a3).setCell ⟨R, 4, none⟩ a4).setCell ⟨R, 5, none⟩ a5) :=
  (((((Kp.set V R 0 a0).trans (Kp.set _ R 1 a1) (fun _ _ h => h)).trans (Kp.set _ R 2 a2) (fun _ _ h => h)).trans (Kp.set _ R 3 a3) (fun _ _ h => h)).trans (Kp.set _ R 4 a4) (fun _ _ h => h)).trans (Kp.set _ R 5 a5) (fun _ _ h => h)
theorem dec_begin (b o n cap : Nat) (A E : Int) (hE : E ≠ 0) (w : World) (CB : Hid (∀ U, Below w.heap.size w U → Calls Tryd.prog 23 #[.slice (some ⟨b, o, none⟩) n cap] U fun e w' => e = .returned (.tuple #[.int .i64 A, .int .i64 E]) ∧ Below U.heap.size U w')) :
    Calls Tryd.prog 10 #[.slice (some ⟨b, o, none⟩) n cap] w fun e w' => e = .returned (.tuple #[.agg zb, .int .i64 A, .int .i64 E]) ∧ Below w.heap.size w w' := by
  have e1 : (E != 0) = true := by simpa using hE
  obtain ⟨W1, hW1⟩ : ∃ U, w.alloc (.cells #[.int .i64 0, .int .i64 0, .slice none 0 0, .slice none 0 0, .int .u64 0, .int .u64 0] 27) = U := ⟨_, rfl⟩
  obtain ⟨R1, hR1⟩ : ∃ R, w.heap.size = R := ⟨_, rfl⟩
  have HR1 := hid hR1
  have BA := hid (show Below w.heap.size w W1 from by rw [← hW1]; exact ball _ _)
  have Q0 := hid (show W1.heap[R1]? = some (.cells #[.int .i64 0, .int .i64 0, .slice none 0 0, .slice none 0 0, .int .u64 0, .int .u64 0] 27 (0, 0)) from by rw [← hW1, ← hR1]; exact World.alloc_heap_new _ _)
  go_enter Tryd.func10, Tryd.ntmps10
  go_upto_region 1 with fail
  (try rw [hW1, hR1])
  clear hW1 hR1
  go_upto_region 2 with (go_at_call 23; with_reducible refine (CB.out _ BA.out).mono ?_; rintro e V0 ⟨rfl, h1⟩; have B0 := hid h1; clear h1)
  have Q1 := hid (row_on Q0.out B0.out)
  have BV := hid (btr BA.out B0.out)
  obtain ⟨x0, x1, x2, x3, x4, x5⟩ := row6 Q1.out
  have g0 := row_frz Q1.out 0
  have g1 := row_frz Q1.out 1
  have g2 := row_frz Q1.out 2
  have g3 := row_frz Q1.out 3
  have g4 := row_frz Q1.out 4
  have g5 := row_frz Q1.out 5
  obtain ⟨Y, hY⟩ : ∃ Y, (((((((V0).setCell ⟨R1, 0, none⟩ (.int .i64 0)).setCell ⟨R1, 1, none⟩ (.int .i64 0)).setCell ⟨R1, 2, none⟩ (.slice none 0 0)).setCell ⟨R1, 3, none⟩ (.slice none 0 0)).setCell ⟨R1, 4, none⟩ (.int .u64 0)).setCell ⟨R1, 5, none⟩ (.int .u64 0)) = Y := ⟨_, rfl⟩
  have KY := hid (show Kp (fun b => b = R1) (V0) Y from by rw [← hY]; exact chain6_kp _ _ _ _ _ _ _ _)
  have QY := hid (show Y.heap[R1]? = some (.cells #[.int .i64 0, .int .i64 0, .slice none 0 0, .slice none 0 0, .int .u64 0, .int .u64 0] 27 (0, 0)) from by rw [← hY]; exact chain6 _ _ _ _ _ _ Q1.out)
  go_wp2
  (try rw [hY])
  exact bodyPost_ret (res3 _ 2 3 4 Tryd.results10 _ _ R1 #[.int .i64 0, .int .i64 0, .slice none 0 0, .slice none 0 0, .int .u64 0, .int .u64 0] _ _ (by rfl) (by rfl) (by rfl) QY.out infoB) rfl ⟨rfl, (BV.out.trans (KY.out.below BV.out.size (fun q hq e => by have := HR1.out; omega)))⟩
theorem dec_end (xs : List Nat) (b o n cap nb ns D : Nat) (w : World) (hx : Oct xs) (hB : Bs w b o xs) (hl : xs.length = n) (hn : 31 ≤ n) (hc : n < cap) (hcl : cap < 9223372036854775808) (h5 : ∃ cur fz, w.heap[b]? = some (.cells cur 5 fz)) (hnb : nat' xs 27 2 = nb) (hns : nat' xs 29 2 = ns) (hD : 31 + 29 * (nb + ns) = D) (CB : Hid (∀ U, Below w.heap.size w U → Calls Tryd.prog 23 #[.slice (some ⟨b, o, none⟩) n cap] U fun e w' => e = .returned (.tuple #[.int .i64 0, .int .i64 0]) ∧ Below U.heap.size U w')) (A E : Int) (hE : E ≠ 0) (CE : Hid (∀ U, Below w.heap.size w U → Calls Tryd.prog 25 #[.slice (some ⟨b, o, none⟩) n cap, .int .i64 D] U fun e w' => e = .returned (.tuple #[.int .i64 A, .int .i64 E]) ∧ Below U.heap.size U w')) :
    Calls Tryd.prog 10 #[.slice (some ⟨b, o, none⟩) n cap] w fun e w' => e = .returned (.tuple #[.agg zb, .int .i64 A, .int .i64 E]) ∧ Below w.heap.size w w' := by
  have e1 : (E != 0) = true := by simpa using hE
  have HX := hid hx
  have HB := hid hB
  have HL := hid hl
  have HN := hid hn
  have HC := hid hc
  have HCL := hid hcl
  have H5 := hid h5
  have LB := hid (show nb < 65536 from by rw [← hnb]; exact nat_lt hx 27 2)
  have LS := hid (show ns < 65536 from by rw [← hns]; exact nat_lt hx 29 2)
  have HD := hid hD
  have HNB := hid hnb
  have HNS := hid hns
  have i0 : (8 : Int) ≤ (n : Int) := by omega
  have i1 : (8 : Int) ≤ (cap : Int) := by omega
  have i2 : ¬ cap = 8 := by omega
  have bw := row_lt h5.choose_spec.choose_spec
  have HBW := hid bw
  obtain ⟨n8, hn8⟩ : ∃ z, n - 8 = z := ⟨_, rfl⟩
  obtain ⟨c8, hc8⟩ : ∃ z, cap - 8 = z := ⟨_, rfl⟩
  have N8 := hid (show n8 + 8 = n from by omega)
  have C8 := hid (show c8 + 8 = cap from by omega)
  have HNc := hid (show 23 ≤ n8 from by omega)
  have wa : IntKind.i64.wrap ((nb : Int) + (ns : Int)) = (nb : Int) + (ns : Int) := by have := LB.out; have := LS.out; rw [IntKind.wrap_i64]; omega
  have wb : IntKind.i64.wrap (29 * ((nb : Int) + (ns : Int))) = 29 * ((nb : Int) + (ns : Int)) := by have := LB.out; have := LS.out; rw [IntKind.wrap_i64]; omega
  have wc : IntKind.i64.wrap (31 + 29 * ((nb : Int) + (ns : Int))) = (D : Int) := by have := LB.out; have := LS.out; rw [IntKind.wrap_i64]; omega
  obtain ⟨cv, hcv⟩ : ∃ z, nat' xs 8 2 = z := ⟨_, rfl⟩
  obtain ⟨mv, hmv⟩ : ∃ z, nat' xs 10 1 = z := ⟨_, rfl⟩
  obtain ⟨hv, hhv⟩ : ∃ z, nat' xs 11 8 = z := ⟨_, rfl⟩
  obtain ⟨sv, hsv⟩ : ∃ z, nat' xs 19 8 = z := ⟨_, rfl⟩
  have HCV := hid hcv
  have HMV := hid hmv
  have HHV := hid hhv
  have HSV := hid hsv
  clear hx hB hl hn hc hcl h5 hD hnb hns hcv hmv hhv hsv bw
  obtain ⟨W1, hW1⟩ : ∃ U, w.alloc (.cells #[.int .i64 0, .int .i64 0, .slice none 0 0, .slice none 0 0, .int .u64 0, .int .u64 0] 27) = U := ⟨_, rfl⟩
  obtain ⟨R1, hR1⟩ : ∃ R, w.heap.size = R := ⟨_, rfl⟩
  have HR1 := hid hR1
  have BA := hid (show Below w.heap.size w W1 from by rw [← hW1]; exact ball _ _)
  have Q0 := hid (show W1.heap[R1]? = some (.cells #[.int .i64 0, .int .i64 0, .slice none 0 0, .slice none 0 0, .int .u64 0, .int .u64 0] 27 (0, 0)) from by rw [← hW1, ← hR1]; exact World.alloc_heap_new _ _)
  go_enter Tryd.func10, Tryd.ntmps10
  go_upto_region 1 with fail
  (try rw [hW1, hR1])
  clear hW1 hR1
  go_upto_region 2 with (go_at_call 23; with_reducible refine (CB.out _ BA.out).mono ?_; rintro e V0 ⟨rfl, h1⟩; have B0 := hid h1; clear h1)
  have Q1 := hid (row_on Q0.out B0.out)
  have BV := hid (btr BA.out B0.out)
  go_upto_region 4 with fail
  go_upto_region 5 with fail
  (try rw [hn8, hc8])
  clear hn8 hc8 i0 i1 i2
  obtain ⟨W2, hW2⟩ : ∃ U, V0.alloc (.cells #[.slice (some ⟨b, o + 8, none⟩) n8 c8] 54) = U := ⟨_, rfl⟩
  obtain ⟨R2, hR2⟩ : ∃ R, V0.heap.size = R := ⟨_, rfl⟩
  have B2 := hid (show Below V0.heap.size V0 W2 from by rw [← hW2]; exact ball _ _)
  have RD := hid (show Rdr W2 R2 b (o + 8) n8 c8 (xs.drop 8) from by
    have bt := btr BV.out B2.out
    obtain ⟨cur, fz, h5⟩ := H5.out
    exact ⟨by rw [← hW2, ← hR2]; exact World.alloc_heap_new _ _, bs_same (bs_drop HB.out 8) ((bt.block b HBW.out)), by rw [List.length_drop, HL.out]; have := N8.out; omega, oct_drop HX.out 8, by have := HC.out; have := N8.out; have := C8.out; omega, by have := HCL.out; have := C8.out; omega, cur, fz, (bt.block b HBW.out).trans h5⟩)
  have Q2 := hid (row_on Q1.out B2.out)
  have BV2 := hid (btr BV.out B2.out)
  have NR := hid (show ¬ R1 = R2 ∧ ¬ b = R2 ∧ ¬ b = R1 from by have := row_lt Q1.out; have := BV.out.size; have := HBW.out; have := HR1.out; refine ⟨?_, ?_, ?_⟩ <;> omega)
  have SR2 := hid (show w.heap.size ≤ R2 from by have := BV.out.size; omega)
  (try rw [hW2, hR2])
  clear hW2 hR2 B2 Q1 B0 Q0 BA BV
  have CH := hid (rhead_any (n' := n8 - 23) W2 RD.out (by have := HNc.out; omega))
  rw [nat_drop, nat_drop, nat_drop, nat_drop, nat_drop, nat_drop, HCV.out, HMV.out, HHV.out, HSV.out, show nat' xs (8 + 19) 2 = nb from HNB.out, show nat' xs (8 + 21) 2 = ns from HNS.out, List.drop_drop] at CH
  go_upto_region 6 with (go_at_call 24; with_reducible refine CH.out.mono ?_; rintro e V1 ⟨rfl, h1, h2⟩; have RD1 := hid h1; have K1 := hid h2; clear h1 h2)
  obtain ⟨W3, hW3⟩ : ∃ U, V1.alloc (.cells #[.int .i64 ((cv : Nat) : Int), .int .i64 ((mv : Nat) : Int), .slice none 0 0, .slice none 0 0, .int .u64 ((hv : Nat) : Int), .int .u64 ((sv : Nat) : Int)] 27) = U := ⟨_, rfl⟩
  obtain ⟨R3, hR3⟩ : ∃ R, V1.heap.size = R := ⟨_, rfl⟩
  have B3 := hid (show Below V1.heap.size V1 W3 from by rw [← hW3]; exact ball _ _)
  have RD2 := hid (RD1.out.on B3.out)
  have Q3 := hid (show W3.heap[R3]? = some (.cells #[.int .i64 ((cv : Nat) : Int), .int .i64 ((mv : Nat) : Int), .slice none 0 0, .slice none 0 0, .int .u64 ((hv : Nat) : Int), .int .u64 ((sv : Nat) : Int)] 27 (0, 0)) from by rw [← hW3, ← hR3]; exact World.alloc_heap_new _ _)
  have Q4 := hid (row_on (K1.out.row Q2.out NR.out.1) B3.out)
  have BV1 := hid (BV2.out.trans (K1.out.below BV2.out.size (fun q hq e => by have := SR2.out; omega)))
  have BV3 := hid (BV1.out.trans (B3.out.mono BV1.out.size))
  have NR3 := hid (show ¬ R3 = R1 ∧ ¬ R3 = R2 ∧ ¬ R3 = b ∧ w.heap.size ≤ R3 from by have := row_lt (K1.out.row Q2.out NR.out.1); have := row_lt RD1.out.row; have := HBW.out; have := BV1.out.size; refine ⟨?_, ?_, ?_, ?_⟩ <;> omega)
  (try rw [hW3, hR3])
  clear hW3 hR3 B3 Q2 BV2 BV1 CH RD RD1 K1
  go_upto_region 7 with (go_at_call 25; with_reducible refine (CE.out _ BV3.out).mono ?_; rintro e V2 ⟨rfl, h1⟩; have B4 := hid h1; clear h1)
  have Q5 := hid (row_on Q4.out B4.out)
  have BV := hid (BV3.out.trans (B4.out.mono BV3.out.size))
  obtain ⟨x0, x1, x2, x3, x4, x5⟩ := row6 Q5.out
  have g0 := row_frz Q5.out 0
  have g1 := row_frz Q5.out 1
  have g2 := row_frz Q5.out 2
  have g3 := row_frz Q5.out 3
  have g4 := row_frz Q5.out 4
  have g5 := row_frz Q5.out 5
  obtain ⟨Y, hY⟩ : ∃ Y, (((((((V2).setCell ⟨R1, 0, none⟩ (.int .i64 0)).setCell ⟨R1, 1, none⟩ (.int .i64 0)).setCell ⟨R1, 2, none⟩ (.slice none 0 0)).setCell ⟨R1, 3, none⟩ (.slice none 0 0)).setCell ⟨R1, 4, none⟩ (.int .u64 0)).setCell ⟨R1, 5, none⟩ (.int .u64 0)) = Y := ⟨_, rfl⟩
  have KY := hid (show Kp (fun b => b = R1) (V2) Y from by rw [← hY]; exact chain6_kp _ _ _ _ _ _ _ _)
  have QY := hid (show Y.heap[R1]? = some (.cells #[.int .i64 0, .int .i64 0, .slice none 0 0, .slice none 0 0, .int .u64 0, .int .u64 0] 27 (0, 0)) from by rw [← hY]; exact chain6 _ _ _ _ _ _ Q5.out)
  go_wp2
  (try rw [hY])
  exact bodyPost_ret (res3 _ 2 3 4 Tryd.results10 _ _ R1 #[.int .i64 0, .int .i64 0, .slice none 0 0, .slice none 0 0, .int .u64 0, .int .u64 0] _ _ (by rfl) (by rfl) (by rfl) QY.out infoB) rfl ⟨rfl, (BV.out.trans (KY.out.below BV.out.size (fun q hq e => by have := HR1.out; omega)))⟩
theorem orw_osz {w : World} {G k o : Nat} {F : Nat → Or} {xs : List Nat} (h : Orw w G k k F) (hF : ∀ j, F j = rdo (xs.drop (o + 29 * j))) : Osz w (some ⟨G, 0, none⟩) (rdos xs o k) := fun i hi => by
  rw [rdos_len] at hi
  obtain ⟨cur, h1, h2, h3⟩ := h
  refine ⟨G, 0, rfl, row_lt h1, fun j hj => ?_⟩
  have := h3 i hi j hj
  rw [Nat.zero_add, this, hF i]
  simp [rdos]
theorem osz_kp {w w' : World} {G : Nat} {l : List Or} (h : Osz w (some ⟨G, 0, none⟩) l) {P : Nat → Prop} (k : Kp P w w') (hG : ¬ P G) : Osz w' (some ⟨G, 0, none⟩) l := fun i hi => by
  obtain ⟨b, off, e, hb, hc⟩ := h i hi
  simp only [Option.some.injEq, Addr.mk.injEq, and_true] at e
  obtain ⟨rfl, rfl⟩ := e
  refine ⟨G, 0, rfl, Nat.lt_of_lt_of_le hb k.size, fun j hj => ?_⟩
  rw [← hc j hj]
  unfold World.cell?
  simp only
  rw [k.obj G hb hG]
theorem osz_rz {w : World} {G : Nat} {l : List Or} (h : Osz w (some ⟨G, 0, none⟩) l) : Rz w (some ⟨G, 0, none⟩) l := fun i hi => by
  obtain ⟨b, off, e, hb, hc⟩ := h i hi
  simp only [Option.some.injEq, Addr.mk.injEq, and_true] at e
  obtain ⟨rfl, rfl⟩ := e
  have c0 := hc 0 (by decide)
  have c1 := hc 1 (by decide)
  have c2 := hc 2 (by decide)
  have c3 := hc 3 (by decide)
  have c4 := hc 4 (by decide)
  have c5 := hc 5 (by decide)
  have c6 := hc 6 (by decide)
  simp only [Nat.zero_add, Nat.add_zero] at c0 c1 c2 c3 c4 c5 c6
  exact ⟨G, rfl, hb, c0, c1, c2, c3, c4, c5, c6⟩
theorem rdo_w {xs : List Nat} (hx : Oct xs) (o : Nat) : RtW (rdo (xs.drop o)) := by
  have h0 := nat_lt (oct_drop hx o) 0 8
  have h4 := nat_lt (oct_drop hx o) 17 4
  have h5 := nat_lt (oct_drop hx o) 21 4
  have h6 := nat_lt (oct_drop hx o) 25 4
  refine ⟨?_, ?_, ?_, ?_, ?_, ?_, ?_, ?_⟩ <;> (unfold rdo; simp only; omega)
theorem rdos_w {xs : List Nat} (hx : Oct xs) (o k : Nat) : ∀ i (hi : i < (rdos xs o k).length), RtW (rdos xs o k)[i] := fun i hi => by
  have : (rdos xs o k)[i] = rdo (xs.drop (o + 29 * i)) := by simp [rdos]
  rw [this]
  exact rdo_w hx _
theorem bo_ptr {c m h q : Int} {p p' s s' : Option Addr} {a a' d d' : Nat} {x y : List Or} (k : BoOk ⟨c, m, p, a, x, s, d, y, h, q⟩) : BoOk ⟨c, m, p', a', x, s', d', y, h, q⟩ := by
  cases k
  constructor <;> assumption
/-- bytes say a book that can be. -/
def Bkok (xs : List Nat) : Prop := BoOk ⟨nat' xs 8 2, nat' xs 10 1, none, 0, rdos xs 31 (nat' xs 27 2), none, 0, rdos xs (31 + 29 * nat' xs 27 2) (nat' xs 29 2), nat' xs 11 8, nat' xs 19 8⟩
theorem svalid (xs : List Nat) (E : Int) (hE : (Bkok xs ∧ E = 0) ∨ (¬ Bkok xs ∧ E = 120)) (hx : Oct xs) (nb ns cv mv hv sv G1 G2 : Nat) (w : World) (hnb : nat' xs 27 2 = nb) (hns : nat' xs 29 2 = ns) (h1 : nat' xs 8 2 = cv) (h2 : nat' xs 10 1 = mv) (h3 : nat' xs 11 8 = hv) (h4 : nat' xs 19 8 = sv) (k1 : Osz w (some ⟨G1, 0, none⟩) (rdos xs 31 nb)) (k2 : Osz w (some ⟨G2, 0, none⟩) (rdos xs (31 + 29 * nb) ns)) :
    Calls Tryd.prog 13 #[.agg #[.int .i64 cv, .int .i64 mv, .slice (some ⟨G1, 0, none⟩) nb nb, .slice (some ⟨G2, 0, none⟩) ns ns, .int .u64 hv, .int .u64 sv]] w fun e w' => e = .returned (.int .i64 E) ∧ Below w.heap.size w w' := by
  have LB := nat_lt hx 27 2
  have LS := nat_lt hx 29 2
  unfold Bkok at hE
  rw [hnb, hns, h1, h2, h3, h4] at hE
  have V := Sr.valid_any ⟨cv, mv, some ⟨G1, 0, none⟩, nb, rdos xs 31 nb, some ⟨G2, 0, none⟩, ns, rdos xs (31 + 29 * nb) ns, hv, sv⟩ E (hE.imp (fun h => ⟨bo_ptr h.1, h.2⟩) (fun h => ⟨fun c => h.1 (bo_ptr c), h.2⟩)) w (osz_rz k1) (osz_rz k2) (rdos_w hx _ _) (rdos_w hx _ _) (by simp only [rdos_len]; omega)
  unfold Sr.bor at V
  simp only [rdos_len] at V
  exact V
theorem dec_no (xs : List Nat) (b o n cap nb ns D : Nat) (w : World) (hx : Oct xs) (hB : Bs w b o xs) (hl : xs.length = n) (hn : 31 ≤ n) (hc : n < cap) (hcl : cap < 9223372036854775808) (h5 : ∃ cur fz, w.heap[b]? = some (.cells cur 5 fz)) (hnb : nat' xs 27 2 = nb) (hns : nat' xs 29 2 = ns) (hD : 31 + 29 * (nb + ns) = D) (CB : Hid (∀ U, Below w.heap.size w U → Calls Tryd.prog 23 #[.slice (some ⟨b, o, none⟩) n cap] U fun e w' => e = .returned (.tuple #[.int .i64 0, .int .i64 0]) ∧ Below U.heap.size U w')) (hn4 : n = D + 4) (CE : Hid (∀ U, Below w.heap.size w U → Calls Tryd.prog 25 #[.slice (some ⟨b, o, none⟩) n cap, .int .i64 D] U fun e w' => e = .returned (.tuple #[.int .i64 0, .int .i64 0]) ∧ Below U.heap.size U w')) (hno : ¬ Bkok xs) :
    Calls Tryd.prog 10 #[.slice (some ⟨b, o, none⟩) n cap] w fun e w' => e = .returned (.tuple #[.agg zb, .int .i64 0, .int .i64 120]) ∧ Below w.heap.size w w' := by
  have HNO := hid hno
  have HN4 := hid hn4
  clear hno hn4
  have HX := hid hx
  have HB := hid hB
  have HL := hid hl
  have HN := hid hn
  have HC := hid hc
  have HCL := hid hcl
  have H5 := hid h5
  have LB := hid (show nb < 65536 from by rw [← hnb]; exact nat_lt hx 27 2)
  have LS := hid (show ns < 65536 from by rw [← hns]; exact nat_lt hx 29 2)
  have HD := hid hD
  have HNB := hid hnb
  have HNS := hid hns
  have i0 : (8 : Int) ≤ (n : Int) := by omega
  have i1 : (8 : Int) ≤ (cap : Int) := by omega
  have i2 : ¬ cap = 8 := by omega
  have bw := row_lt h5.choose_spec.choose_spec
  have HBW := hid bw
  obtain ⟨n8, hn8⟩ : ∃ z, n - 8 = z := ⟨_, rfl⟩
  obtain ⟨c8, hc8⟩ : ∃ z, cap - 8 = z := ⟨_, rfl⟩
  have N8 := hid (show n8 + 8 = n from by omega)
  have C8 := hid (show c8 + 8 = cap from by omega)
  have HNc := hid (show 23 ≤ n8 from by omega)
  have wa : IntKind.i64.wrap ((nb : Int) + (ns : Int)) = (nb : Int) + (ns : Int) := by have := LB.out; have := LS.out; rw [IntKind.wrap_i64]; omega
  have wb : IntKind.i64.wrap (29 * ((nb : Int) + (ns : Int))) = 29 * ((nb : Int) + (ns : Int)) := by have := LB.out; have := LS.out; rw [IntKind.wrap_i64]; omega
  have wc : IntKind.i64.wrap (31 + 29 * ((nb : Int) + (ns : Int))) = (D : Int) := by have := LB.out; have := LS.out; rw [IntKind.wrap_i64]; omega
  obtain ⟨cv, hcv⟩ : ∃ z, nat' xs 8 2 = z := ⟨_, rfl⟩
  obtain ⟨mv, hmv⟩ : ∃ z, nat' xs 10 1 = z := ⟨_, rfl⟩
  obtain ⟨hv, hhv⟩ : ∃ z, nat' xs 11 8 = z := ⟨_, rfl⟩
  obtain ⟨sv, hsv⟩ : ∃ z, nat' xs 19 8 = z := ⟨_, rfl⟩
  have HCV := hid hcv
  have HMV := hid hmv
  have HHV := hid hhv
  have HSV := hid hsv
  clear hx hB hl hn hc hcl h5 hD hnb hns hcv hmv hhv hsv bw
  obtain ⟨W1, hW1⟩ : ∃ U, w.alloc (.cells #[.int .i64 0, .int .i64 0, .slice none 0 0, .slice none 0 0, .int .u64 0, .int .u64 0] 27) = U := ⟨_, rfl⟩
  obtain ⟨R1, hR1⟩ : ∃ R, w.heap.size = R := ⟨_, rfl⟩
  have HR1 := hid hR1
  have BA := hid (show Below w.heap.size w W1 from by rw [← hW1]; exact ball _ _)
  have Q0 := hid (show W1.heap[R1]? = some (.cells #[.int .i64 0, .int .i64 0, .slice none 0 0, .slice none 0 0, .int .u64 0, .int .u64 0] 27 (0, 0)) from by rw [← hW1, ← hR1]; exact World.alloc_heap_new _ _)
  go_enter Tryd.func10, Tryd.ntmps10
  go_upto_region 1 with fail
  (try rw [hW1, hR1])
  clear hW1 hR1
  go_upto_region 2 with (go_at_call 23; with_reducible refine (CB.out _ BA.out).mono ?_; rintro e V0 ⟨rfl, h1⟩; have B0 := hid h1; clear h1)
  have Q1 := hid (row_on Q0.out B0.out)
  have BV := hid (btr BA.out B0.out)
  go_upto_region 4 with fail
  go_upto_region 5 with fail
  (try rw [hn8, hc8])
  clear hn8 hc8 i0 i1 i2
  obtain ⟨W2, hW2⟩ : ∃ U, V0.alloc (.cells #[.slice (some ⟨b, o + 8, none⟩) n8 c8] 54) = U := ⟨_, rfl⟩
  obtain ⟨R2, hR2⟩ : ∃ R, V0.heap.size = R := ⟨_, rfl⟩
  have B2 := hid (show Below V0.heap.size V0 W2 from by rw [← hW2]; exact ball _ _)
  have RD := hid (show Rdr W2 R2 b (o + 8) n8 c8 (xs.drop 8) from by
    have bt := btr BV.out B2.out
    obtain ⟨cur, fz, h5⟩ := H5.out
    exact ⟨by rw [← hW2, ← hR2]; exact World.alloc_heap_new _ _, bs_same (bs_drop HB.out 8) ((bt.block b HBW.out)), by rw [List.length_drop, HL.out]; have := N8.out; omega, oct_drop HX.out 8, by have := HC.out; have := N8.out; have := C8.out; omega, by have := HCL.out; have := C8.out; omega, cur, fz, (bt.block b HBW.out).trans h5⟩)
  have Q2 := hid (row_on Q1.out B2.out)
  have BV2 := hid (btr BV.out B2.out)
  have NR := hid (show ¬ R1 = R2 ∧ ¬ b = R2 ∧ ¬ b = R1 from by have := row_lt Q1.out; have := BV.out.size; have := HBW.out; have := HR1.out; refine ⟨?_, ?_, ?_⟩ <;> omega)
  have SR2 := hid (show w.heap.size ≤ R2 from by have := BV.out.size; omega)
  (try rw [hW2, hR2])
  clear hW2 hR2 B2 Q1 B0 Q0 BA BV
  have CH := hid (rhead_any (n' := n8 - 23) W2 RD.out (by have := HNc.out; omega))
  rw [nat_drop, nat_drop, nat_drop, nat_drop, nat_drop, nat_drop, HCV.out, HMV.out, HHV.out, HSV.out, show nat' xs (8 + 19) 2 = nb from HNB.out, show nat' xs (8 + 21) 2 = ns from HNS.out, List.drop_drop] at CH
  go_upto_region 6 with (go_at_call 24; with_reducible refine CH.out.mono ?_; rintro e V1 ⟨rfl, h1, h2⟩; have RD1 := hid h1; have K1 := hid h2; clear h1 h2)
  obtain ⟨W3, hW3⟩ : ∃ U, V1.alloc (.cells #[.int .i64 ((cv : Nat) : Int), .int .i64 ((mv : Nat) : Int), .slice none 0 0, .slice none 0 0, .int .u64 ((hv : Nat) : Int), .int .u64 ((sv : Nat) : Int)] 27) = U := ⟨_, rfl⟩
  obtain ⟨R3, hR3⟩ : ∃ R, V1.heap.size = R := ⟨_, rfl⟩
  have B3 := hid (show Below V1.heap.size V1 W3 from by rw [← hW3]; exact ball _ _)
  have RD2 := hid (RD1.out.on B3.out)
  have Q3 := hid (show W3.heap[R3]? = some (.cells #[.int .i64 ((cv : Nat) : Int), .int .i64 ((mv : Nat) : Int), .slice none 0 0, .slice none 0 0, .int .u64 ((hv : Nat) : Int), .int .u64 ((sv : Nat) : Int)] 27 (0, 0)) from by rw [← hW3, ← hR3]; exact World.alloc_heap_new _ _)
  have Q4 := hid (row_on (K1.out.row Q2.out NR.out.1) B3.out)
  have BV1 := hid (BV2.out.trans (K1.out.below BV2.out.size (fun q hq e => by have := SR2.out; omega)))
  have BV3 := hid (BV1.out.trans (B3.out.mono BV1.out.size))
  have NR3 := hid (show ¬ R3 = R1 ∧ ¬ R3 = R2 ∧ ¬ R3 = b ∧ w.heap.size ≤ R3 from by have := row_lt (K1.out.row Q2.out NR.out.1); have := row_lt RD1.out.row; have := HBW.out; have := BV1.out.size; refine ⟨?_, ?_, ?_, ?_⟩ <;> omega)
  (try rw [hW3, hR3])
  clear hW3 hR3 B3 Q2 BV2 BV1 CH RD RD1 K1
  go_upto_region 7 with (go_at_call 25; with_reducible refine (CE.out _ BV3.out).mono ?_; rintro e V2 ⟨rfl, h1⟩; have B4 := hid h1; clear h1)
  have Q5 := hid (row_on Q4.out B4.out)
  have Q6 := hid (row_on Q3.out B4.out)
  have RD3 := hid (RD2.out.on B4.out)
  have BV := hid (BV3.out.trans (B4.out.mono BV3.out.size))
  clear Q3 Q4 RD2 BV3 B4 CE CB
  have CO := hid (rorders_any (n' := 29 * ns + 4) (k := nb) V2 RD3.out (by have := HN4.out; have := HD.out; have := N8.out; omega) (by have := LB.out; omega))
  rw [List.drop_drop] at CO
  go_upto_region 10 with (go_at_call 26; with_reducible refine CO.out.mono ?_; rintro e V3 ⟨G1, rfl, h1, h2, h3, h4⟩; have O1 := hid h1; have L1 := hid h2; have RD4 := hid h3; have K1 := hid h4; clear h1 h2 h3 h4; obtain ⟨y0, y1, y2, y3, y4, y5⟩ := row6 (K1.out.row Q6.out NR3.out.2.1); have z1 := row_frz (K1.out.row Q6.out NR3.out.2.1) 2)
  obtain ⟨U3, hU3⟩ : ∃ U, V3.setCell ⟨R3, 2, none⟩ (.slice (some ⟨G1, 0, none⟩) nb nb) = U := ⟨_, rfl⟩
  have S3 := hid (show Kp (fun b => b = R3) V3 U3 from by rw [← hU3]; exact Kp.set _ _ _ _)
  have Q7 := hid (show U3.heap[R3]? = some (.cells #[.int .i64 ((cv : Nat) : Int), .int .i64 ((mv : Nat) : Int), .slice (some ⟨G1, 0, none⟩) nb nb, .slice none 0 0, .int .u64 ((hv : Nat) : Int), .int .u64 ((sv : Nat) : Int)] 27 (0, 0)) from by rw [← hU3]; exact set_row _ (K1.out.row Q6.out NR3.out.2.1))
  have Q8 := hid (S3.out.row (K1.out.row Q5.out NR.out.1) (fun e => NR3.out.1 e.symm))
  have RD5 := hid (RD4.out.kp S3.out (fun e => NR3.out.2.1 e.symm) (fun e => NR3.out.2.2.1 e.symm))
  have G1R := hid (show ¬ G1 = R1 ∧ ¬ G1 = R2 ∧ ¬ G1 = R3 ∧ w.heap.size ≤ G1 from by have := row_lt Q5.out; have := row_lt Q6.out; have := row_lt RD3.out.row; have := L1.out; have := BV.out.size; refine ⟨?_, ?_, ?_, ?_⟩ <;> omega)
  have O2 := hid (O1.out.kp S3.out G1R.out.2.2.1)
  have BVa := hid (BV.out.trans (K1.out.below BV.out.size (fun q hq e => by have := SR2.out; omega)))
  have BV3 := hid (BVa.out.trans (S3.out.below BVa.out.size (fun q hq e => by have := NR3.out.2.2.2; omega)))
  (try rw [hU3])
  clear hU3 y0 y1 y2 y3 y4 y5 z1 CO Q5 Q6 RD3 RD4 O1 L1 K1 S3 BV BVa
  have CO := hid (rorders_any (n' := 4) (k := ns) U3 RD5.out (by omega) (by have := LS.out; omega))
  rw [List.drop_drop] at CO
  go_upto_region 11 with (go_at_call 26; with_reducible refine CO.out.mono ?_; rintro e V4 ⟨G2, rfl, h1, h2, h3, h4⟩; have O3 := hid h1; have L1 := hid h2; have K1 := hid h4; clear h1 h2 h3 h4; obtain ⟨y0, y1, y2, y3, y4, y5⟩ := row6 (K1.out.row Q7.out NR3.out.2.1); have z1 := row_frz (K1.out.row Q7.out NR3.out.2.1) 3)
  obtain ⟨U4, hU4⟩ : ∃ U, V4.setCell ⟨R3, 3, none⟩ (.slice (some ⟨G2, 0, none⟩) ns ns) = U := ⟨_, rfl⟩
  have S3 := hid (show Kp (fun b => b = R3) V4 U4 from by rw [← hU4]; exact Kp.set _ _ _ _)
  have Q9 := hid (show U4.heap[R3]? = some (.cells #[.int .i64 ((cv : Nat) : Int), .int .i64 ((mv : Nat) : Int), .slice (some ⟨G1, 0, none⟩) nb nb, .slice (some ⟨G2, 0, none⟩) ns ns, .int .u64 ((hv : Nat) : Int), .int .u64 ((sv : Nat) : Int)] 27 (0, 0)) from by rw [← hU4]; exact set_row _ (K1.out.row Q7.out NR3.out.2.1))
  have Q10 := hid (S3.out.row (K1.out.row Q8.out NR.out.1) (fun e => NR3.out.1 e.symm))
  have G2R := hid (show ¬ G2 = R1 ∧ ¬ G2 = R2 ∧ ¬ G2 = R3 ∧ w.heap.size ≤ G2 from by have := row_lt Q7.out; have := row_lt Q8.out; have := row_lt RD5.out.row; have := L1.out; have := BV3.out.size; refine ⟨?_, ?_, ?_, ?_⟩ <;> omega)
  have Z1 := hid (orw_osz (xs := xs) (o := 31) ((O2.out.kp K1.out G1R.out.2.1).kp S3.out G1R.out.2.2.1) (fun j => by rw [List.drop_drop]))
  have Z2 := hid (orw_osz (xs := xs) (o := 31 + 29 * nb) (O3.out.kp S3.out G2R.out.2.2.1) (fun j => by rw [List.drop_drop]))
  have BVa := hid (BV3.out.trans (K1.out.below BV3.out.size (fun q hq e => by have := SR2.out; omega)))
  have BV := hid (BVa.out.trans (S3.out.below BVa.out.size (fun q hq e => by have := NR3.out.2.2.2; omega)))
  (try rw [hU4])
  clear hU4 y0 y1 y2 y3 y4 y5 z1 CO Q7 Q8 RD5 O2 O3 L1 K1 S3 BVa BV3
  have CV := hid (svalid xs 120 (.inr ⟨HNO.out, rfl⟩) HX.out nb ns cv mv hv sv G1 G2 U4 HNB.out HNS.out HCV.out HMV.out HHV.out HSV.out Z1.out Z2.out)
  obtain ⟨y0, y1, y2, y3, y4, y5⟩ := row6 Q9.out
  go_upto_region 12 with (go_at_call 13; with_reducible refine CV.out.mono ?_; rintro e V5 ⟨rfl, h1⟩; have B5 := hid h1; clear h1)
  clear y0 y1 y2 y3 y4 y5
  obtain ⟨y0, y1, y2, y3, y4, y5⟩ := row6 (row_on Q9.out B5.out)
  have Q11 := hid (row_on Q10.out B5.out)
  have BV5 := hid (BV.out.trans (B5.out.mono BV.out.size))
  have Z1' := hid (Z1.out.on B5.out)
  have Z2' := hid (Z2.out.on B5.out)
  obtain ⟨x0, x1, x2, x3, x4, x5⟩ := row6 Q11.out
  have g0 := row_frz Q11.out 0
  have g1 := row_frz Q11.out 1
  have g2 := row_frz Q11.out 2
  have g3 := row_frz Q11.out 3
  have g4 := row_frz Q11.out 4
  have g5 := row_frz Q11.out 5
  obtain ⟨Y, hY⟩ : ∃ Y, (((((((V5).setCell ⟨R1, 0, none⟩ (.int .i64 0)).setCell ⟨R1, 1, none⟩ (.int .i64 0)).setCell ⟨R1, 2, none⟩ (.slice none 0 0)).setCell ⟨R1, 3, none⟩ (.slice none 0 0)).setCell ⟨R1, 4, none⟩ (.int .u64 0)).setCell ⟨R1, 5, none⟩ (.int .u64 0)) = Y := ⟨_, rfl⟩
  have KY := hid (show Kp (fun b => b = R1) (V5) Y from by rw [← hY]; exact chain6_kp _ _ _ _ _ _ _ _)
  have QY := hid (show Y.heap[R1]? = some (.cells #[.int .i64 0, .int .i64 0, .slice none 0 0, .slice none 0 0, .int .u64 0, .int .u64 0] 27 (0, 0)) from by rw [← hY]; exact chain6 _ _ _ _ _ _ Q11.out)
  go_wp2
  (try rw [hY])
  exact bodyPost_ret (res3 _ 2 3 4 Tryd.results10 _ _ R1 #[.int .i64 0, .int .i64 0, .slice none 0 0, .slice none 0 0, .int .u64 0, .int .u64 0] _ _ (by rfl) (by rfl) (by rfl) QY.out infoB) rfl ⟨rfl, (BV5.out.trans (KY.out.below BV5.out.size (fun q hq e => by have := HR1.out; omega)))⟩
theorem dec_yes (xs : List Nat) (b o n cap nb ns D : Nat) (w : World) (hx : Oct xs) (hB : Bs w b o xs) (hl : xs.length = n) (hn : 31 ≤ n) (hc : n < cap) (hcl : cap < 9223372036854775808) (h5 : ∃ cur fz, w.heap[b]? = some (.cells cur 5 fz)) (hnb : nat' xs 27 2 = nb) (hns : nat' xs 29 2 = ns) (hD : 31 + 29 * (nb + ns) = D) (CB : Hid (∀ U, Below w.heap.size w U → Calls Tryd.prog 23 #[.slice (some ⟨b, o, none⟩) n cap] U fun e w' => e = .returned (.tuple #[.int .i64 0, .int .i64 0]) ∧ Below U.heap.size U w')) (hn4 : n = D + 4) (CE : Hid (∀ U, Below w.heap.size w U → Calls Tryd.prog 25 #[.slice (some ⟨b, o, none⟩) n cap, .int .i64 D] U fun e w' => e = .returned (.tuple #[.int .i64 0, .int .i64 0]) ∧ Below U.heap.size U w')) (hyes : Bkok xs) :
    Calls Tryd.prog 10 #[.slice (some ⟨b, o, none⟩) n cap] w fun e w' => ∃ G1 G2, e = .returned (.tuple #[.agg #[.int .i64 (nat' xs 8 2 : Nat), .int .i64 (nat' xs 10 1 : Nat), .slice (some ⟨G1, 0, none⟩) nb nb, .slice (some ⟨G2, 0, none⟩) ns ns, .int .u64 (nat' xs 11 8 : Nat), .int .u64 (nat' xs 19 8 : Nat)], .int .i64 0, .int .i64 0]) ∧ Osz w' (some ⟨G1, 0, none⟩) (rdos xs 31 nb) ∧ Osz w' (some ⟨G2, 0, none⟩) (rdos xs (31 + 29 * nb) ns) ∧ w.heap.size ≤ G1 ∧ w.heap.size ≤ G2 ∧ Below w.heap.size w w' := by
  have HYES := hid hyes
  have HN4 := hid hn4
  clear hyes hn4
  have HX := hid hx
  have HB := hid hB
  have HL := hid hl
  have HN := hid hn
  have HC := hid hc
  have HCL := hid hcl
  have H5 := hid h5
  have LB := hid (show nb < 65536 from by rw [← hnb]; exact nat_lt hx 27 2)
  have LS := hid (show ns < 65536 from by rw [← hns]; exact nat_lt hx 29 2)
  have HD := hid hD
  have HNB := hid hnb
  have HNS := hid hns
  have i0 : (8 : Int) ≤ (n : Int) := by omega
  have i1 : (8 : Int) ≤ (cap : Int) := by omega
  have i2 : ¬ cap = 8 := by omega
  have bw := row_lt h5.choose_spec.choose_spec
  have HBW := hid bw
  obtain ⟨n8, hn8⟩ : ∃ z, n - 8 = z := ⟨_, rfl⟩
  obtain ⟨c8, hc8⟩ : ∃ z, cap - 8 = z := ⟨_, rfl⟩
  have N8 := hid (show n8 + 8 = n from by omega)
  have C8 := hid (show c8 + 8 = cap from by omega)
  have HNc := hid (show 23 ≤ n8 from by omega)
  have wa : IntKind.i64.wrap ((nb : Int) + (ns : Int)) = (nb : Int) + (ns : Int) := by have := LB.out; have := LS.out; rw [IntKind.wrap_i64]; omega
  have wb : IntKind.i64.wrap (29 * ((nb : Int) + (ns : Int))) = 29 * ((nb : Int) + (ns : Int)) := by have := LB.out; have := LS.out; rw [IntKind.wrap_i64]; omega
  have wc : IntKind.i64.wrap (31 + 29 * ((nb : Int) + (ns : Int))) = (D : Int) := by have := LB.out; have := LS.out; rw [IntKind.wrap_i64]; omega
  obtain ⟨cv, hcv⟩ : ∃ z, nat' xs 8 2 = z := ⟨_, rfl⟩
  obtain ⟨mv, hmv⟩ : ∃ z, nat' xs 10 1 = z := ⟨_, rfl⟩
  obtain ⟨hv, hhv⟩ : ∃ z, nat' xs 11 8 = z := ⟨_, rfl⟩
  obtain ⟨sv, hsv⟩ : ∃ z, nat' xs 19 8 = z := ⟨_, rfl⟩
  have HCV := hid hcv
  have HMV := hid hmv
  have HHV := hid hhv
  have HSV := hid hsv
  clear hx hB hl hn hc hcl h5 hD hnb hns hcv hmv hhv hsv bw
  obtain ⟨W1, hW1⟩ : ∃ U, w.alloc (.cells #[.int .i64 0, .int .i64 0, .slice none 0 0, .slice none 0 0, .int .u64 0, .int .u64 0] 27) = U := ⟨_, rfl⟩
  obtain ⟨R1, hR1⟩ : ∃ R, w.heap.size = R := ⟨_, rfl⟩
  have HR1 := hid hR1
  have BA := hid (show Below w.heap.size w W1 from by rw [← hW1]; exact ball _ _)
  have Q0 := hid (show W1.heap[R1]? = some (.cells #[.int .i64 0, .int .i64 0, .slice none 0 0, .slice none 0 0, .int .u64 0, .int .u64 0] 27 (0, 0)) from by rw [← hW1, ← hR1]; exact World.alloc_heap_new _ _)
  go_enter Tryd.func10, Tryd.ntmps10
  go_upto_region 1 with fail
  (try rw [hW1, hR1])
  clear hW1 hR1
  go_upto_region 2 with (go_at_call 23; with_reducible refine (CB.out _ BA.out).mono ?_; rintro e V0 ⟨rfl, h1⟩; have B0 := hid h1; clear h1)
  have Q1 := hid (row_on Q0.out B0.out)
  have BV := hid (btr BA.out B0.out)
  go_upto_region 4 with fail
  go_upto_region 5 with fail
  (try rw [hn8, hc8])
  clear hn8 hc8 i0 i1 i2
  obtain ⟨W2, hW2⟩ : ∃ U, V0.alloc (.cells #[.slice (some ⟨b, o + 8, none⟩) n8 c8] 54) = U := ⟨_, rfl⟩
  obtain ⟨R2, hR2⟩ : ∃ R, V0.heap.size = R := ⟨_, rfl⟩
  have B2 := hid (show Below V0.heap.size V0 W2 from by rw [← hW2]; exact ball _ _)
  have RD := hid (show Rdr W2 R2 b (o + 8) n8 c8 (xs.drop 8) from by
    have bt := btr BV.out B2.out
    obtain ⟨cur, fz, h5⟩ := H5.out
    exact ⟨by rw [← hW2, ← hR2]; exact World.alloc_heap_new _ _, bs_same (bs_drop HB.out 8) ((bt.block b HBW.out)), by rw [List.length_drop, HL.out]; have := N8.out; omega, oct_drop HX.out 8, by have := HC.out; have := N8.out; have := C8.out; omega, by have := HCL.out; have := C8.out; omega, cur, fz, (bt.block b HBW.out).trans h5⟩)
  have Q2 := hid (row_on Q1.out B2.out)
  have BV2 := hid (btr BV.out B2.out)
  have NR := hid (show ¬ R1 = R2 ∧ ¬ b = R2 ∧ ¬ b = R1 from by have := row_lt Q1.out; have := BV.out.size; have := HBW.out; have := HR1.out; refine ⟨?_, ?_, ?_⟩ <;> omega)
  have SR2 := hid (show w.heap.size ≤ R2 from by have := BV.out.size; omega)
  (try rw [hW2, hR2])
  clear hW2 hR2 B2 Q1 B0 Q0 BA BV
  have CH := hid (rhead_any (n' := n8 - 23) W2 RD.out (by have := HNc.out; omega))
  rw [nat_drop, nat_drop, nat_drop, nat_drop, nat_drop, nat_drop, HCV.out, HMV.out, HHV.out, HSV.out, show nat' xs (8 + 19) 2 = nb from HNB.out, show nat' xs (8 + 21) 2 = ns from HNS.out, List.drop_drop] at CH
  go_upto_region 6 with (go_at_call 24; with_reducible refine CH.out.mono ?_; rintro e V1 ⟨rfl, h1, h2⟩; have RD1 := hid h1; have K1 := hid h2; clear h1 h2)
  obtain ⟨W3, hW3⟩ : ∃ U, V1.alloc (.cells #[.int .i64 ((cv : Nat) : Int), .int .i64 ((mv : Nat) : Int), .slice none 0 0, .slice none 0 0, .int .u64 ((hv : Nat) : Int), .int .u64 ((sv : Nat) : Int)] 27) = U := ⟨_, rfl⟩
  obtain ⟨R3, hR3⟩ : ∃ R, V1.heap.size = R := ⟨_, rfl⟩
  have B3 := hid (show Below V1.heap.size V1 W3 from by rw [← hW3]; exact ball _ _)
  have RD2 := hid (RD1.out.on B3.out)
  have Q3 := hid (show W3.heap[R3]? = some (.cells #[.int .i64 ((cv : Nat) : Int), .int .i64 ((mv : Nat) : Int), .slice none 0 0, .slice none 0 0, .int .u64 ((hv : Nat) : Int), .int .u64 ((sv : Nat) : Int)] 27 (0, 0)) from by rw [← hW3, ← hR3]; exact World.alloc_heap_new _ _)
  have Q4 := hid (row_on (K1.out.row Q2.out NR.out.1) B3.out)
  have BV1 := hid (BV2.out.trans (K1.out.below BV2.out.size (fun q hq e => by have := SR2.out; omega)))
  have BV3 := hid (BV1.out.trans (B3.out.mono BV1.out.size))
  have NR3 := hid (show ¬ R3 = R1 ∧ ¬ R3 = R2 ∧ ¬ R3 = b ∧ w.heap.size ≤ R3 from by have := row_lt (K1.out.row Q2.out NR.out.1); have := row_lt RD1.out.row; have := HBW.out; have := BV1.out.size; refine ⟨?_, ?_, ?_, ?_⟩ <;> omega)
  (try rw [hW3, hR3])
  clear hW3 hR3 B3 Q2 BV2 BV1 CH RD RD1 K1
  go_upto_region 7 with (go_at_call 25; with_reducible refine (CE.out _ BV3.out).mono ?_; rintro e V2 ⟨rfl, h1⟩; have B4 := hid h1; clear h1)
  have Q5 := hid (row_on Q4.out B4.out)
  have Q6 := hid (row_on Q3.out B4.out)
  have RD3 := hid (RD2.out.on B4.out)
  have BV := hid (BV3.out.trans (B4.out.mono BV3.out.size))
  clear Q3 Q4 RD2 BV3 B4 CE CB
  have CO := hid (rorders_any (n' := 29 * ns + 4) (k := nb) V2 RD3.out (by have := HN4.out; have := HD.out; have := N8.out; omega) (by have := LB.out; omega))
  rw [List.drop_drop] at CO
  go_upto_region 10 with (go_at_call 26; with_reducible refine CO.out.mono ?_; rintro e V3 ⟨G1, rfl, h1, h2, h3, h4⟩; have O1 := hid h1; have L1 := hid h2; have RD4 := hid h3; have K1 := hid h4; clear h1 h2 h3 h4; obtain ⟨y0, y1, y2, y3, y4, y5⟩ := row6 (K1.out.row Q6.out NR3.out.2.1); have z1 := row_frz (K1.out.row Q6.out NR3.out.2.1) 2)
  obtain ⟨U3, hU3⟩ : ∃ U, V3.setCell ⟨R3, 2, none⟩ (.slice (some ⟨G1, 0, none⟩) nb nb) = U := ⟨_, rfl⟩
  have S3 := hid (show Kp (fun b => b = R3) V3 U3 from by rw [← hU3]; exact Kp.set _ _ _ _)
  have Q7 := hid (show U3.heap[R3]? = some (.cells #[.int .i64 ((cv : Nat) : Int), .int .i64 ((mv : Nat) : Int), .slice (some ⟨G1, 0, none⟩) nb nb, .slice none 0 0, .int .u64 ((hv : Nat) : Int), .int .u64 ((sv : Nat) : Int)] 27 (0, 0)) from by rw [← hU3]; exact set_row _ (K1.out.row Q6.out NR3.out.2.1))
  have Q8 := hid (S3.out.row (K1.out.row Q5.out NR.out.1) (fun e => NR3.out.1 e.symm))
  have RD5 := hid (RD4.out.kp S3.out (fun e => NR3.out.2.1 e.symm) (fun e => NR3.out.2.2.1 e.symm))
  have G1R := hid (show ¬ G1 = R1 ∧ ¬ G1 = R2 ∧ ¬ G1 = R3 ∧ w.heap.size ≤ G1 from by have := row_lt Q5.out; have := row_lt Q6.out; have := row_lt RD3.out.row; have := L1.out; have := BV.out.size; refine ⟨?_, ?_, ?_, ?_⟩ <;> omega)
  have O2 := hid (O1.out.kp S3.out G1R.out.2.2.1)
  have BVa := hid (BV.out.trans (K1.out.below BV.out.size (fun q hq e => by have := SR2.out; omega)))
  have BV3 := hid (BVa.out.trans (S3.out.below BVa.out.size (fun q hq e => by have := NR3.out.2.2.2; omega)))
  (try rw [hU3])
  clear hU3 y0 y1 y2 y3 y4 y5 z1 CO Q5 Q6 RD3 RD4 O1 L1 K1 S3 BV BVa
  have CO := hid (rorders_any (n' := 4) (k := ns) U3 RD5.out (by omega) (by have := LS.out; omega))
  rw [List.drop_drop] at CO
  go_upto_region 11 with (go_at_call 26; with_reducible refine CO.out.mono ?_; rintro e V4 ⟨G2, rfl, h1, h2, h3, h4⟩; have O3 := hid h1; have L1 := hid h2; have K1 := hid h4; clear h1 h2 h3 h4; obtain ⟨y0, y1, y2, y3, y4, y5⟩ := row6 (K1.out.row Q7.out NR3.out.2.1); have z1 := row_frz (K1.out.row Q7.out NR3.out.2.1) 3)
  obtain ⟨U4, hU4⟩ : ∃ U, V4.setCell ⟨R3, 3, none⟩ (.slice (some ⟨G2, 0, none⟩) ns ns) = U := ⟨_, rfl⟩
  have S3 := hid (show Kp (fun b => b = R3) V4 U4 from by rw [← hU4]; exact Kp.set _ _ _ _)
  have Q9 := hid (show U4.heap[R3]? = some (.cells #[.int .i64 ((cv : Nat) : Int), .int .i64 ((mv : Nat) : Int), .slice (some ⟨G1, 0, none⟩) nb nb, .slice (some ⟨G2, 0, none⟩) ns ns, .int .u64 ((hv : Nat) : Int), .int .u64 ((sv : Nat) : Int)] 27 (0, 0)) from by rw [← hU4]; exact set_row _ (K1.out.row Q7.out NR3.out.2.1))
  have Q10 := hid (S3.out.row (K1.out.row Q8.out NR.out.1) (fun e => NR3.out.1 e.symm))
  have G2R := hid (show ¬ G2 = R1 ∧ ¬ G2 = R2 ∧ ¬ G2 = R3 ∧ w.heap.size ≤ G2 from by have := row_lt Q7.out; have := row_lt Q8.out; have := row_lt RD5.out.row; have := L1.out; have := BV3.out.size; refine ⟨?_, ?_, ?_, ?_⟩ <;> omega)
  have Z1 := hid (orw_osz (xs := xs) (o := 31) ((O2.out.kp K1.out G1R.out.2.1).kp S3.out G1R.out.2.2.1) (fun j => by rw [List.drop_drop]))
  have Z2 := hid (orw_osz (xs := xs) (o := 31 + 29 * nb) (O3.out.kp S3.out G2R.out.2.2.1) (fun j => by rw [List.drop_drop]))
  have BVa := hid (BV3.out.trans (K1.out.below BV3.out.size (fun q hq e => by have := SR2.out; omega)))
  have BV := hid (BVa.out.trans (S3.out.below BVa.out.size (fun q hq e => by have := NR3.out.2.2.2; omega)))
  (try rw [hU4])
  clear hU4 y0 y1 y2 y3 y4 y5 z1 CO Q7 Q8 RD5 O2 O3 L1 K1 S3 BVa BV3
  have CV := hid (svalid xs 0 (.inl ⟨HYES.out, rfl⟩) HX.out nb ns cv mv hv sv G1 G2 U4 HNB.out HNS.out HCV.out HMV.out HHV.out HSV.out Z1.out Z2.out)
  obtain ⟨y0, y1, y2, y3, y4, y5⟩ := row6 Q9.out
  go_upto_region 12 with (go_at_call 13; with_reducible refine CV.out.mono ?_; rintro e V5 ⟨rfl, h1⟩; have B5 := hid h1; clear h1)
  clear y0 y1 y2 y3 y4 y5
  obtain ⟨y0, y1, y2, y3, y4, y5⟩ := row6 (row_on Q9.out B5.out)
  have Q11 := hid (row_on Q10.out B5.out)
  have BV5 := hid (BV.out.trans (B5.out.mono BV.out.size))
  have Z1' := hid (Z1.out.on B5.out)
  have Z2' := hid (Z2.out.on B5.out)
  obtain ⟨x0, x1, x2, x3, x4, x5⟩ := row6 Q11.out
  have g0 := row_frz Q11.out 0
  have g1 := row_frz Q11.out 1
  have g2 := row_frz Q11.out 2
  have g3 := row_frz Q11.out 3
  have g4 := row_frz Q11.out 4
  have g5 := row_frz Q11.out 5
  obtain ⟨Y, hY⟩ : ∃ Y, (((((((V5).setCell ⟨R1, 0, none⟩ (.int .i64 ((cv : Nat) : Int))).setCell ⟨R1, 1, none⟩ (.int .i64 ((mv : Nat) : Int))).setCell ⟨R1, 2, none⟩ (.slice (some ⟨G1, 0, none⟩) nb nb)).setCell ⟨R1, 3, none⟩ (.slice (some ⟨G2, 0, none⟩) ns ns)).setCell ⟨R1, 4, none⟩ (.int .u64 ((hv : Nat) : Int))).setCell ⟨R1, 5, none⟩ (.int .u64 ((sv : Nat) : Int))) = Y := ⟨_, rfl⟩
  have KY := hid (show Kp (fun b => b = R1) (V5) Y from by rw [← hY]; exact chain6_kp _ _ _ _ _ _ _ _)
  have QY := hid (show Y.heap[R1]? = some (.cells #[.int .i64 ((cv : Nat) : Int), .int .i64 ((mv : Nat) : Int), .slice (some ⟨G1, 0, none⟩) nb nb, .slice (some ⟨G2, 0, none⟩) ns ns, .int .u64 ((hv : Nat) : Int), .int .u64 ((sv : Nat) : Int)] 27 (0, 0)) from by rw [← hY]; exact chain6 _ _ _ _ _ _ Q11.out)
  go_wp2
  (try rw [hY])
  exact bodyPost_ret (res3 _ 2 3 4 Tryd.results10 _ _ R1 #[.int .i64 ((cv : Nat) : Int), .int .i64 ((mv : Nat) : Int), .slice (some ⟨G1, 0, none⟩) nb nb, .slice (some ⟨G2, 0, none⟩) ns ns, .int .u64 ((hv : Nat) : Int), .int .u64 ((sv : Nat) : Int)] _ _ (by rfl) (by rfl) (by rfl) QY.out infoB) rfl ⟨G1, G2, by rw [HCV.out, HMV.out, HHV.out, HSV.out]; rfl, osz_kp Z1'.out KY.out G1R.out.1, osz_kp Z2'.out KY.out G2R.out.1, G1R.out.2.2.2, G2R.out.2.2.2, (BV5.out.trans (KY.out.below BV5.out.size (fun q hq e => by have := HR1.out; omega)))⟩
end Go.Proofs.YtjpkodllemoniaaDoor.Wi
