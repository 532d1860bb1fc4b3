/-
  SnapshotDecodes is walked.
-/
import Derived.Test.YtjpkodllemoniaaDoorXg
import Derived.Test.YtjpkodllemoniaaDoorWiL
namespace Go.Proofs.YtjpkodllemoniaaDoor.Wi
open Go.RowKit Go.Deep Go.Proofs.YtjpkodllemoniaaDoor.Crc
open Go.Proofs.YtjpkodllemoniaaDoor.Cp (btr ball row_on row_cell row_lt row_ne row6 Kp Or Osz orow ors ors_len own_on)
set_option linter.unusedVariables false
set_option linter.unusedSimpArgs false
set_option maxHeartbeats 8000000
set_option maxRecDepth 100000
attribute [local go_sem ↓] Go.wp_at_zero Go.wp_at_succ
theorem sx_form {U : World} {v : Value} {xs : List Nat} (h : Sx U v xs) : ∃ p c, v = .slice p xs.length c := by
  rcases h with ⟨rfl, rfl⟩ | ⟨rfl, ad, cap, rfl⟩ | ⟨b, o, cap, rfl, _⟩
  · exact ⟨none, 0, rfl⟩
  · exact ⟨some ad, cap, rfl⟩
  · exact ⟨_, _, rfl⟩
theorem mine_inb {w0 w : World} {g cap : Nat} {xs : List Nat} (h : Mine w0 w g cap (xs.length + 5) (xs ++ [1, 2, 3, 4, 5])) (hL : Laid w) : InB w g cap xs ∧ w0.heap.size ≤ g ∧ g < w.heap.size := by
  have hb : Bs w g 0 xs := fun i hi => by
    have := h.cells (g := g) rfl i (.int .u8 ((xs[i] : Nat) : Int)) (by rw [bv_get _ i (by simp; omega)]; simp [List.getElem_append_left hi])
    rw [Addr.add_mid] at this
    exact this
  rcases h.2 with ⟨h, _⟩ | ⟨g', cap', cur, h, hbg, hg, hnc, hcm, hcs, _⟩
  · simp at h
  simp only [Value.slice.injEq, Option.some.injEq, Addr.mk.injEq, and_true, true_and] at h
  obtain ⟨rfl, rfl⟩ := h
  unfold maxLen at hcm
  exact ⟨⟨hb, by omega, by omega, ⟨_, _, hg⟩, hL⟩, hbg, row_lt hg⟩
theorem zeros_same (w : World) : Calls Tryd.prog 8 #[.agg #[.int .i64 0, .int .i64 0, .slice none 0 0, .slice none 0 0, .int .u64 0, .int .u64 0], .agg #[.int .i64 0, .int .i64 0, .slice none 0 0, .slice none 0 0, .int .u64 0, .int .u64 0]] w fun e w' => e = .returned (.bool true) ∧ Below w.heap.size w w' :=
  Cp.books_same 0 0 0 0 [] [] none none none none 0 0 0 0 w (fun i hi => by simp at hi) (fun i hi => by simp at hi) (fun i hi => by simp at hi) (fun i hi => by simp at hi) (by simp) (by simp)
theorem walk_no (p : Option Addr) (c : Nat) (xs : List Nat) (w : World) (hn : xs.length ≤ 140737488351232) (hx : Oct xs) (hS : Sx w (.slice p xs.length c) xs) (hC : Nc (.slice p xs.length c)) (hL : Laid w) (A E : Int) (h : Bad xs A E) :
    Calls Tryd.prog 4 #[.slice p xs.length c] w fun e w' => e = .returned (.bool true) ∧ Below w.heap.size w w' := by
  obtain ⟨hp, hr⟩ := h
  unfold zb at hp hr
  have eE : (E == E) = true := by simp
  have eA : (A == A) = true := by simp
  have HA := hid (hand_any _ xs w hn hS)
  have DP := hid (fun (U : World) (g cap : Nat) (hM : Mine w U g cap (xs.length + 5) (xs ++ [1, 2, 3, 4, 5])) (hU : Below w.heap.size w U) => hp U g cap (mine_inb hM (hL.on hU)).1)
  have DR := hid (fun (U : World) (hU : Below w.heap.size w U) => hr U _ (hS.to hU) hC)
  have LF := hid (fun (U : World) (g cap : Nat) (hM : Mine w U g cap (xs.length + 5) (xs ++ [1, 2, 3, 4, 5])) (hU : Below w.heap.size w U) => left_any g cap _ xs w U hn hM (hS.to hU))
  have MB := hid (fun (U : World) (g cap : Nat) (hM : Mine w U g cap (xs.length + 5) (xs ++ [1, 2, 3, 4, 5])) (hU : Below w.heap.size w U) => mine_inb hM (hL.on hU))
  have HN := hid hn
  clear hp hr hS hC hL hx hn
  obtain ⟨n, hl⟩ : ∃ n, xs.length = n := ⟨_, rfl⟩
  rw [hl] at HA DP DR LF MB HN ⊢
  have HL := hid hl
  clear hl
  have i0 : (0 : Int) ≤ (n : Int) := by omega
  go_enter Tryd.func4, Tryd.ntmps4
  go_upto_region 2 with (go_at_call 9; with_reducible refine HA.out.mono ?_; rintro e w1 ⟨g, cap, rfl, h1, h2⟩; have M1 := hid h1; have B1 := hid h2; clear h1 h2)
  have IB := hid (MB.out w1 g cap M1.out B1.out)
  have i1 : (n : Int) ≤ (cap : Int) := by have := IB.out.1.room; have := HL.out; omega
  have CP := hid (DP.out w1 g cap M1.out B1.out)
  go_upto_region 3 with (go_at_call 10; with_reducible refine CP.out.mono ?_; rintro e w2 ⟨rfl, h5⟩; have B2 := hid h5; clear h5)
  obtain ⟨W2, hW2⟩ : ∃ U, w2.alloc (.cells #[.int .i64 0, .int .i64 0, .slice none 0 0, .slice none 0 0, .int .u64 0, .int .u64 0] 27) = U := ⟨_, rfl⟩
  obtain ⟨R1, hR1⟩ : ∃ R, w2.heap.size = R := ⟨_, rfl⟩
  have BW2 := hid (show Below w2.heap.size w2 W2 from by rw [← hW2]; exact ball _ _)
  have Q1 := hid (show W2.heap[R1]? = some (.cells #[.int .i64 0, .int .i64 0, .slice none 0 0, .slice none 0 0, .int .u64 0, .int .u64 0] 27 (0, 0)) from by rw [← hW2, ← hR1]; exact World.alloc_heap_new _ _)
  have M2 := hid (show Mine w W2 g cap (n + 5) (xs ++ [1, 2, 3, 4, 5]) from own_on (own_on M1.out B2.out) BW2.out)
  have BV2 := hid (btr B1.out (btr B2.out BW2.out))
  have GR1 := hid (show ¬ R1 = g ∧ w.heap.size ≤ R1 from by have := IB.out.2.2; have := B2.out.size; have := B1.out.size; refine ⟨?_, ?_⟩ <;> omega)
  (try rw [hW2, hR1])
  clear hW2 hR1 i1 CP
  have CR := hid (DR.out W2 BV2.out)
  go_upto_region 4 with (go_at_call 11; with_reducible refine CR.out.mono ?_; rintro e w3 ⟨rfl, h5⟩; have B3 := hid h5; clear h5)
  obtain ⟨W3, hW3⟩ : ∃ U, w3.alloc (.cells #[.int .i64 0, .int .i64 0, .slice none 0 0, .slice none 0 0, .int .u64 0, .int .u64 0] 27) = U := ⟨_, rfl⟩
  obtain ⟨R2, hR2⟩ : ∃ R, w3.heap.size = R := ⟨_, rfl⟩
  have BW3 := hid (show Below w3.heap.size w3 W3 from by rw [← hW3]; exact ball _ _)
  have Q2 := hid (show W3.heap[R2]? = some (.cells #[.int .i64 0, .int .i64 0, .slice none 0 0, .slice none 0 0, .int .u64 0, .int .u64 0] 27 (0, 0)) from by rw [← hW3, ← hR2]; exact World.alloc_heap_new _ _)
  have BX := hid (btr B3.out BW3.out)
  have M3 := hid (show Mine w W3 g cap (n + 5) (xs ++ [1, 2, 3, 4, 5]) from own_on M2.out BX.out)
  have BV3 := hid (btr BV2.out BX.out)
  have Q3 := hid (row_on Q1.out BX.out)
  have GR2 := hid (show ¬ R2 = g from by have := row_lt Q1.out; have := B3.out.size; have := IB.out.2.2; have := B2.out.size; have := BW2.out.size; omega)
  have GG := hid (show w.heap.size ≤ g from IB.out.2.1)
  (try rw [hW3, hR2])
  clear hW3 hR2 CR
  have CL := hid (LF.out W3 g cap M3.out BV3.out)
  clear LF MB DR DP HA M1 M2 B1 B2 BW2 BV2 B3 BW3 BX M3 Q1 IB
  go_wp2_with (first
    | (go_at_call 12; with_reducible refine CL.out.mono ?_; rintro e w4 ⟨rfl, h1⟩; have K4 := hid h1; clear h1; obtain ⟨y0, y1, y2, y3, y4, y5⟩ := row6 (K4.out.row Q3.out GR1.out.1); obtain ⟨z0, z1, z2, z3, z4, z5⟩ := row6 (K4.out.row Q2.out GR2.out))
    | (go_at_call 8; with_reducible refine (zeros_same _).mono ?_; rintro e w5 ⟨rfl, h1⟩; have B5 := hid h1; clear h1))
  go_ret
  exact ⟨rfl, (BV3.out.trans (K4.out.below BV3.out.size (fun q hq e => by have := GG.out; omega))).trans (B5.out.mono (Nat.le_trans BV3.out.size K4.out.size))⟩
theorem own_osz2 {base m : Nat} {w : World} {p : Option Addr} {c : Nat} {os : List Or} (hm : os.length = m) (h : w.ownsRow base 46 7 (.slice p m c) m (ors os)) : Osz w p os := by
  subst hm
  exact (Cp.own_osz h).1
theorem walk_yes (p : Option Addr) (c : Nat) (xs : List Nat) (w : World) (hn : xs.length ≤ 140737488351232) (hx : Oct xs) (hS : Sx w (.slice p xs.length c) xs) (hC : Nc (.slice p xs.length c)) (hL : Laid w) (h : Good xs) :
    Calls Tryd.prog 4 #[.slice p xs.length c] w fun e w' => e = .returned (.bool true) ∧ Below w.heap.size w w' := by
  obtain ⟨cv, mv, hv, sv, nb, ns, x, y, lx, ly, lb, ls, hp, hr⟩ := h
  have LX := hid lx
  have LY := hid ly
  have LB := hid lb
  have LS := hid ls
  clear lx ly lb ls
  have HA := hid (hand_any _ xs w hn hS)
  have DP := hid (fun (U : World) (g cap : Nat) (hM : Mine w U g cap (xs.length + 5) (xs ++ [1, 2, 3, 4, 5])) (hU : Below w.heap.size w U) => hp U g cap (mine_inb hM (hL.on hU)).1)
  have DR := hid (fun (U : World) (hU : Below w.heap.size w U) => hr U _ (hS.to hU) hC)
  have LF := hid (fun (U : World) (g cap : Nat) (hM : Mine w U g cap (xs.length + 5) (xs ++ [1, 2, 3, 4, 5])) (hU : Below w.heap.size w U) => left_any g cap _ xs w U hn hM (hS.to hU))
  have MB := hid (fun (U : World) (g cap : Nat) (hM : Mine w U g cap (xs.length + 5) (xs ++ [1, 2, 3, 4, 5])) (hU : Below w.heap.size w U) => mine_inb hM (hL.on hU))
  have HN := hid hn
  clear hp hr hS hC hL hx hn
  obtain ⟨n, hl⟩ : ∃ n, xs.length = n := ⟨_, rfl⟩
  rw [hl] at HA DP DR LF MB HN ⊢
  have HL := hid hl
  clear hl
  have i0 : (0 : Int) ≤ (n : Int) := by omega
  go_enter Tryd.func4, Tryd.ntmps4
  go_upto_region 2 with (go_at_call 9; with_reducible refine HA.out.mono ?_; rintro e w1 ⟨g, cap, rfl, h1, h2⟩; have M1 := hid h1; have B1 := hid h2; clear h1 h2)
  have IB := hid (MB.out w1 g cap M1.out B1.out)
  have i1 : (n : Int) ≤ (cap : Int) := by have := IB.out.1.room; have := HL.out; omega
  have CP := hid (DP.out w1 g cap M1.out B1.out)
  go_upto_region 3 with (go_at_call 10; with_reducible refine CP.out.mono ?_; rintro e w2 ⟨G1, G2, rfl, h1, h2, h3, h4, h5⟩; have Z1 := hid h1; have Z2 := hid h2; have L1 := hid h3; have L2 := hid h4; have B2 := hid h5; clear h1 h2 h3 h4 h5)
  obtain ⟨W2, hW2⟩ : ∃ U, w2.alloc (.cells #[.int .i64 ((cv : Nat) : Int), .int .i64 ((mv : Nat) : Int), .slice (some ⟨G1, 0, none⟩) nb nb, .slice (some ⟨G2, 0, none⟩) ns ns, .int .u64 ((hv : Nat) : Int), .int .u64 ((sv : Nat) : Int)] 27) = U := ⟨_, rfl⟩
  obtain ⟨R1, hR1⟩ : ∃ R, w2.heap.size = R := ⟨_, rfl⟩
  have BW2 := hid (show Below w2.heap.size w2 W2 from by rw [← hW2]; exact ball _ _)
  have Q1 := hid (show W2.heap[R1]? = some (.cells #[.int .i64 ((cv : Nat) : Int), .int .i64 ((mv : Nat) : Int), .slice (some ⟨G1, 0, none⟩) nb nb, .slice (some ⟨G2, 0, none⟩) ns ns, .int .u64 ((hv : Nat) : Int), .int .u64 ((sv : Nat) : Int)] 27 (0, 0)) from by rw [← hW2, ← hR1]; exact World.alloc_heap_new _ _)
  have M2 := hid (show Mine w W2 g cap (n + 5) (xs ++ [1, 2, 3, 4, 5]) from own_on (own_on M1.out B2.out) BW2.out)
  have BV2 := hid (btr B1.out (btr B2.out BW2.out))
  have GR1 := hid (show ¬ R1 = g ∧ w.heap.size ≤ R1 from by have := IB.out.2.2; have := B2.out.size; have := B1.out.size; refine ⟨?_, ?_⟩ <;> omega)
  have GN := hid (show ¬ G1 = g ∧ ¬ G2 = g from by have := IB.out.2.2; have := L1.out; have := L2.out; refine ⟨?_, ?_⟩ <;> omega)
  have Z1a := hid (Z1.out.on BW2.out)
  have Z2a := hid (Z2.out.on BW2.out)
  clear Z1 Z2 L1 L2
  (try rw [hW2, hR1])
  clear hW2 hR1 i1 CP
  have CR := hid (DR.out W2 BV2.out)
  go_upto_region 4 with (go_at_call 11; with_reducible refine CR.out.mono ?_; rintro e w3 ⟨p1, c1, p2, c2, rfl, h1, h2, h5⟩; have O1 := hid h1; have O2 := hid h2; have B3 := hid h5; clear h1 h2 h5)
  obtain ⟨W3, hW3⟩ : ∃ U, w3.alloc (.cells #[.int .i64 ((cv : Nat) : Int), .int .i64 ((mv : Nat) : Int), .slice p1 nb c1, .slice p2 ns c2, .int .u64 ((hv : Nat) : Int), .int .u64 ((sv : Nat) : Int)] 27) = U := ⟨_, rfl⟩
  obtain ⟨R2, hR2⟩ : ∃ R, w3.heap.size = R := ⟨_, rfl⟩
  have BW3 := hid (show Below w3.heap.size w3 W3 from by rw [← hW3]; exact ball _ _)
  have Q2 := hid (show W3.heap[R2]? = some (.cells #[.int .i64 ((cv : Nat) : Int), .int .i64 ((mv : Nat) : Int), .slice p1 nb c1, .slice p2 ns c2, .int .u64 ((hv : Nat) : Int), .int .u64 ((sv : Nat) : Int)] 27 (0, 0)) from by rw [← hW3, ← hR2]; exact World.alloc_heap_new _ _)
  have BX := hid (btr B3.out BW3.out)
  have M3 := hid (show Mine w W3 g cap (n + 5) (xs ++ [1, 2, 3, 4, 5]) from own_on M2.out BX.out)
  have BV3 := hid (btr BV2.out BX.out)
  have Q3 := hid (row_on Q1.out BX.out)
  have GR2 := hid (show ¬ R2 = g from by have := row_lt Q1.out; have := B3.out.size; have := IB.out.2.2; have := B2.out.size; have := BW2.out.size; omega)
  have GG := hid (show w.heap.size ≤ g from IB.out.2.1)
  have GW := hid (show g < W2.heap.size from by have := IB.out.2.2; have := B2.out.size; have := BW2.out.size; omega)
  have Z1 := hid (Z1a.out.on BX.out)
  have Z2 := hid (Z2a.out.on BX.out)
  have O3 := hid (own_on O1.out BW3.out)
  have O4 := hid (own_on O2.out BW3.out)
  clear Z1a Z2a O1 O2
  have CS := hid (fun (U : World) (k : Kp (fun j => j = g) W3 U) => show Calls Tryd.prog 8 #[.agg #[.int .i64 ((cv : Nat) : Int), .int .i64 ((mv : Nat) : Int), .slice (some ⟨G1, 0, none⟩) nb nb, .slice (some ⟨G2, 0, none⟩) ns ns, .int .u64 ((hv : Nat) : Int), .int .u64 ((sv : Nat) : Int)], .agg #[.int .i64 ((cv : Nat) : Int), .int .i64 ((mv : Nat) : Int), .slice p1 nb c1, .slice p2 ns c2, .int .u64 ((hv : Nat) : Int), .int .u64 ((sv : Nat) : Int)]] U fun e w' => e = .returned (.bool true) ∧ Below U.heap.size U w' from by
    have o3 := own_kp O3.out k (fun j hj e => by have := (O3.out.lt j hj).1; have := GW.out; omega)
    have o4 := own_kp O4.out k (fun j hj e => by have := (O4.out.lt j hj).1; have := GW.out; omega)
    have a := Cp.books_same cv mv hv sv x y (some ⟨G1, 0, none⟩) (some ⟨G2, 0, none⟩) p1 p2 nb ns c1 c2 U (osz_kp Z1.out k GN.out.1) (osz_kp Z2.out k GN.out.2) (own_osz2 LX.out o3) (own_osz2 LY.out o4) (by have := LX.out; have := LB.out; omega) (by have := LY.out; have := LS.out; omega)
    rw [LX.out, LY.out] at a
    exact a)
  (try rw [hW3, hR2])
  clear hW3 hR2 CR
  have CL := hid (LF.out W3 g cap M3.out BV3.out)
  clear LF MB DR DP HA M1 M2 B1 B2 BW2 BV2 B3 BW3 BX M3 Q1 IB
  go_wp2_with (first
    | (go_at_call 12; with_reducible refine CL.out.mono ?_; rintro e w4 ⟨rfl, h1⟩; have K4 := hid h1; clear h1; obtain ⟨y0, y1, y2, y3, y4, y5⟩ := row6 (K4.out.row Q3.out GR1.out.1); obtain ⟨z0, z1, z2, z3, z4, z5⟩ := row6 (K4.out.row Q2.out GR2.out))
    | (go_at_call 8; with_reducible refine (CS.out _ K4.out).mono ?_; rintro e w5 ⟨rfl, h1⟩; have B5 := hid h1; clear h1))
  go_ret
  exact ⟨rfl, (BV3.out.trans (K4.out.below BV3.out.size (fun q hq e => by have := GG.out; omega))).trans (B5.out.mono (Nat.le_trans BV3.out.size K4.out.size))⟩
theorem decodes_walk (v : Value) (xs : List Nat) (w : World) (hn : xs.length ≤ 140737488351232) (hx : Oct xs) (hS : Sx w v xs) (hC : Nc v) (hL : Laid w) :
    Calls Tryd.prog 4 #[v] w fun e w' => e = .returned (.bool true) ∧ Below w.heap.size w w' := by
  obtain ⟨p, c, rfl⟩ := sx_form hS
  rcases both xs hx hn with ⟨A, E, h⟩ | h
  · exact walk_no p c xs w hn hx hS hC hL A E h
  · exact walk_yes p c xs w hn hx hS hC hL h
end Go.Proofs.YtjpkodllemoniaaDoor.Wi
