/-
  Valid of any book.
-/
import Derived.Test.YtjpkodllemoniaaDoorRcE0
import Derived.Test.YtjpkodllemoniaaDoorStO
namespace Go.Proofs.YtjpkodllemoniaaDoor.Sr
open Go.RowKit Go.Deep
set_option linter.unusedVariables false
set_option linter.unusedSimpArgs false
set_option maxHeartbeats 8000000
set_option maxRecDepth 100000
theorem valid_any (x : Bo) (E : Int) (hE : (BoOk x ∧ E = 0) ∨ (¬ BoOk x ∧ E = 120)) (w : World) (hb : Rz w x.pb x.b) (hs : Rz w x.ps x.s) (hw1 : ∀ i (hi : i < x.b.length), RtW x.b[i]) (hw2 : ∀ i (hi : i < x.s.length), RtW x.s[i]) (hbig : x.b.length ≤ 4000000000000 ∧ x.s.length ≤ 4000000000000) :
    Calls Tryd.prog 13 #[.agg (bor x)] w fun e w' => e = .returned (.int .i64 E) ∧ Below w.heap.size w w' := by
  have no : ¬ BoOk x → E = 120 := fun c => by
    rcases hE with h | h
    · exact absurd h.1 c
    · exact h.2
  have HNO := hid no
  obtain ⟨k0, hk0⟩ : ∃ b, decide ((1 ≤ x.cap ∧ x.cap ≤ 4096) ∧ 0 ≤ x.meet ∧ x.meet ≤ 3) = b := ⟨_, rfl⟩
  have CC := hid (fun U => cfg_any x.cap x.meet k0 (by rw [← hk0]; exact decide_eq_true_iff) U)
  have L0 := hid (show k0 = false → E = 120 from fun e => no (fun ok => by rw [e] at hk0; exact absurd ok.cfg (of_decide_eq_false hk0)))
  by_cases hfew : x.cap < (x.b.length : Int) + (x.s.length : Int)
  · have hEE := no (fun ok => by have := ok.few; omega)
    subst hEE
    clear no HNO hE hk0 L0 hw1 hw2
    obtain ⟨cap, meet, pb, cb, b, ps, cs, s, high, seq⟩ := x
    unfold bor at *
    simp only at *
    obtain ⟨n, hn1⟩ : ∃ n, b.length = n := ⟨_, rfl⟩
    obtain ⟨m, hm1⟩ : ∃ n, s.length = n := ⟨_, rfl⟩
    rw [hn1, hm1] at hfew hbig ⊢
    obtain ⟨W, hW⟩ : ∃ W, w.alloc (.cells #[.int .i64 cap, .int .i64 meet, .slice pb n cb, .slice ps m cs, .int .u64 high, .int .u64 seq] 27) = W := ⟨_, rfl⟩
    have HB := hid (show Below w.heap.size w W from by rw [← hW]; exact ball _ _)
    have hh : W.heap[w.heap.size]? = some (.cells #[.int .i64 cap, .int .i64 meet, .slice pb n cb, .slice ps m cs, .int .u64 high, .int .u64 seq] 27 (0, 0)) := by rw [← hW]; exact World.alloc_heap_new _ _
    have HH := hid (fun (U : World) (hU : Below W.heap.size W U) => show U.cell? ⟨w.heap.size, 0, none⟩ = some (.int .i64 cap) ∧ U.cell? ⟨w.heap.size, 1, none⟩ = some (.int .i64 meet) ∧ U.cell? ⟨w.heap.size, 2, none⟩ = some (.slice pb n cb) ∧ U.cell? ⟨w.heap.size, 3, none⟩ = some (.slice ps m cs) ∧ U.cell? ⟨w.heap.size, 4, none⟩ = some (.int .u64 high) ∧ U.cell? ⟨w.heap.size, 5, none⟩ = some (.int .u64 seq) from by
      have hr : U.heap[w.heap.size]? = _ := (hU.block _ (row_lt hh)).trans hh
      exact ⟨row_cell hr 0, row_cell hr 1, row_cell hr 2, row_cell hr 3, row_cell hr 4, row_cell hr 5⟩)
    have ws : IntKind.i64.wrap ((n : Int) + (m : Int)) = (n : Int) + (m : Int) := by rw [IntKind.wrap_i64]; omega
    obtain ⟨c0, c1, c2, c3, c4, c5⟩ := HH.out W (Below.refl _ _)
    clear hh hn1 hm1 hb hs
    go_enter Tryd.func13, Tryd.ntmps13
    go_upto_region 1 with fail
    clear hW
    cases k0 with
    | false =>
      go_wp2_with (go_at_call 29; with_reducible refine (CC.out _).mono ?_; rintro e w1 ⟨rfl, h1⟩; obtain ⟨d0, d1, d2, d3, d4, d5⟩ := HH.out _ h1; have H1 := hid h1; clear h1)
      go_ret
      exact ⟨rfl, btr HB.out H1.out⟩
    | true =>
      go_wp2_with (go_at_call 29; with_reducible refine (CC.out _).mono ?_; rintro e w1 ⟨rfl, h1⟩; obtain ⟨d0, d1, d2, d3, d4, d5⟩ := HH.out _ h1; have H1 := hid h1; clear h1)
      go_ret
      exact ⟨rfl, btr HB.out H1.out⟩
  cases k0 with
  | false =>
    have hEE := L0.out rfl
    subst hEE
    clear no HNO hE hk0 L0 hw1 hw2
    obtain ⟨cap, meet, pb, cb, b, ps, cs, s, high, seq⟩ := x
    unfold bor at *
    simp only at *
    obtain ⟨n, hn1⟩ : ∃ n, b.length = n := ⟨_, rfl⟩
    obtain ⟨m, hm1⟩ : ∃ n, s.length = n := ⟨_, rfl⟩
    rw [hn1, hm1] at hfew hbig ⊢
    obtain ⟨W, hW⟩ : ∃ W, w.alloc (.cells #[.int .i64 cap, .int .i64 meet, .slice pb n cb, .slice ps m cs, .int .u64 high, .int .u64 seq] 27) = W := ⟨_, rfl⟩
    have HB := hid (show Below w.heap.size w W from by rw [← hW]; exact ball _ _)
    have hh : W.heap[w.heap.size]? = some (.cells #[.int .i64 cap, .int .i64 meet, .slice pb n cb, .slice ps m cs, .int .u64 high, .int .u64 seq] 27 (0, 0)) := by rw [← hW]; exact World.alloc_heap_new _ _
    have HH := hid (fun (U : World) (hU : Below W.heap.size W U) => show U.cell? ⟨w.heap.size, 0, none⟩ = some (.int .i64 cap) ∧ U.cell? ⟨w.heap.size, 1, none⟩ = some (.int .i64 meet) ∧ U.cell? ⟨w.heap.size, 2, none⟩ = some (.slice pb n cb) ∧ U.cell? ⟨w.heap.size, 3, none⟩ = some (.slice ps m cs) ∧ U.cell? ⟨w.heap.size, 4, none⟩ = some (.int .u64 high) ∧ U.cell? ⟨w.heap.size, 5, none⟩ = some (.int .u64 seq) from by
      have hr : U.heap[w.heap.size]? = _ := (hU.block _ (row_lt hh)).trans hh
      exact ⟨row_cell hr 0, row_cell hr 1, row_cell hr 2, row_cell hr 3, row_cell hr 4, row_cell hr 5⟩)
    obtain ⟨c0, c1, c2, c3, c4, c5⟩ := HH.out W (Below.refl _ _)
    clear hh hn1 hm1 hb hs
    go_enter Tryd.func13, Tryd.ntmps13
    go_upto_region 1 with fail
    clear hW
    go_wp2_with (go_at_call 29; with_reducible refine (CC.out _).mono ?_; rintro e w1 ⟨rfl, h1⟩; obtain ⟨d0, d1, d2, d3, d4, d5⟩ := HH.out _ h1; have H1 := hid h1; clear h1)
    go_ret
    exact ⟨rfl, btr HB.out H1.out⟩
  | true =>
  have hcf : (1 ≤ x.cap ∧ x.cap ≤ 4096) ∧ 0 ≤ x.meet ∧ x.meet ≤ 3 := of_decide_eq_true hk0
  have hn : x.b.length + x.s.length ≤ 4096 := by omega
  have C1 := hid (fun U (hU : Below w.heap.size w U) => inprio_any 1 x.pb x.cb x.b U (hb.on hU) (by omega))
  have C2 := hid (fun U (hU : Below w.heap.size w U) => inprio_any 2 x.ps x.cs x.s U (hs.on hU) (by omega))
  have CX := hid (fun U (hU : Below w.heap.size w U) => crossed_any x U (hb.on hU) (hs.on hU) hn)
  have C3 := hid (fun U (hU : Below w.heap.size w U) => ordok_any x.high x.pb x.cb x.b U (hb.on hU) (by omega) hw1)
  have C4 := hid (fun U (hU : Below w.heap.size w U) => ordok_any x.high x.ps x.cs x.s U (hs.on hU) (by omega) hw2)
  have CD := hid (fun q U (hU : Below w.heap.size w U) (hq : U.heap[q]? = some (.cells #[.slice x.pb x.b.length x.cb, .slice x.ps x.s.length x.cs] 24 (0, 0))) => distinct_all q x.pb x.ps x.cb x.cs x.b x.s U hq (hb.on hU) (hs.on hU) hn)
  obtain ⟨k1, hk1⟩ : ∃ b, decide (SrR 1 x.b) = b := ⟨_, rfl⟩
  obtain ⟨k2, hk2⟩ : ∃ b, decide (SrR 2 x.s) = b := ⟨_, rfl⟩
  obtain ⟨k3, hk3⟩ : ∃ b, decide (Crs x.b x.s) = b := ⟨_, rfl⟩
  obtain ⟨k4, hk4⟩ : ∃ b, decide (AllOk x.high x.b) = b := ⟨_, rfl⟩
  obtain ⟨k5, hk5⟩ : ∃ b, decide (AllOk x.high x.s) = b := ⟨_, rfl⟩
  obtain ⟨k6, hk6⟩ : ∃ b, decide (x.b.map Rt.id ++ x.s.map Rt.id).Nodup = b := ⟨_, rfl⟩
  have L1 := hid (show k1 = false → E = 120 from fun e => no (fun ok => by rw [e] at hk1; exact absurd ok.sb (of_decide_eq_false hk1)))
  have L2 := hid (show k2 = false → E = 120 from fun e => no (fun ok => by rw [e] at hk2; exact absurd ok.ss (of_decide_eq_false hk2)))
  have L3 := hid (show k3 = true → E = 120 from fun e => no (fun ok => by rw [e] at hk3; exact absurd (of_decide_eq_true hk3) ok.apart))
  have L4 := hid (show k4 = false → E = 120 from fun e => no (fun ok => by rw [e] at hk4; exact absurd ok.okb (of_decide_eq_false hk4)))
  have L5 := hid (show k5 = false → E = 120 from fun e => no (fun ok => by rw [e] at hk5; exact absurd ok.oks (of_decide_eq_false hk5)))
  have L6 := hid (show k6 = false → E = 120 from fun e => no (fun ok => by rw [e] at hk6; exact absurd ok.one (of_decide_eq_false hk6)))
  have LY := hid (show k1 = true → k2 = true → k3 = false → k4 = true → k5 = true → k6 = true → E = 0 from fun e1 e2 e3 e4 e5 e6 => by
    rw [e1] at hk1
    rw [e2] at hk2
    rw [e3] at hk3
    rw [e4] at hk4
    rw [e5] at hk5
    rw [e6] at hk6
    rcases hE with h | h
    · exact h.2
    · exact absurd ⟨hcf, by omega, of_decide_eq_true hk1, of_decide_eq_true hk2, of_decide_eq_false hk3, of_decide_eq_true hk4, of_decide_eq_true hk5, of_decide_eq_true hk6⟩ h.1)
  rw [hk1] at C1
  rw [hk2] at C2
  rw [hk3] at CX
  rw [hk4] at C3
  rw [hk5] at C4
  simp only [hk6] at CD
  clear hb hs hw1 hw2 hk0 hk1 hk2 hk3 hk4 hk5 hk6 no HNO hE L0 hcf hbig
  obtain ⟨cap, meet, pb, cb, b, ps, cs, s, high, seq⟩ := x
  unfold bor at *
  simp only at *
  obtain ⟨n, hn1⟩ : ∃ n, b.length = n := ⟨_, rfl⟩
  obtain ⟨m, hm1⟩ : ∃ n, s.length = n := ⟨_, rfl⟩
  rw [hn1] at C1 C3 CD CX hfew hn ⊢
  rw [hm1] at C2 C4 CD CX hfew hn ⊢
  obtain ⟨W, hW⟩ : ∃ W, w.alloc (.cells #[.int .i64 cap, .int .i64 meet, .slice pb n cb, .slice ps m cs, .int .u64 high, .int .u64 seq] 27) = W := ⟨_, rfl⟩
  have HB := hid (show Below w.heap.size w W from by rw [← hW]; exact ball _ _)
  have hh : W.heap[w.heap.size]? = some (.cells #[.int .i64 cap, .int .i64 meet, .slice pb n cb, .slice ps m cs, .int .u64 high, .int .u64 seq] 27 (0, 0)) := by rw [← hW]; exact World.alloc_heap_new _ _
  have HH := hid (fun (U : World) (hU : Below W.heap.size W U) => show U.cell? ⟨w.heap.size, 0, none⟩ = some (.int .i64 cap) ∧ U.cell? ⟨w.heap.size, 1, none⟩ = some (.int .i64 meet) ∧ U.cell? ⟨w.heap.size, 2, none⟩ = some (.slice pb n cb) ∧ U.cell? ⟨w.heap.size, 3, none⟩ = some (.slice ps m cs) ∧ U.cell? ⟨w.heap.size, 4, none⟩ = some (.int .u64 high) ∧ U.cell? ⟨w.heap.size, 5, none⟩ = some (.int .u64 seq) from by
    have hr : U.heap[w.heap.size]? = _ := (hU.block _ (row_lt hh)).trans hh
    exact ⟨row_cell hr 0, row_cell hr 1, row_cell hr 2, row_cell hr 3, row_cell hr 4, row_cell hr 5⟩)
  have ws : IntKind.i64.wrap ((n : Int) + (m : Int)) = (n : Int) + (m : Int) := by rw [IntKind.wrap_i64]; omega
  obtain ⟨c0, c1, c2, c3, c4, c5⟩ := HH.out W (Below.refl _ _)
  clear hh hn1 hm1 hn
  go_enter Tryd.func13, Tryd.ntmps13
  go_upto_region 1 with fail
  clear hW
  go_upto_region 3 with (go_at_call 29; with_reducible refine (CC.out _).mono ?_; rintro e w1 ⟨rfl, h1⟩; obtain ⟨d0, d1, d2, d3, d4, d5⟩ := HH.out _ h1; have H1 := hid h1; clear h1)
  cases k1 with
  | false =>
    have hEE := L1.out rfl
    subst hEE
    clear LY L1 L2 L3 L4 L5 L6
    go_wp2_with (first
    | (go_at_call 30; with_reducible refine (C1.out _ (btr HB.out H1.out)).mono ?_; rintro e w2 ⟨rfl, h2⟩; have H2 := hid (btr H1.out h2); clear h2; obtain ⟨e0, e1, e2, e3, e4, e5⟩ := HH.out _ H2.out))
    go_ret
    exact ⟨rfl, btr HB.out H2.out⟩
  | true =>
  cases k2 with
  | false =>
    have hEE := L2.out rfl
    subst hEE
    clear LY L1 L2 L3 L4 L5 L6
    go_wp2_with (first
    | (go_at_call 30; with_reducible refine (C1.out _ (btr HB.out H1.out)).mono ?_; rintro e w2 ⟨rfl, h2⟩; have H2 := hid (btr H1.out h2); clear h2; obtain ⟨e0, e1, e2, e3, e4, e5⟩ := HH.out _ H2.out)
    | (go_at_call 30; with_reducible refine (C2.out _ (btr HB.out H2.out)).mono ?_; rintro e w3 ⟨rfl, h3⟩; have H3 := hid (btr H2.out h3); clear h3; obtain ⟨f0, f1, f2, f3, f4, f5⟩ := HH.out _ H3.out))
    go_ret
    exact ⟨rfl, btr HB.out H3.out⟩
  | true =>
  cases k3 with
  | true =>
    have hEE := L3.out rfl
    subst hEE
    clear LY L1 L2 L3 L4 L5 L6
    go_wp2_with (first
    | (go_at_call 30; with_reducible refine (C1.out _ (btr HB.out H1.out)).mono ?_; rintro e w2 ⟨rfl, h2⟩; have H2 := hid (btr H1.out h2); clear h2; obtain ⟨e0, e1, e2, e3, e4, e5⟩ := HH.out _ H2.out)
    | (go_at_call 30; with_reducible refine (C2.out _ (btr HB.out H2.out)).mono ?_; rintro e w3 ⟨rfl, h3⟩; have H3 := hid (btr H2.out h3); clear h3; obtain ⟨f0, f1, f2, f3, f4, f5⟩ := HH.out _ H3.out)
    | (go_at_call 31; with_reducible refine (CX.out _ (btr HB.out H3.out)).mono ?_; rintro e w4 ⟨rfl, h4⟩; have H4 := hid (btr H3.out h4); clear h4; obtain ⟨g0, g1, g2, g3, g4, g5⟩ := HH.out _ H4.out))
    go_ret
    exact ⟨rfl, btr HB.out H4.out⟩
  | false =>
  go_upto_region 4 with (first
    | (go_at_call 30; with_reducible refine (C1.out _ (btr HB.out H1.out)).mono ?_; rintro e w2 ⟨rfl, h2⟩; have H2 := hid (btr H1.out h2); clear h2; obtain ⟨e0, e1, e2, e3, e4, e5⟩ := HH.out _ H2.out)
    | (go_at_call 30; with_reducible refine (C2.out _ (btr HB.out H2.out)).mono ?_; rintro e w3 ⟨rfl, h3⟩; have H3 := hid (btr H2.out h3); clear h3; obtain ⟨f0, f1, f2, f3, f4, f5⟩ := HH.out _ H3.out)
    | (go_at_call 31; with_reducible refine (CX.out _ (btr HB.out H3.out)).mono ?_; rintro e w4 ⟨rfl, h4⟩; have H4 := hid (btr H3.out h4); clear h4; obtain ⟨g0, g1, g2, g3, g4, g5⟩ := HH.out _ H4.out))
  clear c0 c1 c2 c3 c4 c5 d0 d1 d2 d3 d4 d5 e0 e1 e2 e3 e4 e5 f0 f1 f2 f3 f4 f5
  cases k4 with
  | false =>
    have hEE := L4.out rfl
    subst hEE
    clear LY L1 L2 L3 L4 L5 L6
    go_wp2_with (first
    | (go_at_call 32; with_reducible refine (C3.out _ (btr HB.out H4.out)).mono ?_; rintro e w5 ⟨rfl, h5⟩; have H5 := hid (btr H4.out h5); clear h5; obtain ⟨e0, e1, e2, e3, e4, e5⟩ := HH.out _ H5.out))
    go_ret
    exact ⟨rfl, btr HB.out H5.out⟩
  | true =>
  cases k5 with
  | false =>
    have hEE := L5.out rfl
    subst hEE
    clear LY L1 L2 L3 L4 L5 L6
    go_wp2_with (first
    | (go_at_call 32; with_reducible refine (C3.out _ (btr HB.out H4.out)).mono ?_; rintro e w5 ⟨rfl, h5⟩; have H5 := hid (btr H4.out h5); clear h5; obtain ⟨e0, e1, e2, e3, e4, e5⟩ := HH.out _ H5.out)
    | (go_at_call 32; with_reducible refine (C4.out _ (btr HB.out H5.out)).mono ?_; rintro e w6 ⟨rfl, h6⟩; have H6 := hid (btr H5.out h6); clear h6; obtain ⟨f0, f1, f2, f3, f4, f5⟩ := HH.out _ H6.out))
    go_ret
    exact ⟨rfl, btr HB.out H6.out⟩
  | true =>
  cases k6 with
  | false =>
    have hEE := L6.out rfl
    subst hEE
    clear LY L1 L2 L3 L4 L5 L6
    go_wp2_with (first
    | (go_at_call 32; with_reducible refine (C3.out _ (btr HB.out H4.out)).mono ?_; rintro e w5 ⟨rfl, h5⟩; have H5 := hid (btr H4.out h5); clear h5; obtain ⟨e0, e1, e2, e3, e4, e5⟩ := HH.out _ H5.out)
    | (go_at_call 32; with_reducible refine (C4.out _ (btr HB.out H5.out)).mono ?_; rintro e w6 ⟨rfl, h6⟩; have H6 := hid (btr H5.out h6); clear h6; obtain ⟨f0, f1, f2, f3, f4, f5⟩ := HH.out _ H6.out)
    | (go_at_call 33; with_reducible refine (CD.out _ _ (btr HB.out (btr H6.out (ball _ _))) (World.alloc_heap_new _ _)).mono ?_; rintro e w7 ⟨rfl, h7⟩; have H7 := hid (btr H6.out (btr (ball _ _) h7)); clear h7))
    go_ret
    exact ⟨rfl, btr HB.out H7.out⟩
  | true =>
    have hEE : E = 0 := by first | exact LY.out rfl rfl rfl rfl rfl rfl | (have h9 := LY.out; simpa using h9)
    subst hEE
    clear LY L1 L2 L3 L4 L5 L6
    go_wp2_with (first
    | (go_at_call 32; with_reducible refine (C3.out _ (btr HB.out H4.out)).mono ?_; rintro e w5 ⟨rfl, h5⟩; have H5 := hid (btr H4.out h5); clear h5; obtain ⟨e0, e1, e2, e3, e4, e5⟩ := HH.out _ H5.out)
    | (go_at_call 32; with_reducible refine (C4.out _ (btr HB.out H5.out)).mono ?_; rintro e w6 ⟨rfl, h6⟩; have H6 := hid (btr H5.out h6); clear h6; obtain ⟨f0, f1, f2, f3, f4, f5⟩ := HH.out _ H6.out)
    | (go_at_call 33; with_reducible refine (CD.out _ _ (btr HB.out (btr H6.out (ball _ _))) (World.alloc_heap_new _ _)).mono ?_; rintro e w7 ⟨rfl, h7⟩; have H7 := hid (btr H6.out (btr (ball _ _) h7)); clear h7))
    go_ret
    exact ⟨rfl, btr HB.out H7.out⟩
end Go.Proofs.YtjpkodllemoniaaDoor.Sr
