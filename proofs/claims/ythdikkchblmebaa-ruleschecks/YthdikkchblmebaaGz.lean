/-
  Valid of any book.
-/
import Derived.Test.YthdikkchblmebaaRcE0
import Derived.Test.YthdikkchblmebaaStO
import Derived.Test.YthdikkchblmebaaCpV
import Derived.Test.YthdikkchblmebaaCpB
import Derived.Test.YthdikkchblmebaaRuRa
import Derived.Test.YthdikkchblmebaaRuNw
import Derived.Test.YthdikkchblmebaaRuBk
import Derived.Test.YthdikkchblmebaaRuRg
import Derived.Test.YthdikkchblmebaaRows
import Derived.Test.YthdikkchblmebaaCpE
import Derived.ProofKit
import Derived.OpenShut
import Derived.JoinedCond
import Derived.ChangeSlices
import Derived.ChangeOld
import Derived.ChangeArms
import Derived.Below
import Derived.SizedLaws
import Derived.Lib.SmallJoins
namespace Go.Proofs.Ythdikkchblmebaa.Sr
open Go.RowKit Go.Deep
set_option linter.unusedVariables false
set_option linter.unusedSimpArgs false
set_option maxHeartbeats 8000000
set_option maxRecDepth 100000
theorem valid_any (x : Bo) (E : Int) (hE : (BoOk x ∧ E = 0) ∨ (¬ BoOk x ∧ E = 120)) (w : World) (hb : Rz w x.pb x.b) (hs : Rz w x.ps x.s) (hw1 : ∀ i (hi : i < x.b.length), RtW x.b[i]) (hw2 : ∀ i (hi : i < x.s.length), RtW x.s[i]) (hbig : x.b.length ≤ 4000000000000 ∧ x.s.length ≤ 4000000000000) :
    Calls Try.prog 9 #[.agg (bor x)] w fun e w' => e = .returned (.int .i64 E) ∧ Below w.heap.size w w' := by
  have no : ¬ BoOk x → E = 120 := fun c => by
    rcases hE with h | h
    · exact absurd h.1 c
    · exact h.2
  have HNO := hid no
  obtain ⟨k0, hk0⟩ : ∃ b, decide ((1 ≤ x.cap ∧ x.cap ≤ 4096) ∧ 0 ≤ x.meet ∧ x.meet ≤ 3) = b := ⟨_, rfl⟩
  have CC := hid (fun U => cfg_any x.cap x.meet k0 (by rw [← hk0]; exact decide_eq_true_iff) U)
  have L0 := hid (show k0 = false → E = 120 from fun e => no (fun ok => by rw [e] at hk0; exact absurd ok.cfg (of_decide_eq_false hk0)))
  by_cases hfew : x.cap < (x.b.length : Int) + (x.s.length : Int)
  · have hEE := no (fun ok => by have := ok.few; omega)
    subst hEE
    clear no HNO hE hk0 L0 hw1 hw2
    obtain ⟨cap, meet, pb, cb, b, ps, cs, s, high, seq⟩ := x
    unfold bor at *
    simp only at *
    obtain ⟨n, hn1⟩ : ∃ n, b.length = n := ⟨_, rfl⟩
    obtain ⟨m, hm1⟩ : ∃ n, s.length = n := ⟨_, rfl⟩
    rw [hn1, hm1] at hfew hbig ⊢
    obtain ⟨W, hW⟩ : ∃ W, w.alloc (.cells #[.int .i64 cap, .int .i64 meet, .slice pb n cb, .slice ps m cs, .int .u64 high, .int .u64 seq] 30) = W := ⟨_, rfl⟩
    have HB := hid (show Below w.heap.size w W from by rw [← hW]; exact ball _ _)
    have hh : W.heap[w.heap.size]? = some (.cells #[.int .i64 cap, .int .i64 meet, .slice pb n cb, .slice ps m cs, .int .u64 high, .int .u64 seq] 30 (0, 0)) := by rw [← hW]; exact World.alloc_heap_new _ _
    have HH := hid (fun (U : World) (hU : Below W.heap.size W U) => show U.cell? ⟨w.heap.size, 0, none⟩ = some (.int .i64 cap) ∧ U.cell? ⟨w.heap.size, 1, none⟩ = some (.int .i64 meet) ∧ U.cell? ⟨w.heap.size, 2, none⟩ = some (.slice pb n cb) ∧ U.cell? ⟨w.heap.size, 3, none⟩ = some (.slice ps m cs) ∧ U.cell? ⟨w.heap.size, 4, none⟩ = some (.int .u64 high) ∧ U.cell? ⟨w.heap.size, 5, none⟩ = some (.int .u64 seq) from by
      have hr : U.heap[w.heap.size]? = _ := (hU.block _ (row_lt hh)).trans hh
      exact ⟨row_cell hr 0, row_cell hr 1, row_cell hr 2, row_cell hr 3, row_cell hr 4, row_cell hr 5⟩)
    have ws : IntKind.i64.wrap ((n : Int) + (m : Int)) = (n : Int) + (m : Int) := by rw [IntKind.wrap_i64]; omega
    obtain ⟨c0, c1, c2, c3, c4, c5⟩ := HH.out W (Below.refl _ _)
    clear hh hn1 hm1 hb hs
    go_enter Try.func9, Try.ntmps9
    go_upto_region 1 with fail
    clear hW
    cases k0 with
    | false =>
      go_wp2_with (go_at_call 14; with_reducible refine (CC.out _).mono ?_; rintro e w1 ⟨rfl, h1⟩; obtain ⟨d0, d1, d2, d3, d4, d5⟩ := HH.out _ h1; have H1 := hid h1; clear h1)
      go_ret
      exact ⟨rfl, btr HB.out H1.out⟩
    | true =>
      go_wp2_with (go_at_call 14; with_reducible refine (CC.out _).mono ?_; rintro e w1 ⟨rfl, h1⟩; obtain ⟨d0, d1, d2, d3, d4, d5⟩ := HH.out _ h1; have H1 := hid h1; clear h1)
      go_ret
      exact ⟨rfl, btr HB.out H1.out⟩
  cases k0 with
  | false =>
    have hEE := L0.out rfl
    subst hEE
    clear no HNO hE hk0 L0 hw1 hw2
    obtain ⟨cap, meet, pb, cb, b, ps, cs, s, high, seq⟩ := x
    unfold bor at *
    simp only at *
    obtain ⟨n, hn1⟩ : ∃ n, b.length = n := ⟨_, rfl⟩
    obtain ⟨m, hm1⟩ : ∃ n, s.length = n := ⟨_, rfl⟩
    rw [hn1, hm1] at hfew hbig ⊢
    obtain ⟨W, hW⟩ : ∃ W, w.alloc (.cells #[.int .i64 cap, .int .i64 meet, .slice pb n cb, .slice ps m cs, .int .u64 high, .int .u64 seq] 30) = W := ⟨_, rfl⟩
    have HB := hid (show Below w.heap.size w W from by rw [← hW]; exact ball _ _)
    have hh : W.heap[w.heap.size]? = some (.cells #[.int .i64 cap, .int .i64 meet, .slice pb n cb, .slice ps m cs, .int .u64 high, .int .u64 seq] 30 (0, 0)) := by rw [← hW]; exact World.alloc_heap_new _ _
    have HH := hid (fun (U : World) (hU : Below W.heap.size W U) => show U.cell? ⟨w.heap.size, 0, none⟩ = some (.int .i64 cap) ∧ U.cell? ⟨w.heap.size, 1, none⟩ = some (.int .i64 meet) ∧ U.cell? ⟨w.heap.size, 2, none⟩ = some (.slice pb n cb) ∧ U.cell? ⟨w.heap.size, 3, none⟩ = some (.slice ps m cs) ∧ U.cell? ⟨w.heap.size, 4, none⟩ = some (.int .u64 high) ∧ U.cell? ⟨w.heap.size, 5, none⟩ = some (.int .u64 seq) from by
      have hr : U.heap[w.heap.size]? = _ := (hU.block _ (row_lt hh)).trans hh
      exact ⟨row_cell hr 0, row_cell hr 1, row_cell hr 2, row_cell hr 3, row_cell hr 4, row_cell hr 5⟩)
    obtain ⟨c0, c1, c2, c3, c4, c5⟩ := HH.out W (Below.refl _ _)
    clear hh hn1 hm1 hb hs
    go_enter Try.func9, Try.ntmps9
    go_upto_region 1 with fail
    clear hW
    go_wp2_with (go_at_call 14; with_reducible refine (CC.out _).mono ?_; rintro e w1 ⟨rfl, h1⟩; obtain ⟨d0, d1, d2, d3, d4, d5⟩ := HH.out _ h1; have H1 := hid h1; clear h1)
    go_ret
    exact ⟨rfl, btr HB.out H1.out⟩
  | true =>
  have hcf : (1 ≤ x.cap ∧ x.cap ≤ 4096) ∧ 0 ≤ x.meet ∧ x.meet ≤ 3 := of_decide_eq_true hk0
  have hn : x.b.length + x.s.length ≤ 4096 := by omega
  have C1 := hid (fun U (hU : Below w.heap.size w U) => inprio_any 1 x.pb x.cb x.b U (hb.on hU) (by omega))
  have C2 := hid (fun U (hU : Below w.heap.size w U) => inprio_any 2 x.ps x.cs x.s U (hs.on hU) (by omega))
  have CX := hid (fun U (hU : Below w.heap.size w U) => crossed_any x U (hb.on hU) (hs.on hU) hn)
  have C3 := hid (fun U (hU : Below w.heap.size w U) => ordok_any x.high x.pb x.cb x.b U (hb.on hU) (by omega) hw1)
  have C4 := hid (fun U (hU : Below w.heap.size w U) => ordok_any x.high x.ps x.cs x.s U (hs.on hU) (by omega) hw2)
  have CD := hid (fun q U (hU : Below w.heap.size w U) (hq : U.heap[q]? = some (.cells #[.slice x.pb x.b.length x.cb, .slice x.ps x.s.length x.cs] 28 (0, 0))) => distinct_all q x.pb x.ps x.cb x.cs x.b x.s U hq (hb.on hU) (hs.on hU) hn)
  obtain ⟨k1, hk1⟩ : ∃ b, decide (SrR 1 x.b) = b := ⟨_, rfl⟩
  obtain ⟨k2, hk2⟩ : ∃ b, decide (SrR 2 x.s) = b := ⟨_, rfl⟩
  obtain ⟨k3, hk3⟩ : ∃ b, decide (Crs x.b x.s) = b := ⟨_, rfl⟩
  obtain ⟨k4, hk4⟩ : ∃ b, decide (AllOk x.high x.b) = b := ⟨_, rfl⟩
  obtain ⟨k5, hk5⟩ : ∃ b, decide (AllOk x.high x.s) = b := ⟨_, rfl⟩
  obtain ⟨k6, hk6⟩ : ∃ b, decide (x.b.map Rt.id ++ x.s.map Rt.id).Nodup = b := ⟨_, rfl⟩
  have L1 := hid (show k1 = false → E = 120 from fun e => no (fun ok => by rw [e] at hk1; exact absurd ok.sb (of_decide_eq_false hk1)))
  have L2 := hid (show k2 = false → E = 120 from fun e => no (fun ok => by rw [e] at hk2; exact absurd ok.ss (of_decide_eq_false hk2)))
  have L3 := hid (show k3 = true → E = 120 from fun e => no (fun ok => by rw [e] at hk3; exact absurd (of_decide_eq_true hk3) ok.apart))
  have L4 := hid (show k4 = false → E = 120 from fun e => no (fun ok => by rw [e] at hk4; exact absurd ok.okb (of_decide_eq_false hk4)))
  have L5 := hid (show k5 = false → E = 120 from fun e => no (fun ok => by rw [e] at hk5; exact absurd ok.oks (of_decide_eq_false hk5)))
  have L6 := hid (show k6 = false → E = 120 from fun e => no (fun ok => by rw [e] at hk6; exact absurd ok.one (of_decide_eq_false hk6)))
  have LY := hid (show k1 = true → k2 = true → k3 = false → k4 = true → k5 = true → k6 = true → E = 0 from fun e1 e2 e3 e4 e5 e6 => by
    rw [e1] at hk1
    rw [e2] at hk2
    rw [e3] at hk3
    rw [e4] at hk4
    rw [e5] at hk5
    rw [e6] at hk6
    rcases hE with h | h
    · exact h.2
    · exact absurd ⟨hcf, by omega, of_decide_eq_true hk1, of_decide_eq_true hk2, of_decide_eq_false hk3, of_decide_eq_true hk4, of_decide_eq_true hk5, of_decide_eq_true hk6⟩ h.1)
  rw [hk1] at C1
  rw [hk2] at C2
  rw [hk3] at CX
  rw [hk4] at C3
  rw [hk5] at C4
  simp only [hk6] at CD
  clear hb hs hw1 hw2 hk0 hk1 hk2 hk3 hk4 hk5 hk6 no HNO hE L0 hcf hbig
  obtain ⟨cap, meet, pb, cb, b, ps, cs, s, high, seq⟩ := x
  unfold bor at *
  simp only at *
  obtain ⟨n, hn1⟩ : ∃ n, b.length = n := ⟨_, rfl⟩
  obtain ⟨m, hm1⟩ : ∃ n, s.length = n := ⟨_, rfl⟩
  rw [hn1] at C1 C3 CD CX hfew hn ⊢
  rw [hm1] at C2 C4 CD CX hfew hn ⊢
  obtain ⟨W, hW⟩ : ∃ W, w.alloc (.cells #[.int .i64 cap, .int .i64 meet, .slice pb n cb, .slice ps m cs, .int .u64 high, .int .u64 seq] 30) = W := ⟨_, rfl⟩
  have HB := hid (show Below w.heap.size w W from by rw [← hW]; exact ball _ _)
  have hh : W.heap[w.heap.size]? = some (.cells #[.int .i64 cap, .int .i64 meet, .slice pb n cb, .slice ps m cs, .int .u64 high, .int .u64 seq] 30 (0, 0)) := by rw [← hW]; exact World.alloc_heap_new _ _
  have HH := hid (fun (U : World) (hU : Below W.heap.size W U) => show U.cell? ⟨w.heap.size, 0, none⟩ = some (.int .i64 cap) ∧ U.cell? ⟨w.heap.size, 1, none⟩ = some (.int .i64 meet) ∧ U.cell? ⟨w.heap.size, 2, none⟩ = some (.slice pb n cb) ∧ U.cell? ⟨w.heap.size, 3, none⟩ = some (.slice ps m cs) ∧ U.cell? ⟨w.heap.size, 4, none⟩ = some (.int .u64 high) ∧ U.cell? ⟨w.heap.size, 5, none⟩ = some (.int .u64 seq) from by
    have hr : U.heap[w.heap.size]? = _ := (hU.block _ (row_lt hh)).trans hh
    exact ⟨row_cell hr 0, row_cell hr 1, row_cell hr 2, row_cell hr 3, row_cell hr 4, row_cell hr 5⟩)
  have ws : IntKind.i64.wrap ((n : Int) + (m : Int)) = (n : Int) + (m : Int) := by rw [IntKind.wrap_i64]; omega
  obtain ⟨c0, c1, c2, c3, c4, c5⟩ := HH.out W (Below.refl _ _)
  clear hh hn1 hm1 hn
  go_enter Try.func9, Try.ntmps9
  go_upto_region 1 with fail
  clear hW
  go_upto_region 3 with (go_at_call 14; with_reducible refine (CC.out _).mono ?_; rintro e w1 ⟨rfl, h1⟩; obtain ⟨d0, d1, d2, d3, d4, d5⟩ := HH.out _ h1; have H1 := hid h1; clear h1)
  cases k1 with
  | false =>
    have hEE := L1.out rfl
    subst hEE
    clear LY L1 L2 L3 L4 L5 L6
    go_wp2_with (first
    | (go_at_call 19; with_reducible refine (C1.out _ (btr HB.out H1.out)).mono ?_; rintro e w2 ⟨rfl, h2⟩; have H2 := hid (btr H1.out h2); clear h2; obtain ⟨e0, e1, e2, e3, e4, e5⟩ := HH.out _ H2.out))
    go_ret
    exact ⟨rfl, btr HB.out H2.out⟩
  | true =>
  cases k2 with
  | false =>
    have hEE := L2.out rfl
    subst hEE
    clear LY L1 L2 L3 L4 L5 L6
    go_wp2_with (first
    | (go_at_call 19; with_reducible refine (C1.out _ (btr HB.out H1.out)).mono ?_; rintro e w2 ⟨rfl, h2⟩; have H2 := hid (btr H1.out h2); clear h2; obtain ⟨e0, e1, e2, e3, e4, e5⟩ := HH.out _ H2.out)
    | (go_at_call 19; with_reducible refine (C2.out _ (btr HB.out H2.out)).mono ?_; rintro e w3 ⟨rfl, h3⟩; have H3 := hid (btr H2.out h3); clear h3; obtain ⟨f0, f1, f2, f3, f4, f5⟩ := HH.out _ H3.out))
    go_ret
    exact ⟨rfl, btr HB.out H3.out⟩
  | true =>
  cases k3 with
  | true =>
    have hEE := L3.out rfl
    subst hEE
    clear LY L1 L2 L3 L4 L5 L6
    go_wp2_with (first
    | (go_at_call 19; with_reducible refine (C1.out _ (btr HB.out H1.out)).mono ?_; rintro e w2 ⟨rfl, h2⟩; have H2 := hid (btr H1.out h2); clear h2; obtain ⟨e0, e1, e2, e3, e4, e5⟩ := HH.out _ H2.out)
    | (go_at_call 19; with_reducible refine (C2.out _ (btr HB.out H2.out)).mono ?_; rintro e w3 ⟨rfl, h3⟩; have H3 := hid (btr H2.out h3); clear h3; obtain ⟨f0, f1, f2, f3, f4, f5⟩ := HH.out _ H3.out)
    | (go_at_call 20; with_reducible refine (CX.out _ (btr HB.out H3.out)).mono ?_; rintro e w4 ⟨rfl, h4⟩; have H4 := hid (btr H3.out h4); clear h4; obtain ⟨g0, g1, g2, g3, g4, g5⟩ := HH.out _ H4.out))
    go_ret
    exact ⟨rfl, btr HB.out H4.out⟩
  | false =>
  go_upto_region 4 with (first
    | (go_at_call 19; with_reducible refine (C1.out _ (btr HB.out H1.out)).mono ?_; rintro e w2 ⟨rfl, h2⟩; have H2 := hid (btr H1.out h2); clear h2; obtain ⟨e0, e1, e2, e3, e4, e5⟩ := HH.out _ H2.out)
    | (go_at_call 19; with_reducible refine (C2.out _ (btr HB.out H2.out)).mono ?_; rintro e w3 ⟨rfl, h3⟩; have H3 := hid (btr H2.out h3); clear h3; obtain ⟨f0, f1, f2, f3, f4, f5⟩ := HH.out _ H3.out)
    | (go_at_call 20; with_reducible refine (CX.out _ (btr HB.out H3.out)).mono ?_; rintro e w4 ⟨rfl, h4⟩; have H4 := hid (btr H3.out h4); clear h4; obtain ⟨g0, g1, g2, g3, g4, g5⟩ := HH.out _ H4.out))
  clear c0 c1 c2 c3 c4 c5 d0 d1 d2 d3 d4 d5 e0 e1 e2 e3 e4 e5 f0 f1 f2 f3 f4 f5
  cases k4 with
  | false =>
    have hEE := L4.out rfl
    subst hEE
    clear LY L1 L2 L3 L4 L5 L6
    go_wp2_with (first
    | (go_at_call 21; with_reducible refine (C3.out _ (btr HB.out H4.out)).mono ?_; rintro e w5 ⟨rfl, h5⟩; have H5 := hid (btr H4.out h5); clear h5; obtain ⟨e0, e1, e2, e3, e4, e5⟩ := HH.out _ H5.out))
    go_ret
    exact ⟨rfl, btr HB.out H5.out⟩
  | true =>
  cases k5 with
  | false =>
    have hEE := L5.out rfl
    subst hEE
    clear LY L1 L2 L3 L4 L5 L6
    go_wp2_with (first
    | (go_at_call 21; with_reducible refine (C3.out _ (btr HB.out H4.out)).mono ?_; rintro e w5 ⟨rfl, h5⟩; have H5 := hid (btr H4.out h5); clear h5; obtain ⟨e0, e1, e2, e3, e4, e5⟩ := HH.out _ H5.out)
    | (go_at_call 21; with_reducible refine (C4.out _ (btr HB.out H5.out)).mono ?_; rintro e w6 ⟨rfl, h6⟩; have H6 := hid (btr H5.out h6); clear h6; obtain ⟨f0, f1, f2, f3, f4, f5⟩ := HH.out _ H6.out))
    go_ret
    exact ⟨rfl, btr HB.out H6.out⟩
  | true =>
  cases k6 with
  | false =>
    have hEE := L6.out rfl
    subst hEE
    clear LY L1 L2 L3 L4 L5 L6
    go_wp2_with (first
    | (go_at_call 21; with_reducible refine (C3.out _ (btr HB.out H4.out)).mono ?_; rintro e w5 ⟨rfl, h5⟩; have H5 := hid (btr H4.out h5); clear h5; obtain ⟨e0, e1, e2, e3, e4, e5⟩ := HH.out _ H5.out)
    | (go_at_call 21; with_reducible refine (C4.out _ (btr HB.out H5.out)).mono ?_; rintro e w6 ⟨rfl, h6⟩; have H6 := hid (btr H5.out h6); clear h6; obtain ⟨f0, f1, f2, f3, f4, f5⟩ := HH.out _ H6.out)
    | (go_at_call 22; with_reducible refine (CD.out _ _ (btr HB.out (btr H6.out (ball _ _))) (World.alloc_heap_new _ _)).mono ?_; rintro e w7 ⟨rfl, h7⟩; have H7 := hid (btr H6.out (btr (ball _ _) h7)); clear h7))
    go_ret
    exact ⟨rfl, btr HB.out H7.out⟩
  | true =>
    have hEE : E = 0 := by first | exact LY.out rfl rfl rfl rfl rfl rfl | (have h9 := LY.out; simpa using h9)
    subst hEE
    clear LY L1 L2 L3 L4 L5 L6
    go_wp2_with (first
    | (go_at_call 21; with_reducible refine (C3.out _ (btr HB.out H4.out)).mono ?_; rintro e w5 ⟨rfl, h5⟩; have H5 := hid (btr H4.out h5); clear h5; obtain ⟨e0, e1, e2, e3, e4, e5⟩ := HH.out _ H5.out)
    | (go_at_call 21; with_reducible refine (C4.out _ (btr HB.out H5.out)).mono ?_; rintro e w6 ⟨rfl, h6⟩; have H6 := hid (btr H5.out h6); clear h6; obtain ⟨f0, f1, f2, f3, f4, f5⟩ := HH.out _ H6.out)
    | (go_at_call 22; with_reducible refine (CD.out _ _ (btr HB.out (btr H6.out (ball _ _))) (World.alloc_heap_new _ _)).mono ?_; rintro e w7 ⟨rfl, h7⟩; have H7 := hid (btr H6.out (btr (ball _ _) h7)); clear h7))
    go_ret
    exact ⟨rfl, btr HB.out H7.out⟩
end Go.Proofs.Ythdikkchblmebaa.Sr
namespace Go.Proofs.Ythdikkchblmebaa.Ck
open Go.RowKit Go.Deep
open Go.Proofs.Ythdikkchblmebaa (Cm CmOk cmr chk cfg Bs Bm bkv osl ors ors_len)
open Go.Proofs.Ythdikkchblmebaa.Cp (Osz Sl hid ball btr bdrew1 row_on row_cell row_lt row6)
open Go.Proofs.Ythdikkchblmebaa.Sr (Rt RtW BoOk)
set_option linter.unusedVariables false
set_option linter.unusedSimpArgs false
set_option maxHeartbeats 8000000
set_option maxRecDepth 100000
attribute [local go_sem ↓] Go.wp_at_zero Go.wp_at_succ
/-- a book that is new. -/
def Nb (w : World) (B : Nat) (cap meet : Int) : Prop := ∃ b : Bs, Bm w B b ∧ b.cap = cap ∧ b.meet = meet ∧ b.high = 0 ∧ b.seq = 0 ∧ b.l1 = [] ∧ b.l2 = []
theorem Nb.on {w w' : World} {B : Nat} {cap meet : Int} (h : Nb w B cap meet) (hb : Below w.heap.size w w') : Nb w' B cap meet := by
  obtain ⟨b, h1, h2⟩ := h
  exact ⟨b, h1.on hb, h2⟩
theorem newB_ok (cap meet : Int) (hc : cfg cap meet = true) (w : World) : Calls Try.prog 5 #[.agg #[.int .i64 cap, .int .i64 meet]] w fun e w' => ∃ B, e = .returned (.tuple #[.pointer (some ⟨B, 0, none⟩), .int .i64 0]) ∧ Nb w' B cap meet ∧ Below w.heap.size w w' := by
  refine (Go.Proofs.Ythdikkchblmebaa.new_any cap meet w).mono ?_
  rintro e w' (⟨h, _⟩ | ⟨_, B, b, rfl, ho⟩)
  · rw [h] at hc; cases hc
  · exact ⟨B, rfl, ⟨b, ho.bm, ho.num.1, ho.num.2.1, ho.num.2.2.1, ho.num.2.2.2, List.map_eq_nil_iff.1 ho.o1, List.map_eq_nil_iff.1 ho.o2⟩, ho.be⟩
theorem newB_no (cap meet : Int) (hc : cfg cap meet = false) (w : World) : Calls Try.prog 5 #[.agg #[.int .i64 cap, .int .i64 meet]] w fun e w' => e = .returned (.tuple #[.pointer none, .int .i64 1]) ∧ Below w.heap.size w w' := by
  refine (Go.Proofs.Ythdikkchblmebaa.new_any cap meet w).mono ?_
  rintro e w' (⟨_, h1, h2⟩ | ⟨h, _⟩)
  · exact ⟨h1, h2⟩
  · rw [h] at hc; cases hc
theorem book0 {w : World} {B : Nat} {cap meet : Int} (h : Nb w B cap meet) : Calls Try.prog 12 #[.pointer (some ⟨B, 0, none⟩)] w fun e w' => ∃ p q c d, e = .returned (.agg #[.int .i64 cap, .int .i64 meet, .slice p 0 c, .slice q 0 d, .int .u64 0, .int .u64 0]) ∧ Below w.heap.size w w' := by
  obtain ⟨b, hb, rfl, rfl, h3, h4, h5, h6⟩ := h
  refine (Go.Proofs.Ythdikkchblmebaa.book_any B b w hb (by rw [h5, h6]; simp)).mono ?_
  rintro e w' ⟨v1, v2, rfl, o1, o2, hw⟩
  obtain ⟨p, c, rfl⟩ := Cp.own_form o1
  obtain ⟨q, d, rfl⟩ := Cp.own_form o2
  refine ⟨p, q, c, d, ?_, hw⟩
  unfold bkv
  rw [h3, h4, h5, h6]
  rfl
theorem len0 {w : World} {B : Nat} {cap meet : Int} (h : Nb w B cap meet) : Calls Try.prog 13 #[.pointer (some ⟨B, 0, none⟩)] w fun e w' => e = .returned (.int .i64 0) ∧ Below w.heap.size w w' := by
  obtain ⟨b, hb, _, _, _, _, h5, h6⟩ := h
  refine (Go.Proofs.Ythdikkchblmebaa.len_any B b w hb (by rw [h5, h6]; simp)).mono ?_
  rintro e w' ⟨rfl, n, rfl⟩
  exact ⟨by rw [h5, h6]; rfl, Cp.bdrew _ _⟩
theorem osz_nil (w : World) (p : Option Addr) : Osz w p [] := fun i hi => by cases hi
theorem books0 (cap meet : Int) (p q : Option Addr) (c d : Nat) (w : World) : Calls Try.prog 11 #[.agg #[.int .i64 cap, .int .i64 meet, .slice p 0 c, .slice q 0 d, .int .u64 0, .int .u64 0], .agg #[.int .i64 cap, .int .i64 meet, .slice none 0 0, .slice none 0 0, .int .u64 0, .int .u64 0]] w fun e w' => e = .returned (.bool true) ∧ Below w.heap.size w w' :=
  Cp.books_same cap meet 0 0 [] [] p q none none c d 0 0 w (osz_nil _ _) (osz_nil _ _) (osz_nil _ _) (osz_nil _ _) (by decide) (by decide)
theorem _root_.Go.Proofs.Ythdikkchblmebaa.Cp.own_osz' {base m : Nat} {w : World} {p : Option Addr} {c : Nat} {os : List Rt} (hm : os.length = m) (h : w.ownsRow base 53 7 (.slice p m c) m (Cp.ors os)) : Osz w p os := by
  subst hm
  exact (Cp.own_osz h).1
theorem infoBk : (Try.prog.info? 30).map (·.size) = some 6 := by kernel_rfl
theorem infoCm : (Try.prog.info? 25).map (·.size) = some 9 := by kernel_rfl
theorem boOk_iff {cap meet : Int} {p1 q1 p2 q2 : Option Addr} {c1 d1 c2 d2 : Nat} {b s : List Rt} {high seq : Int} : BoOk ⟨cap, meet, p1, c1, b, p2, c2, s, high, seq⟩ ↔ BoOk ⟨cap, meet, q1, d1, b, q2, d2, s, high, seq⟩ :=
  ⟨fun h => ⟨h.cfg, h.few, h.sb, h.ss, h.apart, h.okb, h.oks, h.one⟩, fun h => ⟨h.cfg, h.few, h.sb, h.ss, h.apart, h.okb, h.oks, h.one⟩⟩
theorem checks_walk (x : Cm) (hx : CmOk x) (cap meet high seq : Int) (pb ps : Option Addr) (cb cs : Nat) (b s : List Rt) (w : World) (hb : Sl w pb cb b) (hs : Sl w ps cs s) (hw1 : ∀ i (hi : i < b.length), RtW b[i]) (hw2 : ∀ i (hi : i < s.length), RtW s[i]) :
    Calls Try.prog 3 #[.agg (cmr x), .agg #[.int .i64 cap, .int .i64 meet, .slice pb b.length cb, .slice ps s.length cs, .int .u64 high, .int .u64 seq]] w fun e w' => e = .returned (.bool true) ∧ Below w.heap.size w w' := by
  have CY := hid (fun (U : World) (hU : Below w.heap.size w U) => Cp.copy_any cap meet high seq pb ps cb cs b s U (hb.on hU) (hs.on hU))
  obtain ⟨k, hk⟩ : ∃ k, chk x = k := ⟨_, rfl⟩
  have CK := hid (fun (U : World) => Go.Proofs.Ythdikkchblmebaa.check_any x U hx)
  have DK := hid (fun (U : World) => Go.Proofs.Ythdikkchblmebaa.dcheck_any x U hx)
  rw [hk] at CK DK
  have ek : (k == k) = true := by simp
  have ekn : (k != k) = false := by simp
  have CK0 := hid (fun (U : World) => show Calls Try.prog 7 #[.agg #[.int .i64 0, .int .u64 0, .int .u64 0, .int .u32 0, .int .i64 0, .int .i64 0, .int .i64 0, .int .u64 0, .int .u64 0]] U fun e w' => e = .returned (.int .i64 90) ∧ Below U.heap.size U w' from Go.Proofs.Ythdikkchblmebaa.check_any ⟨0, 0, 0, 0, 0, 0, 0, 0, 0⟩ U ⟨by decide, by decide, by decide, by decide, by decide, by decide, by decide, by decide⟩)
  have CK2 := hid (fun (U : World) => show Calls Try.prog 7 #[.agg #[.int .i64 2, .int .u64 0, .int .u64 0, .int .u32 0, .int .i64 0, .int .i64 0, .int .i64 0, .int .u64 0, .int .u64 0]] U fun e w' => e = .returned (.int .i64 0) ∧ Below U.heap.size U w' from Go.Proofs.Ythdikkchblmebaa.check_any ⟨2, 0, 0, 0, 0, 0, 0, 0, 0⟩ U ⟨by decide, by decide, by decide, by decide, by decide, by decide, by decide, by decide⟩)
  obtain ⟨E, hE⟩ : ∃ E : Int, (BoOk ⟨cap, meet, pb, cb, b, ps, cs, s, high, seq⟩ ∧ E = 0) ∨ (¬ BoOk ⟨cap, meet, pb, cb, b, ps, cs, s, high, seq⟩ ∧ E = 120) := by
    by_cases h : BoOk ⟨cap, meet, pb, cb, b, ps, cs, s, high, seq⟩
    · exact ⟨0, .inl ⟨h, rfl⟩⟩
    · exact ⟨120, .inr ⟨h, rfl⟩⟩
  have eE : (E == E) = true := by simp
  have eEn : (E != E) = false := by simp
  have hy1 := hb.by'
  have hy2 := hs.by'
  have CV0 := hid (fun (U : World) (p1 p2 : Option Addr) (d1 d2 : Nat) (hp1 : Sr.Rz U p1 b) (hp2 : Sr.Rz U p2 s) => Sr.valid_any ⟨cap, meet, p1, d1, b, p2, d2, s, high, seq⟩ E (by rw [boOk_iff (q1 := pb) (d1 := cb) (q2 := ps) (d2 := cs)]; exact hE) U hp1 hp2 hw1 hw2 (by simp only; omega))
  unfold Sr.bor at CV0
  simp only at CV0
  have DV0 := hid (fun (U : World) (hU : Below w.heap.size w U) => Cp.dvalid_any cap meet pb ps cb cs b.length s.length b s high seq E hE U (hb.on hU).os' (hs.on hU).os' hb.nl hs.nl rfl rfl hw1 hw2 (by omega))
  have CB0' := hid (fun (U : World) (p1 p2 : Option Addr) (d1 d2 : Nat) (hU : Below w.heap.size w U) (hp1 : Osz U p1 b) (hp2 : Osz U p2 s) => Cp.books_same cap meet high seq b s p1 p2 pb ps d1 d2 cb cs U hp1 hp2 (hb.on hU).os' (hs.on hU).os' hb.len hs.len)
  have CB0 := hid (fun p q c d U => books0 cap meet p q c d U)
  have DN := hid (fun (U : World) => Go.Proofs.Ythdikkchblmebaa.dnew_any cap meet U)
  obtain ⟨kc, hkc⟩ : ∃ kc, cfg cap meet = kc := ⟨_, rfl⟩
  obtain ⟨n, hn⟩ : ∃ n, b.length = n := ⟨_, rfl⟩
  obtain ⟨m, hm⟩ : ∃ n, s.length = n := ⟨_, rfl⟩
  have HN := hid hn
  have HM := hid hm
  rw [hn] at CY CV0 DV0 CB0'
  rw [hm] at CY CV0 DV0 CB0'
  rw [hn, hm]
  have CN1 := hid (fun (h : kc = true) (U : World) => newB_ok cap meet (by rw [hkc]; exact h) U)
  have CN0 := hid (fun (h : kc = false) (U : World) => newB_no cap meet (by rw [hkc]; exact h) U)
  rw [hkc] at DN
  clear hk hE hw1 hw2 hb hs hn hm hy1 hy2 hkc hx
  obtain ⟨xkd, xid, xtg, xmb, xsd, xty, xpr, xqt, xpk⟩ := x
  unfold cmr at *
  dsimp only at CK DK ⊢
  obtain ⟨gC, hgC⟩ : ∃ g, w.heap.size = g := ⟨_, rfl⟩
  obtain ⟨U1, hU1⟩ : ∃ U, w.alloc (.cells #[.int .i64 xkd, .int .u64 xid, .int .u64 xtg, .int .u32 xmb, .int .i64 xsd, .int .i64 xty, .int .i64 xpr, .int .u64 xqt, .int .u64 xpk] 25) = U := ⟨_, rfl⟩
  obtain ⟨gB, hgB⟩ : ∃ g, U1.heap.size = g := ⟨_, rfl⟩
  obtain ⟨U2, hU2⟩ : ∃ U, U1.alloc (.cells #[.int .i64 cap, .int .i64 meet, .slice pb n cb, .slice ps m cs, .int .u64 high, .int .u64 seq] 30) = U := ⟨_, rfl⟩
  have HC1 := hid (show U2.heap[gC]? = some (.cells #[.int .i64 xkd, .int .u64 xid, .int .u64 xtg, .int .u32 xmb, .int .i64 xsd, .int .i64 xty, .int .i64 xpr, .int .u64 xqt, .int .u64 xpk] 25 (0, 0)) from by rw [← hU2]; exact row_on (by rw [← hU1, ← hgC]; exact World.alloc_heap_new _ _) (ball _ _))
  have HB1 := hid (show U2.heap[gB]? = some (.cells #[.int .i64 cap, .int .i64 meet, .slice pb n cb, .slice ps m cs, .int .u64 high, .int .u64 seq] 30 (0, 0)) from by rw [← hU2, ← hgB]; exact World.alloc_heap_new _ _)
  have BU2 := hid (show Below w.heap.size w U2 from by rw [← hU2, ← hU1]; exact btr (ball _ _) (ball _ _))
  obtain ⟨b0, b1, b2, b3, b4, b5⟩ := row6 HB1.out
  go_enter Try.func3, Try.ntmps3
  go_upto_region 1 with fail
  clear hgC hU1 hgB hU2
  go_upto_region 2 with (go_at_call 4; with_reducible refine (CY.out _ BU2.out).mono ?_; rintro e w1 ⟨pb2, ps2, cb2, cs2, rfl, h1, h2, h3⟩; have OX := hid h1; have OY := hid h2; have B1 := hid h3; clear h1 h2 h3; obtain ⟨gX, hgX⟩ : ∃ g, w1.heap.size = g := ⟨_, rfl⟩; obtain ⟨W2, hW2⟩ : ∃ W, w1.alloc (.cells #[.int .i64 cap, .int .i64 meet, .slice pb2 n cb2, .slice ps2 m cs2, .int .u64 high, .int .u64 seq] 30) = W := ⟨_, rfl⟩)
  have BW2 := hid (show Below U2.heap.size U2 W2 from btr B1.out (by rw [← hW2]; exact ball _ _))
  have HX2 := hid (show W2.heap[gX]? = some (.cells #[.int .i64 cap, .int .i64 meet, .slice pb2 n cb2, .slice ps2 m cs2, .int .u64 high, .int .u64 seq] 30 (0, 0)) from by rw [← hW2, ← hgX]; exact World.alloc_heap_new _ _)
  have OX2 := hid (show W2.ownsRow _ 53 7 _ n _ from Cp.own_on OX.out (by rw [← hW2]; exact ball _ _))
  have OY2 := hid (show W2.ownsRow _ 53 7 _ m _ from Cp.own_on OY.out (by rw [← hW2]; exact ball _ _))
  have HC2 := hid (row_on HC1.out BW2.out)
  have HB2 := hid (row_on HB1.out BW2.out)
  have BA2 := hid (btr BU2.out BW2.out)
  clear hgX hW2 OX OY B1 b0 b1 b2 b3 b4 b5
  obtain ⟨b0, b1, b2, b3, b4, b5⟩ := row6 HB2.out
  cases kc with
  | true =>
    have CN := hid (fun U => CN1.out rfl U)
    have DN1 := hid (fun (U : World) => show Calls Try.prog 6 #[.agg #[.int .i64 cap, .int .i64 meet]] U fun e w' => e = .returned (.tuple #[.agg #[.int .i64 cap, .int .i64 meet, .slice none 0 0, .slice none 0 0, .int .u64 0, .int .u64 0], .int .i64 0]) ∧ Below U.heap.size U w' from DN.out U)
    clear CN1 CN0 DN
    go_upto_region 3 with (go_at_call 5; with_reducible refine (CN.out _).mono ?_; rintro e w3 ⟨B, rfl, h1, h2⟩; have NB := hid h1; have B3 := hid h2; clear h1 h2)
    have HB3 := hid (row_on HB2.out B3.out)
    clear b0 b1 b2 b3 b4 b5
    obtain ⟨b0, b1, b2, b3, b4, b5⟩ := row6 HB3.out
    go_upto_region 4 with (first | (go_at_call 6; with_reducible refine (DN1.out _).mono ?_; rintro e w4 ⟨rfl, h2⟩; have B4 := hid h2; clear h2; obtain ⟨gD, hgD⟩ : ∃ g, w4.heap.size = g := ⟨_, rfl⟩; obtain ⟨W4, hW4⟩ : ∃ W, w4.alloc (.cells #[.int .i64 0, .int .i64 0, .slice none 0 0, .slice none 0 0, .int .u64 0, .int .u64 0] 30) = W := ⟨_, rfl⟩; obtain ⟨W5, hW5⟩ : ∃ W, W4.setRow gD #[.int .i64 cap, .int .i64 meet, .slice none 0 0, .slice none 0 0, .int .u64 0, .int .u64 0] = W := ⟨_, rfl⟩; have ZD := hid (show W4.heap[gD]? = some (.cells #[.int .i64 0, .int .i64 0, .slice none 0 0, .slice none 0 0, .int .u64 0, .int .u64 0] 30 (0, 0)) from by rw [← hW4, ← hgD]; exact World.alloc_heap_new _ _)) | (refine wpList_store_row (by rfl) 30 (.tmp 8) (.tmp 22) (by rfl) gD #[.int .i64 cap, .int .i64 meet, .slice none 0 0, .slice none 0 0, .int .u64 0, .int .u64 0] (by rfl) (by rfl) 30 _ ZD.out infoBk (by rfl) (by simp [Value.oneCell']) ?_; rw [hW5]))
    have B5 := hid (show Below w4.heap.size w4 W5 from by rw [← hW5]; exact Cp.setRow_below (by rw [← hW4]; exact ball _ _) (Nat.le_of_eq hgD))
    have HD5 := hid (show W5.heap[gD]? = some (.cells #[.int .i64 cap, .int .i64 meet, .slice none 0 0, .slice none 0 0, .int .u64 0, .int .u64 0] 30 (0, 0)) from by rw [← hW5]; exact setRow_heap _ _ _ _ 30 (0, 0) ZD.out)
    have BW5 := hid (btr (btr B3.out B4.out) B5.out)
    have HC5 := hid (row_on HC2.out BW5.out)
    have HB5 := hid (row_on HB2.out BW5.out)
    have HX5 := hid (row_on HX2.out BW5.out)
    have OX5 := hid (Cp.own_on OX2.out BW5.out)
    have OY5 := hid (Cp.own_on OY2.out BW5.out)
    have BA5 := hid (btr BA2.out BW5.out)
    have CV := hid (fun (U : World) (hU : Below w.heap.size w U) (h5 : Below W5.heap.size W5 U) => CV0.out U pb2 ps2 cb2 cs2 (Cp.own_rz HN.out (Cp.own_on OX5.out h5)) (Cp.own_rz HM.out (Cp.own_on OY5.out h5)))
    have DV := hid (fun (U : World) (hU : Below w.heap.size w U) (h5 : Below W5.heap.size W5 U) => DV0.out U hU)
    have CB := hid (fun (U : World) (hU : Below w.heap.size w U) (h5 : Below W5.heap.size W5 U) => CB0'.out U pb2 ps2 cb2 cs2 hU (Cp.own_osz' HN.out (Cp.own_on OX5.out h5)) (Cp.own_osz' HM.out (Cp.own_on OY5.out h5)))
    have BQ5 := hid (Below.refl W5.heap.size W5)
    clear hgD hW4 hW5 ZD b0 b1 b2 b3 b4 b5 HC1 HB1 HC2 HB2 HX2 OX2 OY2 HB3
    have NB5 := hid (NB.out.on (btr B4.out B5.out))
    obtain ⟨V1, hV1⟩ : ∃ U, W5.drew = U := ⟨_, rfl⟩
    have bV1 := hid (show Below W5.heap.size W5 V1 from by rw [← hV1]; exact bdrew1 _)
    have DV1 := hid (btr BQ5.out bV1.out)
    have r2 := hid (row_on HC5.out bV1.out)
    have r3 := hid (row_on HB5.out bV1.out)
    have r4 := hid (row_on HX5.out bV1.out)
    have r5 := hid (row_on HD5.out bV1.out)
    refine wp_region_held_drew (S := (fun U => U.cell? ⟨gC, 0, none⟩ = some (.int .i64 xkd) ∧ U.cell? ⟨gC, 1, none⟩ = some (.int .u64 xid) ∧ U.cell? ⟨gC, 2, none⟩ = some (.int .u64 xtg) ∧ U.cell? ⟨gC, 3, none⟩ = some (.int .u32 xmb) ∧ U.cell? ⟨gC, 4, none⟩ = some (.int .i64 xsd) ∧ U.cell? ⟨gC, 5, none⟩ = some (.int .i64 xty) ∧ U.cell? ⟨gC, 6, none⟩ = some (.int .i64 xpr) ∧ U.cell? ⟨gC, 7, none⟩ = some (.int .u64 xqt) ∧ U.cell? ⟨gC, 8, none⟩ = some (.int .u64 xpk) ∧ U.cell? ⟨gB, 0, none⟩ = some (.int .i64 cap) ∧ U.cell? ⟨gB, 1, none⟩ = some (.int .i64 meet) ∧ U.cell? ⟨gB, 2, none⟩ = some (.slice pb n cb) ∧ U.cell? ⟨gB, 3, none⟩ = some (.slice ps m cs) ∧ U.cell? ⟨gB, 4, none⟩ = some (.int .u64 high) ∧ U.cell? ⟨gB, 5, none⟩ = some (.int .u64 seq) ∧ U.cell? ⟨gX, 0, none⟩ = some (.int .i64 cap) ∧ U.cell? ⟨gX, 1, none⟩ = some (.int .i64 meet) ∧ U.cell? ⟨gX, 2, none⟩ = some (.slice pb2 n cb2) ∧ U.cell? ⟨gX, 3, none⟩ = some (.slice ps2 m cs2) ∧ U.cell? ⟨gX, 4, none⟩ = some (.int .u64 high) ∧ U.cell? ⟨gX, 5, none⟩ = some (.int .u64 seq))) (by kernel_rfl) ?_ (fun hHeld => ?_)
    · (try dsimp only); rw [hV1]; exact ⟨row_cell r2.out 0, row_cell r2.out 1, row_cell r2.out 2, row_cell r2.out 3, row_cell r2.out 4, row_cell r2.out 5, row_cell r2.out 6, row_cell r2.out 7, row_cell r2.out 8, row_cell r3.out 0, row_cell r3.out 1, row_cell r3.out 2, row_cell r3.out 3, row_cell r3.out 4, row_cell r3.out 5, row_cell r4.out 0, row_cell r4.out 1, row_cell r4.out 2, row_cell r4.out 3, row_cell r4.out 4, row_cell r4.out 5⟩
    rw [hV1] at hHeld ⊢
    clear hV1
    refine' wpAnyH_take (i := 0) (oi := _) (v := _) rfl (by kernel_rfl) (by kernel_rfl) (by kernel_rfl) (fun _ _ _ h => h) (Or.inl ⟨by kernel_rfl, ?_⟩) (by assumption) ?_
    rotate_left
    · (intro w hSw; (try dsimp only at hSw); go_simp; try (with_reducible rfl))
    try simp only [List.getElem_toArray, List.getElem_cons_succ, List.getElem_cons_zero, Act.put, List.setIfInBounds_toArray, List.set_cons_zero, List.set_cons_succ]
    refine' wpAnyH_take (i := 2) (oi := _) (v := _) rfl (by kernel_rfl) (by kernel_rfl) (by kernel_rfl) (fun _ _ _ h => h) (Or.inl ⟨by kernel_rfl, ?_⟩) (by assumption) ?_
    rotate_left
    · (intro w hSw; (try dsimp only at hSw); go_simp; try (with_reducible rfl))
    try simp only [List.getElem_toArray, List.getElem_cons_succ, List.getElem_cons_zero, Act.put, List.setIfInBounds_toArray, List.set_cons_zero, List.set_cons_succ]
    refine wpAnyH_ready (rs := [1]) (by kernel_rfl) (by simp) ?_
    refine (AllReadyH.cons (o := _) rfl (fun K hK => ?_) AllReadyH.nil)
    go_simp
    go_at_call 7
    with_reducible refine (CK.out V1).mono ?_
    rintro e X6 ⟨rfl, cX6⟩
    have bX6 := hid cX6
    clear cX6
    have DX6 := hid (btr DV1.out bX6.out)
    have r7 := hid (row_on r2.out bX6.out)
    have r8 := hid (row_on r3.out bX6.out)
    have r9 := hid (row_on r4.out bX6.out)
    have r10 := hid (row_on r5.out bX6.out)
    (try go_wp2_with fail)
    refine hK.out _ _ ?_ (fun hHeld => ?_)
    · (try dsimp only); exact ⟨row_cell r7.out 0, row_cell r7.out 1, row_cell r7.out 2, row_cell r7.out 3, row_cell r7.out 4, row_cell r7.out 5, row_cell r7.out 6, row_cell r7.out 7, row_cell r7.out 8, row_cell r8.out 0, row_cell r8.out 1, row_cell r8.out 2, row_cell r8.out 3, row_cell r8.out 4, row_cell r8.out 5, row_cell r9.out 0, row_cell r9.out 1, row_cell r9.out 2, row_cell r9.out 3, row_cell r9.out 4, row_cell r9.out 5⟩
    clear hK K
    try simp only [List.getElem_toArray, List.getElem_cons_succ, List.getElem_cons_zero, Act.put, List.setIfInBounds_toArray, List.set_cons_zero, List.set_cons_succ]
    refine wpAnyH_ready (rs := [3]) (by kernel_rfl) (by simp) ?_
    refine (AllReadyH.cons (o := _) rfl (fun K hK => ?_) AllReadyH.nil)
    go_simp
    go_at_call 8
    with_reducible refine (DK.out X6).mono ?_
    rintro e X11 ⟨rfl, cX11⟩
    have bX11 := hid cX11
    clear cX11
    have DX11 := hid (btr DX6.out bX11.out)
    have r12 := hid (row_on r7.out bX11.out)
    have r13 := hid (row_on r8.out bX11.out)
    have r14 := hid (row_on r9.out bX11.out)
    have r15 := hid (row_on r10.out bX11.out)
    (try go_wp2_with fail)
    refine hK.out _ _ ?_ (fun hHeld => ?_)
    · (try dsimp only); exact ⟨row_cell r12.out 0, row_cell r12.out 1, row_cell r12.out 2, row_cell r12.out 3, row_cell r12.out 4, row_cell r12.out 5, row_cell r12.out 6, row_cell r12.out 7, row_cell r12.out 8, row_cell r13.out 0, row_cell r13.out 1, row_cell r13.out 2, row_cell r13.out 3, row_cell r13.out 4, row_cell r13.out 5, row_cell r14.out 0, row_cell r14.out 1, row_cell r14.out 2, row_cell r14.out 3, row_cell r14.out 4, row_cell r14.out 5⟩
    clear hK K
    try simp only [List.getElem_toArray, List.getElem_cons_succ, List.getElem_cons_zero, Act.put, List.setIfInBounds_toArray, List.set_cons_zero, List.set_cons_succ]
    refine' wpAnyH_take (i := 4) (oi := _) (v := _) rfl (by kernel_rfl) (by kernel_rfl) (by kernel_rfl) (fun _ _ _ h => h) (Or.inl ⟨by kernel_rfl, ?_⟩) (by assumption) ?_
    rotate_left
    · (intro w hSw; (try dsimp only at hSw); go_simp; try (with_reducible rfl))
    try simp only [List.getElem_toArray, List.getElem_cons_succ, List.getElem_cons_zero, Act.put, List.setIfInBounds_toArray, List.set_cons_zero, List.set_cons_succ]
    refine' wpAnyH_take (i := 5) (oi := _) (v := _) rfl (by kernel_rfl) (by kernel_rfl) (by kernel_rfl) (fun _ _ _ h => h) (Or.inl ⟨by kernel_rfl, ?_⟩) (by assumption) ?_
    rotate_left
    · (intro w hSw; (try dsimp only at hSw); go_simp; try (with_reducible rfl))
    try simp only [List.getElem_toArray, List.getElem_cons_succ, List.getElem_cons_zero, Act.put, List.setIfInBounds_toArray, List.set_cons_zero, List.set_cons_succ]
    refine' wpAnyH_take (i := 6) (oi := _) (v := _) rfl (by kernel_rfl) (by kernel_rfl) (by kernel_rfl) (fun _ _ _ h => h) (Or.inl ⟨by kernel_rfl, ?_⟩) (by assumption) ?_
    rotate_left
    · (intro w hSw; (try dsimp only at hSw); go_simp; try (with_reducible rfl))
    try simp only [List.getElem_toArray, List.getElem_cons_succ, List.getElem_cons_zero, Act.put, List.setIfInBounds_toArray, List.set_cons_zero, List.set_cons_succ]
    refine' wpAnyH_take (i := 8) (oi := _) (v := _) rfl (by kernel_rfl) (by kernel_rfl) (by kernel_rfl) (fun _ _ _ h => h) (Or.inl ⟨by kernel_rfl, ?_⟩) (by assumption) ?_
    rotate_left
    · (intro w hSw; (try dsimp only at hSw); go_simp; try (with_reducible rfl))
    try simp only [List.getElem_toArray, List.getElem_cons_succ, List.getElem_cons_zero, Act.put, List.setIfInBounds_toArray, List.set_cons_zero, List.set_cons_succ]
    refine wpAnyH_ready (rs := [7]) (by kernel_rfl) (by simp) ?_
    refine (AllReadyH.cons (o := _) rfl (fun K hK => ?_) AllReadyH.nil)
    go_simp
    go_at_call 9
    with_reducible refine (CV.out X11 (btr BA5.out DX11.out) DX11.out).mono ?_
    rintro e X16 ⟨rfl, cX16⟩
    have bX16 := hid cX16
    clear cX16
    have DX16 := hid (btr DX11.out bX16.out)
    have r17 := hid (row_on r12.out bX16.out)
    have r18 := hid (row_on r13.out bX16.out)
    have r19 := hid (row_on r14.out bX16.out)
    have r20 := hid (row_on r15.out bX16.out)
    (try go_wp2_with fail)
    refine hK.out _ _ ?_ (fun hHeld => ?_)
    · (try dsimp only); exact ⟨row_cell r17.out 0, row_cell r17.out 1, row_cell r17.out 2, row_cell r17.out 3, row_cell r17.out 4, row_cell r17.out 5, row_cell r17.out 6, row_cell r17.out 7, row_cell r17.out 8, row_cell r18.out 0, row_cell r18.out 1, row_cell r18.out 2, row_cell r18.out 3, row_cell r18.out 4, row_cell r18.out 5, row_cell r19.out 0, row_cell r19.out 1, row_cell r19.out 2, row_cell r19.out 3, row_cell r19.out 4, row_cell r19.out 5⟩
    clear hK K
    try simp only [List.getElem_toArray, List.getElem_cons_succ, List.getElem_cons_zero, Act.put, List.setIfInBounds_toArray, List.set_cons_zero, List.set_cons_succ]
    refine wpAnyH_ready (rs := [9]) (by kernel_rfl) (by simp) ?_
    refine (AllReadyH.cons (o := _) rfl (fun K hK => ?_) AllReadyH.nil)
    go_simp
    go_at_call 10
    with_reducible refine (DV.out X16 (btr BA5.out DX16.out) DX16.out).mono ?_
    rintro e X21 ⟨rfl, cX21⟩
    have bX21 := hid cX21
    clear cX21
    have DX21 := hid (btr DX16.out bX21.out)
    have r22 := hid (row_on r17.out bX21.out)
    have r23 := hid (row_on r18.out bX21.out)
    have r24 := hid (row_on r19.out bX21.out)
    have r25 := hid (row_on r20.out bX21.out)
    (try go_wp2_with fail)
    refine hK.out _ _ ?_ (fun hHeld => ?_)
    · (try dsimp only); exact ⟨row_cell r22.out 0, row_cell r22.out 1, row_cell r22.out 2, row_cell r22.out 3, row_cell r22.out 4, row_cell r22.out 5, row_cell r22.out 6, row_cell r22.out 7, row_cell r22.out 8, row_cell r23.out 0, row_cell r23.out 1, row_cell r23.out 2, row_cell r23.out 3, row_cell r23.out 4, row_cell r23.out 5, row_cell r24.out 0, row_cell r24.out 1, row_cell r24.out 2, row_cell r24.out 3, row_cell r24.out 4, row_cell r24.out 5⟩
    clear hK K
    try simp only [List.getElem_toArray, List.getElem_cons_succ, List.getElem_cons_zero, Act.put, List.setIfInBounds_toArray, List.set_cons_zero, List.set_cons_succ]
    refine' wpAnyH_take (i := 10) (oi := _) (v := _) rfl (by kernel_rfl) (by kernel_rfl) (by kernel_rfl) (fun _ _ _ h => h) (Or.inl ⟨by kernel_rfl, ?_⟩) (by assumption) ?_
    rotate_left
    · (intro w hSw; (try dsimp only at hSw); go_simp; try (with_reducible rfl))
    try simp only [List.getElem_toArray, List.getElem_cons_succ, List.getElem_cons_zero, Act.put, List.setIfInBounds_toArray, List.set_cons_zero, List.set_cons_succ]
    refine' wpAnyH_take (i := 11) (oi := _) (v := _) rfl (by kernel_rfl) (by kernel_rfl) (by kernel_rfl) (fun _ _ _ h => h) (Or.inl ⟨by kernel_rfl, ?_⟩) (by assumption) ?_
    rotate_left
    · (intro w hSw; (try dsimp only at hSw); go_simp; try (with_reducible rfl))
    try simp only [List.getElem_toArray, List.getElem_cons_succ, List.getElem_cons_zero, Act.put, List.setIfInBounds_toArray, List.set_cons_zero, List.set_cons_succ]
    refine' wpAnyH_take (i := 12) (oi := _) (v := _) rfl (by kernel_rfl) (by kernel_rfl) (by kernel_rfl) (fun _ _ _ h => h) (Or.inl ⟨by kernel_rfl, ?_⟩) (by assumption) ?_
    rotate_left
    · (intro w hSw; (try dsimp only at hSw); go_simp; try (with_reducible rfl))
    try simp only [List.getElem_toArray, List.getElem_cons_succ, List.getElem_cons_zero, Act.put, List.setIfInBounds_toArray, List.set_cons_zero, List.set_cons_succ]
    refine' wpAnyH_take (i := 13) (oi := _) (v := _) rfl (by kernel_rfl) (by kernel_rfl) (by kernel_rfl) (fun _ _ _ h => h) (Or.inl ⟨by kernel_rfl, ?_⟩) (by assumption) ?_
    rotate_left
    · (intro w hSw; (try dsimp only at hSw); go_simp; try (with_reducible rfl))
    try simp only [List.getElem_toArray, List.getElem_cons_succ, List.getElem_cons_zero, Act.put, List.setIfInBounds_toArray, List.set_cons_zero, List.set_cons_succ]
    refine' wpAnyH_take (i := 14) (oi := _) (v := _) rfl (by kernel_rfl) (by kernel_rfl) (by kernel_rfl) (fun _ _ _ h => h) (Or.inl ⟨by kernel_rfl, ?_⟩) (by assumption) ?_
    rotate_left
    · (intro w hSw; (try dsimp only at hSw); go_simp; try (with_reducible rfl))
    try simp only [List.getElem_toArray, List.getElem_cons_succ, List.getElem_cons_zero, Act.put, List.setIfInBounds_toArray, List.set_cons_zero, List.set_cons_succ]
    refine wpAnyH_ready (rs := [15]) (by kernel_rfl) (by simp) ?_
    refine (AllReadyH.cons (o := _) rfl (fun K hK => ?_) AllReadyH.nil)
    go_simp
    go_at_call 11
    with_reducible refine (CB.out X21 (btr BA5.out DX21.out) DX21.out).mono ?_
    rintro e X26 ⟨rfl, cX26⟩
    have bX26 := hid cX26
    clear cX26
    have DX26 := hid (btr DX21.out bX26.out)
    have r27 := hid (row_on r22.out bX26.out)
    have r28 := hid (row_on r23.out bX26.out)
    have r29 := hid (row_on r24.out bX26.out)
    have r30 := hid (row_on r25.out bX26.out)
    (try go_wp2_with fail)
    refine hK.out _ _ ?_ (fun hHeld => ?_)
    · (try dsimp only); exact ⟨row_cell r27.out 0, row_cell r27.out 1, row_cell r27.out 2, row_cell r27.out 3, row_cell r27.out 4, row_cell r27.out 5, row_cell r27.out 6, row_cell r27.out 7, row_cell r27.out 8, row_cell r28.out 0, row_cell r28.out 1, row_cell r28.out 2, row_cell r28.out 3, row_cell r28.out 4, row_cell r28.out 5, row_cell r29.out 0, row_cell r29.out 1, row_cell r29.out 2, row_cell r29.out 3, row_cell r29.out 4, row_cell r29.out 5⟩
    clear hK K
    try simp only [List.getElem_toArray, List.getElem_cons_succ, List.getElem_cons_zero, Act.put, List.setIfInBounds_toArray, List.set_cons_zero, List.set_cons_succ]
    refine' wpAnyH_take (i := 16) (oi := _) (v := _) rfl (by kernel_rfl) (by kernel_rfl) (by kernel_rfl) (fun _ _ _ h => h) (Or.inl ⟨by kernel_rfl, ?_⟩) (by assumption) ?_
    rotate_left
    · (intro w hSw; (try dsimp only at hSw); go_simp; try (with_reducible rfl))
    try simp only [List.getElem_toArray, List.getElem_cons_succ, List.getElem_cons_zero, Act.put, List.setIfInBounds_toArray, List.set_cons_zero, List.set_cons_succ]
    refine' wpAnyH_take (i := 17) (oi := _) (v := _) rfl (by kernel_rfl) (by kernel_rfl) (by kernel_rfl) (fun _ _ _ h => h) (Or.inl ⟨by kernel_rfl, ?_⟩) (by assumption) ?_
    rotate_left
    · (intro w hSw; (try dsimp only at hSw); go_simp; try (with_reducible rfl))
    try simp only [List.getElem_toArray, List.getElem_cons_succ, List.getElem_cons_zero, Act.put, List.setIfInBounds_toArray, List.set_cons_zero, List.set_cons_succ]
    refine' wpAnyH_take (i := 18) (oi := _) (v := _) rfl (by kernel_rfl) (by kernel_rfl) (by kernel_rfl) (fun _ _ _ h => h) (Or.inl ⟨by kernel_rfl, ?_⟩) (by assumption) ?_
    rotate_left
    · (intro w hSw; (try dsimp only at hSw); go_simp; try (with_reducible rfl))
    try simp only [List.getElem_toArray, List.getElem_cons_succ, List.getElem_cons_zero, Act.put, List.setIfInBounds_toArray, List.set_cons_zero, List.set_cons_succ]
    refine' wpAnyH_take (i := 19) (oi := _) (v := _) rfl (by kernel_rfl) (by kernel_rfl) (by kernel_rfl) (fun _ _ _ h => h) (Or.inl ⟨by kernel_rfl, ?_⟩) (by assumption) ?_
    rotate_left
    · (intro w hSw; (try dsimp only at hSw); go_simp; try (with_reducible rfl))
    try simp only [List.getElem_toArray, List.getElem_cons_succ, List.getElem_cons_zero, Act.put, List.setIfInBounds_toArray, List.set_cons_zero, List.set_cons_succ]
    refine' wpAnyH_take (i := 20) (oi := _) (v := _) rfl (by kernel_rfl) (by kernel_rfl) (by kernel_rfl) (fun _ _ _ h => h) (Or.inl ⟨by kernel_rfl, ?_⟩) (by assumption) ?_
    rotate_left
    · (intro w hSw; (try dsimp only at hSw); go_simp; try (with_reducible rfl))
    try simp only [List.getElem_toArray, List.getElem_cons_succ, List.getElem_cons_zero, Act.put, List.setIfInBounds_toArray, List.set_cons_zero, List.set_cons_succ]
    refine' wpAnyH_take (i := 21) (oi := _) (v := _) rfl (by kernel_rfl) (by kernel_rfl) (by kernel_rfl) (fun _ _ _ h => h) (Or.inl ⟨by kernel_rfl, ?_⟩) (by assumption) ?_
    rotate_left
    · (intro w hSw; (try dsimp only at hSw); go_simp; try (with_reducible rfl))
    try simp only [List.getElem_toArray, List.getElem_cons_succ, List.getElem_cons_zero, Act.put, List.setIfInBounds_toArray, List.set_cons_zero, List.set_cons_succ]
    refine' wpAnyH_take (i := 22) (oi := _) (v := _) rfl (by kernel_rfl) (by kernel_rfl) (by kernel_rfl) (fun _ _ _ h => h) (Or.inl ⟨by kernel_rfl, ?_⟩) (by assumption) ?_
    rotate_left
    · (intro w hSw; (try dsimp only at hSw); go_simp; try (with_reducible rfl))
    try simp only [List.getElem_toArray, List.getElem_cons_succ, List.getElem_cons_zero, Act.put, List.setIfInBounds_toArray, List.set_cons_zero, List.set_cons_succ]
    refine' wpAnyH_take (i := 23) (oi := _) (v := _) rfl (by kernel_rfl) (by kernel_rfl) (by kernel_rfl) (fun _ _ _ h => h) (Or.inl ⟨by kernel_rfl, ?_⟩) (by assumption) ?_
    rotate_left
    · (intro w hSw; (try dsimp only at hSw); go_simp; try (with_reducible rfl))
    try simp only [List.getElem_toArray, List.getElem_cons_succ, List.getElem_cons_zero, Act.put, List.setIfInBounds_toArray, List.set_cons_zero, List.set_cons_succ]
    refine' wpAnyH_take (i := 24) (oi := _) (v := _) rfl (by kernel_rfl) (by kernel_rfl) (by kernel_rfl) (fun _ _ _ h => h) (Or.inl ⟨by kernel_rfl, ?_⟩) (by assumption) ?_
    rotate_left
    · (intro w hSw; (try dsimp only at hSw); go_simp; try (with_reducible rfl))
    try simp only [List.getElem_toArray, List.getElem_cons_succ, List.getElem_cons_zero, Act.put, List.setIfInBounds_toArray, List.set_cons_zero, List.set_cons_succ]
    refine' wpAnyH_take (i := 25) (oi := _) (v := _) rfl (by kernel_rfl) (by kernel_rfl) (by kernel_rfl) (fun _ _ _ h => h) (Or.inl ⟨by kernel_rfl, ?_⟩) (by assumption) ?_
    rotate_left
    · (intro w hSw; (try dsimp only at hSw); go_simp; try (with_reducible rfl))
    try simp only [List.getElem_toArray, List.getElem_cons_succ, List.getElem_cons_zero, Act.put, List.setIfInBounds_toArray, List.set_cons_zero, List.set_cons_succ]
    refine' wpAnyH_take (i := 26) (oi := _) (v := _) rfl (by kernel_rfl) (by kernel_rfl) (by kernel_rfl) (fun _ _ _ h => h) (Or.inl ⟨by kernel_rfl, ?_⟩) (by assumption) ?_
    rotate_left
    · (intro w hSw; (try dsimp only at hSw); go_simp; try (with_reducible rfl))
    try simp only [List.getElem_toArray, List.getElem_cons_succ, List.getElem_cons_zero, Act.put, List.setIfInBounds_toArray, List.set_cons_zero, List.set_cons_succ]
    refine' wpAnyH_take (i := 27) (oi := _) (v := _) rfl (by kernel_rfl) (by kernel_rfl) (by kernel_rfl) (fun _ _ _ h => h) (Or.inl ⟨by kernel_rfl, ?_⟩) (by assumption) ?_
    rotate_left
    · (intro w hSw; (try dsimp only at hSw); go_simp; try (with_reducible rfl))
    try simp only [List.getElem_toArray, List.getElem_cons_succ, List.getElem_cons_zero, Act.put, List.setIfInBounds_toArray, List.set_cons_zero, List.set_cons_succ]
    refine' wpAnyH_take (i := 28) (oi := _) (v := _) rfl (by kernel_rfl) (by kernel_rfl) (by kernel_rfl) (fun _ _ _ h => h) (Or.inl ⟨by kernel_rfl, ?_⟩) (by assumption) ?_
    rotate_left
    · (intro w hSw; (try dsimp only at hSw); go_simp; try (with_reducible rfl))
    try simp only [List.getElem_toArray, List.getElem_cons_succ, List.getElem_cons_zero, Act.put, List.setIfInBounds_toArray, List.set_cons_zero, List.set_cons_succ]
    refine' wpAnyH_take (i := 29) (oi := _) (v := _) rfl (by kernel_rfl) (by kernel_rfl) (by kernel_rfl) (fun _ _ _ h => h) (Or.inl ⟨by kernel_rfl, ?_⟩) (by assumption) ?_
    rotate_left
    · (intro w hSw; (try dsimp only at hSw); go_simp; try (with_reducible rfl))
    try simp only [List.getElem_toArray, List.getElem_cons_succ, List.getElem_cons_zero, Act.put, List.setIfInBounds_toArray, List.set_cons_zero, List.set_cons_succ]
    refine wpAnyH_done (by kernel_rfl) ?_ _
    have BZ := hid DX26.out
    have HD4 := hid r30.out
    obtain ⟨V5, hV5⟩ : ∃ V, X26 = V := ⟨_, rfl⟩
    rw [hV5] at BZ HD4 ⊢
    have BV := hid (btr BA5.out BZ.out)
    clear hV5
    go_upto_region 6 with fail
    have NB6 := hid (NB5.out.on BZ.out)
    have CBK := hid (fun (U : World) (hU : Below V5.heap.size V5 U) => book0 (NB6.out.on hU))
    have CLN := hid (fun (U : World) (hU : Below V5.heap.size V5 U) => len0 (NB6.out.on hU))
    have BR6 := hid (Below.refl V5.heap.size V5)
    obtain ⟨V61, hV61⟩ : ∃ U, V5.drew = U := ⟨_, rfl⟩
    have bV61 := hid (show Below V5.heap.size V5 V61 from by rw [← hV61]; exact bdrew1 _)
    have DV61 := hid (btr BR6.out bV61.out)
    have r62 := hid (row_on HD4.out bV61.out)
    refine wp_region_held_drew (S := (fun U => U.cell? ⟨gD, 0, none⟩ = some (.int .i64 cap) ∧ U.cell? ⟨gD, 1, none⟩ = some (.int .i64 meet) ∧ U.cell? ⟨gD, 2, none⟩ = some (.slice none 0 0) ∧ U.cell? ⟨gD, 3, none⟩ = some (.slice none 0 0) ∧ U.cell? ⟨gD, 4, none⟩ = some (.int .u64 0) ∧ U.cell? ⟨gD, 5, none⟩ = some (.int .u64 0))) (by kernel_rfl) ?_ (fun hHeld => ?_)
    · (try dsimp only); rw [hV61]; exact ⟨row_cell r62.out 0, row_cell r62.out 1, row_cell r62.out 2, row_cell r62.out 3, row_cell r62.out 4, row_cell r62.out 5⟩
    rw [hV61] at hHeld ⊢
    clear hV61
    refine' wpAnyH_take (i := 0) (oi := _) (v := _) rfl (by kernel_rfl) (by kernel_rfl) (by kernel_rfl) (fun _ _ _ h => h) (Or.inl ⟨by kernel_rfl, ?_⟩) (by assumption) ?_
    rotate_left
    · (intro w hSw; (try dsimp only at hSw); go_simp; try (with_reducible rfl))
    try simp only [List.getElem_toArray, List.getElem_cons_succ, List.getElem_cons_zero, Act.put, List.setIfInBounds_toArray, List.set_cons_zero, List.set_cons_succ]
    refine' wpAnyH_take (i := 1) (oi := _) (v := _) rfl (by kernel_rfl) (by kernel_rfl) (by kernel_rfl) (fun _ _ _ h => h) (Or.inl ⟨by kernel_rfl, ?_⟩) (by assumption) ?_
    rotate_left
    · (intro w hSw; (try dsimp only at hSw); go_simp; try (with_reducible rfl))
    try simp only [List.getElem_toArray, List.getElem_cons_succ, List.getElem_cons_zero, Act.put, List.setIfInBounds_toArray, List.set_cons_zero, List.set_cons_succ]
    refine' wpAnyH_take (i := 2) (oi := _) (v := _) rfl (by kernel_rfl) (by kernel_rfl) (by kernel_rfl) (fun _ _ _ h => h) (Or.inl ⟨by kernel_rfl, ?_⟩) (by assumption) ?_
    rotate_left
    · (intro w hSw; (try dsimp only at hSw); go_simp; try (with_reducible rfl))
    try simp only [List.getElem_toArray, List.getElem_cons_succ, List.getElem_cons_zero, Act.put, List.setIfInBounds_toArray, List.set_cons_zero, List.set_cons_succ]
    refine' wpAnyH_take (i := 3) (oi := _) (v := _) rfl (by kernel_rfl) (by kernel_rfl) (by kernel_rfl) (fun _ _ _ h => h) (Or.inl ⟨by kernel_rfl, ?_⟩) (by assumption) ?_
    rotate_left
    · (intro w hSw; (try dsimp only at hSw); go_simp; try (with_reducible rfl))
    try simp only [List.getElem_toArray, List.getElem_cons_succ, List.getElem_cons_zero, Act.put, List.setIfInBounds_toArray, List.set_cons_zero, List.set_cons_succ]
    refine' wpAnyH_take (i := 5) (oi := _) (v := _) rfl (by kernel_rfl) (by kernel_rfl) (by kernel_rfl) (fun _ _ _ h => h) (Or.inl ⟨by kernel_rfl, ?_⟩) (by assumption) ?_
    rotate_left
    · (intro w hSw; (try dsimp only at hSw); go_simp; try (with_reducible rfl))
    try simp only [List.getElem_toArray, List.getElem_cons_succ, List.getElem_cons_zero, Act.put, List.setIfInBounds_toArray, List.set_cons_zero, List.set_cons_succ]
    refine wpAnyH_ready (rs := [4]) (by kernel_rfl) (by simp) ?_
    refine (AllReadyH.cons (o := _) rfl (fun K hK => ?_) AllReadyH.nil)
    go_simp
    go_at_call 12
    with_reducible refine (CBK.out V61 DV61.out).mono ?_
    rintro e X63 ⟨p9, q9, c9, d9, rfl, cX63⟩
    have bX63 := hid cX63
    clear cX63
    have DX63 := hid (btr DV61.out bX63.out)
    have r64 := hid (row_on r62.out bX63.out)
    (try go_wp2_with fail)
    refine hK.out _ _ ?_ (fun hHeld => ?_)
    · (try dsimp only); exact ⟨row_cell r64.out 0, row_cell r64.out 1, row_cell r64.out 2, row_cell r64.out 3, row_cell r64.out 4, row_cell r64.out 5⟩
    clear hK K
    try simp only [List.getElem_toArray, List.getElem_cons_succ, List.getElem_cons_zero, Act.put, List.setIfInBounds_toArray, List.set_cons_zero, List.set_cons_succ]
    refine wpAnyH_ready (rs := [6]) (by kernel_rfl) (by simp) ?_
    refine (AllReadyH.cons (o := _) rfl (fun K hK => ?_) AllReadyH.nil)
    go_simp
    go_at_call 11
    with_reducible refine (CB0.out p9 q9 c9 d9 X63).mono ?_
    rintro e X65 ⟨rfl, cX65⟩
    have bX65 := hid cX65
    clear cX65
    have DX65 := hid (btr DX63.out bX65.out)
    have r66 := hid (row_on r64.out bX65.out)
    (try go_wp2_with fail)
    refine hK.out _ _ ?_ (fun hHeld => ?_)
    · (try dsimp only); exact ⟨row_cell r66.out 0, row_cell r66.out 1, row_cell r66.out 2, row_cell r66.out 3, row_cell r66.out 4, row_cell r66.out 5⟩
    clear hK K
    try simp only [List.getElem_toArray, List.getElem_cons_succ, List.getElem_cons_zero, Act.put, List.setIfInBounds_toArray, List.set_cons_zero, List.set_cons_succ]
    refine' wpAnyH_take (i := 7) (oi := _) (v := _) rfl (by kernel_rfl) (by kernel_rfl) (by kernel_rfl) (fun _ _ _ h => h) (Or.inl ⟨by kernel_rfl, ?_⟩) (by assumption) ?_
    rotate_left
    · (intro w hSw; (try dsimp only at hSw); go_simp; try (with_reducible rfl))
    try simp only [List.getElem_toArray, List.getElem_cons_succ, List.getElem_cons_zero, Act.put, List.setIfInBounds_toArray, List.set_cons_zero, List.set_cons_succ]
    refine' wpAnyH_take (i := 8) (oi := _) (v := _) rfl (by kernel_rfl) (by kernel_rfl) (by kernel_rfl) (fun _ _ _ h => h) (Or.inl ⟨by kernel_rfl, ?_⟩) (by assumption) ?_
    rotate_left
    · (intro w hSw; (try dsimp only at hSw); go_simp; try (with_reducible rfl))
    try simp only [List.getElem_toArray, List.getElem_cons_succ, List.getElem_cons_zero, Act.put, List.setIfInBounds_toArray, List.set_cons_zero, List.set_cons_succ]
    refine' wpAnyH_take (i := 9) (oi := _) (v := _) rfl (by kernel_rfl) (by kernel_rfl) (by kernel_rfl) (fun _ _ _ h => h) (Or.inl ⟨by kernel_rfl, ?_⟩) (by assumption) ?_
    rotate_left
    · (intro w hSw; (try dsimp only at hSw); go_simp; try (with_reducible rfl))
    try simp only [List.getElem_toArray, List.getElem_cons_succ, List.getElem_cons_zero, Act.put, List.setIfInBounds_toArray, List.set_cons_zero, List.set_cons_succ]
    refine wpAnyH_ready (rs := [10]) (by kernel_rfl) (by simp) ?_
    refine (AllReadyH.cons (o := _) rfl (fun K hK => ?_) AllReadyH.nil)
    go_simp
    go_at_call 13
    with_reducible refine (CLN.out X65 DX65.out).mono ?_
    rintro e X67 ⟨rfl, cX67⟩
    have bX67 := hid cX67
    clear cX67
    have DX67 := hid (btr DX65.out bX67.out)
    have r68 := hid (row_on r66.out bX67.out)
    (try go_wp2_with fail)
    refine hK.out _ _ ?_ (fun hHeld => ?_)
    · (try dsimp only); exact ⟨row_cell r68.out 0, row_cell r68.out 1, row_cell r68.out 2, row_cell r68.out 3, row_cell r68.out 4, row_cell r68.out 5⟩
    clear hK K
    try simp only [List.getElem_toArray, List.getElem_cons_succ, List.getElem_cons_zero, Act.put, List.setIfInBounds_toArray, List.set_cons_zero, List.set_cons_succ]
    refine' wpAnyH_take (i := 11) (oi := _) (v := _) rfl (by kernel_rfl) (by kernel_rfl) (by kernel_rfl) (fun _ _ _ h => h) (Or.inl ⟨by kernel_rfl, ?_⟩) (by assumption) ?_
    rotate_left
    · (intro w hSw; (try dsimp only at hSw); go_simp; try (with_reducible rfl))
    try simp only [List.getElem_toArray, List.getElem_cons_succ, List.getElem_cons_zero, Act.put, List.setIfInBounds_toArray, List.set_cons_zero, List.set_cons_succ]
    refine' wpAnyH_take (i := 12) (oi := _) (v := _) rfl (by kernel_rfl) (by kernel_rfl) (by kernel_rfl) (fun _ _ _ h => h) (Or.inl ⟨by kernel_rfl, ?_⟩) (by assumption) ?_
    rotate_left
    · (intro w hSw; (try dsimp only at hSw); go_simp; try (with_reducible rfl))
    try simp only [List.getElem_toArray, List.getElem_cons_succ, List.getElem_cons_zero, Act.put, List.setIfInBounds_toArray, List.set_cons_zero, List.set_cons_succ]
    refine' wpAnyH_take (i := 13) (oi := _) (v := _) rfl (by kernel_rfl) (by kernel_rfl) (by kernel_rfl) (fun _ _ _ h => h) (Or.inl ⟨by kernel_rfl, ?_⟩) (by assumption) ?_
    rotate_left
    · (intro w hSw; (try dsimp only at hSw); go_simp; try (with_reducible rfl))
    try simp only [List.getElem_toArray, List.getElem_cons_succ, List.getElem_cons_zero, Act.put, List.setIfInBounds_toArray, List.set_cons_zero, List.set_cons_succ]
    refine wpAnyH_done (by kernel_rfl) ?_ _
    have BW := hid DX67.out
    obtain ⟨V6, hV6⟩ : ∃ V, X67 = V := ⟨_, rfl⟩
    rw [hV6] at BW ⊢
    clear hV6
    go_wp2_with (first | (go_at_call 7; with_reducible refine (CK0.out _).mono ?_; rintro e w8 ⟨rfl, h8⟩; have B8 := hid h8; clear h8) | (go_at_call 7; with_reducible refine (CK2.out _).mono ?_; rintro e w9 ⟨rfl, h9⟩; have B9 := hid h9; clear h9))
    go_ret
    exact ⟨rfl, btr BV.out (btr BW.out (btr B8.out B9.out))⟩
  | false =>
    have CN := hid (fun U => CN0.out rfl U)
    have DN1 := hid (fun (U : World) => show Calls Try.prog 6 #[.agg #[.int .i64 cap, .int .i64 meet]] U fun e w' => e = .returned (.tuple #[.agg #[.int .i64 0, .int .i64 0, .slice none 0 0, .slice none 0 0, .int .u64 0, .int .u64 0], .int .i64 1]) ∧ Below U.heap.size U w' from DN.out U)
    clear CN1 CN0 DN
    go_upto_region 3 with (go_at_call 5; with_reducible refine (CN.out _).mono ?_; rintro e w3 ⟨rfl, h2⟩; have B3 := hid h2; clear h2)
    have HB3 := hid (row_on HB2.out B3.out)
    clear b0 b1 b2 b3 b4 b5
    obtain ⟨b0, b1, b2, b3, b4, b5⟩ := row6 HB3.out
    go_upto_region 4 with (first | (go_at_call 6; with_reducible refine (DN1.out _).mono ?_; rintro e w4 ⟨rfl, h2⟩; have B4 := hid h2; clear h2; obtain ⟨gD, hgD⟩ : ∃ g, w4.heap.size = g := ⟨_, rfl⟩; obtain ⟨W4, hW4⟩ : ∃ W, w4.alloc (.cells #[.int .i64 0, .int .i64 0, .slice none 0 0, .slice none 0 0, .int .u64 0, .int .u64 0] 30) = W := ⟨_, rfl⟩; obtain ⟨W5, hW5⟩ : ∃ W, W4.setRow gD #[.int .i64 0, .int .i64 0, .slice none 0 0, .slice none 0 0, .int .u64 0, .int .u64 0] = W := ⟨_, rfl⟩; have ZD := hid (show W4.heap[gD]? = some (.cells #[.int .i64 0, .int .i64 0, .slice none 0 0, .slice none 0 0, .int .u64 0, .int .u64 0] 30 (0, 0)) from by rw [← hW4, ← hgD]; exact World.alloc_heap_new _ _)) | (refine wpList_store_row (by rfl) 30 (.tmp 8) (.tmp 22) (by rfl) gD #[.int .i64 0, .int .i64 0, .slice none 0 0, .slice none 0 0, .int .u64 0, .int .u64 0] (by rfl) (by rfl) 30 _ ZD.out infoBk (by rfl) (by simp [Value.oneCell']) ?_; rw [hW5]))
    have B5 := hid (show Below w4.heap.size w4 W5 from by rw [← hW5]; exact Cp.setRow_below (by rw [← hW4]; exact ball _ _) (Nat.le_of_eq hgD))
    have HD5 := hid (show W5.heap[gD]? = some (.cells #[.int .i64 0, .int .i64 0, .slice none 0 0, .slice none 0 0, .int .u64 0, .int .u64 0] 30 (0, 0)) from by rw [← hW5]; exact setRow_heap _ _ _ _ 30 (0, 0) ZD.out)
    have BW5 := hid (btr (btr B3.out B4.out) B5.out)
    have HC5 := hid (row_on HC2.out BW5.out)
    have HB5 := hid (row_on HB2.out BW5.out)
    have HX5 := hid (row_on HX2.out BW5.out)
    have OX5 := hid (Cp.own_on OX2.out BW5.out)
    have OY5 := hid (Cp.own_on OY2.out BW5.out)
    have BA5 := hid (btr BA2.out BW5.out)
    have CV := hid (fun (U : World) (hU : Below w.heap.size w U) (h5 : Below W5.heap.size W5 U) => CV0.out U pb2 ps2 cb2 cs2 (Cp.own_rz HN.out (Cp.own_on OX5.out h5)) (Cp.own_rz HM.out (Cp.own_on OY5.out h5)))
    have DV := hid (fun (U : World) (hU : Below w.heap.size w U) (h5 : Below W5.heap.size W5 U) => DV0.out U hU)
    have CB := hid (fun (U : World) (hU : Below w.heap.size w U) (h5 : Below W5.heap.size W5 U) => CB0'.out U pb2 ps2 cb2 cs2 hU (Cp.own_osz' HN.out (Cp.own_on OX5.out h5)) (Cp.own_osz' HM.out (Cp.own_on OY5.out h5)))
    have BQ5 := hid (Below.refl W5.heap.size W5)
    clear hgD hW4 hW5 ZD b0 b1 b2 b3 b4 b5 HC1 HB1 HC2 HB2 HX2 OX2 OY2 HB3
    obtain ⟨V31, hV31⟩ : ∃ U, W5.drew = U := ⟨_, rfl⟩
    have bV31 := hid (show Below W5.heap.size W5 V31 from by rw [← hV31]; exact bdrew1 _)
    have DV31 := hid (btr BQ5.out bV31.out)
    have r32 := hid (row_on HC5.out bV31.out)
    have r33 := hid (row_on HB5.out bV31.out)
    have r34 := hid (row_on HX5.out bV31.out)
    have r35 := hid (row_on HD5.out bV31.out)
    refine wp_region_held_drew (S := (fun U => U.cell? ⟨gC, 0, none⟩ = some (.int .i64 xkd) ∧ U.cell? ⟨gC, 1, none⟩ = some (.int .u64 xid) ∧ U.cell? ⟨gC, 2, none⟩ = some (.int .u64 xtg) ∧ U.cell? ⟨gC, 3, none⟩ = some (.int .u32 xmb) ∧ U.cell? ⟨gC, 4, none⟩ = some (.int .i64 xsd) ∧ U.cell? ⟨gC, 5, none⟩ = some (.int .i64 xty) ∧ U.cell? ⟨gC, 6, none⟩ = some (.int .i64 xpr) ∧ U.cell? ⟨gC, 7, none⟩ = some (.int .u64 xqt) ∧ U.cell? ⟨gC, 8, none⟩ = some (.int .u64 xpk) ∧ U.cell? ⟨gB, 0, none⟩ = some (.int .i64 cap) ∧ U.cell? ⟨gB, 1, none⟩ = some (.int .i64 meet) ∧ U.cell? ⟨gB, 2, none⟩ = some (.slice pb n cb) ∧ U.cell? ⟨gB, 3, none⟩ = some (.slice ps m cs) ∧ U.cell? ⟨gB, 4, none⟩ = some (.int .u64 high) ∧ U.cell? ⟨gB, 5, none⟩ = some (.int .u64 seq) ∧ U.cell? ⟨gX, 0, none⟩ = some (.int .i64 cap) ∧ U.cell? ⟨gX, 1, none⟩ = some (.int .i64 meet) ∧ U.cell? ⟨gX, 2, none⟩ = some (.slice pb2 n cb2) ∧ U.cell? ⟨gX, 3, none⟩ = some (.slice ps2 m cs2) ∧ U.cell? ⟨gX, 4, none⟩ = some (.int .u64 high) ∧ U.cell? ⟨gX, 5, none⟩ = some (.int .u64 seq))) (by kernel_rfl) ?_ (fun hHeld => ?_)
    · (try dsimp only); rw [hV31]; exact ⟨row_cell r32.out 0, row_cell r32.out 1, row_cell r32.out 2, row_cell r32.out 3, row_cell r32.out 4, row_cell r32.out 5, row_cell r32.out 6, row_cell r32.out 7, row_cell r32.out 8, row_cell r33.out 0, row_cell r33.out 1, row_cell r33.out 2, row_cell r33.out 3, row_cell r33.out 4, row_cell r33.out 5, row_cell r34.out 0, row_cell r34.out 1, row_cell r34.out 2, row_cell r34.out 3, row_cell r34.out 4, row_cell r34.out 5⟩
    rw [hV31] at hHeld ⊢
    clear hV31
    refine' wpAnyH_take (i := 0) (oi := _) (v := _) rfl (by kernel_rfl) (by kernel_rfl) (by kernel_rfl) (fun _ _ _ h => h) (Or.inl ⟨by kernel_rfl, ?_⟩) (by assumption) ?_
    rotate_left
    · (intro w hSw; (try dsimp only at hSw); go_simp; try (with_reducible rfl))
    try simp only [List.getElem_toArray, List.getElem_cons_succ, List.getElem_cons_zero, Act.put, List.setIfInBounds_toArray, List.set_cons_zero, List.set_cons_succ]
    refine' wpAnyH_take (i := 2) (oi := _) (v := _) rfl (by kernel_rfl) (by kernel_rfl) (by kernel_rfl) (fun _ _ _ h => h) (Or.inl ⟨by kernel_rfl, ?_⟩) (by assumption) ?_
    rotate_left
    · (intro w hSw; (try dsimp only at hSw); go_simp; try (with_reducible rfl))
    try simp only [List.getElem_toArray, List.getElem_cons_succ, List.getElem_cons_zero, Act.put, List.setIfInBounds_toArray, List.set_cons_zero, List.set_cons_succ]
    refine wpAnyH_ready (rs := [1]) (by kernel_rfl) (by simp) ?_
    refine (AllReadyH.cons (o := _) rfl (fun K hK => ?_) AllReadyH.nil)
    go_simp
    go_at_call 7
    with_reducible refine (CK.out V31).mono ?_
    rintro e X36 ⟨rfl, cX36⟩
    have bX36 := hid cX36
    clear cX36
    have DX36 := hid (btr DV31.out bX36.out)
    have r37 := hid (row_on r32.out bX36.out)
    have r38 := hid (row_on r33.out bX36.out)
    have r39 := hid (row_on r34.out bX36.out)
    have r40 := hid (row_on r35.out bX36.out)
    (try go_wp2_with fail)
    refine hK.out _ _ ?_ (fun hHeld => ?_)
    · (try dsimp only); exact ⟨row_cell r37.out 0, row_cell r37.out 1, row_cell r37.out 2, row_cell r37.out 3, row_cell r37.out 4, row_cell r37.out 5, row_cell r37.out 6, row_cell r37.out 7, row_cell r37.out 8, row_cell r38.out 0, row_cell r38.out 1, row_cell r38.out 2, row_cell r38.out 3, row_cell r38.out 4, row_cell r38.out 5, row_cell r39.out 0, row_cell r39.out 1, row_cell r39.out 2, row_cell r39.out 3, row_cell r39.out 4, row_cell r39.out 5⟩
    clear hK K
    try simp only [List.getElem_toArray, List.getElem_cons_succ, List.getElem_cons_zero, Act.put, List.setIfInBounds_toArray, List.set_cons_zero, List.set_cons_succ]
    refine wpAnyH_ready (rs := [3]) (by kernel_rfl) (by simp) ?_
    refine (AllReadyH.cons (o := _) rfl (fun K hK => ?_) AllReadyH.nil)
    go_simp
    go_at_call 8
    with_reducible refine (DK.out X36).mono ?_
    rintro e X41 ⟨rfl, cX41⟩
    have bX41 := hid cX41
    clear cX41
    have DX41 := hid (btr DX36.out bX41.out)
    have r42 := hid (row_on r37.out bX41.out)
    have r43 := hid (row_on r38.out bX41.out)
    have r44 := hid (row_on r39.out bX41.out)
    have r45 := hid (row_on r40.out bX41.out)
    (try go_wp2_with fail)
    refine hK.out _ _ ?_ (fun hHeld => ?_)
    · (try dsimp only); exact ⟨row_cell r42.out 0, row_cell r42.out 1, row_cell r42.out 2, row_cell r42.out 3, row_cell r42.out 4, row_cell r42.out 5, row_cell r42.out 6, row_cell r42.out 7, row_cell r42.out 8, row_cell r43.out 0, row_cell r43.out 1, row_cell r43.out 2, row_cell r43.out 3, row_cell r43.out 4, row_cell r43.out 5, row_cell r44.out 0, row_cell r44.out 1, row_cell r44.out 2, row_cell r44.out 3, row_cell r44.out 4, row_cell r44.out 5⟩
    clear hK K
    try simp only [List.getElem_toArray, List.getElem_cons_succ, List.getElem_cons_zero, Act.put, List.setIfInBounds_toArray, List.set_cons_zero, List.set_cons_succ]
    refine' wpAnyH_take (i := 4) (oi := _) (v := _) rfl (by kernel_rfl) (by kernel_rfl) (by kernel_rfl) (fun _ _ _ h => h) (Or.inl ⟨by kernel_rfl, ?_⟩) (by assumption) ?_
    rotate_left
    · (intro w hSw; (try dsimp only at hSw); go_simp; try (with_reducible rfl))
    try simp only [List.getElem_toArray, List.getElem_cons_succ, List.getElem_cons_zero, Act.put, List.setIfInBounds_toArray, List.set_cons_zero, List.set_cons_succ]
    refine' wpAnyH_take (i := 5) (oi := _) (v := _) rfl (by kernel_rfl) (by kernel_rfl) (by kernel_rfl) (fun _ _ _ h => h) (Or.inl ⟨by kernel_rfl, ?_⟩) (by assumption) ?_
    rotate_left
    · (intro w hSw; (try dsimp only at hSw); go_simp; try (with_reducible rfl))
    try simp only [List.getElem_toArray, List.getElem_cons_succ, List.getElem_cons_zero, Act.put, List.setIfInBounds_toArray, List.set_cons_zero, List.set_cons_succ]
    refine' wpAnyH_take (i := 6) (oi := _) (v := _) rfl (by kernel_rfl) (by kernel_rfl) (by kernel_rfl) (fun _ _ _ h => h) (Or.inl ⟨by kernel_rfl, ?_⟩) (by assumption) ?_
    rotate_left
    · (intro w hSw; (try dsimp only at hSw); go_simp; try (with_reducible rfl))
    try simp only [List.getElem_toArray, List.getElem_cons_succ, List.getElem_cons_zero, Act.put, List.setIfInBounds_toArray, List.set_cons_zero, List.set_cons_succ]
    refine' wpAnyH_take (i := 8) (oi := _) (v := _) rfl (by kernel_rfl) (by kernel_rfl) (by kernel_rfl) (fun _ _ _ h => h) (Or.inl ⟨by kernel_rfl, ?_⟩) (by assumption) ?_
    rotate_left
    · (intro w hSw; (try dsimp only at hSw); go_simp; try (with_reducible rfl))
    try simp only [List.getElem_toArray, List.getElem_cons_succ, List.getElem_cons_zero, Act.put, List.setIfInBounds_toArray, List.set_cons_zero, List.set_cons_succ]
    refine wpAnyH_ready (rs := [7]) (by kernel_rfl) (by simp) ?_
    refine (AllReadyH.cons (o := _) rfl (fun K hK => ?_) AllReadyH.nil)
    go_simp
    go_at_call 9
    with_reducible refine (CV.out X41 (btr BA5.out DX41.out) DX41.out).mono ?_
    rintro e X46 ⟨rfl, cX46⟩
    have bX46 := hid cX46
    clear cX46
    have DX46 := hid (btr DX41.out bX46.out)
    have r47 := hid (row_on r42.out bX46.out)
    have r48 := hid (row_on r43.out bX46.out)
    have r49 := hid (row_on r44.out bX46.out)
    have r50 := hid (row_on r45.out bX46.out)
    (try go_wp2_with fail)
    refine hK.out _ _ ?_ (fun hHeld => ?_)
    · (try dsimp only); exact ⟨row_cell r47.out 0, row_cell r47.out 1, row_cell r47.out 2, row_cell r47.out 3, row_cell r47.out 4, row_cell r47.out 5, row_cell r47.out 6, row_cell r47.out 7, row_cell r47.out 8, row_cell r48.out 0, row_cell r48.out 1, row_cell r48.out 2, row_cell r48.out 3, row_cell r48.out 4, row_cell r48.out 5, row_cell r49.out 0, row_cell r49.out 1, row_cell r49.out 2, row_cell r49.out 3, row_cell r49.out 4, row_cell r49.out 5⟩
    clear hK K
    try simp only [List.getElem_toArray, List.getElem_cons_succ, List.getElem_cons_zero, Act.put, List.setIfInBounds_toArray, List.set_cons_zero, List.set_cons_succ]
    refine wpAnyH_ready (rs := [9]) (by kernel_rfl) (by simp) ?_
    refine (AllReadyH.cons (o := _) rfl (fun K hK => ?_) AllReadyH.nil)
    go_simp
    go_at_call 10
    with_reducible refine (DV.out X46 (btr BA5.out DX46.out) DX46.out).mono ?_
    rintro e X51 ⟨rfl, cX51⟩
    have bX51 := hid cX51
    clear cX51
    have DX51 := hid (btr DX46.out bX51.out)
    have r52 := hid (row_on r47.out bX51.out)
    have r53 := hid (row_on r48.out bX51.out)
    have r54 := hid (row_on r49.out bX51.out)
    have r55 := hid (row_on r50.out bX51.out)
    (try go_wp2_with fail)
    refine hK.out _ _ ?_ (fun hHeld => ?_)
    · (try dsimp only); exact ⟨row_cell r52.out 0, row_cell r52.out 1, row_cell r52.out 2, row_cell r52.out 3, row_cell r52.out 4, row_cell r52.out 5, row_cell r52.out 6, row_cell r52.out 7, row_cell r52.out 8, row_cell r53.out 0, row_cell r53.out 1, row_cell r53.out 2, row_cell r53.out 3, row_cell r53.out 4, row_cell r53.out 5, row_cell r54.out 0, row_cell r54.out 1, row_cell r54.out 2, row_cell r54.out 3, row_cell r54.out 4, row_cell r54.out 5⟩
    clear hK K
    try simp only [List.getElem_toArray, List.getElem_cons_succ, List.getElem_cons_zero, Act.put, List.setIfInBounds_toArray, List.set_cons_zero, List.set_cons_succ]
    refine' wpAnyH_take (i := 10) (oi := _) (v := _) rfl (by kernel_rfl) (by kernel_rfl) (by kernel_rfl) (fun _ _ _ h => h) (Or.inl ⟨by kernel_rfl, ?_⟩) (by assumption) ?_
    rotate_left
    · (intro w hSw; (try dsimp only at hSw); go_simp; try (with_reducible rfl))
    try simp only [List.getElem_toArray, List.getElem_cons_succ, List.getElem_cons_zero, Act.put, List.setIfInBounds_toArray, List.set_cons_zero, List.set_cons_succ]
    refine' wpAnyH_take (i := 11) (oi := _) (v := _) rfl (by kernel_rfl) (by kernel_rfl) (by kernel_rfl) (fun _ _ _ h => h) (Or.inl ⟨by kernel_rfl, ?_⟩) (by assumption) ?_
    rotate_left
    · (intro w hSw; (try dsimp only at hSw); go_simp; try (with_reducible rfl))
    try simp only [List.getElem_toArray, List.getElem_cons_succ, List.getElem_cons_zero, Act.put, List.setIfInBounds_toArray, List.set_cons_zero, List.set_cons_succ]
    refine' wpAnyH_take (i := 12) (oi := _) (v := _) rfl (by kernel_rfl) (by kernel_rfl) (by kernel_rfl) (fun _ _ _ h => h) (Or.inl ⟨by kernel_rfl, ?_⟩) (by assumption) ?_
    rotate_left
    · (intro w hSw; (try dsimp only at hSw); go_simp; try (with_reducible rfl))
    try simp only [List.getElem_toArray, List.getElem_cons_succ, List.getElem_cons_zero, Act.put, List.setIfInBounds_toArray, List.set_cons_zero, List.set_cons_succ]
    refine' wpAnyH_take (i := 13) (oi := _) (v := _) rfl (by kernel_rfl) (by kernel_rfl) (by kernel_rfl) (fun _ _ _ h => h) (Or.inl ⟨by kernel_rfl, ?_⟩) (by assumption) ?_
    rotate_left
    · (intro w hSw; (try dsimp only at hSw); go_simp; try (with_reducible rfl))
    try simp only [List.getElem_toArray, List.getElem_cons_succ, List.getElem_cons_zero, Act.put, List.setIfInBounds_toArray, List.set_cons_zero, List.set_cons_succ]
    refine' wpAnyH_take (i := 14) (oi := _) (v := _) rfl (by kernel_rfl) (by kernel_rfl) (by kernel_rfl) (fun _ _ _ h => h) (Or.inl ⟨by kernel_rfl, ?_⟩) (by assumption) ?_
    rotate_left
    · (intro w hSw; (try dsimp only at hSw); go_simp; try (with_reducible rfl))
    try simp only [List.getElem_toArray, List.getElem_cons_succ, List.getElem_cons_zero, Act.put, List.setIfInBounds_toArray, List.set_cons_zero, List.set_cons_succ]
    refine wpAnyH_ready (rs := [15]) (by kernel_rfl) (by simp) ?_
    refine (AllReadyH.cons (o := _) rfl (fun K hK => ?_) AllReadyH.nil)
    go_simp
    go_at_call 11
    with_reducible refine (CB.out X51 (btr BA5.out DX51.out) DX51.out).mono ?_
    rintro e X56 ⟨rfl, cX56⟩
    have bX56 := hid cX56
    clear cX56
    have DX56 := hid (btr DX51.out bX56.out)
    have r57 := hid (row_on r52.out bX56.out)
    have r58 := hid (row_on r53.out bX56.out)
    have r59 := hid (row_on r54.out bX56.out)
    have r60 := hid (row_on r55.out bX56.out)
    (try go_wp2_with fail)
    refine hK.out _ _ ?_ (fun hHeld => ?_)
    · (try dsimp only); exact ⟨row_cell r57.out 0, row_cell r57.out 1, row_cell r57.out 2, row_cell r57.out 3, row_cell r57.out 4, row_cell r57.out 5, row_cell r57.out 6, row_cell r57.out 7, row_cell r57.out 8, row_cell r58.out 0, row_cell r58.out 1, row_cell r58.out 2, row_cell r58.out 3, row_cell r58.out 4, row_cell r58.out 5, row_cell r59.out 0, row_cell r59.out 1, row_cell r59.out 2, row_cell r59.out 3, row_cell r59.out 4, row_cell r59.out 5⟩
    clear hK K
    try simp only [List.getElem_toArray, List.getElem_cons_succ, List.getElem_cons_zero, Act.put, List.setIfInBounds_toArray, List.set_cons_zero, List.set_cons_succ]
    refine' wpAnyH_take (i := 16) (oi := _) (v := _) rfl (by kernel_rfl) (by kernel_rfl) (by kernel_rfl) (fun _ _ _ h => h) (Or.inl ⟨by kernel_rfl, ?_⟩) (by assumption) ?_
    rotate_left
    · (intro w hSw; (try dsimp only at hSw); go_simp; try (with_reducible rfl))
    try simp only [List.getElem_toArray, List.getElem_cons_succ, List.getElem_cons_zero, Act.put, List.setIfInBounds_toArray, List.set_cons_zero, List.set_cons_succ]
    refine' wpAnyH_take (i := 17) (oi := _) (v := _) rfl (by kernel_rfl) (by kernel_rfl) (by kernel_rfl) (fun _ _ _ h => h) (Or.inl ⟨by kernel_rfl, ?_⟩) (by assumption) ?_
    rotate_left
    · (intro w hSw; (try dsimp only at hSw); go_simp; try (with_reducible rfl))
    try simp only [List.getElem_toArray, List.getElem_cons_succ, List.getElem_cons_zero, Act.put, List.setIfInBounds_toArray, List.set_cons_zero, List.set_cons_succ]
    refine' wpAnyH_take (i := 18) (oi := _) (v := _) rfl (by kernel_rfl) (by kernel_rfl) (by kernel_rfl) (fun _ _ _ h => h) (Or.inl ⟨by kernel_rfl, ?_⟩) (by assumption) ?_
    rotate_left
    · (intro w hSw; (try dsimp only at hSw); go_simp; try (with_reducible rfl))
    try simp only [List.getElem_toArray, List.getElem_cons_succ, List.getElem_cons_zero, Act.put, List.setIfInBounds_toArray, List.set_cons_zero, List.set_cons_succ]
    refine' wpAnyH_take (i := 19) (oi := _) (v := _) rfl (by kernel_rfl) (by kernel_rfl) (by kernel_rfl) (fun _ _ _ h => h) (Or.inl ⟨by kernel_rfl, ?_⟩) (by assumption) ?_
    rotate_left
    · (intro w hSw; (try dsimp only at hSw); go_simp; try (with_reducible rfl))
    try simp only [List.getElem_toArray, List.getElem_cons_succ, List.getElem_cons_zero, Act.put, List.setIfInBounds_toArray, List.set_cons_zero, List.set_cons_succ]
    refine' wpAnyH_take (i := 20) (oi := _) (v := _) rfl (by kernel_rfl) (by kernel_rfl) (by kernel_rfl) (fun _ _ _ h => h) (Or.inl ⟨by kernel_rfl, ?_⟩) (by assumption) ?_
    rotate_left
    · (intro w hSw; (try dsimp only at hSw); go_simp; try (with_reducible rfl))
    try simp only [List.getElem_toArray, List.getElem_cons_succ, List.getElem_cons_zero, Act.put, List.setIfInBounds_toArray, List.set_cons_zero, List.set_cons_succ]
    refine' wpAnyH_take (i := 21) (oi := _) (v := _) rfl (by kernel_rfl) (by kernel_rfl) (by kernel_rfl) (fun _ _ _ h => h) (Or.inl ⟨by kernel_rfl, ?_⟩) (by assumption) ?_
    rotate_left
    · (intro w hSw; (try dsimp only at hSw); go_simp; try (with_reducible rfl))
    try simp only [List.getElem_toArray, List.getElem_cons_succ, List.getElem_cons_zero, Act.put, List.setIfInBounds_toArray, List.set_cons_zero, List.set_cons_succ]
    refine' wpAnyH_take (i := 22) (oi := _) (v := _) rfl (by kernel_rfl) (by kernel_rfl) (by kernel_rfl) (fun _ _ _ h => h) (Or.inl ⟨by kernel_rfl, ?_⟩) (by assumption) ?_
    rotate_left
    · (intro w hSw; (try dsimp only at hSw); go_simp; try (with_reducible rfl))
    try simp only [List.getElem_toArray, List.getElem_cons_succ, List.getElem_cons_zero, Act.put, List.setIfInBounds_toArray, List.set_cons_zero, List.set_cons_succ]
    refine' wpAnyH_take (i := 23) (oi := _) (v := _) rfl (by kernel_rfl) (by kernel_rfl) (by kernel_rfl) (fun _ _ _ h => h) (Or.inl ⟨by kernel_rfl, ?_⟩) (by assumption) ?_
    rotate_left
    · (intro w hSw; (try dsimp only at hSw); go_simp; try (with_reducible rfl))
    try simp only [List.getElem_toArray, List.getElem_cons_succ, List.getElem_cons_zero, Act.put, List.setIfInBounds_toArray, List.set_cons_zero, List.set_cons_succ]
    refine' wpAnyH_take (i := 24) (oi := _) (v := _) rfl (by kernel_rfl) (by kernel_rfl) (by kernel_rfl) (fun _ _ _ h => h) (Or.inl ⟨by kernel_rfl, ?_⟩) (by assumption) ?_
    rotate_left
    · (intro w hSw; (try dsimp only at hSw); go_simp; try (with_reducible rfl))
    try simp only [List.getElem_toArray, List.getElem_cons_succ, List.getElem_cons_zero, Act.put, List.setIfInBounds_toArray, List.set_cons_zero, List.set_cons_succ]
    refine' wpAnyH_take (i := 25) (oi := _) (v := _) rfl (by kernel_rfl) (by kernel_rfl) (by kernel_rfl) (fun _ _ _ h => h) (Or.inl ⟨by kernel_rfl, ?_⟩) (by assumption) ?_
    rotate_left
    · (intro w hSw; (try dsimp only at hSw); go_simp; try (with_reducible rfl))
    try simp only [List.getElem_toArray, List.getElem_cons_succ, List.getElem_cons_zero, Act.put, List.setIfInBounds_toArray, List.set_cons_zero, List.set_cons_succ]
    refine' wpAnyH_take (i := 26) (oi := _) (v := _) rfl (by kernel_rfl) (by kernel_rfl) (by kernel_rfl) (fun _ _ _ h => h) (Or.inl ⟨by kernel_rfl, ?_⟩) (by assumption) ?_
    rotate_left
    · (intro w hSw; (try dsimp only at hSw); go_simp; try (with_reducible rfl))
    try simp only [List.getElem_toArray, List.getElem_cons_succ, List.getElem_cons_zero, Act.put, List.setIfInBounds_toArray, List.set_cons_zero, List.set_cons_succ]
    refine' wpAnyH_take (i := 27) (oi := _) (v := _) rfl (by kernel_rfl) (by kernel_rfl) (by kernel_rfl) (fun _ _ _ h => h) (Or.inl ⟨by kernel_rfl, ?_⟩) (by assumption) ?_
    rotate_left
    · (intro w hSw; (try dsimp only at hSw); go_simp; try (with_reducible rfl))
    try simp only [List.getElem_toArray, List.getElem_cons_succ, List.getElem_cons_zero, Act.put, List.setIfInBounds_toArray, List.set_cons_zero, List.set_cons_succ]
    refine' wpAnyH_take (i := 28) (oi := _) (v := _) rfl (by kernel_rfl) (by kernel_rfl) (by kernel_rfl) (fun _ _ _ h => h) (Or.inl ⟨by kernel_rfl, ?_⟩) (by assumption) ?_
    rotate_left
    · (intro w hSw; (try dsimp only at hSw); go_simp; try (with_reducible rfl))
    try simp only [List.getElem_toArray, List.getElem_cons_succ, List.getElem_cons_zero, Act.put, List.setIfInBounds_toArray, List.set_cons_zero, List.set_cons_succ]
    refine' wpAnyH_take (i := 29) (oi := _) (v := _) rfl (by kernel_rfl) (by kernel_rfl) (by kernel_rfl) (fun _ _ _ h => h) (Or.inl ⟨by kernel_rfl, ?_⟩) (by assumption) ?_
    rotate_left
    · (intro w hSw; (try dsimp only at hSw); go_simp; try (with_reducible rfl))
    try simp only [List.getElem_toArray, List.getElem_cons_succ, List.getElem_cons_zero, Act.put, List.setIfInBounds_toArray, List.set_cons_zero, List.set_cons_succ]
    refine wpAnyH_done (by kernel_rfl) ?_ _
    have BZ := hid DX56.out
    have HD4 := hid r60.out
    obtain ⟨V5, hV5⟩ : ∃ V, X56 = V := ⟨_, rfl⟩
    rw [hV5] at BZ HD4 ⊢
    have BV := hid (btr BA5.out BZ.out)
    clear hV5
    go_upto_region 6 with fail
    have BR6 := hid (Below.refl V5.heap.size V5)
    obtain ⟨V69, hV69⟩ : ∃ U, V5.drew = U := ⟨_, rfl⟩
    have bV69 := hid (show Below V5.heap.size V5 V69 from by rw [← hV69]; exact bdrew1 _)
    have DV69 := hid (btr BR6.out bV69.out)
    refine wp_region_held_drew (S := (fun _ => True)) (by kernel_rfl) ?_ (fun hHeld => ?_)
    · exact trivial
    rw [hV69]
    clear hV69
    refine' wpAnyH_take (i := 0) (oi := _) (v := _) rfl (by kernel_rfl) (by kernel_rfl) (by kernel_rfl) (fun _ _ _ h => h) (Or.inl ⟨by kernel_rfl, ?_⟩) (by assumption) ?_
    rotate_left
    · (intro w hSw; (try dsimp only at hSw); go_simp; try (with_reducible rfl))
    try simp only [List.getElem_toArray, List.getElem_cons_succ, List.getElem_cons_zero, Act.put, List.setIfInBounds_toArray, List.set_cons_zero, List.set_cons_succ]
    refine' wpAnyH_take (i := 1) (oi := _) (v := _) rfl (by kernel_rfl) (by kernel_rfl) (by kernel_rfl) (fun _ _ _ h => h) (Or.inl ⟨by kernel_rfl, ?_⟩) (by assumption) ?_
    rotate_left
    · (intro w hSw; (try dsimp only at hSw); go_simp; try (with_reducible rfl))
    try simp only [List.getElem_toArray, List.getElem_cons_succ, List.getElem_cons_zero, Act.put, List.setIfInBounds_toArray, List.set_cons_zero, List.set_cons_succ]
    refine' wpAnyH_take (i := 2) (oi := _) (v := _) rfl (by kernel_rfl) (by kernel_rfl) (by kernel_rfl) (fun _ _ _ h => h) (Or.inl ⟨by kernel_rfl, ?_⟩) (by assumption) ?_
    rotate_left
    · (intro w hSw; (try dsimp only at hSw); go_simp; try (with_reducible rfl))
    try simp only [List.getElem_toArray, List.getElem_cons_succ, List.getElem_cons_zero, Act.put, List.setIfInBounds_toArray, List.set_cons_zero, List.set_cons_succ]
    refine' wpAnyH_take (i := 3) (oi := _) (v := undef) rfl (by kernel_rfl) (by kernel_rfl) (by kernel_rfl) (fun _ _ _ h => h) (Or.inr ⟨by kernel_rfl, rfl⟩) (by assumption) ?_
    try simp only [List.getElem_toArray, List.getElem_cons_succ, List.getElem_cons_zero, Act.put, List.setIfInBounds_toArray, List.set_cons_zero, List.set_cons_succ]
    refine' wpAnyH_take (i := 4) (oi := _) (v := undef) rfl (by kernel_rfl) (by kernel_rfl) (by kernel_rfl) (fun _ _ _ h => h) (Or.inr ⟨by kernel_rfl, rfl⟩) (by assumption) ?_
    try simp only [List.getElem_toArray, List.getElem_cons_succ, List.getElem_cons_zero, Act.put, List.setIfInBounds_toArray, List.set_cons_zero, List.set_cons_succ]
    refine' wpAnyH_take (i := 5) (oi := _) (v := undef) rfl (by kernel_rfl) (by kernel_rfl) (by kernel_rfl) (fun _ _ _ h => h) (Or.inr ⟨by kernel_rfl, rfl⟩) (by assumption) ?_
    try simp only [List.getElem_toArray, List.getElem_cons_succ, List.getElem_cons_zero, Act.put, List.setIfInBounds_toArray, List.set_cons_zero, List.set_cons_succ]
    refine' wpAnyH_take (i := 6) (oi := _) (v := undef) rfl (by kernel_rfl) (by kernel_rfl) (by kernel_rfl) (fun _ _ _ h => h) (Or.inr ⟨by kernel_rfl, rfl⟩) (by assumption) ?_
    try simp only [List.getElem_toArray, List.getElem_cons_succ, List.getElem_cons_zero, Act.put, List.setIfInBounds_toArray, List.set_cons_zero, List.set_cons_succ]
    refine' wpAnyH_take (i := 7) (oi := _) (v := undef) rfl (by kernel_rfl) (by kernel_rfl) (by kernel_rfl) (fun _ _ _ h => h) (Or.inr ⟨by kernel_rfl, rfl⟩) (by assumption) ?_
    try simp only [List.getElem_toArray, List.getElem_cons_succ, List.getElem_cons_zero, Act.put, List.setIfInBounds_toArray, List.set_cons_zero, List.set_cons_succ]
    refine' wpAnyH_take (i := 8) (oi := _) (v := undef) rfl (by kernel_rfl) (by kernel_rfl) (by kernel_rfl) (fun _ _ _ h => h) (Or.inr ⟨by kernel_rfl, rfl⟩) (by assumption) ?_
    try simp only [List.getElem_toArray, List.getElem_cons_succ, List.getElem_cons_zero, Act.put, List.setIfInBounds_toArray, List.set_cons_zero, List.set_cons_succ]
    refine' wpAnyH_take (i := 9) (oi := _) (v := undef) rfl (by kernel_rfl) (by kernel_rfl) (by kernel_rfl) (fun _ _ _ h => h) (Or.inr ⟨by kernel_rfl, rfl⟩) (by assumption) ?_
    try simp only [List.getElem_toArray, List.getElem_cons_succ, List.getElem_cons_zero, Act.put, List.setIfInBounds_toArray, List.set_cons_zero, List.set_cons_succ]
    refine' wpAnyH_take (i := 10) (oi := _) (v := undef) rfl (by kernel_rfl) (by kernel_rfl) (by kernel_rfl) (fun _ _ _ h => h) (Or.inr ⟨by kernel_rfl, rfl⟩) (by assumption) ?_
    try simp only [List.getElem_toArray, List.getElem_cons_succ, List.getElem_cons_zero, Act.put, List.setIfInBounds_toArray, List.set_cons_zero, List.set_cons_succ]
    refine' wpAnyH_take (i := 11) (oi := _) (v := undef) rfl (by kernel_rfl) (by kernel_rfl) (by kernel_rfl) (fun _ _ _ h => h) (Or.inr ⟨by kernel_rfl, rfl⟩) (by assumption) ?_
    try simp only [List.getElem_toArray, List.getElem_cons_succ, List.getElem_cons_zero, Act.put, List.setIfInBounds_toArray, List.set_cons_zero, List.set_cons_succ]
    refine' wpAnyH_take (i := 12) (oi := _) (v := undef) rfl (by kernel_rfl) (by kernel_rfl) (by kernel_rfl) (fun _ _ _ h => h) (Or.inr ⟨by kernel_rfl, rfl⟩) (by assumption) ?_
    try simp only [List.getElem_toArray, List.getElem_cons_succ, List.getElem_cons_zero, Act.put, List.setIfInBounds_toArray, List.set_cons_zero, List.set_cons_succ]
    refine' wpAnyH_take (i := 13) (oi := _) (v := _) rfl (by kernel_rfl) (by kernel_rfl) (by kernel_rfl) (fun _ _ _ h => h) (Or.inl ⟨by kernel_rfl, ?_⟩) (by assumption) ?_
    rotate_left
    · (intro w hSw; (try dsimp only at hSw); go_simp; try (with_reducible rfl))
    try simp only [List.getElem_toArray, List.getElem_cons_succ, List.getElem_cons_zero, Act.put, List.setIfInBounds_toArray, List.set_cons_zero, List.set_cons_succ]
    refine wpAnyH_done (by kernel_rfl) ?_ _
    have BW := hid DV69.out
    obtain ⟨V6, hV6⟩ : ∃ V, V69 = V := ⟨_, rfl⟩
    rw [hV6] at BW ⊢
    clear hV6
    go_wp2_with (first | (go_at_call 7; with_reducible refine (CK0.out _).mono ?_; rintro e w8 ⟨rfl, h8⟩; have B8 := hid h8; clear h8) | (go_at_call 7; with_reducible refine (CK2.out _).mono ?_; rintro e w9 ⟨rfl, h9⟩; have B9 := hid h9; clear h9))
    go_ret
    exact ⟨rfl, btr BV.out (btr BW.out (btr B8.out B9.out))⟩
end Go.Proofs.Ythdikkchblmebaa.Ck
namespace Go.Proofs.Ythdikkchblmebaa.Cp
open Go.ChangeShapes Go.WideShapes Go.ChangeAt Go.RowKit Go.Joins Go.Deep
set_option linter.unusedVariables false
theorem own : ownKnob Try.prog.godebug = none := by kernel_rfl
theorem laidOut : laidOutB Try.prog = true := by kernel_rfl
theorem add_mid (b o j : Nat) : (⟨b, o, none⟩ : Addr).add j = ⟨b, o + j, none⟩ := by unfold Addr.add; split <;> simp_all
theorem cellsX33 : Try.prog.cellsOf 53 = 7 := by kernel_rfl
theorem cellsX27 : Try.prog.cellsOf 30 = 6 := by kernel_rfl
theorem cellsX24 : Try.prog.cellsOf 28 = 1 := by kernel_rfl
theorem cellsX23 : Try.prog.cellsOf 27 = 2 := by kernel_rfl
theorem cells3 : Try.prog.cellsOf 3 = 1 := by kernel_rfl
theorem cellsX25 : Try.prog.cellsOf 22 = 1 := by kernel_rfl
theorem cellsX31 : Try.prog.cellsOf 23 = 1 := by kernel_rfl
theorem bytesX33 : Try.prog.bytesOf 53 = 56 := by kernel_rfl
theorem sl_none (w : World) : Sl w none 0 [] := ⟨fun i hi => by simp at hi, fun _ => ⟨rfl, rfl⟩, by simp, by omega, by simp⟩
theorem bounds_i64' {x : Int} (h : (Lit.int .i64 x).wf = true) : -9223372036854775808 ≤ x ∧ x < 9223372036854775808 := by have := bounds_i64 h; omega
section
variable {H : Type} {enc : TypeId × Value → H} {W : World} {base b0 : Nat} {spare : Nat → Bool} {held : Bool} {r : Reach}
set_option maxRecDepth 100000 in
theorem open_or {n : Nat} {cs : List Value} {y : DataW H × List MemPlace} (hl : cs.length = 7) (h : DataW.trod enc Try.prog W base spare held n 53 cs = some y) : ∃ x : Or, cs = (orow x).toList ∧ Sr.RtW x := by
  match cs, hl with
  | [c0, c1, c2, c3, c4, c5, c6], _ =>
    obtain ⟨xs, m, _, _, _, hlen, hf⟩ := DataW.trod_struct Try.underlying53 h
    have g0 : DataW.trod enc Try.prog W base spare held m 22 (([c0, c1, c2, c3, c4, c5, c6].drop 0).take (Try.prog.cellsOf 22)) = xs[0]? := hf 0 _ rfl
    rw [List.getElem?_eq_getElem (by rw [hlen]; exact (by decide : 0 < 7)), cellsX25] at g0
    have g1 : DataW.trod enc Try.prog W base spare held m 23 (([c0, c1, c2, c3, c4, c5, c6].drop 1).take (Try.prog.cellsOf 23)) = xs[1]? := hf 1 _ rfl
    rw [List.getElem?_eq_getElem (by rw [hlen]; exact (by decide : 1 < 7)), cellsX31] at g1
    have g2 : DataW.trod enc Try.prog W base spare held m 3 (([c0, c1, c2, c3, c4, c5, c6].drop 2).take (Try.prog.cellsOf 3)) = xs[2]? := hf 2 _ rfl
    rw [List.getElem?_eq_getElem (by rw [hlen]; exact (by decide : 2 < 7)), cells3] at g2
    have g3 : DataW.trod enc Try.prog W base spare held m 3 (([c0, c1, c2, c3, c4, c5, c6].drop 3).take (Try.prog.cellsOf 3)) = xs[3]? := hf 3 _ rfl
    rw [List.getElem?_eq_getElem (by rw [hlen]; exact (by decide : 3 < 7)), cells3] at g3
    have g4 : DataW.trod enc Try.prog W base spare held m 22 (([c0, c1, c2, c3, c4, c5, c6].drop 4).take (Try.prog.cellsOf 22)) = xs[4]? := hf 4 _ rfl
    rw [List.getElem?_eq_getElem (by rw [hlen]; exact (by decide : 4 < 7)), cellsX25] at g4
    have g5 : DataW.trod enc Try.prog W base spare held m 22 (([c0, c1, c2, c3, c4, c5, c6].drop 5).take (Try.prog.cellsOf 22)) = xs[5]? := hf 5 _ rfl
    rw [List.getElem?_eq_getElem (by rw [hlen]; exact (by decide : 5 < 7)), cellsX25] at g5
    have g6 : DataW.trod enc Try.prog W base spare held m 22 (([c0, c1, c2, c3, c4, c5, c6].drop 6).take (Try.prog.cellsOf 22)) = xs[6]? := hf 6 _ rfl
    rw [List.getElem?_eq_getElem (by rw [hlen]; exact (by decide : 6 < 7)), cellsX25] at g6
    simp only [List.drop_zero, List.take_succ_cons, List.take_zero, List.drop_succ_cons] at g0 g1 g2 g3 g4 g5 g6
    obtain ⟨a0, e0, _, w0⟩ := DataW.trod_int Try.underlying22 g0
    obtain ⟨a1, e1, _, w1⟩ := DataW.trod_int Try.underlying23 g1
    obtain ⟨a2, e2, _, w2⟩ := DataW.trod_int Try.underlying3 g2
    obtain ⟨a3, e3, _, w3⟩ := DataW.trod_int Try.underlying3 g3
    obtain ⟨a4, e4, _, w4⟩ := DataW.trod_int Try.underlying22 g4
    obtain ⟨a5, e5, _, w5⟩ := DataW.trod_int Try.underlying22 g5
    obtain ⟨a6, e6, _, w6⟩ := DataW.trod_int Try.underlying22 g6
    simp at e0 e1 e2 e3 e4 e5 e6
    subst e0 e1 e2 e3 e4 e5 e6
    have b0 := bounds_u64 w0
    have b4 := bounds_u64 w4
    have b5 := bounds_u64 w5
    have b6 := bounds_u64 w6
    refine ⟨⟨a0, a1, a2, a3, a4, a5, a6⟩, rfl, ?_⟩
    constructor <;> dsimp only <;> omega
set_option maxRecDepth 100000 in
theorem open_ors {n : Nat} {v : Value} {x : DataW H × List MemPlace} (h : DataW.trod enc Try.prog W base (fun _ => true) held n 28 [v] = some x) (hw : ∀ m ∈ x.1.weights Try.prog 28, m ≤ reachBytes) :
    ∃ q cap os, v = .slice q (os : List Or).length cap ∧ Sl W q cap os ∧ ∀ i (hi : i < os.length), Sr.RtW os[i] := by
  rcases open_slice Try.underlying28 h with ⟨hcs, _⟩ | ⟨a, len, cap, m, n, D, Pl, hcs, _, hl, hm, hmm, hx, hr⟩
  · simp at hcs
    subst hcs
    exact ⟨none, 0, [], rfl, sl_none _, fun i hi => by cases hi⟩
  · simp at hcs
    subst hcs
    simp only [if_true] at hmm
    subst hmm
    rw [cellsX33] at hr
    haveI : Inhabited Or := ⟨⟨0, 0, 0, 0, 0, 0, 0⟩⟩
    obtain ⟨Z, hZ⟩ := choose_lt (α := Or) (p := fun i z => W.cells? base (a.add (i * 7)) 7 = some (orow z).toList ∧ Sr.RtW z) (n := m) (fun i hi => by
      obtain ⟨cs', h1, h2⟩ := hr i hi
      obtain ⟨z, rfl, hz⟩ := open_or (World.cells?_some h1).2.1 h2
      exact ⟨z, h1, hz⟩)
    have hb : len * 56 ≤ 140737488355328 := by
      have := hw ((((List.range len).map D).length + ((List.range (m - len)).map fun j => D (len + j)).length) * Try.prog.bytesOf 53) (by
        rw [hx]
        simp [DataW.weights, Try.underlying28])
      rw [bytesX33] at this
      unfold reachBytes at this
      simp only [List.length_map, List.length_range] at this
      omega
    refine ⟨some a, m, (List.range len).map Z, by simp, ⟨?_, fun e => (by cases e), by simpa using hl, by unfold maxLen at hm; omega, by simpa using hb⟩, fun i hi => by
      have hi' : i < len := by simpa using hi
      simpa using (hZ i (by omega)).2⟩
    intro i hi
    have hi' : i < len := by simpa using hi
    have hc := (hZ i (by omega)).1
    have hc0 := (hZ 0 (by omega)).1
    obtain ⟨_, _, hcc0⟩ := World.cells?_some hc0
    obtain ⟨_, _, hcc⟩ := World.cells?_some hc
    have e1 : ((List.range len).map Z)[i] = Z i := by simp
    rw [e1]
    obtain ⟨b, off, spot⟩ := a
    have hspot : spot = none := by
      have := hcc0 0 (by omega)
      simpa [Addr.add] using World.cell?_spot this
    subst hspot
    have g0 := hcc 0 (by omega)
    rw [add_mid, add_mid] at g0
    refine ⟨b, off, rfl, block_lt_of_cell (v := .int .u64 (Z i).id) g0, ?_⟩
    intro j hj
    have g := hcc j hj
    rw [add_mid, add_mid] at g
    rw [g]
set_option maxRecDepth 100000 in
theorem open_book {v : Value} {d : DataW H} {p : List MemPlace} (hv : Value.okWide Try.prog W r b0 30 v) (h : DataW.Trod enc Try.prog W base (fun _ => true) held 30 v d p) (hw : ∀ m ∈ d.weights Try.prog 30, m ≤ reachBytes) :
    ∃ (k m : Int) (x1 : Option Addr) (c1 : Nat) (os1 : List Or) (x2 : Option Addr) (c2 : Nat) (os2 : List Or) (hh s : Int), v = .agg #[.int .i64 k, .int .i64 m, .slice x1 os1.length c1, .slice x2 os2.length c2, .int .u64 hh, .int .u64 s] ∧ (Sl W x1 c1 os1 ∧ ∀ i (hi : i < os1.length), Sr.RtW os1[i]) ∧ (Sl W x2 c2 os2 ∧ ∀ i (hi : i < os2.length), Sr.RtW os2[i]) ∧ (-9223372036854775808 ≤ k ∧ k < 9223372036854775808) := by
  obtain ⟨cs, rfl, hsz⟩ := okWide_struct Try.underlying30 hv
  rw [cellsX27] at hsz
  obtain ⟨fuel, hf0⟩ := h
  obtain ⟨l⟩ := cs
  match l, hsz with
  | [c0, c1, c2, c3, c4, c5], _ =>
    have hf1 : DataW.trod enc Try.prog W base (fun _ => true) held fuel 30 [c0, c1, c2, c3, c4, c5] = some (d, p) := hf0
    obtain ⟨xs, m, _, hx, _, hlen, hf⟩ := DataW.trod_struct Try.underlying30 hf1
    have hd := congrArg Prod.fst hx
    simp only at hd
    have g0 : DataW.trod enc Try.prog W base (fun _ => true) held m 27 (([c0, c1, c2, c3, c4, c5].drop 0).take (Try.prog.cellsOf 27)) = xs[0]? := hf 0 _ rfl
    rw [List.getElem?_eq_getElem (by rw [hlen]; exact (by decide : 0 < 5)), cellsX23] at g0
    have g1 : DataW.trod enc Try.prog W base (fun _ => true) held m 28 (([c0, c1, c2, c3, c4, c5].drop 2).take (Try.prog.cellsOf 28)) = xs[1]? := hf 1 _ rfl
    rw [List.getElem?_eq_getElem (by rw [hlen]; exact (by decide : 1 < 5)), cellsX24] at g1
    have g2 : DataW.trod enc Try.prog W base (fun _ => true) held m 28 (([c0, c1, c2, c3, c4, c5].drop 3).take (Try.prog.cellsOf 28)) = xs[2]? := hf 2 _ rfl
    rw [List.getElem?_eq_getElem (by rw [hlen]; exact (by decide : 2 < 5)), cellsX24] at g2
    have g3 : DataW.trod enc Try.prog W base (fun _ => true) held m 22 (([c0, c1, c2, c3, c4, c5].drop 4).take (Try.prog.cellsOf 22)) = xs[3]? := hf 3 _ rfl
    rw [List.getElem?_eq_getElem (by rw [hlen]; exact (by decide : 3 < 5)), cellsX25] at g3
    have g4 : DataW.trod enc Try.prog W base (fun _ => true) held m 22 (([c0, c1, c2, c3, c4, c5].drop 5).take (Try.prog.cellsOf 22)) = xs[4]? := hf 4 _ rfl
    rw [List.getElem?_eq_getElem (by rw [hlen]; exact (by decide : 4 < 5)), cellsX25] at g4
    simp only [List.drop_zero, List.take_succ_cons, List.take_zero, List.drop_succ_cons] at g0 g1 g2 g3 g4
    have hxs : ∃ y0 y1 y2 y3 y4, xs = [y0, y1, y2, y3, y4] := by
      have : xs.length = 5 := hlen
      match xs, this with
      | [y0, y1, y2, y3, y4], _ => exact ⟨y0, y1, y2, y3, y4, rfl⟩
    obtain ⟨y0, y1, y2, y3, y4, rfl⟩ := hxs
    simp only [List.getElem_cons_zero, List.getElem_cons_succ] at g0 g1 g2 g3 g4
    obtain ⟨z0, z1, n', hz, _, k0, k1⟩ := trod_struct2 Try.underlying27 g0
    simp only [cells3, List.drop_zero, List.take_succ_cons, List.take_zero, List.drop_succ_cons] at k0 k1
    obtain ⟨a0, e0, _, wk0⟩ := DataW.trod_int Try.underlying3 k0
    obtain ⟨a1, e1, _, _⟩ := DataW.trod_int Try.underlying3 k1
    obtain ⟨a3, e3, _, _⟩ := DataW.trod_int Try.underlying22 g3
    obtain ⟨a4, e4, _, _⟩ := DataW.trod_int Try.underlying22 g4
    simp at e0 e1 e3 e4
    obtain ⟨q1, p1, os1, f1, s1, t1⟩ := open_ors g1 (fun m hm => hw m (by
      rw [hd]
      simp only [DataW.weights, Try.underlying30, DataW.weightsEach, List.map_cons, List.map_nil, List.mem_append]
      exact Or.inr (Or.inl hm)))
    obtain ⟨q2, p2, os2, f2, s2, t2⟩ := open_ors g2 (fun m hm => hw m (by
      rw [hd]
      simp only [DataW.weights, Try.underlying30, DataW.weightsEach, List.map_cons, List.map_nil, List.mem_append]
      exact Or.inr (Or.inr (Or.inl hm))))
    subst e0 e1 e3 e4 f1 f2
    exact ⟨a0, a1, q1, p1, os1, q2, p2, os2, a3, a4, rfl, ⟨s1, t1⟩, ⟨s2, t2⟩, bounds_i64' wk0⟩
end
end Go.Proofs.Ythdikkchblmebaa.Cp
namespace Go.Proofs.Ythdikkchblmebaa.Ck
open Go.ChangeShapes Go.WideShapes Go.ChangeAt Go.RowKit Go.Joins Go.Deep
open Go.Proofs.Ythdikkchblmebaa (Cm CmOk cmr)
open Go.Proofs.Ythdikkchblmebaa.Cp (cells3 cellsX25 cellsX31)
set_option linter.unusedVariables false
set_option maxRecDepth 100000
theorem bounds_u32 {x : Int} (h : (Lit.int .u32 x).wf = true) : 0 ≤ x ∧ x < 4294967296 := by
  simp [Lit.wf, IntKind.min, IntKind.max, IntKind.signed, IntKind.bits] at h
  omega
theorem cellsC : Try.prog.cellsOf 25 = 9 := by kernel_rfl
section
variable {H : Type} {enc : TypeId × Value → H} {W : World} {base b0 : Nat} {held : Bool} {r : Reach}
theorem open_cmd {v : Value} {d : DataW H} {p : List MemPlace} (hv : Value.okWide Try.prog W r b0 25 v) (h : DataW.Trod enc Try.prog W base (fun _ => true) held 25 v d p) : ∃ x : Cm, v = .agg (cmr x) ∧ CmOk x := by
  obtain ⟨cs, rfl, hsz⟩ := okWide_struct Try.underlying25 hv
  rw [cellsC] at hsz
  obtain ⟨fuel, hf0⟩ := h
  obtain ⟨l⟩ := cs
  match l, hsz with
  | [c0, c1, c2, c3, c4, c5, c6, c7, c8], _ =>
    have hf1 : DataW.trod enc Try.prog W base (fun _ => true) held fuel 25 [c0, c1, c2, c3, c4, c5, c6, c7, c8] = some (d, p) := hf0
    obtain ⟨xs, m, _, hx, _, hlen, hf⟩ := DataW.trod_struct Try.underlying25 hf1
    have g0 : DataW.trod enc Try.prog W base (fun _ => true) held m 3 (([c0, c1, c2, c3, c4, c5, c6, c7, c8].drop 0).take (Try.prog.cellsOf 3)) = xs[0]? := hf 0 _ rfl
    rw [List.getElem?_eq_getElem (by rw [hlen]; exact (by decide : 0 < 9)), cells3] at g0
    have g1 : DataW.trod enc Try.prog W base (fun _ => true) held m 22 (([c0, c1, c2, c3, c4, c5, c6, c7, c8].drop 1).take (Try.prog.cellsOf 22)) = xs[1]? := hf 1 _ rfl
    rw [List.getElem?_eq_getElem (by rw [hlen]; exact (by decide : 1 < 9)), cellsX25] at g1
    have g2 : DataW.trod enc Try.prog W base (fun _ => true) held m 22 (([c0, c1, c2, c3, c4, c5, c6, c7, c8].drop 2).take (Try.prog.cellsOf 22)) = xs[2]? := hf 2 _ rfl
    rw [List.getElem?_eq_getElem (by rw [hlen]; exact (by decide : 2 < 9)), cellsX25] at g2
    have g3 : DataW.trod enc Try.prog W base (fun _ => true) held m 23 (([c0, c1, c2, c3, c4, c5, c6, c7, c8].drop 3).take (Try.prog.cellsOf 23)) = xs[3]? := hf 3 _ rfl
    rw [List.getElem?_eq_getElem (by rw [hlen]; exact (by decide : 3 < 9)), cellsX31] at g3
    have g4 : DataW.trod enc Try.prog W base (fun _ => true) held m 3 (([c0, c1, c2, c3, c4, c5, c6, c7, c8].drop 4).take (Try.prog.cellsOf 3)) = xs[4]? := hf 4 _ rfl
    rw [List.getElem?_eq_getElem (by rw [hlen]; exact (by decide : 4 < 9)), cells3] at g4
    have g5 : DataW.trod enc Try.prog W base (fun _ => true) held m 3 (([c0, c1, c2, c3, c4, c5, c6, c7, c8].drop 5).take (Try.prog.cellsOf 3)) = xs[5]? := hf 5 _ rfl
    rw [List.getElem?_eq_getElem (by rw [hlen]; exact (by decide : 5 < 9)), cells3] at g5
    have g6 : DataW.trod enc Try.prog W base (fun _ => true) held m 3 (([c0, c1, c2, c3, c4, c5, c6, c7, c8].drop 6).take (Try.prog.cellsOf 3)) = xs[6]? := hf 6 _ rfl
    rw [List.getElem?_eq_getElem (by rw [hlen]; exact (by decide : 6 < 9)), cells3] at g6
    have g7 : DataW.trod enc Try.prog W base (fun _ => true) held m 22 (([c0, c1, c2, c3, c4, c5, c6, c7, c8].drop 7).take (Try.prog.cellsOf 22)) = xs[7]? := hf 7 _ rfl
    rw [List.getElem?_eq_getElem (by rw [hlen]; exact (by decide : 7 < 9)), cellsX25] at g7
    have g8 : DataW.trod enc Try.prog W base (fun _ => true) held m 22 (([c0, c1, c2, c3, c4, c5, c6, c7, c8].drop 8).take (Try.prog.cellsOf 22)) = xs[8]? := hf 8 _ rfl
    rw [List.getElem?_eq_getElem (by rw [hlen]; exact (by decide : 8 < 9)), cellsX25] at g8
    simp only [List.drop_zero, List.take_succ_cons, List.take_zero, List.drop_succ_cons] at g0 g1 g2 g3 g4 g5 g6 g7 g8
    obtain ⟨a0, e0, _, w0⟩ := DataW.trod_int Try.underlying3 g0
    obtain ⟨a1, e1, _, w1⟩ := DataW.trod_int Try.underlying22 g1
    obtain ⟨a2, e2, _, w2⟩ := DataW.trod_int Try.underlying22 g2
    obtain ⟨a3, e3, _, w3⟩ := DataW.trod_int Try.underlying23 g3
    obtain ⟨a4, e4, _, w4⟩ := DataW.trod_int Try.underlying3 g4
    obtain ⟨a5, e5, _, w5⟩ := DataW.trod_int Try.underlying3 g5
    obtain ⟨a6, e6, _, w6⟩ := DataW.trod_int Try.underlying3 g6
    obtain ⟨a7, e7, _, w7⟩ := DataW.trod_int Try.underlying22 g7
    obtain ⟨a8, e8, _, w8⟩ := DataW.trod_int Try.underlying22 g8
    simp at e0 e1 e2 e3 e4 e5 e6 e7 e8
    subst e0 e1 e2 e3 e4 e5 e6 e7 e8
    have b1 := bounds_u64 w1
    have b3 := bounds_u32 w3
    have b7 := bounds_u64 w7
    have b8 := bounds_u64 w8
    refine ⟨⟨a0, a1, a2, a3, a4, a5, a6, a7, a8⟩, rfl, ?_⟩
    constructor <;> dsimp only <;> omega
end
end Go.Proofs.Ythdikkchblmebaa.Ck
namespace Go.Proofs.Ythdikkchblmebaa.rulesChecks
open Go.ChangeShapes Go.WideShapes Go.ChangeAt Go.RowKit Go.Joins Go.Deep
set_option linter.unusedVariables false
set_option maxRecDepth 100000 in
theorem lifted (os : Os) (started : os.Started) (H : Type) (enc : TypeId × Value → H) :
    ReturnsInHanded {} Try.checked os 3 .any (Rows.rulesChecksSpec.pre6 enc Try.prog Try.f3 Rows.rulesChecksRow.domain false) (Rows.rulesChecksSpec.post enc Try.prog Try.f3 false true false false) := by
  refine returnsInHanded_of_change_sized (C := Try.checked) Cp.own started (by kernel_rfl) Try.func3
    (ChangeSpec.witness6 (enc := enc) (C := Try.checked) false ⟨#[], #[.agg #[.int .i64 0, .int .u64 0, .int .u64 0, .int .u32 0, .int .i64 0, .int .i64 0, .int .i64 0, .int .u64 0, .int .u64 0], .agg #[.int .i64 0, .int .i64 0, .slice none 0 0, .slice none 0 0, .int .u64 0, .int .u64 0]], []⟩ 8 (by kernel_rfl) (by kernel_rfl) (by kernel_rfl) (by kernel_rfl)) ?_
  intro W base args ds gs before hval0 hW hcnd hsz _
  have hval : ∀ (j : Nat) t v, Try.f3.params[j]? = some t → args[j]? = some v → Value.okWide Try.prog W .any base t v := hval0
  have hW' := hW
  obtain ⟨p, q, hA0, hV, rfl, hfz, hnd⟩ := hW
  have hA : DataW.TrodAll enc Try.prog W 0 (fun _ => true) true Try.f3.params.toList args.toList ds p := hA0
  rw [Try.params3] at hA hval
  obtain ⟨v0, vs0, d0, ds0, p0, q0, hargs, rfl, rfl, h0, r0⟩ := trodAll_cons hA
  obtain ⟨v1, vs1, d1, ds1, p1, q1, e1, rfl, rfl, h1, r1⟩ := trodAll_cons r0
  obtain ⟨rfl, rfl, rfl⟩ := trodAll_nil r1
  obtain rfl : args = #[v0, v1] := by cases args; simp_all
  obtain ⟨rfl, rfl⟩ := trodVars_none hV
  have k0 := h0
  have k1 := h1
  have lt0 : ∀ x ∈ p0, x.block < W.heap.size := by obtain ⟨m, hm⟩ := k0; exact DataW.trod_lt m _ _ _ hm
  have lt1 : ∀ x ∈ p1, x.block < W.heap.size := by obtain ⟨m, hm⟩ := k1; exact DataW.trod_lt m _ _ _ hm
  have w1 : ∀ m ∈ d1.weights Try.prog 30, m ≤ reachBytes := fun m hm => by
    have := List.all_eq_true.1 hsz _ (DataW.weights_mem_each (j := 1) (by rw [Try.params3]; rfl) rfl m hm)
    simpa using this
  obtain ⟨x, rfl, hx⟩ := Ck.open_cmd (hval 0 25 v0 rfl rfl) h0
  obtain ⟨ka, ma, x1, c1, os1, x2, c2, os2, ha, sa, rfl, ⟨s1, t1⟩, ⟨s2, t2⟩, _⟩ := Cp.open_book (hval 1 30 v1 rfl rfl) h1 w1
  clear hA0 hval0
  refine (Ck.checks_walk x hx ka ma ha sa x1 x2 c1 c2 os1 os2 W s1 s2 t1 t2).mono fun e W' ⟨he, bel⟩ => ?_
  subst he
  exact ⟨_, rfl, _, _, _, [], _, [], hW', trodAll_mk1 (shut_bool Try.underlying4 _), (trodAll_cons_mk (Below.trod Cp.laidOut (by kernel_rfl) (of_decide_eq_true (by kernel_rfl)) k0 bel lt0) (trodAll_cons_mk (Below.trod Cp.laidOut (by kernel_rfl) (of_decide_eq_true (by kernel_rfl)) k1 bel lt1) trodAll_mk0)), rfl, bel.frame _, fun h => by cases h⟩
theorem over : Rows.rulesChecksRow.holds Try.pinned (OpenSpec.ofChange Rows.rulesChecksSpec) :=
  OpenClaim.holds_of_wide 3 Try.f3 rfl rfl rfl rfl rfl rfl rfl ⟨rfl, rfl, rfl, rfl, rfl⟩ rfl rfl rfl rfl rfl (by kernel_rfl) Try.func3 (by kernel_rfl)
    (of_decide_eq_true (by kernel_rfl)) (by unfold Func.isWrapper; first | (rw [if_pos (by decide +kernel)]; kernel_rfl) | (rw [if_neg (by decide +kernel)]; exact ⟨rfl, rfl⟩))
    (fun os started H enc _ => lifted os started H enc)
/-- the statement -/
theorem proved : Rows.RulesChecksSaid :=
  over
end Go.Proofs.Ythdikkchblmebaa.rulesChecks
namespace Go.Proofs.Ythdikkchblmebaa
theorem rulesChecks_holds : Rows.RulesChecksSaid := rulesChecks.proved
#print axioms rulesChecks_holds
end Go.Proofs.Ythdikkchblmebaa
