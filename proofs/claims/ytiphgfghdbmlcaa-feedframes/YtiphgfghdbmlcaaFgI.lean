/-
  FeedFrames: the walk.
-/
import Derived.Test.YtiphgfghdbmlcaaFgH
import Derived.Test.YtiphgfghdbmlcaaFeH
namespace Go.Proofs.Ytiphgfghdbmlcaa
open Go.RowKit Go.Deep
set_option linter.unusedVariables false
set_option linter.unusedSimpArgs false
set_option maxHeartbeats 4000000
set_option maxRecDepth 100000
/-- what can be packed is read back. -/
theorem pack_back (d : Dm) (hc : Ct d.ct) : ∃ K b0 b1 b2 b3 b4 b5 b6 E : Int, (∀ w, Calls Try.prog 21 #[.agg #[.int .u64 d.sq, .int .i64 d.kd, .int .i64 d.sd, .int .i64 d.pr, .int .u64 d.qt, .int .i64 d.ct]] w fun e w' => e = .returned (.tuple #[.agg #[.int .u8 K, .int .u64 b0, .int .u64 b1, .int .u64 b2, .int .u64 b3, .int .u64 b4, .int .u64 b5, .int .u64 b6], .int .i64 E]) ∧ Below w.heap.size w w') ∧ ((E = 0 ∧ ∀ w, Calls Try.prog 23 #[.agg #[.int .u8 K, .int .u64 b0, .int .u64 b1, .int .u64 b2, .int .u64 b3, .int .u64 b4, .int .u64 b5, .int .u64 b6]] w fun e w' => e = .returned (.tuple #[.agg #[.int .u64 d.sq, .int .i64 d.kd, .int .i64 d.sd, .int .i64 d.pr, .int .u64 d.qt, .int .i64 d.ct], .int .i64 0]) ∧ Below w.heap.size w w') ∨ E = 40) := by
  cases h : dOk d with
  | false => exact ⟨0, 0, 0, 0, 0, 0, 0, 0, 40, pack_no d h, .inr rfl⟩
  | true =>
    refine ⟨_, _, _, _, _, _, _, _, 0, pack_ok d h hc, .inl ⟨rfl, fun w => ?_⟩⟩
    have h' := (dOk_iff _).1 h
    have e : 79 + d.kd - 79 = d.kd := by omega
    have := unpack_ok (79 + d.kd) d.sq d.sd d.pr d.qt d.ct 0 0 (by omega) (by rw [e]; exact h) hc rfl rfl w
    rw [e] at this
    exact this
/-- what is read is packed so. -/
theorem unpack_fwd (k a0 a1 a2 a3 a4 a5 a6 : Int) (h1 : 0 ≤ a1 ∧ a1 < 18446744073709551616) (h2 : 0 ≤ a2 ∧ a2 < 18446744073709551616) (h4 : 0 ≤ a4 ∧ a4 < 18446744073709551616) : ∃ (y : Dm) (E : Int), (∀ w, Calls Try.prog 23 #[.agg #[.int .u8 k, .int .u64 a0, .int .u64 a1, .int .u64 a2, .int .u64 a3, .int .u64 a4, .int .u64 a5, .int .u64 a6]] w fun e w' => e = .returned (.tuple #[.agg #[.int .u64 y.sq, .int .i64 y.kd, .int .i64 y.sd, .int .i64 y.pr, .int .u64 y.qt, .int .i64 y.ct], .int .i64 E]) ∧ Below w.heap.size w w') ∧ ((E = 0 ∧ ∀ w, Calls Try.prog 21 #[.agg #[.int .u64 y.sq, .int .i64 y.kd, .int .i64 y.sd, .int .i64 y.pr, .int .u64 y.qt, .int .i64 y.ct]] w fun e w' => e = .returned (.tuple #[.agg #[.int .u8 k, .int .u64 a0, .int .u64 a1, .int .u64 a2, .int .u64 a3, .int .u64 a4, .int .u64 a5, .int .u64 a6], .int .i64 0]) ∧ Below w.heap.size w w') ∨ (y = ⟨0, 0, 0, 0, 0, 0⟩ ∧ (E = 40 ∨ E = 41))) := by
  by_cases hk : k = 80 ∨ k = 81
  · cases h : dOk ⟨a0, k - 79, IntKind.i64.wrap a1, IntKind.i64.wrap a2, a3, IntKind.i64.wrap a4⟩ with
    | false => exact ⟨⟨0, 0, 0, 0, 0, 0⟩, 40, unpack_no k a0 a1 a2 a3 a4 a5 a6 _ _ _ hk rfl rfl rfl h, .inr ⟨rfl, .inl rfl⟩⟩
    | true =>
      have h' := (dOk_iff _).1 h
      simp only [IntKind.wrap_i64] at h'
      have e1 : IntKind.i64.wrap a1 = a1 := by rw [IntKind.wrap_i64]; omega
      have e2 : IntKind.i64.wrap a2 = a2 := by rw [IntKind.wrap_i64]; omega
      have e4 : IntKind.i64.wrap a4 = a4 := by rw [IntKind.wrap_i64]; omega
      have hc : Ct a4 := by unfold Ct; omega
      rw [e1, e2, e4] at h
      by_cases h5 : a5 = 0 ∧ a6 = 0
      · refine ⟨⟨a0, k - 79, a1, a2, a3, a4⟩, 0, unpack_ok k a0 a1 a2 a3 a4 a5 a6 hk h hc h5.1 h5.2, .inl ⟨rfl, fun w => ?_⟩⟩
        have := pack_ok ⟨a0, k - 79, a1, a2, a3, a4⟩ h hc w
        dsimp only at this
        have e : 79 + (k - 79) = k := by omega
        rw [e] at this
        rw [h5.1, h5.2]
        exact this
      · exact ⟨⟨0, 0, 0, 0, 0, 0⟩, 40, unpack_bad k a0 a1 a2 a3 a4 a5 a6 hk h hc h5, .inr ⟨rfl, .inl rfl⟩⟩
  · exact ⟨⟨0, 0, 0, 0, 0, 0⟩, 41, unpack_kind k a0 a1 a2 a3 a4 a5 a6 (by omega) (by omega), .inr ⟨rfl, .inr rfl⟩⟩
theorem fr_tt (d y : Dm) (E2 k a0 a1 a2 a3 a4 a5 a6 K b0 b1 b2 b3 b4 b5 b6 : Int) (p1 : ∀ w, Calls Try.prog 21 #[.agg #[.int .u64 d.sq, .int .i64 d.kd, .int .i64 d.sd, .int .i64 d.pr, .int .u64 d.qt, .int .i64 d.ct]] w fun e w' => e = .returned (.tuple #[.agg #[.int .u8 K, .int .u64 b0, .int .u64 b1, .int .u64 b2, .int .u64 b3, .int .u64 b4, .int .u64 b5, .int .u64 b6], .int .i64 0]) ∧ Below w.heap.size w w') (u1 : ∀ w, Calls Try.prog 23 #[.agg #[.int .u8 K, .int .u64 b0, .int .u64 b1, .int .u64 b2, .int .u64 b3, .int .u64 b4, .int .u64 b5, .int .u64 b6]] w fun e w' => e = .returned (.tuple #[.agg #[.int .u64 d.sq, .int .i64 d.kd, .int .i64 d.sd, .int .i64 d.pr, .int .u64 d.qt, .int .i64 d.ct], .int .i64 0]) ∧ Below w.heap.size w w') (u2 : ∀ w, Calls Try.prog 23 #[.agg #[.int .u8 k, .int .u64 a0, .int .u64 a1, .int .u64 a2, .int .u64 a3, .int .u64 a4, .int .u64 a5, .int .u64 a6]] w fun e w' => e = .returned (.tuple #[.agg #[.int .u64 y.sq, .int .i64 y.kd, .int .i64 y.sd, .int .i64 y.pr, .int .u64 y.qt, .int .i64 y.ct], .int .i64 0]) ∧ Below w.heap.size w w') (p2 : ∀ w, Calls Try.prog 21 #[.agg #[.int .u64 y.sq, .int .i64 y.kd, .int .i64 y.sd, .int .i64 y.pr, .int .u64 y.qt, .int .i64 y.ct]] w fun e w' => e = .returned (.tuple #[.agg #[.int .u8 k, .int .u64 a0, .int .u64 a1, .int .u64 a2, .int .u64 a3, .int .u64 a4, .int .u64 a5, .int .u64 a6], .int .i64 0]) ∧ Below w.heap.size w w') (w : World) :
    Calls Try.prog 6 #[.agg #[.int .u64 d.sq, .int .i64 d.kd, .int .i64 d.sd, .int .i64 d.pr, .int .u64 d.qt, .int .i64 d.ct], .agg #[.int .u8 k, .int .u64 a0, .int .u64 a1, .int .u64 a2, .int .u64 a3, .int .u64 a4, .int .u64 a5, .int .u64 a6]] w fun e w' => e = .returned (.bool true) ∧ Below w.heap.size w w' := by
  have HL := hid lives_ok
  have P1 := hid p1
  have U2 := hid u2
  have U1 := hid u1
  have P2 := hid p2
  obtain ⟨R, hR⟩ : ∃ R, w.heap.size = R := ⟨_, rfl⟩
  obtain ⟨W, hW⟩ : ∃ W, (w.alloc (.cells #[.int .u64 d.sq, .int .i64 d.kd, .int .i64 d.sd, .int .i64 d.pr, .int .u64 d.qt, .int .i64 d.ct] 48)).alloc (.cells #[.int .u8 k, .int .u64 a0, .int .u64 a1, .int .u64 a2, .int .u64 a3, .int .u64 a4, .int .u64 a5, .int .u64 a6] 70) = W := ⟨_, rfl⟩
  obtain ⟨hb0, x0, x1, _⟩ := alloc2 hR hW
  have HB := hid hb0
  have HD := hid (x0 _ _ rfl)
  have HF := hid (x1 _ _ rfl)
  have HW := hid hW
  have HR := hid hR
  clear p1 u2 hb0 x0 x1 hW hR u1 p2
  go_enter Try.func6, Try.ntmps6
  go_upto_region 1 with fail
  rw [HW.out, HR.out]
  go_upto_region 3 with (go_at_call 25; with_reducible refine (HL.out W).mono ?_; rintro e v0 ⟨rfl, hb⟩; have HB0 := hid hb; clear hb)
  have HD0 := hid (row_on HD.out HB0.out)
  have HF0 := hid (row_on HF.out HB0.out)
  obtain ⟨c0, c1, c2, c3, c4, c5⟩ := row6 HD0.out
  go_upto_region 4 with (go_at_call 21; with_reducible refine (P1.out v0).mono ?_; rintro e v1 ⟨rfl, hb⟩; have HB1 := hid hb; clear hb)
  obtain ⟨W1, hW1⟩ : ∃ W1, v1.alloc (.cells #[.int .u8 K, .int .u64 b0, .int .u64 b1, .int .u64 b2, .int .u64 b3, .int .u64 b4, .int .u64 b5, .int .u64 b6] 70) = W1 := ⟨_, rfl⟩
  have HB2 := hid (show Below v0.heap.size v0 W1 from by rw [← hW1]; exact btr HB1.out (ball _ _))
  have HA := hid (show W1.heap[v1.heap.size]? = some (.cells #[.int .u8 K, .int .u64 b0, .int .u64 b1, .int .u64 b2, .int .u64 b3, .int .u64 b4, .int .u64 b5, .int .u64 b6] 70 (0, 0)) from by rw [← hW1]; exact World.alloc_heap_new _ _)
  rw [hW1]
  clear hW1
  obtain ⟨R1, hR1⟩ : ∃ R, v1.heap.size = R := ⟨_, rfl⟩
  rw [hR1] at HA ⊢
  clear hR1 HB1 c0 c1 c2 c3 c4 c5
  have HD1 := hid (row_on HD0.out HB2.out)
  have HF1 := hid (row_on HF0.out HB2.out)
  have HE1 := hid (btr (btr HB.out HB0.out) HB2.out)
  obtain ⟨f0, f1, f2, f3, f4, f5, f6, f7⟩ := row8 HA.out
  go_upto_region 6 with (go_at_call 23; with_reducible refine (U1.out W1).mono ?_; rintro e v2 ⟨rfl, hb⟩; have HB3 := hid hb; clear hb)
  obtain ⟨W2, hW2⟩ : ∃ W2, v2.alloc (.cells #[.int .u64 d.sq, .int .i64 d.kd, .int .i64 d.sd, .int .i64 d.pr, .int .u64 d.qt, .int .i64 d.ct] 48) = W2 := ⟨_, rfl⟩
  have HB4 := hid (show Below W1.heap.size W1 W2 from by rw [← hW2]; exact btr HB3.out (ball _ _))
  have HA2 := hid (show W2.heap[v2.heap.size]? = some (.cells #[.int .u64 d.sq, .int .i64 d.kd, .int .i64 d.sd, .int .i64 d.pr, .int .u64 d.qt, .int .i64 d.ct] 48 (0, 0)) from by rw [← hW2]; exact World.alloc_heap_new _ _)
  rw [hW2]
  clear hW2
  obtain ⟨R2, hR2⟩ : ∃ R, v2.heap.size = R := ⟨_, rfl⟩
  rw [hR2] at HA2 ⊢
  clear hR2 HB3 f0 f1 f2 f3 f4 f5 f6 f7
  have HF2 := hid (row_on HF1.out HB4.out)
  have HE2 := hid (btr HE1.out HB4.out)
  obtain ⟨c0, c1, c2, c3, c4, c5⟩ := row6 HA2.out
  obtain ⟨d0, d1, d2, d3, d4, d5⟩ := row6 (row_on HD1.out HB4.out)
  have qd := fun U => eqD_same d U
  obtain ⟨f0, f1, f2, f3, f4, f5, f6, f7⟩ := row8 HF2.out
  go_upto_region 8 with fail
  go_upto_region 9 with (go_at_call 23; with_reducible refine (U2.out W2).mono ?_; rintro e v3 ⟨rfl, hb⟩; have HB5 := hid hb; clear hb)
  obtain ⟨W3, hW3⟩ : ∃ W3, v3.alloc (.cells #[.int .u64 y.sq, .int .i64 y.kd, .int .i64 y.sd, .int .i64 y.pr, .int .u64 y.qt, .int .i64 y.ct] 48) = W3 := ⟨_, rfl⟩
  have HB6 := hid (show Below W2.heap.size W2 W3 from by rw [← hW3]; exact btr HB5.out (ball _ _))
  have HA3 := hid (show W3.heap[v3.heap.size]? = some (.cells #[.int .u64 y.sq, .int .i64 y.kd, .int .i64 y.sd, .int .i64 y.pr, .int .u64 y.qt, .int .i64 y.ct] 48 (0, 0)) from by rw [← hW3]; exact World.alloc_heap_new _ _)
  rw [hW3]
  clear hW3
  obtain ⟨R3, hR3⟩ : ∃ R, v3.heap.size = R := ⟨_, rfl⟩
  rw [hR3] at HA3 ⊢
  clear hR3 HB5 f0 f1 f2 f3 f4 f5 f6 f7 c0 c1 c2 c3 c4 c5 d0 d1 d2 d3 d4 d5 qd
  have HF3 := hid (row_on HF2.out HB6.out)
  have HE3 := hid (btr HE2.out HB6.out)
  obtain ⟨c0, c1, c2, c3, c4, c5⟩ := row6 HA3.out
  go_upto_region 12 with (go_at_call 21; with_reducible refine (P2.out W3).mono ?_; rintro e v4 ⟨rfl, hb⟩; have HB7 := hid hb; clear hb)
  obtain ⟨W4, hW4⟩ : ∃ W4, v4.alloc (.cells #[.int .u8 k, .int .u64 a0, .int .u64 a1, .int .u64 a2, .int .u64 a3, .int .u64 a4, .int .u64 a5, .int .u64 a6] 70) = W4 := ⟨_, rfl⟩
  have HB8 := hid (show Below W3.heap.size W3 W4 from by rw [← hW4]; exact btr HB7.out (ball _ _))
  have HA4 := hid (show W4.heap[v4.heap.size]? = some (.cells #[.int .u8 k, .int .u64 a0, .int .u64 a1, .int .u64 a2, .int .u64 a3, .int .u64 a4, .int .u64 a5, .int .u64 a6] 70 (0, 0)) from by rw [← hW4]; exact World.alloc_heap_new _ _)
  rw [hW4]
  clear hW4
  obtain ⟨R4, hR4⟩ : ∃ R, v4.heap.size = R := ⟨_, rfl⟩
  rw [hR4] at HA4 ⊢
  clear hR4 HB7 c0 c1 c2 c3 c4 c5
  obtain ⟨f0, f1, f2, f3, f4, f5, f6, f7⟩ := row8 HA4.out
  obtain ⟨g0, g1, g2, g3, g4, g5, g6, g7⟩ := row8 (row_on HF3.out HB8.out)
  have q1 := eqFr_same
  go_wp2
  go_ret
  exact ⟨by simp, btr HE3.out HB8.out⟩
theorem fr_tf (d y : Dm) (E2 k a0 a1 a2 a3 a4 a5 a6 K b0 b1 b2 b3 b4 b5 b6 : Int) (p1 : ∀ w, Calls Try.prog 21 #[.agg #[.int .u64 d.sq, .int .i64 d.kd, .int .i64 d.sd, .int .i64 d.pr, .int .u64 d.qt, .int .i64 d.ct]] w fun e w' => e = .returned (.tuple #[.agg #[.int .u8 K, .int .u64 b0, .int .u64 b1, .int .u64 b2, .int .u64 b3, .int .u64 b4, .int .u64 b5, .int .u64 b6], .int .i64 0]) ∧ Below w.heap.size w w') (u1 : ∀ w, Calls Try.prog 23 #[.agg #[.int .u8 K, .int .u64 b0, .int .u64 b1, .int .u64 b2, .int .u64 b3, .int .u64 b4, .int .u64 b5, .int .u64 b6]] w fun e w' => e = .returned (.tuple #[.agg #[.int .u64 d.sq, .int .i64 d.kd, .int .i64 d.sd, .int .i64 d.pr, .int .u64 d.qt, .int .i64 d.ct], .int .i64 0]) ∧ Below w.heap.size w w') (u2 : ∀ w, Calls Try.prog 23 #[.agg #[.int .u8 k, .int .u64 a0, .int .u64 a1, .int .u64 a2, .int .u64 a3, .int .u64 a4, .int .u64 a5, .int .u64 a6]] w fun e w' => e = .returned (.tuple #[.agg #[.int .u64 0, .int .i64 0, .int .i64 0, .int .i64 0, .int .u64 0, .int .i64 0], .int .i64 E2]) ∧ Below w.heap.size w w') (hE2 : E2 = 40 ∨ E2 = 41) (w : World) :
    Calls Try.prog 6 #[.agg #[.int .u64 d.sq, .int .i64 d.kd, .int .i64 d.sd, .int .i64 d.pr, .int .u64 d.qt, .int .i64 d.ct], .agg #[.int .u8 k, .int .u64 a0, .int .u64 a1, .int .u64 a2, .int .u64 a3, .int .u64 a4, .int .u64 a5, .int .u64 a6]] w fun e w' => e = .returned (.bool true) ∧ Below w.heap.size w w' := by
  obtain ⟨e2, he2⟩ : ∃ e, E2 = e := ⟨_, rfl⟩
  rcases hE2 with rfl | rfl
  all_goals
    have HL := hid lives_ok
    have P1 := hid p1
    have U2 := hid u2
    have U1 := hid u1
    obtain ⟨R, hR⟩ : ∃ R, w.heap.size = R := ⟨_, rfl⟩
    obtain ⟨W, hW⟩ : ∃ W, (w.alloc (.cells #[.int .u64 d.sq, .int .i64 d.kd, .int .i64 d.sd, .int .i64 d.pr, .int .u64 d.qt, .int .i64 d.ct] 48)).alloc (.cells #[.int .u8 k, .int .u64 a0, .int .u64 a1, .int .u64 a2, .int .u64 a3, .int .u64 a4, .int .u64 a5, .int .u64 a6] 70) = W := ⟨_, rfl⟩
    obtain ⟨hb0, x0, x1, _⟩ := alloc2 hR hW
    have HB := hid hb0
    have HD := hid (x0 _ _ rfl)
    have HF := hid (x1 _ _ rfl)
    have HW := hid hW
    have HR := hid hR
    clear p1 u2 hb0 x0 x1 hW hR u1 he2 e2
    go_enter Try.func6, Try.ntmps6
    go_upto_region 1 with fail
    rw [HW.out, HR.out]
    go_upto_region 3 with (go_at_call 25; with_reducible refine (HL.out W).mono ?_; rintro e v0 ⟨rfl, hb⟩; have HB0 := hid hb; clear hb)
    have HD0 := hid (row_on HD.out HB0.out)
    have HF0 := hid (row_on HF.out HB0.out)
    obtain ⟨c0, c1, c2, c3, c4, c5⟩ := row6 HD0.out
    go_upto_region 4 with (go_at_call 21; with_reducible refine (P1.out v0).mono ?_; rintro e v1 ⟨rfl, hb⟩; have HB1 := hid hb; clear hb)
    obtain ⟨W1, hW1⟩ : ∃ W1, v1.alloc (.cells #[.int .u8 K, .int .u64 b0, .int .u64 b1, .int .u64 b2, .int .u64 b3, .int .u64 b4, .int .u64 b5, .int .u64 b6] 70) = W1 := ⟨_, rfl⟩
    have HB2 := hid (show Below v0.heap.size v0 W1 from by rw [← hW1]; exact btr HB1.out (ball _ _))
    have HA := hid (show W1.heap[v1.heap.size]? = some (.cells #[.int .u8 K, .int .u64 b0, .int .u64 b1, .int .u64 b2, .int .u64 b3, .int .u64 b4, .int .u64 b5, .int .u64 b6] 70 (0, 0)) from by rw [← hW1]; exact World.alloc_heap_new _ _)
    rw [hW1]
    clear hW1
    obtain ⟨R1, hR1⟩ : ∃ R, v1.heap.size = R := ⟨_, rfl⟩
    rw [hR1] at HA ⊢
    clear hR1 HB1 c0 c1 c2 c3 c4 c5
    have HD1 := hid (row_on HD0.out HB2.out)
    have HF1 := hid (row_on HF0.out HB2.out)
    have HE1 := hid (btr (btr HB.out HB0.out) HB2.out)
    obtain ⟨f0, f1, f2, f3, f4, f5, f6, f7⟩ := row8 HA.out
    go_upto_region 6 with (go_at_call 23; with_reducible refine (U1.out W1).mono ?_; rintro e v2 ⟨rfl, hb⟩; have HB3 := hid hb; clear hb)
    obtain ⟨W2, hW2⟩ : ∃ W2, v2.alloc (.cells #[.int .u64 d.sq, .int .i64 d.kd, .int .i64 d.sd, .int .i64 d.pr, .int .u64 d.qt, .int .i64 d.ct] 48) = W2 := ⟨_, rfl⟩
    have HB4 := hid (show Below W1.heap.size W1 W2 from by rw [← hW2]; exact btr HB3.out (ball _ _))
    have HA2 := hid (show W2.heap[v2.heap.size]? = some (.cells #[.int .u64 d.sq, .int .i64 d.kd, .int .i64 d.sd, .int .i64 d.pr, .int .u64 d.qt, .int .i64 d.ct] 48 (0, 0)) from by rw [← hW2]; exact World.alloc_heap_new _ _)
    rw [hW2]
    clear hW2
    obtain ⟨R2, hR2⟩ : ∃ R, v2.heap.size = R := ⟨_, rfl⟩
    rw [hR2] at HA2 ⊢
    clear hR2 HB3 f0 f1 f2 f3 f4 f5 f6 f7
    have HF2 := hid (row_on HF1.out HB4.out)
    have HE2 := hid (btr HE1.out HB4.out)
    obtain ⟨c0, c1, c2, c3, c4, c5⟩ := row6 HA2.out
    obtain ⟨d0, d1, d2, d3, d4, d5⟩ := row6 (row_on HD1.out HB4.out)
    have qd := fun U => eqD_same d U
    obtain ⟨f0, f1, f2, f3, f4, f5, f6, f7⟩ := row8 HF2.out
    go_upto_region 8 with fail
    go_upto_region 9 with (go_at_call 23; with_reducible refine (U2.out W2).mono ?_; rintro e v3 ⟨rfl, hb⟩; have HB5 := hid hb; clear hb)
    obtain ⟨W3, hW3⟩ : ∃ W3, v3.alloc (.cells #[.int .u64 0, .int .i64 0, .int .i64 0, .int .i64 0, .int .u64 0, .int .i64 0] 48) = W3 := ⟨_, rfl⟩
    have HB6 := hid (show Below W2.heap.size W2 W3 from by rw [← hW3]; exact btr HB5.out (ball _ _))
    have HA3 := hid (show W3.heap[v3.heap.size]? = some (.cells #[.int .u64 0, .int .i64 0, .int .i64 0, .int .i64 0, .int .u64 0, .int .i64 0] 48 (0, 0)) from by rw [← hW3]; exact World.alloc_heap_new _ _)
    rw [hW3]
    clear hW3
    obtain ⟨R3, hR3⟩ : ∃ R, v3.heap.size = R := ⟨_, rfl⟩
    rw [hR3] at HA3 ⊢
    clear hR3 HB5 f0 f1 f2 f3 f4 f5 f6 f7 c0 c1 c2 c3 c4 c5 d0 d1 d2 d3 d4 d5 qd
    have HF3 := hid (row_on HF2.out HB6.out)
    have HE3 := hid (btr HE2.out HB6.out)
    obtain ⟨c0, c1, c2, c3, c4, c5⟩ := row6 HA3.out
    have q1 : ∀ U, (Op.equalIn 10000 48 (.agg #[.int .u64 0, .int .i64 0, .int .i64 0, .int .i64 0, .int .u64 0, .int .i64 0]) (.agg #[.int .u64 0, .int .i64 0, .int .i64 0, .int .i64 0, .int .u64 0, .int .i64 0])).run Try.prog U = .ok true U := fun U => eqD_same ⟨0, 0, 0, 0, 0, 0⟩ U
    go_wp2
    go_ret
    exact ⟨by simp, HE3.out⟩
theorem fr_ft (d y : Dm) (E2 k a0 a1 a2 a3 a4 a5 a6 K b0 b1 b2 b3 b4 b5 b6 : Int) (p1 : ∀ w, Calls Try.prog 21 #[.agg #[.int .u64 d.sq, .int .i64 d.kd, .int .i64 d.sd, .int .i64 d.pr, .int .u64 d.qt, .int .i64 d.ct]] w fun e w' => e = .returned (.tuple #[.agg #[.int .u8 K, .int .u64 b0, .int .u64 b1, .int .u64 b2, .int .u64 b3, .int .u64 b4, .int .u64 b5, .int .u64 b6], .int .i64 40]) ∧ Below w.heap.size w w') (u2 : ∀ w, Calls Try.prog 23 #[.agg #[.int .u8 k, .int .u64 a0, .int .u64 a1, .int .u64 a2, .int .u64 a3, .int .u64 a4, .int .u64 a5, .int .u64 a6]] w fun e w' => e = .returned (.tuple #[.agg #[.int .u64 y.sq, .int .i64 y.kd, .int .i64 y.sd, .int .i64 y.pr, .int .u64 y.qt, .int .i64 y.ct], .int .i64 0]) ∧ Below w.heap.size w w') (p2 : ∀ w, Calls Try.prog 21 #[.agg #[.int .u64 y.sq, .int .i64 y.kd, .int .i64 y.sd, .int .i64 y.pr, .int .u64 y.qt, .int .i64 y.ct]] w fun e w' => e = .returned (.tuple #[.agg #[.int .u8 k, .int .u64 a0, .int .u64 a1, .int .u64 a2, .int .u64 a3, .int .u64 a4, .int .u64 a5, .int .u64 a6], .int .i64 0]) ∧ Below w.heap.size w w') (w : World) :
    Calls Try.prog 6 #[.agg #[.int .u64 d.sq, .int .i64 d.kd, .int .i64 d.sd, .int .i64 d.pr, .int .u64 d.qt, .int .i64 d.ct], .agg #[.int .u8 k, .int .u64 a0, .int .u64 a1, .int .u64 a2, .int .u64 a3, .int .u64 a4, .int .u64 a5, .int .u64 a6]] w fun e w' => e = .returned (.bool true) ∧ Below w.heap.size w w' := by
  have HL := hid lives_ok
  have P1 := hid p1
  have U2 := hid u2
  have P2 := hid p2
  obtain ⟨R, hR⟩ : ∃ R, w.heap.size = R := ⟨_, rfl⟩
  obtain ⟨W, hW⟩ : ∃ W, (w.alloc (.cells #[.int .u64 d.sq, .int .i64 d.kd, .int .i64 d.sd, .int .i64 d.pr, .int .u64 d.qt, .int .i64 d.ct] 48)).alloc (.cells #[.int .u8 k, .int .u64 a0, .int .u64 a1, .int .u64 a2, .int .u64 a3, .int .u64 a4, .int .u64 a5, .int .u64 a6] 70) = W := ⟨_, rfl⟩
  obtain ⟨hb0, x0, x1, _⟩ := alloc2 hR hW
  have HB := hid hb0
  have HD := hid (x0 _ _ rfl)
  have HF := hid (x1 _ _ rfl)
  have HW := hid hW
  have HR := hid hR
  clear p1 u2 hb0 x0 x1 hW hR p2
  go_enter Try.func6, Try.ntmps6
  go_upto_region 1 with fail
  rw [HW.out, HR.out]
  go_upto_region 3 with (go_at_call 25; with_reducible refine (HL.out W).mono ?_; rintro e v0 ⟨rfl, hb⟩; have HB0 := hid hb; clear hb)
  have HD0 := hid (row_on HD.out HB0.out)
  have HF0 := hid (row_on HF.out HB0.out)
  obtain ⟨c0, c1, c2, c3, c4, c5⟩ := row6 HD0.out
  go_upto_region 4 with (go_at_call 21; with_reducible refine (P1.out v0).mono ?_; rintro e v1 ⟨rfl, hb⟩; have HB1 := hid hb; clear hb)
  obtain ⟨W1, hW1⟩ : ∃ W1, v1.alloc (.cells #[.int .u8 K, .int .u64 b0, .int .u64 b1, .int .u64 b2, .int .u64 b3, .int .u64 b4, .int .u64 b5, .int .u64 b6] 70) = W1 := ⟨_, rfl⟩
  have HB2 := hid (show Below v0.heap.size v0 W1 from by rw [← hW1]; exact btr HB1.out (ball _ _))
  have HA := hid (show W1.heap[v1.heap.size]? = some (.cells #[.int .u8 K, .int .u64 b0, .int .u64 b1, .int .u64 b2, .int .u64 b3, .int .u64 b4, .int .u64 b5, .int .u64 b6] 70 (0, 0)) from by rw [← hW1]; exact World.alloc_heap_new _ _)
  rw [hW1]
  clear hW1
  obtain ⟨R1, hR1⟩ : ∃ R, v1.heap.size = R := ⟨_, rfl⟩
  rw [hR1] at HA ⊢
  clear hR1 HB1 c0 c1 c2 c3 c4 c5
  have HD1 := hid (row_on HD0.out HB2.out)
  have HF1 := hid (row_on HF0.out HB2.out)
  have HE1 := hid (btr (btr HB.out HB0.out) HB2.out)
  obtain ⟨W2, hW2⟩ : ∃ W2, W1 = W2 := ⟨_, rfl⟩
  rw [hW2] at HF1 HE1 ⊢
  clear hW2
  have HF2 := HF1
  have HE2 := HE1
  obtain ⟨f0, f1, f2, f3, f4, f5, f6, f7⟩ := row8 HF2.out
  go_upto_region 8 with fail
  go_upto_region 9 with (go_at_call 23; with_reducible refine (U2.out W2).mono ?_; rintro e v3 ⟨rfl, hb⟩; have HB5 := hid hb; clear hb)
  obtain ⟨W3, hW3⟩ : ∃ W3, v3.alloc (.cells #[.int .u64 y.sq, .int .i64 y.kd, .int .i64 y.sd, .int .i64 y.pr, .int .u64 y.qt, .int .i64 y.ct] 48) = W3 := ⟨_, rfl⟩
  have HB6 := hid (show Below W2.heap.size W2 W3 from by rw [← hW3]; exact btr HB5.out (ball _ _))
  have HA3 := hid (show W3.heap[v3.heap.size]? = some (.cells #[.int .u64 y.sq, .int .i64 y.kd, .int .i64 y.sd, .int .i64 y.pr, .int .u64 y.qt, .int .i64 y.ct] 48 (0, 0)) from by rw [← hW3]; exact World.alloc_heap_new _ _)
  rw [hW3]
  clear hW3
  obtain ⟨R3, hR3⟩ : ∃ R, v3.heap.size = R := ⟨_, rfl⟩
  rw [hR3] at HA3 ⊢
  clear hR3 HB5 f0 f1 f2 f3 f4 f5 f6 f7
  have HF3 := hid (row_on HF2.out HB6.out)
  have HE3 := hid (btr HE2.out HB6.out)
  obtain ⟨c0, c1, c2, c3, c4, c5⟩ := row6 HA3.out
  go_upto_region 12 with (go_at_call 21; with_reducible refine (P2.out W3).mono ?_; rintro e v4 ⟨rfl, hb⟩; have HB7 := hid hb; clear hb)
  obtain ⟨W4, hW4⟩ : ∃ W4, v4.alloc (.cells #[.int .u8 k, .int .u64 a0, .int .u64 a1, .int .u64 a2, .int .u64 a3, .int .u64 a4, .int .u64 a5, .int .u64 a6] 70) = W4 := ⟨_, rfl⟩
  have HB8 := hid (show Below W3.heap.size W3 W4 from by rw [← hW4]; exact btr HB7.out (ball _ _))
  have HA4 := hid (show W4.heap[v4.heap.size]? = some (.cells #[.int .u8 k, .int .u64 a0, .int .u64 a1, .int .u64 a2, .int .u64 a3, .int .u64 a4, .int .u64 a5, .int .u64 a6] 70 (0, 0)) from by rw [← hW4]; exact World.alloc_heap_new _ _)
  rw [hW4]
  clear hW4
  obtain ⟨R4, hR4⟩ : ∃ R, v4.heap.size = R := ⟨_, rfl⟩
  rw [hR4] at HA4 ⊢
  clear hR4 HB7 c0 c1 c2 c3 c4 c5
  obtain ⟨f0, f1, f2, f3, f4, f5, f6, f7⟩ := row8 HA4.out
  obtain ⟨g0, g1, g2, g3, g4, g5, g6, g7⟩ := row8 (row_on HF3.out HB8.out)
  have q1 := eqFr_same
  go_wp2
  go_ret
  exact ⟨by simp, btr HE3.out HB8.out⟩
theorem fr_ff (d y : Dm) (E2 k a0 a1 a2 a3 a4 a5 a6 K b0 b1 b2 b3 b4 b5 b6 : Int) (p1 : ∀ w, Calls Try.prog 21 #[.agg #[.int .u64 d.sq, .int .i64 d.kd, .int .i64 d.sd, .int .i64 d.pr, .int .u64 d.qt, .int .i64 d.ct]] w fun e w' => e = .returned (.tuple #[.agg #[.int .u8 K, .int .u64 b0, .int .u64 b1, .int .u64 b2, .int .u64 b3, .int .u64 b4, .int .u64 b5, .int .u64 b6], .int .i64 40]) ∧ Below w.heap.size w w') (u2 : ∀ w, Calls Try.prog 23 #[.agg #[.int .u8 k, .int .u64 a0, .int .u64 a1, .int .u64 a2, .int .u64 a3, .int .u64 a4, .int .u64 a5, .int .u64 a6]] w fun e w' => e = .returned (.tuple #[.agg #[.int .u64 0, .int .i64 0, .int .i64 0, .int .i64 0, .int .u64 0, .int .i64 0], .int .i64 E2]) ∧ Below w.heap.size w w') (hE2 : E2 = 40 ∨ E2 = 41) (w : World) :
    Calls Try.prog 6 #[.agg #[.int .u64 d.sq, .int .i64 d.kd, .int .i64 d.sd, .int .i64 d.pr, .int .u64 d.qt, .int .i64 d.ct], .agg #[.int .u8 k, .int .u64 a0, .int .u64 a1, .int .u64 a2, .int .u64 a3, .int .u64 a4, .int .u64 a5, .int .u64 a6]] w fun e w' => e = .returned (.bool true) ∧ Below w.heap.size w w' := by
  obtain ⟨e2, he2⟩ : ∃ e, E2 = e := ⟨_, rfl⟩
  rcases hE2 with rfl | rfl
  all_goals
    have HL := hid lives_ok
    have P1 := hid p1
    have U2 := hid u2
    obtain ⟨R, hR⟩ : ∃ R, w.heap.size = R := ⟨_, rfl⟩
    obtain ⟨W, hW⟩ : ∃ W, (w.alloc (.cells #[.int .u64 d.sq, .int .i64 d.kd, .int .i64 d.sd, .int .i64 d.pr, .int .u64 d.qt, .int .i64 d.ct] 48)).alloc (.cells #[.int .u8 k, .int .u64 a0, .int .u64 a1, .int .u64 a2, .int .u64 a3, .int .u64 a4, .int .u64 a5, .int .u64 a6] 70) = W := ⟨_, rfl⟩
    obtain ⟨hb0, x0, x1, _⟩ := alloc2 hR hW
    have HB := hid hb0
    have HD := hid (x0 _ _ rfl)
    have HF := hid (x1 _ _ rfl)
    have HW := hid hW
    have HR := hid hR
    clear p1 u2 hb0 x0 x1 hW hR he2 e2
    go_enter Try.func6, Try.ntmps6
    go_upto_region 1 with fail
    rw [HW.out, HR.out]
    go_upto_region 3 with (go_at_call 25; with_reducible refine (HL.out W).mono ?_; rintro e v0 ⟨rfl, hb⟩; have HB0 := hid hb; clear hb)
    have HD0 := hid (row_on HD.out HB0.out)
    have HF0 := hid (row_on HF.out HB0.out)
    obtain ⟨c0, c1, c2, c3, c4, c5⟩ := row6 HD0.out
    go_upto_region 4 with (go_at_call 21; with_reducible refine (P1.out v0).mono ?_; rintro e v1 ⟨rfl, hb⟩; have HB1 := hid hb; clear hb)
    obtain ⟨W1, hW1⟩ : ∃ W1, v1.alloc (.cells #[.int .u8 K, .int .u64 b0, .int .u64 b1, .int .u64 b2, .int .u64 b3, .int .u64 b4, .int .u64 b5, .int .u64 b6] 70) = W1 := ⟨_, rfl⟩
    have HB2 := hid (show Below v0.heap.size v0 W1 from by rw [← hW1]; exact btr HB1.out (ball _ _))
    have HA := hid (show W1.heap[v1.heap.size]? = some (.cells #[.int .u8 K, .int .u64 b0, .int .u64 b1, .int .u64 b2, .int .u64 b3, .int .u64 b4, .int .u64 b5, .int .u64 b6] 70 (0, 0)) from by rw [← hW1]; exact World.alloc_heap_new _ _)
    rw [hW1]
    clear hW1
    obtain ⟨R1, hR1⟩ : ∃ R, v1.heap.size = R := ⟨_, rfl⟩
    rw [hR1] at HA ⊢
    clear hR1 HB1 c0 c1 c2 c3 c4 c5
    have HD1 := hid (row_on HD0.out HB2.out)
    have HF1 := hid (row_on HF0.out HB2.out)
    have HE1 := hid (btr (btr HB.out HB0.out) HB2.out)
    obtain ⟨W2, hW2⟩ : ∃ W2, W1 = W2 := ⟨_, rfl⟩
    rw [hW2] at HF1 HE1 ⊢
    clear hW2
    have HF2 := HF1
    have HE2 := HE1
    obtain ⟨f0, f1, f2, f3, f4, f5, f6, f7⟩ := row8 HF2.out
    go_upto_region 8 with fail
    go_upto_region 9 with (go_at_call 23; with_reducible refine (U2.out W2).mono ?_; rintro e v3 ⟨rfl, hb⟩; have HB5 := hid hb; clear hb)
    obtain ⟨W3, hW3⟩ : ∃ W3, v3.alloc (.cells #[.int .u64 0, .int .i64 0, .int .i64 0, .int .i64 0, .int .u64 0, .int .i64 0] 48) = W3 := ⟨_, rfl⟩
    have HB6 := hid (show Below W2.heap.size W2 W3 from by rw [← hW3]; exact btr HB5.out (ball _ _))
    have HA3 := hid (show W3.heap[v3.heap.size]? = some (.cells #[.int .u64 0, .int .i64 0, .int .i64 0, .int .i64 0, .int .u64 0, .int .i64 0] 48 (0, 0)) from by rw [← hW3]; exact World.alloc_heap_new _ _)
    rw [hW3]
    clear hW3
    obtain ⟨R3, hR3⟩ : ∃ R, v3.heap.size = R := ⟨_, rfl⟩
    rw [hR3] at HA3 ⊢
    clear hR3 HB5 f0 f1 f2 f3 f4 f5 f6 f7
    have HF3 := hid (row_on HF2.out HB6.out)
    have HE3 := hid (btr HE2.out HB6.out)
    obtain ⟨c0, c1, c2, c3, c4, c5⟩ := row6 HA3.out
    have q1 : ∀ U, (Op.equalIn 10000 48 (.agg #[.int .u64 0, .int .i64 0, .int .i64 0, .int .i64 0, .int .u64 0, .int .i64 0]) (.agg #[.int .u64 0, .int .i64 0, .int .i64 0, .int .i64 0, .int .u64 0, .int .i64 0])).run Try.prog U = .ok true U := fun U => eqD_same ⟨0, 0, 0, 0, 0, 0⟩ U
    go_wp2
    go_ret
    exact ⟨by simp, HE3.out⟩
theorem frames_walk (d : Dm) (hc : Ct d.ct) (k a0 a1 a2 a3 a4 a5 a6 : Int) (h1 : 0 ≤ a1 ∧ a1 < 18446744073709551616) (h2 : 0 ≤ a2 ∧ a2 < 18446744073709551616) (h4 : 0 ≤ a4 ∧ a4 < 18446744073709551616) (w : World) :
    Calls Try.prog 6 #[.agg #[.int .u64 d.sq, .int .i64 d.kd, .int .i64 d.sd, .int .i64 d.pr, .int .u64 d.qt, .int .i64 d.ct], .agg #[.int .u8 k, .int .u64 a0, .int .u64 a1, .int .u64 a2, .int .u64 a3, .int .u64 a4, .int .u64 a5, .int .u64 a6]] w fun e w' => e = .returned (.bool true) ∧ Below w.heap.size w w' := by
  obtain ⟨K, b0, b1, b2, b3, b4, b5, b6, E, p1, hp⟩ := pack_back d hc
  obtain ⟨y, E2, u2, hu⟩ := unpack_fwd k a0 a1 a2 a3 a4 a5 a6 h1 h2 h4
  rcases hp with ⟨rfl, u1⟩ | rfl
  · rcases hu with ⟨rfl, p2⟩ | ⟨rfl, hE⟩
    · exact fr_tt d y 0 k a0 a1 a2 a3 a4 a5 a6 K b0 b1 b2 b3 b4 b5 b6 p1 u1 u2 p2 w
    · exact fr_tf d ⟨0, 0, 0, 0, 0, 0⟩ E2 k a0 a1 a2 a3 a4 a5 a6 K b0 b1 b2 b3 b4 b5 b6 p1 u1 u2 hE w
  · rcases hu with ⟨rfl, p2⟩ | ⟨rfl, hE⟩
    · exact fr_ft d y 0 k a0 a1 a2 a3 a4 a5 a6 K b0 b1 b2 b3 b4 b5 b6 p1 u2 p2 w
    · exact fr_ff d ⟨0, 0, 0, 0, 0, 0⟩ E2 k a0 a1 a2 a3 a4 a5 a6 K b0 b1 b2 b3 b4 b5 b6 p1 u2 hE w
end Go.Proofs.Ytiphgfghdbmlcaa
