/-
  Frames read.
-/
import Derived.Test.YtiphgfghdbmlcaaFeF
namespace Go.Proofs.Ytiphgfghdbmlcaa
open Go.RowKit Go.Deep
set_option linter.unusedVariables false
set_option linter.unusedSimpArgs false
set_option maxHeartbeats 2000000
set_option maxRecDepth 100000
theorem unpack_bad (k a0 a1 a2 a3 a4 a5 a6 : Int) (hk : k = 80 ∨ k = 81) (h : dOk ⟨a0, k - 79, a1, a2, a3, a4⟩ = true) (hc : Ct a4) (h5 : ¬ (a5 = 0 ∧ a6 = 0)) (w : World) :
    Calls Try.prog 23 #[.agg #[.int .u8 k, .int .u64 a0, .int .u64 a1, .int .u64 a2, .int .u64 a3, .int .u64 a4, .int .u64 a5, .int .u64 a6]] w fun e w' => e = .returned (.tuple #[.agg #[.int .u64 0, .int .i64 0, .int .i64 0, .int .i64 0, .int .u64 0, .int .i64 0], .int .i64 40]) ∧ Below w.heap.size w w' := by
  have C := hid (fun U => canBe_any ⟨a0, k - 79, a1, a2, a3, a4⟩ U)
  rw [h] at C
  have FR := hid (fun U => framed_ok ⟨a0, k - 79, a1, a2, a3, a4⟩ h hc U)
  have h' := (dOk_iff _).1 h
  simp only at h'
  have b1 : 0 ≤ a1 := by omega
  have b2 : a1 < 9223372036854775808 := by omega
  have b3 : 0 ≤ a2 := by omega
  have b4 : a2 < 9223372036854775808 := by omega
  have b5 : 0 ≤ a4 := by omega
  have b6 : a4 < 9223372036854775808 := hc
  clear h' hc
  have Q := hid (show ∀ (kk : Int) (U : World), (Op.equalIn 10000 70 (.agg #[.int .u8 kk, .int .u64 a0, .int .u64 a1, .int .u64 a2, .int .u64 a3, .int .u64 a4, .int .u64 0, .int .u64 0]) (.agg #[.int .u8 kk, .int .u64 a0, .int .u64 a1, .int .u64 a2, .int .u64 a3, .int .u64 a4, .int .u64 a5, .int .u64 a6])).run Try.prog U = .ok false U from fun kk U => by
    rw [eqFr]
    congr 1
    simp
    omega)
  clear h5
  clear h
  rcases hk with rfl | rfl
  · simp only [Int.reduceSub] at C FR ⊢
    simp only [Int.reduceAdd] at FR
    obtain ⟨R, hR⟩ : ∃ R, w.heap.size = R := ⟨_, rfl⟩
    obtain ⟨W, hW⟩ : ∃ W, (((w.alloc (.cells #[.int .u8 80, .int .u64 a0, .int .u64 a1, .int .u64 a2, .int .u64 a3, .int .u64 a4, .int .u64 a5, .int .u64 a6] 70)).alloc (.cells #[.int .u64 0, .int .i64 0, .int .i64 0, .int .i64 0, .int .u64 0, .int .i64 0] 48)).alloc (.cells #[.int .u64 a0, .int .u64 a1, .int .u64 a2, .int .u64 a3, .int .u64 a4, .int .u64 a5, .int .u64 a6] 68)).alloc (.cells #[.int .u64 a0, .int .i64 1, .int .i64 a1, .int .i64 a2, .int .u64 a3, .int .i64 a4] 48) = W := ⟨_, rfl⟩
    obtain ⟨hb0, x0, x1', x2', x3'⟩ := alloc4 hR hW
    have HB0 := hid hb0
    have HF := hid x0
    have HZ := hid x1'
    have HD := hid x3'
    have HW := hid hW
    have HR := hid hR
    clear hb0 x0 x1' x2' x3' hW hR
    go_enter Try.func23, Try.ntmps23
    go_upto_region 5 with fail
    rw [HW.out, HR.out]
    obtain ⟨e0, e1, e2, e3, e4, e5⟩ := row6 HD.out
    go_region_law (first | (go_simp; go_at_call 46; with_reducible refine (C.out W.drew).mono ?_; rintro e w1 ⟨rfl, hb⟩; have HB1 := hid (btr (bdrew1 W) hb); have HZ1 := hid (row_on (row_on HZ.out (bdrew1 W)) hb); have HF1 := hid (row_on (row_on HF.out (bdrew1 W)) hb); have HD1 := hid (row_on (row_on HD.out (bdrew1 W)) hb); obtain ⟨e0, e1, e2, e3, e4, e5⟩ := row6 HD1.out; obtain ⟨f0, f1, f2, f3, f4, f5, f6, f7⟩ := row8 HF1.out; clear hb) | (go_simp; go_at_call 47; with_reducible refine (FR.out w1).mono ?_; rintro e w2 ⟨rfl, hb⟩; have HB2 := hid hb; have HZ2 := hid (row_on HZ1.out hb); obtain ⟨f0, f1, f2, f3, f4, f5, f6, f7⟩ := row8 (row_on HF1.out hb); obtain ⟨e0, e1, e2, e3, e4, e5⟩ := row6 (row_on HD1.out hb); have q := Q.out; clear hb))
    all_goals
      go_wp2_with (refine wpList_store_row (by rfl) 48 (.tmp 2) (.tmp 44) (by rfl) (R + 1) #[.int .u64 0, .int .i64 0, .int .i64 0, .int .i64 0, .int .u64 0, .int .i64 0] (by rfl) (by rfl) 48 _ HZ2.out (show (Try.prog.info? 48).map (·.size) = some (#[.int .u64 0, .int .i64 0, .int .i64 0, .int .i64 0, .int .u64 0, .int .i64 0] : Array Value).size from infoD) (by rfl) (by simp [Value.oneCell']) ?_)
      refine bodyPost_ret (res_ct (fn := Try.f23) Try.results23 _ _ (R + 1) 48 #[.int .u64 0, .int .i64 0, .int .i64 0, .int .i64 0, .int .u64 0, .int .i64 0] (0, 0) _ (.int .i64 40) (by rfl) (by rfl) (setRow_heap _ _ _ _ 48 (0, 0) HZ2.out) Try.underlying48 rfl infoD) rfl ⟨rfl, ?_⟩
      exact setRow_below (btr (btr HB0.out HB1.out) HB2.out) (by have := HR.out; omega)
  · simp only [Int.reduceSub] at C FR ⊢
    simp only [Int.reduceAdd] at FR
    obtain ⟨R, hR⟩ : ∃ R, w.heap.size = R := ⟨_, rfl⟩
    obtain ⟨W, hW⟩ : ∃ W, (((w.alloc (.cells #[.int .u8 81, .int .u64 a0, .int .u64 a1, .int .u64 a2, .int .u64 a3, .int .u64 a4, .int .u64 a5, .int .u64 a6] 70)).alloc (.cells #[.int .u64 0, .int .i64 0, .int .i64 0, .int .i64 0, .int .u64 0, .int .i64 0] 48)).alloc (.cells #[.int .u64 a0, .int .u64 a1, .int .u64 a2, .int .u64 a3, .int .u64 a4, .int .u64 a5, .int .u64 a6] 68)).alloc (.cells #[.int .u64 a0, .int .i64 2, .int .i64 a1, .int .i64 a2, .int .u64 a3, .int .i64 a4] 48) = W := ⟨_, rfl⟩
    obtain ⟨hb0, x0, x1', x2', x3'⟩ := alloc4 hR hW
    have HB0 := hid hb0
    have HF := hid x0
    have HZ := hid x1'
    have HD := hid x3'
    have HW := hid hW
    have HR := hid hR
    clear hb0 x0 x1' x2' x3' hW hR
    go_enter Try.func23, Try.ntmps23
    go_upto_region 5 with fail
    rw [HW.out, HR.out]
    obtain ⟨e0, e1, e2, e3, e4, e5⟩ := row6 HD.out
    go_region_law (first | (go_simp; go_at_call 46; with_reducible refine (C.out W.drew).mono ?_; rintro e w1 ⟨rfl, hb⟩; have HB1 := hid (btr (bdrew1 W) hb); have HZ1 := hid (row_on (row_on HZ.out (bdrew1 W)) hb); have HF1 := hid (row_on (row_on HF.out (bdrew1 W)) hb); have HD1 := hid (row_on (row_on HD.out (bdrew1 W)) hb); obtain ⟨e0, e1, e2, e3, e4, e5⟩ := row6 HD1.out; obtain ⟨f0, f1, f2, f3, f4, f5, f6, f7⟩ := row8 HF1.out; clear hb) | (go_simp; go_at_call 47; with_reducible refine (FR.out w1).mono ?_; rintro e w2 ⟨rfl, hb⟩; have HB2 := hid hb; have HZ2 := hid (row_on HZ1.out hb); obtain ⟨f0, f1, f2, f3, f4, f5, f6, f7⟩ := row8 (row_on HF1.out hb); obtain ⟨e0, e1, e2, e3, e4, e5⟩ := row6 (row_on HD1.out hb); have q := Q.out; clear hb))
    all_goals
      go_wp2_with (refine wpList_store_row (by rfl) 48 (.tmp 2) (.tmp 44) (by rfl) (R + 1) #[.int .u64 0, .int .i64 0, .int .i64 0, .int .i64 0, .int .u64 0, .int .i64 0] (by rfl) (by rfl) 48 _ HZ2.out (show (Try.prog.info? 48).map (·.size) = some (#[.int .u64 0, .int .i64 0, .int .i64 0, .int .i64 0, .int .u64 0, .int .i64 0] : Array Value).size from infoD) (by rfl) (by simp [Value.oneCell']) ?_)
      refine bodyPost_ret (res_ct (fn := Try.f23) Try.results23 _ _ (R + 1) 48 #[.int .u64 0, .int .i64 0, .int .i64 0, .int .i64 0, .int .u64 0, .int .i64 0] (0, 0) _ (.int .i64 40) (by rfl) (by rfl) (setRow_heap _ _ _ _ 48 (0, 0) HZ2.out) Try.underlying48 rfl infoD) rfl ⟨rfl, ?_⟩
      exact setRow_below (btr (btr HB0.out HB1.out) HB2.out) (by have := HR.out; omega)
end Go.Proofs.Ytiphgfghdbmlcaa
