/-
  The steps on both calls of nothing.
-/
import Derived.Test.YtpnecefbefbggaaGreatNwC
namespace Go.Proofs.YtpnecefbefbggaaGreat
open Go.RowKit Go.Deep Go.Sort
set_option linter.unusedVariables false
set_option linter.unusedSimpArgs false
set_option maxHeartbeats 4000000
set_option maxRecDepth 100000
theorem eqF_nil (d : Nat) (xs ys : Array Value) (w : World) : (Op.eqFields d xs ys []).run Tryz.prog w = .ok true w := by simp [Op.eqFields]
theorem eqF_any (d : Nat) (xs ys : Array Value) (f : Field) (fs : List Field) (u v : Value) (c : Bool) {r : Bool} {w : World} (hn : f.name ≠ "_") (hx : (part f.type xs f.offset).run Tryz.prog w = .ok u w) (hy : (part f.type ys f.offset).run Tryz.prog w = .ok v w)
    (hq : (Op.equalIn d f.type u v).run Tryz.prog w = .ok c w) (hr : (Op.eqFields d xs ys fs).run Tryz.prog w = .ok r w) : (Op.eqFields d xs ys (f :: fs)).run Tryz.prog w = .ok (c && r) w := by
  simp only [Op.eqFields, if_pos hn, Sem.run_bind, hx, hy, hq, Result.andThen_ok, Sem.run_ite]
  cases c
  · simp
  · simp [hr]
theorem eqF_cons (d : Nat) (xs ys : Array Value) (f : Field) (fs : List Field) (k k' : IntKind) (a b : Int) {r : Bool} {w : World} (hn : f.name ≠ "_") (hx : (part f.type xs f.offset).run Tryz.prog w = .ok (.int k a) w) (hy : (part f.type ys f.offset).run Tryz.prog w = .ok (.int k b) w)
    (hu : Tryz.prog.underlying f.type = some (.int k')) (hr : (Op.eqFields (d + 1) xs ys fs).run Tryz.prog w = .ok r w) : (Op.eqFields (d + 1) xs ys (f :: fs)).run Tryz.prog w = .ok ((a == b) && r) w :=
  eqF_any (d + 1) xs ys f fs _ _ (a == b) hn hx hy (run_equalIn_int w d f.type k k' a b hu) hr
theorem part_int (t : TypeId) (xs : Array Value) (o : Nat) (v : Value) (ha : ∀ w, (isAgg t).run Tryz.prog w = .ok false w) (h : xs[o]? = some v) (w : World) : (part t xs o).run Tryz.prog w = .ok v w := by
  simp [part, Sem.run_bind, ha, h]
theorem underQ : Tryz.prog.underlying 58 = some (.struct (Tryz.prog.fieldsOf 58)) := by kernel_rfl
theorem stoodQ : Tryz.prog.stoodInHeld 58 = false := by kernel_rfl
theorem eqQR (x y : Qt) (w : World) : (Op.equalIn 10000 58 (.agg (qrow x)) (.agg (qrow y))).run Tryz.prog w = .ok ((x.pr == y.pr) && ((x.vo == y.vo) && ((x.su == y.su) && ((x.sd == y.sd) && ((x.ru == y.ru) && true))))) w := by
  rw [show (10000 : Nat) = 9999 + 1 from rfl, run_equalIn_struct w 9999 58 _ _ underQ stoodQ]
  simp only [Program.fieldsOf, Tryz.underlying58]
  exact eqF_cons _ _ _ _ _ .i64 .i64 _ _ (by decide) (part_int 3 _ _ _ Tryz.isAgg3 rfl _) (part_int 3 _ _ _ Tryz.isAgg3 rfl _) Tryz.underlying3 (eqF_cons _ _ _ _ _ .u64 .u64 _ _ (by decide) (part_int 32 _ _ _ Tryz.isAgg32 rfl _) (part_int 32 _ _ _ Tryz.isAgg32 rfl _) Tryz.underlying32 (eqF_cons _ _ _ _ _ .u64 .u64 _ _ (by decide) (part_int 32 _ _ _ Tryz.isAgg32 rfl _) (part_int 32 _ _ _ Tryz.isAgg32 rfl _) Tryz.underlying32 (eqF_cons _ _ _ _ _ .i64 .i64 _ _ (by decide) (part_int 3 _ _ _ Tryz.isAgg3 rfl _) (part_int 3 _ _ _ Tryz.isAgg3 rfl _) Tryz.underlying3 (eqF_cons _ _ _ _ _ .i64 .i64 _ _ (by decide) (part_int 3 _ _ _ Tryz.isAgg3 rfl _) (part_int 3 _ _ _ Tryz.isAgg3 rfl _) Tryz.underlying3 (eqF_nil _ _ _ _)))))
/-- two quotes compared. -/
theorem eqQ (x y : Qt) (w : World) : (Op.equalIn 10000 58 (.agg #[.int .i64 x.pr, .int .u64 x.vo, .int .u64 x.su, .int .i64 x.sd, .int .i64 x.ru]) (.agg #[.int .i64 y.pr, .int .u64 y.vo, .int .u64 y.su, .int .i64 y.sd, .int .i64 y.ru])).run Tryz.prog w = .ok (decide (x = y)) w := by
  have h := eqQR x y w
  unfold qrow at h
  rw [h]
  congr 1
  obtain ⟨a0, a1, a2, a3, a4⟩ := x
  obtain ⟨b0, b1, b2, b3, b4⟩ := y
  simp only [Qt.mk.injEq, Bool.and_true]
  rw [Bool.eq_iff_iff]
  simp
theorem eqZ (w : World) : (Op.equalIn 10000 58 (.agg #[.int .i64 0, .int .u64 0, .int .u64 0, .int .i64 0, .int .i64 0]) (.agg #[.int .i64 0, .int .u64 0, .int .u64 0, .int .i64 0, .int .i64 0])).run Tryz.prog w = .ok true w := by
  have := eqQ q0 q0 w
  simpa using this
theorem ptr_nil (U : World) (B : Nat) : (binOp .eql 25 (.pointer (some ⟨B, 0, none⟩)) (.pointer none)).run Tryz.prog U = .ok (.bool false) U := by kernel_rfl
theorem step_3 (X B : Nat) (r m : Int) (w0 w : World) (h : Pn w0 w X B r m) :
    Calls Tryz.prog 7 #[.pointer (some ⟨X, 0, none⟩), .agg #[.int .i64 3, .bool false, .int .u64 0, .int .u32 0, .int .i64 0, .int .i64 0, .int .i64 0, .int .u64 0, .int .u64 0, .int .i64 0]] w fun e w' => e = .returned (.bool true) ∧ Pn w0 w' X B r m := by
  obtain ⟨R, hR⟩ : ∃ R, w.heap.size = R := ⟨_, rfl⟩
  obtain ⟨W, hW⟩ : ∃ W, w.alloc (.cells #[.int .i64 3, .bool false, .int .u64 0, .int .u32 0, .int .i64 0, .int .i64 0, .int .i64 0, .int .u64 0, .int .u64 0, .int .i64 0] 37) = W := ⟨_, rfl⟩
  have HBW := hid (show Below w.heap.size w W from by rw [← hW]; exact ball _ _)
  have HO := hid (show W.heap[R]? = some (.cells #[.int .i64 3, .bool false, .int .u64 0, .int .u32 0, .int .i64 0, .int .i64 0, .int .i64 0, .int .u64 0, .int .u64 0, .int .i64 0] 37 (0, 0)) from by rw [← hW, ← hR]; exact World.alloc_heap_new _ _)
  have HOC := hid (show ∀ U, Below W.heap.size W U → U.cell? ⟨R, 0, none⟩ = some (.int .i64 3) ∧ U.cell? ⟨R, 9, none⟩ = some (.int .i64 0) from fun U hU => ⟨row_cell (row_on HO.out hU) 0, row_cell (row_on HO.out hU) 9⟩)
  have HP := hid (h.on HBW.out)
  have HW := hid hW
  have HRR := hid hR
  clear h hW hR
  have CL := hid (fun (U : World) (hU : Pn w0 U X B r m) => (len_any B r m none 0 [] none 0 [] U hU.cl).mono (R' := fun e w' => e = .returned (.int .i64 0) ∧ Hid (Below U.heap.size U w') ∧ Hid (Pn w0 w' X B r m)) (fun e w' h => by obtain ⟨h1, n, rfl⟩ := h; exact ⟨h1, hid (bdrew _ _), hid (hU.on (bdrew _ _))⟩))
  go_enter Tryz.func7, Tryz.ntmps7
  go_upto_region 1 with fail
  rw [HW.out, HRR.out]
  obtain ⟨o0, o9⟩ := HOC.out W (Below.refl _ _)
  go_upto_region 14 with fail
  obtain ⟨k0, k1, k2, k3⟩ := HP.out.cells
  go_region_held3 (fun U => U.cell? ⟨X, 0, none⟩ = some (.pointer (some ⟨B, 0, none⟩)) ∧ U.cell? ⟨X, 1, none⟩ = some (.int .i64 r) ∧ U.cell? ⟨X, 2, none⟩ = some (.int .i64 m) ∧ U.cell? ⟨X, 3, none⟩ = some (.slice none 0 0)) (go_keep) (first | (go_at_call 15; with_reducible refine (CL.out _ (HP.out.on (bdrew1 W))).mono ?_; rintro e w1 ⟨rfl, V1, HP1⟩; obtain ⟨k0, k1, k2, k3⟩ := HP1.out.cells))
  go_wp2
  go_ret
  exact ⟨rfl, HP1.out⟩
theorem step_4 (X B : Nat) (r m : Int) (w0 w : World) (h : Pn w0 w X B r m) :
    Calls Tryz.prog 7 #[.pointer (some ⟨X, 0, none⟩), .agg #[.int .i64 4, .bool false, .int .u64 0, .int .u32 0, .int .i64 0, .int .i64 0, .int .i64 0, .int .u64 0, .int .u64 0, .int .i64 5]] w fun e w' => e = .returned (.bool true) ∧ Pn w0 w' X B r m := by
  obtain ⟨R, hR⟩ : ∃ R, w.heap.size = R := ⟨_, rfl⟩
  obtain ⟨W, hW⟩ : ∃ W, w.alloc (.cells #[.int .i64 4, .bool false, .int .u64 0, .int .u32 0, .int .i64 0, .int .i64 0, .int .i64 0, .int .u64 0, .int .u64 0, .int .i64 5] 37) = W := ⟨_, rfl⟩
  have HBW := hid (show Below w.heap.size w W from by rw [← hW]; exact ball _ _)
  have HO := hid (show W.heap[R]? = some (.cells #[.int .i64 4, .bool false, .int .u64 0, .int .u32 0, .int .i64 0, .int .i64 0, .int .i64 0, .int .u64 0, .int .u64 0, .int .i64 5] 37 (0, 0)) from by rw [← hW, ← hR]; exact World.alloc_heap_new _ _)
  have HOC := hid (show ∀ U, Below W.heap.size W U → U.cell? ⟨R, 0, none⟩ = some (.int .i64 4) ∧ U.cell? ⟨R, 9, none⟩ = some (.int .i64 5) from fun U hU => ⟨row_cell (row_on HO.out hU) 0, row_cell (row_on HO.out hU) 9⟩)
  have HP := hid (h.on HBW.out)
  have HW := hid hW
  have HRR := hid hR
  clear h hW hR
  have CA := hid (fun (U : World) (hU : Pn w0 U X B r m) => (curve_any B r m 5 none 0 [] none 0 [] U hU.cl).mono (R' := fun e w' => e = .returned (.tuple #[.int .u64 0, .int .u64 0]) ∧ Hid (Below U.heap.size U w') ∧ Hid (Pn w0 w' X B r m)) (fun e w' h => ⟨h.1, hid h.2, hid (hU.on h.2)⟩))
  have CB := hid (fun (U : World) (hU : Pn w0 U X B r m) => (rcurve_nil r m 5 U).mono (R' := fun e w' => e = .returned (.tuple #[.int .u64 0, .int .u64 0]) ∧ Hid (Below U.heap.size U w') ∧ Hid (Pn w0 w' X B r m)) (fun e w' h => ⟨h.1, hid h.2, hid (hU.on h.2)⟩))
  go_enter Tryz.func7, Tryz.ntmps7
  go_upto_region 1 with fail
  rw [HW.out, HRR.out]
  obtain ⟨o0, o9⟩ := HOC.out W (Below.refl _ _)
  go_upto_region 16 with fail
  obtain ⟨k0, k1, k2, k3⟩ := HP.out.cells
  go_region_held3 (fun U => (U.cell? ⟨X, 0, none⟩ = some (.pointer (some ⟨B, 0, none⟩)) ∧ U.cell? ⟨X, 1, none⟩ = some (.int .i64 r) ∧ U.cell? ⟨X, 2, none⟩ = some (.int .i64 m) ∧ U.cell? ⟨X, 3, none⟩ = some (.slice none 0 0)) ∧ U.cell? ⟨R, 0, none⟩ = some (.int .i64 4) ∧ U.cell? ⟨R, 9, none⟩ = some (.int .i64 5)) (go_keep) (first | (go_at_call 16; with_reducible refine (CA.out _ (HP.out.on (bdrew1 W))).mono ?_; rintro e w1 ⟨rfl, V1, HP1⟩; obtain ⟨k0, k1, k2, k3⟩ := HP1.out.cells; obtain ⟨o0, o9⟩ := HOC.out w1 (btr (bdrew1 W) V1.out)))
  go_upto_region 17 with fail
  go_region_held3 (fun U => (U.cell? ⟨X, 0, none⟩ = some (.pointer (some ⟨B, 0, none⟩)) ∧ U.cell? ⟨X, 1, none⟩ = some (.int .i64 r) ∧ U.cell? ⟨X, 2, none⟩ = some (.int .i64 m) ∧ U.cell? ⟨X, 3, none⟩ = some (.slice none 0 0)) ∧ U.cell? ⟨R, 0, none⟩ = some (.int .i64 4) ∧ U.cell? ⟨R, 9, none⟩ = some (.int .i64 5)) (go_keep) (first | (go_at_call 17; with_reducible refine (CB.out _ (HP1.out.on (bdrew1 w1))).mono ?_; rintro e w2 ⟨rfl, V2, HP2⟩; obtain ⟨k0, k1, k2, k3⟩ := HP2.out.cells; obtain ⟨o0, o9⟩ := HOC.out w2 (btr (btr (bdrew1 W) V1.out) (btr (bdrew1 w1) V2.out))))
  go_wp2
  go_ret
  exact ⟨rfl, HP2.out⟩
theorem step_5 (X B : Nat) (r m : Int) (w0 w : World) (h : Pn w0 w X B r m) :
    Calls Tryz.prog 7 #[.pointer (some ⟨X, 0, none⟩), .agg #[.int .i64 5, .bool false, .int .u64 0, .int .u32 0, .int .i64 0, .int .i64 0, .int .i64 0, .int .u64 0, .int .u64 0, .int .i64 0]] w fun e w' => e = .returned (.bool true) ∧ Pn w0 w' X B r m := by
  obtain ⟨R, hR⟩ : ∃ R, w.heap.size = R := ⟨_, rfl⟩
  obtain ⟨W, hW⟩ : ∃ W, w.alloc (.cells #[.int .i64 5, .bool false, .int .u64 0, .int .u32 0, .int .i64 0, .int .i64 0, .int .i64 0, .int .u64 0, .int .u64 0, .int .i64 0] 37) = W := ⟨_, rfl⟩
  have HBW := hid (show Below w.heap.size w W from by rw [← hW]; exact ball _ _)
  have HO := hid (show W.heap[R]? = some (.cells #[.int .i64 5, .bool false, .int .u64 0, .int .u32 0, .int .i64 0, .int .i64 0, .int .i64 0, .int .u64 0, .int .u64 0, .int .i64 0] 37 (0, 0)) from by rw [← hW, ← hR]; exact World.alloc_heap_new _ _)
  have HOC := hid (show ∀ U, Below W.heap.size W U → U.cell? ⟨R, 0, none⟩ = some (.int .i64 5) ∧ U.cell? ⟨R, 9, none⟩ = some (.int .i64 0) from fun U hU => ⟨row_cell (row_on HO.out hU) 0, row_cell (row_on HO.out hU) 9⟩)
  have HP := hid (h.on HBW.out)
  have HW := hid hW
  have HRR := hid hR
  clear h hW hR
  have CA := hid (fun (U : World) (hU : Pn w0 U X B r m) => (quote_any B r m none 0 [] none 0 [] U hU.cl).mono (R' := fun e w' => e = .returned (.tuple #[.agg #[.int .i64 0, .int .u64 0, .int .u64 0, .int .i64 0, .int .i64 0], .bool false]) ∧ Hid (Below U.heap.size U w') ∧ Hid (Pn w0 w' X B r m)) (fun e w' h => by rw [quo_nil] at h; exact ⟨h.1, hid h.2, hid (hU.on h.2)⟩))
  have CB := hid (fun (U : World) (hU : Pn w0 U X B r m) => (rquote_nil r m U).mono (R' := fun e w' => e = .returned (.tuple #[.agg #[.int .i64 0, .int .u64 0, .int .u64 0, .int .i64 0, .int .i64 0], .bool false]) ∧ Hid (Below U.heap.size U w') ∧ Hid (Pn w0 w' X B r m)) (fun e w' h => ⟨h.1, hid h.2, hid (hU.on h.2)⟩))
  have q := eqZ
  go_enter Tryz.func7, Tryz.ntmps7
  go_upto_region 1 with fail
  rw [HW.out, HRR.out]
  obtain ⟨o0, o9⟩ := HOC.out W (Below.refl _ _)
  obtain ⟨k0, k1, k2, k3⟩ := HP.out.cells
  go_upto_region 21 with (go_at_call 18; with_reducible refine (CA.out _ HP.out).mono ?_; rintro e w1 ⟨rfl, V1, HP1⟩)
  obtain ⟨Y, hY⟩ : ∃ Y, w1.alloc (.cells #[.int .i64 0, .int .u64 0, .int .u64 0, .int .i64 0, .int .i64 0] 58) = Y := ⟨_, rfl⟩
  obtain ⟨g, hg⟩ : ∃ g, w1.heap.size = g := ⟨_, rfl⟩
  have HG := hid (show Y.heap[g]? = some (.cells #[.int .i64 0, .int .u64 0, .int .u64 0, .int .i64 0, .int .i64 0] 58 (0, 0)) from by rw [← hY, ← hg]; exact World.alloc_heap_new _ _)
  have HPY := hid (show Pn w0 Y X B r m from by rw [← hY]; exact HP1.out.on (ball _ _))
  rw [hY, hg]
  clear hY hg k0 k1 k2 k3
  obtain ⟨k0, k1, k2, k3⟩ := HPY.out.cells
  go_upto_region 22 with (go_at_call 19; with_reducible refine (CB.out _ HPY.out).mono ?_; rintro e w2 ⟨rfl, V2, HP2⟩)
  obtain ⟨a0, a1, a2, a3, a4⟩ := row5 (row_on HG.out V2.out)
  have sg := row_lt (row_on HG.out V2.out)
  go_wp2
  go_ret
  exact ⟨rfl, HP2.out.on (ball _ _)⟩
theorem Pn.again {w0 w : World} {X B : Nat} {r m : Int} (h : Pn w0 w X B r m) : Pn w0 (((w.setCell ⟨X, 1, none⟩ (.int .i64 r)).setCell ⟨X, 2, none⟩ (.int .i64 m)).setCell ⟨X, 3, none⟩ (.slice none 0 0)) X B r m := by
  have e1 := heap_setCell_same w X 1 _ _ (.int .i64 r) h.row
  have e2 := heap_setCell_same _ X 2 _ _ (.int .i64 m) e1
  have e3 := heap_setCell_same _ X 3 _ _ (.slice none 0 0) e2
  have k : Kp (fun j => j = X) w (((w.setCell ⟨X, 1, none⟩ (.int .i64 r)).setCell ⟨X, 2, none⟩ (.int .i64 m)).setCell ⟨X, 3, none⟩ (.slice none 0 0)) := ((Kp.set w X 1 _).trans (Kp.set _ X 2 _) (fun _ _ h => h)).trans (Kp.set _ X 3 _) (fun _ _ h => h)
  have hne : B ≠ X := row_ne h.cl.row h.row (by decide)
  exact ⟨e3, ⟨k.row h.cl.row hne, Li.nil _, Li.nil _, h.cl.s1, h.cl.s2, h.cl.ap, h.cl.r0, h.cl.r1, h.cl.m0, h.cl.m1, h.cl.mb⟩, h.be.trans (k.below h.be.size (fun b hb e => by have := h.ge; omega)), h.ge⟩
theorem step_6 (X B : Nat) (r m : Int) (w0 w : World) (h : Pn w0 w X B r m) :
    Calls Tryz.prog 7 #[.pointer (some ⟨X, 0, none⟩), .agg #[.int .i64 6, .bool false, .int .u64 0, .int .u32 0, .int .i64 0, .int .i64 0, .int .i64 0, .int .u64 0, .int .u64 0, .int .i64 0]] w fun e w' => e = .returned (.bool true) ∧ Pn w0 w' X B r m := by
  obtain ⟨R, hR⟩ : ∃ R, w.heap.size = R := ⟨_, rfl⟩
  obtain ⟨W, hW⟩ : ∃ W, w.alloc (.cells #[.int .i64 6, .bool false, .int .u64 0, .int .u32 0, .int .i64 0, .int .i64 0, .int .i64 0, .int .u64 0, .int .u64 0, .int .i64 0] 37) = W := ⟨_, rfl⟩
  have HBW := hid (show Below w.heap.size w W from by rw [← hW]; exact ball _ _)
  have HO := hid (show W.heap[R]? = some (.cells #[.int .i64 6, .bool false, .int .u64 0, .int .u32 0, .int .i64 0, .int .i64 0, .int .i64 0, .int .u64 0, .int .u64 0, .int .i64 0] 37 (0, 0)) from by rw [← hW, ← hR]; exact World.alloc_heap_new _ _)
  have HOC := hid (show ∀ U, Below W.heap.size W U → U.cell? ⟨R, 0, none⟩ = some (.int .i64 6) ∧ U.cell? ⟨R, 9, none⟩ = some (.int .i64 0) from fun U hU => ⟨row_cell (row_on HO.out hU) 0, row_cell (row_on HO.out hU) 9⟩)
  have HP := hid (h.on HBW.out)
  have HW := hid hW
  have HRR := hid hR
  clear h hW hR
  have CA := hid (fun (U : World) (hU : Pn w0 U X B r m) => (uncross_none B r m none 0 [] none 0 [] U hU.cl (quo_nil r)).mono (R' := fun e w' => e = .returned (.tuple #[.slice none 0 0, .agg #[.int .i64 0, .int .u64 0, .int .u64 0, .int .i64 0, .int .i64 0], .bool false]) ∧ Hid (Below U.heap.size U w') ∧ Hid (Pn w0 w' X B r m)) (fun e w' h => ⟨h.1, hid h.2, hid (hU.on h.2)⟩))
  have CB := hid (fun (U : World) (hU : Pn w0 U X B r m) => (runcross_nil r m U).mono (R' := fun e w' => e = .returned (.tuple #[.agg #[.int .i64 r, .int .i64 m, .slice none 0 0], .slice none 0 0, .agg #[.int .i64 0, .int .u64 0, .int .u64 0, .int .i64 0, .int .i64 0], .bool false]) ∧ Hid (Below U.heap.size U w') ∧ Hid (Pn w0 w' X B r m)) (fun e w' h => ⟨h.1, hid h.2, hid (hU.on h.2)⟩))
  have CS := hid (fun (U : World) (hU : Pn w0 U X B r m) => (sameF_nil U).mono (R' := fun e w' => e = .returned (.bool true) ∧ Hid (Below U.heap.size U w') ∧ Hid (Pn w0 w' X B r m)) (fun e w' h => ⟨h.1, hid h.2, hid (hU.on h.2)⟩))
  have q := eqZ
  go_enter Tryz.func7, Tryz.ntmps7
  go_upto_region 1 with fail
  rw [HW.out, HRR.out]
  obtain ⟨o0, o9⟩ := HOC.out W (Below.refl _ _)
  obtain ⟨k0, k1, k2, k3⟩ := HP.out.cells
  go_upto_region 25 with (go_at_call 20; with_reducible refine (CA.out _ HP.out).mono ?_; rintro e w1 ⟨rfl, V1, HP1⟩)
  obtain ⟨Y, hY⟩ : ∃ Y, w1.alloc (.cells #[.int .i64 0, .int .u64 0, .int .u64 0, .int .i64 0, .int .i64 0] 58) = Y := ⟨_, rfl⟩
  obtain ⟨g, hg⟩ : ∃ g, w1.heap.size = g := ⟨_, rfl⟩
  have HG := hid (show Y.heap[g]? = some (.cells #[.int .i64 0, .int .u64 0, .int .u64 0, .int .i64 0, .int .i64 0] 58 (0, 0)) from by rw [← hY, ← hg]; exact World.alloc_heap_new _ _)
  have HPY := hid (show Pn w0 Y X B r m from by rw [← hY]; exact HP1.out.on (ball _ _))
  rw [hY, hg]
  clear hY hg k0 k1 k2 k3
  obtain ⟨k0, k1, k2, k3⟩ := HPY.out.cells
  go_upto_region 26 with (go_at_call 21; with_reducible refine (CB.out _ HPY.out).mono ?_; rintro e w2 ⟨rfl, V2, HP2⟩)
  obtain ⟨Z1, hZ1⟩ : ∃ Y, w2.alloc (.cells #[.int .i64 r, .int .i64 m, .slice none 0 0] 28) = Y := ⟨_, rfl⟩
  obtain ⟨Z, hZ⟩ : ∃ Y, Z1.alloc (.cells #[.int .i64 0, .int .u64 0, .int .u64 0, .int .i64 0, .int .i64 0] 58) = Y := ⟨_, rfl⟩
  obtain ⟨c, hc⟩ : ∃ g, w2.heap.size = g := ⟨_, rfl⟩
  have s1 : Z1.heap.size = c + 1 := by rw [← hZ1, ← hc]; simp
  have BZ1 : Below w2.heap.size w2 Z1 := by rw [← hZ1]; exact ball _ _
  have BZ2 : Below Z1.heap.size Z1 Z := by rw [← hZ]; exact ball _ _
  have HC := hid (show Z.heap[c]? = some (.cells #[.int .i64 r, .int .i64 m, .slice none 0 0] 28 (0, 0)) from row_on (by rw [← hZ1, ← hc]; exact World.alloc_heap_new _ _) BZ2)
  have HC1 := hid (show Z.heap[c + 1]? = some (.cells #[.int .i64 0, .int .u64 0, .int .u64 0, .int .i64 0, .int .i64 0] 58 (0, 0)) from by rw [← hZ, ← s1]; exact World.alloc_heap_new _ _)
  have HPZ := hid (HP2.out.on (btr BZ1 BZ2))
  have HGZ := hid (row_on (row_on HG.out V2.out) (btr BZ1 BZ2))
  rw [hZ1, hZ, hc]
  clear hZ1 hZ hc s1 BZ1 BZ2 k0 k1 k2 k3
  obtain ⟨k0, k1, k2, k3⟩ := HPZ.out.cells
  have f1 := row_frz HPZ.out.row 1
  have f2 := row_frz HPZ.out.row 2
  have f3 := row_frz HPZ.out.row 3
  have c0 := row_cell HC.out 0
  have c1 := row_cell HC.out 1
  have c2 := row_cell HC.out 2
  simp only [List.getElem?_toArray, List.getElem?_cons_succ, List.getElem?_cons_zero] at c0 c1 c2
  go_upto_region 27 with fail
  obtain ⟨Q, hQ⟩ : ∃ Q, ((Z.setCell ⟨X, 1, none⟩ (.int .i64 r)).setCell ⟨X, 2, none⟩ (.int .i64 m)).setCell ⟨X, 3, none⟩ (.slice none 0 0) = Q := ⟨_, rfl⟩
  have HPQ := hid (show Pn w0 Q X B r m from by rw [← hQ]; exact HPZ.out.again)
  have kq : Kp (fun j => j = X) Z Q := by rw [← hQ]; exact ((Kp.set Z X 1 _).trans (Kp.set _ X 2 _) (fun _ _ h => h)).trans (Kp.set _ X 3 _) (fun _ _ h => h)
  have HGQ := hid (kq.row HGZ.out (row_ne HGZ.out HPZ.out.row (by decide)))
  have HCQ := hid (kq.row HC1.out (row_ne HC1.out HPZ.out.row (by decide)))
  rw [hQ]
  clear hQ kq k0 k1 k2 k3 f1 f2 f3 c0 c1 c2
  go_wp2_with (go_at_call 22; with_reducible refine (CS.out _ HPQ.out).mono ?_; rintro e w3 ⟨rfl, V3, HP3⟩; obtain ⟨a0, a1, a2, a3, a4⟩ := row5 (row_on HGQ.out V3.out); obtain ⟨b0, b1, b2, b3, b4⟩ := row5 (row_on HCQ.out V3.out))
  go_loopw [28] (fun iv wr => iv = .int .i64 0 ∧ w3 = wr) (fun iv _ => 1 - (intOf iv).toNat)
  case atStart => exact ⟨rfl, rfl⟩
  case round =>
    obtain ⟨rfl, rfl⟩ := hrel
    go_wp2
    go_ret
    exact ⟨rfl, HP3.out⟩
theorem news_walk (r m : Int) (w : World) : Calls Tryz.prog 3 #[.int .i64 r, .int .i64 m] w fun e w' => e = .returned (.bool true) ∧ Below w.heap.size w w' := by
  cases hk : nwk r m with
  | false =>
    have CM := hid (made_bad r m w hk)
    clear hk
    go_enter Tryz.func3, Tryz.ntmps3
    go_wp2_with (go_at_call 6; with_reducible refine (CM.out).mono ?_; rintro e w1 ⟨X, rfl, hx, hb⟩; have V1 := hid hb; clear hb)
    go_ret
    exact ⟨rfl, V1.out⟩
  | true =>
    have CM := hid (made_ok r m w hk)
    have S3 := hid (fun X B (U : World) (h : Pn w U X B r m) => step_3 X B r m w U h)
    have S4 := hid (fun X B (U : World) (h : Pn w U X B r m) => step_4 X B r m w U h)
    have S5 := hid (fun X B (U : World) (h : Pn w U X B r m) => step_5 X B r m w U h)
    have S6 := hid (fun X B (U : World) (h : Pn w U X B r m) => step_6 X B r m w U h)
    have SL := hid (fun X B (U : World) (h : Pn w U X B r m) => listed_nil X B r m w U h)
    clear hk
    go_enter Tryz.func3, Tryz.ntmps3
    go_wp2_with (first | (go_at_call 6; with_reducible refine (CM.out).mono ?_; rintro e w1 ⟨X, B, rfl, hp⟩; have HP := hid hp; clear hp; obtain ⟨k0, k1, k2, k3⟩ := HP.out.cells; have pq : ∀ U, (binOp .eql 25 (.pointer (some ⟨B, 0, none⟩)) (.pointer none)).run Tryz.prog U = .ok (.bool false) U := fun U => ptr_nil U B) | (go_at_call 7; with_reducible refine (S3.out _ _ _ HP.out).mono ?_; rintro e w3 ⟨rfl, hp⟩; have HP3 := hid hp; clear hp) | (go_at_call 7; with_reducible refine (S5.out _ _ _ HP3.out).mono ?_; rintro e w5 ⟨rfl, hp⟩; have HP5 := hid hp; clear hp) | (go_at_call 7; with_reducible refine (S6.out _ _ _ HP5.out).mono ?_; rintro e w6 ⟨rfl, hp⟩; have HP6 := hid hp; clear hp) | (go_at_call 8; with_reducible refine (SL.out _ _ _ HP6.out).mono ?_; rintro e w7 ⟨rfl, hp⟩; have HP7 := hid hp; clear hp) | (go_at_call 7; with_reducible refine (S4.out _ _ _ HP7.out).mono ?_; rintro e w4 ⟨rfl, hp⟩; have HP4 := hid hp; clear hp))
    go_ret
    exact ⟨rfl, HP4.out.be⟩
end Go.Proofs.YtpnecefbefbggaaGreat
