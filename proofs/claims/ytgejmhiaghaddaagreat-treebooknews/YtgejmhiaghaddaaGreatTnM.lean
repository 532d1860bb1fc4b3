/-
  Best: there is none.
-/
import Derived.Test.YtgejmhiaghaddaaGreatTnL
namespace Go.Proofs.YtgejmhiaghaddaaGreat
open Go.RowKit Go.Deep
set_option linter.unusedVariables false
set_option linter.unusedSimpArgs false
set_option maxHeartbeats 4000000
set_option maxRecDepth 100000
attribute [local go_sem ↓] Go.wp_at_zero Go.wp_at_succ
theorem info55 : (Tryz.prog.info? 55).map (·.size) = some 3 := by kernel_rfl
theorem dside_none (cap meet : Int) (w : World) : Calls Tryz.prog 38 #[.agg #[.int .i64 cap, .int .i64 meet, .slice none 0 0, .slice none 0 0, .int .u64 0, .int .u64 0], .int .i64 1] w fun e w' => e = .returned (.slice none 0 0) ∧ Below w.heap.size w w' := by
  obtain ⟨R, hR⟩ : ∃ R, w.heap.size = R := ⟨_, rfl⟩
  obtain ⟨W, hW⟩ : ∃ U, w.alloc (.cells #[.int .i64 cap, .int .i64 meet, .slice none 0 0, .slice none 0 0, .int .u64 0, .int .u64 0] 31) = U := ⟨_, rfl⟩
  have b0 : Below w.heap.size w W := by rw [← hW]; exact ball _ _
  have HBW := hid b0
  have HR0 := hid (show W.heap[R]? = some (.cells #[.int .i64 cap, .int .i64 meet, .slice none 0 0, .slice none 0 0, .int .u64 0, .int .u64 0] 31 (0, 0)) from (by rw [← hW, ← hR]; exact World.alloc_heap_new _ _))
  have HW := hid hW
  have HRR := hid hR
  clear hR hW  b0
  obtain ⟨k_0, k_1, k_2, k_3, k_4, k_5⟩ := row6 HR0.out
  go_enter Tryz.func38, Tryz.ntmps38
  go_upto_region 1 with fail
  rw [HW.out, HRR.out]
  go_wp2
  go_ret
  exact ⟨rfl, HBW.out⟩
theorem ddepth_none (cap meet : Int) (w : World) : Calls Tryz.prog 17 #[.agg #[.int .i64 cap, .int .i64 meet, .slice none 0 0, .slice none 0 0, .int .u64 0, .int .u64 0], .int .i64 1, .int .i64 1] w fun e w' => ∃ q c, e = .returned (.slice q 0 c) ∧ Hid (Below w.heap.size w w') := by
  have C := hid (fun U => dside_none cap meet U)
  obtain ⟨R, hR⟩ : ∃ R, w.heap.size = R := ⟨_, rfl⟩
  obtain ⟨W, hW⟩ : ∃ U, w.alloc (.cells #[.int .i64 cap, .int .i64 meet, .slice none 0 0, .slice none 0 0, .int .u64 0, .int .u64 0] 31) = U := ⟨_, rfl⟩
  have b0 : Below w.heap.size w W := by rw [← hW]; exact ball _ _
  have HBW := hid b0
  have HR0 := hid (show W.heap[R]? = some (.cells #[.int .i64 cap, .int .i64 meet, .slice none 0 0, .slice none 0 0, .int .u64 0, .int .u64 0] 31 (0, 0)) from (by rw [← hW, ← hR]; exact World.alloc_heap_new _ _))
  have HW := hid hW
  have HRR := hid hR
  clear hR hW  b0
  have HS0 := hid (fun (U : World) (hU : Below W.heap.size W U) => row6 (row_on HR0.out hU))
  obtain ⟨k_0, k_1, k_2, k_3, k_4, k_5⟩ := row6 HR0.out
  go_enter Tryz.func17, Tryz.ntmps17
  go_upto_region 1 with fail
  rw [HW.out, HRR.out]
  go_upto_region 2 with fail
  clear k_0 k_1 k_2 k_3 k_4 k_5
  obtain ⟨W1, hW1⟩ : ∃ W1, W.alloc (.cells #[] 55) = W1 := ⟨_, rfl⟩
  have HB0 := hid (show Below W.heap.size W W1 from by rw [← hW1]; exact ball _ _)
  rw [hW1]
  clear hW1
  obtain ⟨k_0, k_1, k_2, k_3, k_4, k_5⟩ := HS0.out _ HB0.out
  go_wp2_with (go_at_call 38; with_reducible refine (C.out _).mono ?_; rintro e w1 ⟨rfl, hb1⟩; have HB1 := hid (btr HB0.out hb1); clear hb1)
  clear k_0 k_1 k_2 k_3 k_4 k_5
  go_loopw [7, 9] (fun v iv wr => (∃ q c, v = .slice q 0 c) ∧ iv = .int .i64 0 ∧ Hid (Below W.heap.size W wr)) (fun _ iv _ => 1 - (intOf iv).toNat)
  case atStart => exact ⟨⟨_, _, rfl⟩, rfl, HB1⟩
  case round =>
    obtain ⟨⟨q, c, rfl⟩, rfl, HB⟩ := hrel
    go_wp2
    go_ret
    exact ⟨q, c, rfl, hid (btr HBW.out HB.out)⟩
theorem dbest_none (cap meet : Int) (w : World) : Calls Tryz.prog 15 #[.agg #[.int .i64 cap, .int .i64 meet, .slice none 0 0, .slice none 0 0, .int .u64 0, .int .u64 0], .int .i64 1] w fun e w' => e = .returned (.tuple #[.agg #[.int .i64 0, .int .u64 0, .int .i64 0], .bool false]) ∧ Below w.heap.size w w' := by
  have C := hid (fun U => ddepth_none cap meet U)
  obtain ⟨R, hR⟩ : ∃ R, w.heap.size = R := ⟨_, rfl⟩
  obtain ⟨U0, hU0⟩ : ∃ U, w.alloc (.cells #[.int .i64 cap, .int .i64 meet, .slice none 0 0, .slice none 0 0, .int .u64 0, .int .u64 0] 31) = U := ⟨_, rfl⟩
  obtain ⟨W, hW⟩ : ∃ U, U0.alloc (.cells #[.int .i64 0, .int .u64 0, .int .i64 0] 55) = U := ⟨_, rfl⟩
  have s0 : U0.heap.size = R + 1 := by rw [← hU0]; simp [hR]
  have b0 : Below w.heap.size w U0 := by rw [← hU0]; exact ball _ _
  have b1 : Below U0.heap.size U0 W := by rw [← hW]; exact ball _ _
  have HBW := hid (btr b0 b1)
  have HR0 := hid (show W.heap[R]? = some (.cells #[.int .i64 cap, .int .i64 meet, .slice none 0 0, .slice none 0 0, .int .u64 0, .int .u64 0] 31 (0, 0)) from (row_on (by rw [← hU0, ← hR]; exact World.alloc_heap_new _ _) b1))
  have HR1 := hid (show W.heap[R + 1]? = some (.cells #[.int .i64 0, .int .u64 0, .int .i64 0] 55 (0, 0)) from (by rw [← hW, ← s0]; exact World.alloc_heap_new _ _))
  have HU0 := hid hU0
  have HW := hid hW
  have HRR := hid hR
  clear hR hU0 hW s0 b0 b1
  obtain ⟨k_0, k_1, k_2, k_3, k_4, k_5⟩ := row6 HR0.out
  go_enter Tryz.func15, Tryz.ntmps15
  go_upto_region 1 with fail
  rw [HU0.out, HW.out, HRR.out]
  go_upto_region 3 with (go_at_call 17; with_reducible refine (C.out _).mono ?_; rintro e w1 ⟨q, c, rfl, HB1⟩)
  clear k_0 k_1 k_2 k_3 k_4 k_5
  have HZ1 := hid (row_on HR1.out HB1.out)
  have AI := hid (show (Tryz.prog.info? 55).map (·.size) = some (#[.int .i64 0, .int .u64 0, .int .i64 0] : Array Value).size from info55)
  have AS := hid (show (#[.int .i64 0, .int .u64 0, .int .i64 0] : Array Value).size = (#[.int .i64 0, .int .u64 0, .int .i64 0] : Array Value).size from rfl)
  have AA := hid (show (#[.int .i64 0, .int .u64 0, .int .i64 0] : Array Value).all (·.oneCell') = true from by simp [Value.oneCell'])
  go_wp2_with (refine wpList_store_row (by rfl) 55 (.tmp 4) (.tmp 13) (by rfl) (R + 1) #[.int .i64 0, .int .u64 0, .int .i64 0] (by rfl) (by rfl) 55 _ HZ1.out AI.out AS.out AA.out ?_)
  refine bodyPost_ret (res_ct Tryz.results15 _ _ (R + 1) 55 #[.int .i64 0, .int .u64 0, .int .i64 0] (0, 0) _ (.bool false) (by rfl) (by rfl) (setRow_heap _ _ _ _ 55 (0, 0) HZ1.out) Tryz.underlying55 rfl info55) rfl ⟨rfl, ?_⟩
  exact setRow_below (btr HBW.out HB1.out) (by have := HRR.out; omega)
theorem res_cb {P : Program} {fn : Func} {p p2 : Tmp} {ty ty2 : TypeId} (h : fn.results = #[.cell p ty, .cell p2 ty2]) (tmps : Array Value) (w : World) (g g2 : Nat) (t : TypeId) (cs : Array Value) (fr : Nat × Nat) (d : TypeDesc) (v : Value)
    (hp : tmps.getD p undef = .pointer (some ⟨g, 0, none⟩)) (hp2 : tmps.getD p2 undef = .pointer (some ⟨g2, 0, none⟩)) (hg : w.heap[g]? = some (.cells cs t fr)) (hc : w.cell? ⟨g2, 0, none⟩ = some v)
    (hu : P.underlying ty = some d) (hd : (match d with | .struct _ | .array _ _ => true | _ => false) = true) (hi : (P.info? ty).map (·.size) = some cs.size)
    (hu2 : P.underlying ty2 = some .bool) :
    (results fn tmps).run P w = .ok (.tuple #[.agg cs, v]) w := by
  have hp' : tmps[p]?.getD undef = .pointer (some ⟨g, 0, none⟩) := by simpa using hp
  have hp2' : tmps[p2]?.getD undef = .pointer (some ⟨g2, 0, none⟩) := by simpa using hp2
  have h2 : (loadVar ty2 ⟨g2, 0, none⟩).run P w = .ok v w := by simp [loadVar, isAgg, go_sem, run_underlying hu2, hc]
  simp [results, h, hp', hp2', asAddr, run_loadVar_row w g t ty cs fr d hg hu hd hi, h2]
theorem mbest_none (cap meet : Int) (B : Nat) (w : World) (hK : Bk w B cap meet) : Calls Tryz.prog 36 #[.iface 85 (.pointer (some ⟨B, 4, none⟩)), .int .i64 1] w fun e w' => e = .returned (.tuple #[.agg #[.int .i64 0, .int .u64 0, .int .i64 0], .bool false]) ∧ Below w.heap.size w w' := by
  have HK := hid hK
  have hm := me_lev
  have CL := hid (fun U => lev_any B 1 U)
  clear hK
  obtain ⟨R, hR⟩ : ∃ R, w.heap.size = R := ⟨_, rfl⟩
  obtain ⟨U0, hU0⟩ : ∃ U, w.alloc (.cells #[.int .i64 0, .int .u64 0, .int .i64 0] 55) = U := ⟨_, rfl⟩
  obtain ⟨W, hW⟩ : ∃ U, U0.alloc (.cells #[.bool false] 4) = U := ⟨_, rfl⟩
  have s0 : U0.heap.size = R + 1 := by rw [← hU0]; simp [hR]
  have b0 : Below w.heap.size w U0 := by rw [← hU0]; exact ball _ _
  have b1 : Below U0.heap.size U0 W := by rw [← hW]; exact ball _ _
  have HBW := hid (btr b0 b1)
  have HR0 := hid (show W.heap[R]? = some (.cells #[.int .i64 0, .int .u64 0, .int .i64 0] 55 (0, 0)) from (row_on (by rw [← hU0, ← hR]; exact World.alloc_heap_new _ _) b1))
  have HR1 := hid (show W.heap[R + 1]? = some (.cells #[.bool false] 4 (0, 0)) from (by rw [← hW, ← s0]; exact World.alloc_heap_new _ _))
  have HU0 := hid hU0
  have HW := hid hW
  have HRR := hid hR
  clear hR hU0 hW s0 b0 b1
  refine (callsIn_wide (n := 5)).1 ?_
  refine callsIn_of_wp_marks Tryz.func36 rfl trivial ?_ rfl
  refine wpIn_wide.2 ?_
  simp only [Tryz.ntmps36, List.size_toArray, List.length_cons, List.length_nil, Nat.reduceAdd, Nat.reduceSub, Array.replicate_succ, Array.replicate_zero, List.push_toArray, List.append_toArray, List.nil_append, List.cons_append]
  go_upto_region 1 with fail
  rw [HU0.out, HW.out, HRR.out]
  go_wp2_with (go_at_call 145; with_reducible refine (CL.out _).mono ?_; rintro e w1 ⟨C1, C2, rfl, k1, k2, k3⟩)
  have HC := hid (fun (U : World) (hU : Below w1.heap.size w1 U) => (show U.cell? ⟨C1, 0, none⟩ = some (.pointer (some ⟨B, 4, none⟩)) ∧ U.cell? ⟨C2, 0, none⟩ = some (.int .i64 1) ∧ U.cell? ⟨B, 4, none⟩ = some (.pointer none) from ⟨by rw [hU.cell (p := ⟨C1, 0, none⟩) (block_lt_of_cell k1.out)]; exact k1.out, by rw [hU.cell (p := ⟨C2, 0, none⟩) (block_lt_of_cell k2.out)]; exact k2.out, (HK.out.on (btr (btr HBW.out k3.out) hU)).tops.1⟩))
  refine (wpIn_wide (n := 5)).1 ?_
  refine range_none_156 (by omega) rfl (fun l W1 hb => lev1_1 l C1 C2 B W1 (HC.out W1 hb).1 (HC.out W1 hb).2.1 (HC.out W1 hb).2.2) ?_
  intro D W2 hD hb2 hdef
  have HDF := hid hdef
  have HB2 := hid (btr k3.out hb2)
  have HD := hid (show w.heap.size ≤ D from Nat.le_trans (Nat.le_trans HBW.out.size k3.out.size) hD)
  clear hdef hb2 hD k1 k2 k3
  have HZ0 := hid (row_on HR0.out HB2.out)
  have HZ1 := hid (row_on HR1.out HB2.out)
  have AI := hid (show (Tryz.prog.info? 55).map (·.size) = some (#[.int .i64 0, .int .u64 0, .int .i64 0] : Array Value).size from info55)
  have AS := hid (show (#[.int .i64 0, .int .u64 0, .int .i64 0] : Array Value).size = (#[.int .i64 0, .int .u64 0, .int .i64 0] : Array Value).size from rfl)
  have AA := hid (show (#[.int .i64 0, .int .u64 0, .int .i64 0] : Array Value).all (·.oneCell') = true from by simp [Value.oneCell'])
  have z1 := row_cell HZ1.out 0
  simp only [List.getElem?_toArray, List.getElem?_cons_zero] at z1
  go_wp2_with (refine wpList_store_row (by rfl) 55 (.tmp 4) (.tmp 12) (by rfl) R #[.int .i64 0, .int .u64 0, .int .i64 0] (by rfl) (by rfl) 55 _ HZ0.out AI.out AS.out AA.out ?_; clear z1; have k9 := setRow_kp W2 R #[.int .i64 0, .int .u64 0, .int .i64 0]; have HZ2 := hid (k9.row HZ1.out (fun e => by omega)); have HZ3 := hid (setRow_heap W2 R _ #[.int .i64 0, .int .u64 0, .int .i64 0] 55 (0, 0) HZ0.out); have HB3 := hid (setRow_below (w := w) (cs := #[.int .i64 0, .int .u64 0, .int .i64 0]) (btr HBW.out HB2.out) (by have := HRR.out; omega : w.heap.size ≤ R)); have HD3 := hid (k9.row HDF.out (fun e => by subst e; have := HZ0.out; rw [HDF.out] at this; cases this)); clear k9; have z2 := row_cell HZ2.out 0; have z3 := row_frz HZ2.out 0; simp only [List.getElem?_toArray, List.getElem?_cons_zero] at z2)
  obtain ⟨V, hV⟩ : ∃ V, (W2.setRow R #[.int .i64 0, .int .u64 0, .int .i64 0]).setCell ⟨R + 1, 0, none⟩ (.bool false) = V := ⟨_, rfl⟩
  have k8 := Kp.set (W2.setRow R #[.int .i64 0, .int .u64 0, .int .i64 0]) (R + 1) 0 (.bool false)
  rw [hV] at k8 ⊢
  have HV0 := hid (k8.row HZ3.out (fun e => by omega))
  have HVD := hid (k8.row HD3.out (fun e => by subst e; have := HZ2.out; rw [HD3.out] at this; cases this))
  have HV1 := hid (show V.heap[R + 1]? = some (.cells #[.bool false] 4 (0, 0)) from by
    rw [← hV, heap_setCell_same _ (R + 1) 0 _ 4 (.bool false) HZ2.out]
    rfl)
  have HVB := hid (HB3.out.trans (k8.below HB3.out.size (fun j hj e => by have := HRR.out; omega)))
  clear hV k8 z2 z3
  have d0 : R ≠ D := by rintro rfl; have := HV0.out; rw [HVD.out] at this; cases this
  have d1 : R + 1 ≠ D := by rintro rfl; have := HV1.out; rw [HVD.out] at this; cases this
  refine ⟨by simp, .inl ⟨_, _, rfl, run_takeDeferred HVD.out, ?_⟩⟩
  refine ⟨.tuple #[.agg #[.int .i64 0, .int .u64 0, .int .i64 0], .bool false], ?_, rfl, ?_⟩
  · exact res_cb Tryz.results36 _ _ R (R + 1) 55 #[.int .i64 0, .int .u64 0, .int .i64 0] (0, 0) _ (.bool false) (by rfl) (by rfl) ((World.putObj_heap_other d0).trans HV0.out) (row_cell ((World.putObj_heap_other d1).trans HV1.out) 0) Tryz.underlying55 rfl info55 Tryz.underlying4
  · exact HVB.out.trans (belowK_b (w := w) (Nat.le_refl _) _ _ _ _ HD.out HVD.out rfl rfl)
theorem bbest_none (cap meet : Int) (B : Nat) (w : World) (hK : Bk w B cap meet) : Calls Tryz.prog 14 #[.pointer (some ⟨B, 0, none⟩), .int .i64 1] w fun e w' => e = .returned (.tuple #[.agg #[.int .i64 0, .int .u64 0, .int .i64 0], .bool false]) ∧ Below w.heap.size w w' := by
  have C := hid (fun U h => mbest_none cap meet B U h)
  have HK := hid hK
  clear hK
  obtain ⟨R, hR⟩ : ∃ R, w.heap.size = R := ⟨_, rfl⟩
  obtain ⟨W, hW⟩ : ∃ U, w.alloc (.cells #[.int .i64 0, .int .u64 0, .int .i64 0] 55) = U := ⟨_, rfl⟩
  have b0 : Below w.heap.size w W := by rw [← hW]; exact ball _ _
  have HBW := hid b0
  have HR0 := hid (show W.heap[R]? = some (.cells #[.int .i64 0, .int .u64 0, .int .i64 0] 55 (0, 0)) from (by rw [← hW, ← hR]; exact World.alloc_heap_new _ _))
  have HW := hid hW
  have HRR := hid hR
  clear hR hW  b0
  go_enter Tryz.func14, Tryz.ntmps14
  go_upto_region 1 with fail
  rw [HW.out, HRR.out]
  have AI := hid (show (Tryz.prog.info? 55).map (·.size) = some (#[.int .i64 0, .int .u64 0, .int .i64 0] : Array Value).size from info55)
  have AS := hid (show (#[.int .i64 0, .int .u64 0, .int .i64 0] : Array Value).size = (#[.int .i64 0, .int .u64 0, .int .i64 0] : Array Value).size from rfl)
  have AA := hid (show (#[.int .i64 0, .int .u64 0, .int .i64 0] : Array Value).all (·.oneCell') = true from by simp [Value.oneCell'])
  go_wp2_with (go_at_call 36; with_reducible refine (C.out _ (HK.out.on HBW.out)).mono ?_; rintro e w1 ⟨rfl, hb1⟩; have HB1 := hid hb1; have HZ1 := hid (row_on HR0.out hb1); clear hb1; have z0 := row_cell HZ1.out 0; have z1 := row_cell HZ1.out 1; have z2 := row_cell HZ1.out 2; have y0 := row_frz HZ1.out 0; have y1 := row_frz HZ1.out 1; have y2 := row_frz HZ1.out 2; simp only [List.getElem?_toArray, List.getElem?_cons_succ, List.getElem?_cons_zero] at z0 z1 z2)
  have q1 : (w1.setCell ⟨R, 0, none⟩ (.int .i64 0)).heap[R]? = some (.cells #[.int .i64 0, .int .u64 0, .int .i64 0] 55 (0, 0)) := heap_setCell_same w1 R 0 _ 55 (.int .i64 0) HZ1.out
  have q2 : ((w1.setCell ⟨R, 0, none⟩ (.int .i64 0)).setCell ⟨R, 1, none⟩ (.int .u64 0)).heap[R]? = some (.cells #[.int .i64 0, .int .u64 0, .int .i64 0] 55 (0, 0)) := heap_setCell_same _ R 1 _ 55 (.int .u64 0) q1
  have q3 : (((w1.setCell ⟨R, 0, none⟩ (.int .i64 0)).setCell ⟨R, 1, none⟩ (.int .u64 0)).setCell ⟨R, 2, none⟩ (.int .i64 0)).heap[R]? = some (.cells #[.int .i64 0, .int .u64 0, .int .i64 0] 55 (0, 0)) := heap_setCell_same _ R 2 _ 55 (.int .i64 0) q2
  refine bodyPost_ret (res_ct Tryz.results14 _ _ R 55 #[.int .i64 0, .int .u64 0, .int .i64 0] (0, 0) _ (.bool false) (by rfl) (by rfl) q3 Tryz.underlying55 rfl info55) rfl ⟨rfl, ?_⟩
  have hb := btr HBW.out HB1.out
  have hr : w.heap.size ≤ R := by have := HRR.out; omega
  exact ((hb.setCell (by exact hr) _).setCell (by exact hr) _).setCell (by exact hr) _
end Go.Proofs.YtgejmhiaghaddaaGreat
