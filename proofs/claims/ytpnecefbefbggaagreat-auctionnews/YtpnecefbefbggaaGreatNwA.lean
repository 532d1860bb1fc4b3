/-
  The document's call of nothing.
-/
import Derived.Test.YtpnecefbefbggaaGreatAuN
namespace Go.Proofs.YtpnecefbefbggaaGreat
open Go.RowKit Go.Deep Go.Sort
set_option linter.unusedVariables false
set_option linter.unusedSimpArgs false
set_option maxHeartbeats 4000000
set_option maxRecDepth 100000
theorem infoR : (Tryz.prog.info? 28).map (·.size) = some 3 := by kernel_rfl
theorem quo_nil (r : Int) : quo r [] [] = none := by
  have h1 : ∀ z ∈ cds r [] [], z.vo = 0 := by
    intro z hz
    obtain ⟨x, _, rfl⟩ := List.mem_map.1 hz
    rfl
  have h2 : 0 < (mst r [] []).length := bst_pos (by rw [cds_len]; exact pcs_pos _ _ _)
  have h3 : (mst r [] []).headD q0 ∈ mst r [] [] := by rw [← headD_at h2]; exact List.getElem_mem h2
  unfold quo
  rw [if_pos (h1 _ (bst_mem h3))]
theorem wd_nil (p : Int) : wd p [] = 0 := rfl
theorem tick_any (p : Int) (w : World) : Calls Tryz.prog 28 #[.int .i64 p] w fun e w' => e = .returned (.bool (isP p)) ∧ w' = w := by
  by_cases h1 : 0 ≤ p
  · go_enter Tryz.func28, Tryz.ntmps28
    go_wp2
    go_ret
    exact ⟨by simp [isP, h1], rfl⟩
  · have hf : isP p = false := by simp only [isP, decide_eq_false_iff_not]; omega
    rw [hf]
    go_enter Tryz.func28, Tryz.ntmps28
    go_wp2
    go_ret
    exact ⟨rfl, rfl⟩
theorem rnew_bad (r m : Int) (w : World) (h : nwk r m = false) : Calls Tryz.prog 10 #[.int .i64 r, .int .i64 m] w fun e w' => e = .returned (.tuple #[.agg #[.int .i64 0, .int .i64 0, .slice none 0 0], .int .i64 1]) ∧ Below w.heap.size w w' := by
  have CP := hid (fun U => tick_any r U)
  unfold nwk at h
  cases hp : isP r with
  | false =>
    rw [hp] at CP
    clear hp h
    go_enter Tryz.func10, Tryz.ntmps10
    go_wp2_with (go_at_call 28; with_reducible refine (CP.out _).mono ?_; rintro e w1 ⟨rfl, rfl⟩)
    refine bodyPost_ret (res_ct (fn := Tryz.f10) Tryz.results10 _ _ w.heap.size 28 #[.int .i64 0, .int .i64 0, .slice none 0 0] (0, 0) _ (.int .i64 1) (by rfl) (by rfl) (World.alloc_heap_new _ _) Tryz.underlying28 rfl infoR) rfl ⟨rfl, ball _ _⟩
  | true =>
    rw [hp] at CP h
    have h2 : ¬ (1 ≤ m ∧ m ≤ 4096) := by simpa using h
    by_cases h3 : m < 1
    · clear hp h h2
      go_enter Tryz.func10, Tryz.ntmps10
      go_wp2_with (go_at_call 28; with_reducible refine (CP.out _).mono ?_; rintro e w1 ⟨rfl, rfl⟩)
      refine bodyPost_ret (res_ct (fn := Tryz.f10) Tryz.results10 _ _ w.heap.size 28 #[.int .i64 0, .int .i64 0, .slice none 0 0] (0, 0) _ (.int .i64 1) (by rfl) (by rfl) (World.alloc_heap_new _ _) Tryz.underlying28 rfl infoR) rfl ⟨rfl, ball _ _⟩
    · have h4 : 4096 < m := by omega
      clear hp h h2
      go_enter Tryz.func10, Tryz.ntmps10
      go_wp2_with (go_at_call 28; with_reducible refine (CP.out _).mono ?_; rintro e w1 ⟨rfl, rfl⟩)
      refine bodyPost_ret (res_ct (fn := Tryz.f10) Tryz.results10 _ _ w.heap.size 28 #[.int .i64 0, .int .i64 0, .slice none 0 0] (0, 0) _ (.int .i64 1) (by rfl) (by rfl) (World.alloc_heap_new _ _) Tryz.underlying28 rfl infoR) rfl ⟨rfl, ball _ _⟩
theorem rnew_ok (r m : Int) (w : World) (h : nwk r m = true) : Calls Tryz.prog 10 #[.int .i64 r, .int .i64 m] w fun e w' => e = .returned (.tuple #[.agg #[.int .i64 r, .int .i64 m, .slice none 0 0], .int .i64 0]) ∧ Below w.heap.size w w' := by
  obtain ⟨a1, a2, a3, a4⟩ := nwk_iff.1 h
  have CP := hid (fun U => tick_any r U)
  rw [show isP r = true by simp [isP]; omega] at CP
  clear h
  go_enter Tryz.func10, Tryz.ntmps10
  go_wp2_with (go_at_call 28; with_reducible refine (CP.out _).mono ?_; rintro e w1 ⟨rfl, rfl⟩)
  refine bodyPost_ret (res_ct (fn := Tryz.f10) Tryz.results10 _ _ w.heap.size 28 #[.int .i64 r, .int .i64 m, .slice none 0 0] (0, 0) _ (.int .i64 0) (by rfl) (by rfl) (World.alloc_heap_new _ _) Tryz.underlying28 rfl infoR) rfl ⟨rfl, ball _ _⟩
theorem rcurve_nil (r m p : Int) (w : World) : Calls Tryz.prog 17 #[.agg #[.int .i64 r, .int .i64 m, .slice none 0 0], .int .i64 p] w fun e w' => e = .returned (.tuple #[.int .u64 0, .int .u64 0]) ∧ Below w.heap.size w w' := by
  have HR := hid (World.alloc_heap_new w (.cells #[.int .i64 r, .int .i64 m, .slice none 0 0] 28))
  go_enter Tryz.func17, Tryz.ntmps17
  go_wp2
  go_loopw [8, 6, 7] (fun iv bv sv wr => iv = .int .i64 0 ∧ bv = .int .u64 0 ∧ sv = .int .u64 0 ∧ w.alloc (.cells #[.int .i64 r, .int .i64 m, .slice none 0 0] 28) = wr) (fun iv _ _ _ => 1 - (intOf iv).toNat)
  case atStart => exact ⟨rfl, rfl, rfl, rfl⟩
  case round =>
    obtain ⟨rfl, rfl, rfl, rfl⟩ := hrel
    go_wp2
    go_ret2
    exact ⟨rfl, ball _ _⟩
theorem rAt_nil (r m p : Int) (w : World) : Calls Tryz.prog 70 #[.agg #[.int .i64 r, .int .i64 m, .slice none 0 0], .int .i64 p] w fun e w' => e = .returned (.agg #[.int .i64 p, .int .u64 0, .int .u64 0, .int .i64 0, .int .i64 0]) ∧ Below w.heap.size w w' := by
  obtain ⟨W, hW⟩ : ∃ W, (w.alloc (.cells #[.int .i64 r, .int .i64 m, .slice none 0 0] 28)).alloc (.cells #[.int .i64 0, .int .u64 0, .int .u64 0, .int .i64 0, .int .i64 0] 58) = W := ⟨_, rfl⟩
  obtain ⟨R, hR⟩ : ∃ R, w.heap.size = R := ⟨_, rfl⟩
  have HRR := hid hR
  have HBW := hid (show Below w.heap.size w W from by rw [← hW]; exact btr (ball _ _) (ball _ _))
  have hK : W.heap[R]? = some (.cells #[.int .i64 r, .int .i64 m, .slice none 0 0] 28 (0, 0)) := by rw [← hW, ← hR]; exact row_on (World.alloc_heap_new _ _) (ball _ _)
  have HZ := hid (show W.heap[R + 1]? = some (.cells #[.int .i64 0, .int .u64 0, .int .u64 0, .int .i64 0, .int .i64 0] 58 (0, 0)) from by
    rw [← hW, ← hR]
    have := World.alloc_heap_new (w.alloc (.cells #[.int .i64 r, .int .i64 m, .slice none 0 0] 28)) (.cells #[.int .i64 0, .int .u64 0, .int .u64 0, .int .i64 0, .int .i64 0] 58)
    simpa using this)
  have k0 := row_cell hK 0
  have k1 := row_cell hK 1
  have k2 := row_cell hK 2
  simp only [List.getElem?_toArray, List.getElem?_cons_succ, List.getElem?_cons_zero] at k0 k1 k2
  have HW := hid hW
  have CC := hid (rcurve_nil r m p W)
  clear hW hR hK
  go_enter Tryz.func70, Tryz.ntmps70
  go_upto_region 1 with fail
  rw [HW.out, HRR.out]
  go_upto_region 6 with (go_at_call 17; with_reducible refine (CC.out).mono ?_; rintro e v1 ⟨rfl, hb⟩; have V1 := hid hb; clear hb)
  have HZ1 := hid (row_on HZ.out V1.out)
  have AI := hid (show (Tryz.prog.info? 58).map (·.size) = some (#[.int .i64 p, .int .u64 0, .int .u64 0, .int .i64 0, .int .i64 0] : Array Value).size from infoQ)
  have AS := hid (show (#[.int .i64 0, .int .u64 0, .int .u64 0, .int .i64 0, .int .i64 0] : Array Value).size = (#[.int .i64 p, .int .u64 0, .int .u64 0, .int .i64 0, .int .i64 0] : Array Value).size from rfl)
  have AA := hid (show (#[.int .i64 p, .int .u64 0, .int .u64 0, .int .i64 0, .int .i64 0] : Array Value).all (·.oneCell') = true from by simp [Value.oneCell'])
  go_wp2_with (refine wpList_store_row (by rfl) 58 (.tmp 4) (.tmp 35) (by rfl) (R + 1) #[.int .i64 p, .int .u64 0, .int .u64 0, .int .i64 0, .int .i64 0] (by rfl) (by rfl) 58 _ HZ1.out AI.out AS.out AA.out ?_)
  refine bodyPost_ret (results_cell_row (fn := Tryz.f70) Tryz.results70 _ _ (R + 1) 58 #[.int .i64 p, .int .u64 0, .int .u64 0, .int .i64 0, .int .i64 0] (0, 0) _ (by rfl) (setRow_heap _ _ _ _ 58 (0, 0) HZ1.out) Tryz.underlying58 rfl infoQ) rfl ⟨rfl, ?_⟩
  exact setRow_below (btr HBW.out V1.out) (by have := HRR.out; omega)
theorem rcandidates_nil (r m : Int) (w : World) : Calls Tryz.prog 40 #[.agg #[.int .i64 r, .int .i64 m, .slice none 0 0]] w fun e w' => ∃ g, e = .returned (.slice (some ⟨g, 0, none⟩) 1 1) ∧ w'.heap[g]? = some (.cells #[.int .i64 r, .int .u64 0, .int .u64 0, .int .i64 0, .int .i64 0] 58 (0, 0)) ∧ Below w.heap.size w w' := by
  obtain ⟨W, hW⟩ : ∃ W, w.alloc (.cells #[.int .i64 r, .int .i64 m, .slice none 0 0] 28) = W := ⟨_, rfl⟩
  obtain ⟨R, hR⟩ : ∃ R, w.heap.size = R := ⟨_, rfl⟩
  have HRR := hid hR
  have HBW := hid (show Below w.heap.size w W from by rw [← hW]; exact ball _ _)
  have HK := hid (show W.heap[R]? = some (.cells #[.int .i64 r, .int .i64 m, .slice none 0 0] 28 (0, 0)) from by rw [← hW, ← hR]; exact World.alloc_heap_new _ _)
  have k0 := row_cell HK.out 0
  have k1 := row_cell HK.out 1
  have k2 := row_cell HK.out 2
  simp only [List.getElem?_toArray, List.getElem?_cons_succ, List.getElem?_cons_zero] at k0 k1 k2
  have HW := hid hW
  have CC := hid (rAt_nil r m r W)
  clear hW hR
  go_enter Tryz.func40, Tryz.ntmps40
  go_upto_region 1 with fail
  rw [HW.out, HRR.out]
  go_upto_region 2 with (go_at_call 70; with_reducible refine (CC.out).mono ?_; rintro e v1 ⟨rfl, hb⟩; have V1 := hid hb; clear hb)
  obtain ⟨X, hX⟩ : ∃ X, v1.alloc (.cells #[.int .i64 r, .int .u64 0, .int .u64 0, .int .i64 0, .int .i64 0] 58) = X := ⟨_, rfl⟩
  obtain ⟨g, hg⟩ : ∃ g, v1.heap.size = g := ⟨_, rfl⟩
  have BX := hid (show Below v1.heap.size v1 X from by rw [← hX]; exact ball _ _)
  have HX := hid (show X.heap[g]? = some (.cells #[.int .i64 r, .int .u64 0, .int .u64 0, .int .i64 0, .int .i64 0] 58 (0, 0)) from by rw [← hX, ← hg]; exact World.alloc_heap_new _ _)
  rw [hX, hg]
  have k2 := row_cell (row_on (row_on HK.out V1.out) BX.out) 2
  simp only [List.getElem?_toArray, List.getElem?_cons_succ, List.getElem?_cons_zero] at k2
  clear hX hg
  go_wp2
  go_loopw [4, 3] (fun iv lv wr => iv = .int .i64 0 ∧ lv = .slice (some ⟨g, 0, none⟩) 1 1 ∧ X = wr) (fun iv _ _ => 1 - (intOf iv).toNat)
  case atStart => exact ⟨rfl, rfl, rfl⟩
  case round =>
    obtain ⟨rfl, rfl, rfl⟩ := hrel
    go_wp2
    go_ret
    exact ⟨g, rfl, HX.out, btr HBW.out (btr V1.out BX.out)⟩
theorem rquote_nil (r m : Int) (w : World) : Calls Tryz.prog 19 #[.agg #[.int .i64 r, .int .i64 m, .slice none 0 0]] w fun e w' => e = .returned (.tuple #[.agg #[.int .i64 0, .int .u64 0, .int .u64 0, .int .i64 0, .int .i64 0], .bool false]) ∧ Below w.heap.size w w' := by
  obtain ⟨W, hW⟩ : ∃ W, (w.alloc (.cells #[.int .i64 r, .int .i64 m, .slice none 0 0] 28)).alloc (.cells #[.int .i64 0, .int .u64 0, .int .u64 0, .int .i64 0, .int .i64 0] 58) = W := ⟨_, rfl⟩
  obtain ⟨R, hR⟩ : ∃ R, w.heap.size = R := ⟨_, rfl⟩
  have HRR := hid hR
  have HBW := hid (show Below w.heap.size w W from by rw [← hW]; exact btr (ball _ _) (ball _ _))
  have hK : W.heap[R]? = some (.cells #[.int .i64 r, .int .i64 m, .slice none 0 0] 28 (0, 0)) := by rw [← hW, ← hR]; exact row_on (World.alloc_heap_new _ _) (ball _ _)
  have HZ := hid (show W.heap[R + 1]? = some (.cells #[.int .i64 0, .int .u64 0, .int .u64 0, .int .i64 0, .int .i64 0] 58 (0, 0)) from by
    rw [← hW, ← hR]
    have := World.alloc_heap_new (w.alloc (.cells #[.int .i64 r, .int .i64 m, .slice none 0 0] 28)) (.cells #[.int .i64 0, .int .u64 0, .int .u64 0, .int .i64 0, .int .i64 0] 58)
    simpa using this)
  have k0 := row_cell hK 0
  have k1 := row_cell hK 1
  have k2 := row_cell hK 2
  simp only [List.getElem?_toArray, List.getElem?_cons_succ, List.getElem?_cons_zero] at k0 k1 k2
  have HW := hid hW
  have CC := hid (rcandidates_nil r m W)
  clear hW hR hK
  go_enter Tryz.func19, Tryz.ntmps19
  go_upto_region 1 with fail
  rw [HW.out, HRR.out]
  go_wp2_with (go_at_call 40; with_reducible refine (CC.out).mono ?_; rintro e v1 ⟨g, rfl, hg, hb⟩; have V1 := hid hb; have HG := hid hg; clear hg hb)
  obtain ⟨q0, q1, q2, q3, q4⟩ := row5 HG.out
  go_loopw [6, 5] (fun iv mv wr => (iv = .int .i64 0 ∨ iv = .int .i64 1) ∧ mv = .int .u64 0 ∧ v1 = wr) (fun iv _ _ => 1 - (intOf iv).toNat)
  case atStart => exact ⟨.inl rfl, rfl, rfl⟩
  case round =>
    obtain ⟨rfl | rfl, rfl, rfl⟩ := hrel
    · go_wp2
      go_roundw
      case rel => exact ⟨.inr (by go_num), rfl, by simp⟩
      case measure => simp [intOf]
    · have HZ1 := hid (row_on HZ.out V1.out)
      have AI := hid (show (Tryz.prog.info? 58).map (·.size) = some (#[.int .i64 0, .int .u64 0, .int .u64 0, .int .i64 0, .int .i64 0] : Array Value).size from infoQ)
      have AS := hid (show (#[.int .i64 0, .int .u64 0, .int .u64 0, .int .i64 0, .int .i64 0] : Array Value).size = (#[.int .i64 0, .int .u64 0, .int .u64 0, .int .i64 0, .int .i64 0] : Array Value).size from rfl)
      have AA := hid (show (#[.int .i64 0, .int .u64 0, .int .u64 0, .int .i64 0, .int .i64 0] : Array Value).all (·.oneCell') = true from by simp [Value.oneCell'])
      go_wp2_with (refine wpList_store_row (by rfl) 58 (.tmp 2) (.tmp 42) (by rfl) (R + 1) #[.int .i64 0, .int .u64 0, .int .u64 0, .int .i64 0, .int .i64 0] (by rfl) (by rfl) 58 _ HZ1.out AI.out AS.out AA.out ?_)
      refine bodyPost_ret (res_ct (fn := Tryz.f19) Tryz.results19 _ _ (R + 1) 58 #[.int .i64 0, .int .u64 0, .int .u64 0, .int .i64 0, .int .i64 0] (0, 0) _ (.bool false) (by rfl) (by rfl) (setRow_heap _ _ _ _ 58 (0, 0) HZ1.out) Tryz.underlying58 rfl infoQ) rfl ⟨rfl, ?_⟩
      exact setRow_below (btr HBW.out V1.out) (by have := HRR.out; omega)
theorem rinterests_nil (r m s : Int) (w : World) : Calls Tryz.prog 26 #[.agg #[.int .i64 r, .int .i64 m, .slice none 0 0], .int .i64 s] w fun e w' => e = .returned (.slice none 0 0) ∧ Below w.heap.size w w' := by
  go_enter Tryz.func26, Tryz.ntmps26
  go_wp2
  go_loopw [6, 5] (fun iv lv wr => iv = .int .i64 0 ∧ lv = .slice none 0 0 ∧ w.alloc (.cells #[.int .i64 r, .int .i64 m, .slice none 0 0] 28) = wr) (fun iv _ _ => 1 - (intOf iv).toNat)
  case atStart => exact ⟨rfl, rfl, rfl⟩
  case round =>
    obtain ⟨rfl, rfl, rfl⟩ := hrel
    go_wp2
    go_ret
    exact ⟨rfl, ball _ _⟩
theorem sameI_nil (w : World) : Calls Tryz.prog 25 #[.slice none 0 0, .slice none 0 0] w fun e w' => e = .returned (.bool true) ∧ Below w.heap.size w w' := by
  go_enter Tryz.func25, Tryz.ntmps25
  go_wp2
  go_loopw [5] (fun iv wr => iv = .int .i64 0 ∧ w = wr) (fun iv _ => 1 - (intOf iv).toNat)
  case atStart => exact ⟨rfl, rfl⟩
  case round =>
    obtain ⟨rfl, rfl⟩ := hrel
    go_wp2
    go_ret
    exact ⟨rfl, Below.refl _ _⟩
theorem sameF_nil (w : World) : Calls Tryz.prog 22 #[.slice none 0 0, .slice none 0 0] w fun e w' => e = .returned (.bool true) ∧ Below w.heap.size w w' := by
  go_enter Tryz.func22, Tryz.ntmps22
  go_wp2
  go_loopw [5] (fun iv wr => iv = .int .i64 0 ∧ w = wr) (fun iv _ => 1 - (intOf iv).toNat)
  case atStart => exact ⟨rfl, rfl⟩
  case round =>
    obtain ⟨rfl, rfl⟩ := hrel
    go_wp2
    go_ret
    exact ⟨rfl, Below.refl _ _⟩
end Go.Proofs.YtpnecefbefbggaaGreat
