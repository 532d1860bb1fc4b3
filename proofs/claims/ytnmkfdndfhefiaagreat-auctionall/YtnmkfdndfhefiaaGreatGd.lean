/-
  The document's call of nothing.
-/
import Derived.Test.YtnmkfdndfhefiaaGreatAuN
import Derived.LaidEqlPtr
namespace Go.Proofs.YtnmkfdndfhefiaaGreat
open Go.RowKit Go.Deep Go.Sort
set_option linter.unusedVariables false
set_option linter.unusedSimpArgs false
set_option maxHeartbeats 4000000
set_option maxRecDepth 100000
theorem infoR : (Tryz.prog.info? 29).map (·.size) = some 3 := by kernel_rfl
theorem quo_nil (r : Int) : quo r [] [] = none := by
  have h1 : ∀ z ∈ cds r [] [], z.vo = 0 := by
    intro z hz
    obtain ⟨x, _, rfl⟩ := List.mem_map.1 hz
    rfl
  have h2 : 0 < (mst r [] []).length := bst_pos (by rw [cds_len]; exact pcs_pos _ _ _)
  have h3 : (mst r [] []).headD q0 ∈ mst r [] [] := by rw [← headD_at h2]; exact List.getElem_mem h2
  unfold quo
  rw [if_pos (h1 _ (bst_mem h3))]
theorem wd_nil (p : Int) : wd p [] = 0 := rfl
theorem tick_any (p : Int) (w : World) : Calls Tryz.prog 27 #[.int .i64 p] w fun e w' => e = .returned (.bool (isP p)) ∧ w' = w := by
  by_cases h1 : 0 ≤ p
  · go_enter Tryz.func27, Tryz.ntmps27
    go_wp2
    go_ret
    exact ⟨by simp [isP, h1], rfl⟩
  · have hf : isP p = false := by simp only [isP, decide_eq_false_iff_not]; omega
    rw [hf]
    go_enter Tryz.func27, Tryz.ntmps27
    go_wp2
    go_ret
    exact ⟨rfl, rfl⟩
theorem rnew_bad (r m : Int) (w : World) (h : nwk r m = false) : Calls Tryz.prog 9 #[.int .i64 r, .int .i64 m] w fun e w' => e = .returned (.tuple #[.agg #[.int .i64 0, .int .i64 0, .slice none 0 0], .int .i64 1]) ∧ Below w.heap.size w w' := by
  have CP := hid (fun U => tick_any r U)
  unfold nwk at h
  cases hp : isP r with
  | false =>
    rw [hp] at CP
    clear hp h
    go_enter Tryz.func9, Tryz.ntmps9
    go_wp2_with (go_at_call 27; with_reducible refine (CP.out _).mono ?_; rintro e w1 ⟨rfl, rfl⟩)
    refine bodyPost_ret (res_ct (fn := Tryz.f9) Tryz.results9 _ _ w.heap.size 29 #[.int .i64 0, .int .i64 0, .slice none 0 0] (0, 0) _ (.int .i64 1) (by rfl) (by rfl) (World.alloc_heap_new _ _) Tryz.underlying29 rfl infoR) rfl ⟨rfl, ball _ _⟩
  | true =>
    rw [hp] at CP h
    have h2 : ¬ (1 ≤ m ∧ m ≤ 4096) := by simpa using h
    by_cases h3 : m < 1
    · clear hp h h2
      go_enter Tryz.func9, Tryz.ntmps9
      go_wp2_with (go_at_call 27; with_reducible refine (CP.out _).mono ?_; rintro e w1 ⟨rfl, rfl⟩)
      refine bodyPost_ret (res_ct (fn := Tryz.f9) Tryz.results9 _ _ w.heap.size 29 #[.int .i64 0, .int .i64 0, .slice none 0 0] (0, 0) _ (.int .i64 1) (by rfl) (by rfl) (World.alloc_heap_new _ _) Tryz.underlying29 rfl infoR) rfl ⟨rfl, ball _ _⟩
    · have h4 : 4096 < m := by omega
      clear hp h h2
      go_enter Tryz.func9, Tryz.ntmps9
      go_wp2_with (go_at_call 27; with_reducible refine (CP.out _).mono ?_; rintro e w1 ⟨rfl, rfl⟩)
      refine bodyPost_ret (res_ct (fn := Tryz.f9) Tryz.results9 _ _ w.heap.size 29 #[.int .i64 0, .int .i64 0, .slice none 0 0] (0, 0) _ (.int .i64 1) (by rfl) (by rfl) (World.alloc_heap_new _ _) Tryz.underlying29 rfl infoR) rfl ⟨rfl, ball _ _⟩
theorem rnew_ok (r m : Int) (w : World) (h : nwk r m = true) : Calls Tryz.prog 9 #[.int .i64 r, .int .i64 m] w fun e w' => e = .returned (.tuple #[.agg #[.int .i64 r, .int .i64 m, .slice none 0 0], .int .i64 0]) ∧ Below w.heap.size w w' := by
  obtain ⟨a1, a2, a3, a4⟩ := nwk_iff.1 h
  have CP := hid (fun U => tick_any r U)
  rw [show isP r = true by simp [isP]; omega] at CP
  clear h
  go_enter Tryz.func9, Tryz.ntmps9
  go_wp2_with (go_at_call 27; with_reducible refine (CP.out _).mono ?_; rintro e w1 ⟨rfl, rfl⟩)
  refine bodyPost_ret (res_ct (fn := Tryz.f9) Tryz.results9 _ _ w.heap.size 29 #[.int .i64 r, .int .i64 m, .slice none 0 0] (0, 0) _ (.int .i64 0) (by rfl) (by rfl) (World.alloc_heap_new _ _) Tryz.underlying29 rfl infoR) rfl ⟨rfl, ball _ _⟩
theorem rcurve_nil (r m p : Int) (w : World) : Calls Tryz.prog 16 #[.agg #[.int .i64 r, .int .i64 m, .slice none 0 0], .int .i64 p] w fun e w' => e = .returned (.tuple #[.int .u64 0, .int .u64 0]) ∧ Below w.heap.size w w' := by
  have HR := hid (World.alloc_heap_new w (.cells #[.int .i64 r, .int .i64 m, .slice none 0 0] 29))
  go_enter Tryz.func16, Tryz.ntmps16
  go_wp2
  go_loopw [8, 6, 7] (fun iv bv sv wr => iv = .int .i64 0 ∧ bv = .int .u64 0 ∧ sv = .int .u64 0 ∧ w.alloc (.cells #[.int .i64 r, .int .i64 m, .slice none 0 0] 29) = wr) (fun iv _ _ _ => 1 - (intOf iv).toNat)
  case atStart => exact ⟨rfl, rfl, rfl, rfl⟩
  case round =>
    obtain ⟨rfl, rfl, rfl, rfl⟩ := hrel
    go_wp2
    go_ret2
    exact ⟨rfl, ball _ _⟩
theorem rAt_nil (r m p : Int) (w : World) : Calls Tryz.prog 69 #[.agg #[.int .i64 r, .int .i64 m, .slice none 0 0], .int .i64 p] w fun e w' => e = .returned (.agg #[.int .i64 p, .int .u64 0, .int .u64 0, .int .i64 0, .int .i64 0]) ∧ Below w.heap.size w w' := by
  obtain ⟨W, hW⟩ : ∃ W, (w.alloc (.cells #[.int .i64 r, .int .i64 m, .slice none 0 0] 29)).alloc (.cells #[.int .i64 0, .int .u64 0, .int .u64 0, .int .i64 0, .int .i64 0] 57) = W := ⟨_, rfl⟩
  obtain ⟨R, hR⟩ : ∃ R, w.heap.size = R := ⟨_, rfl⟩
  have HRR := hid hR
  have HBW := hid (show Below w.heap.size w W from by rw [← hW]; exact btr (ball _ _) (ball _ _))
  have hK : W.heap[R]? = some (.cells #[.int .i64 r, .int .i64 m, .slice none 0 0] 29 (0, 0)) := by rw [← hW, ← hR]; exact row_on (World.alloc_heap_new _ _) (ball _ _)
  have HZ := hid (show W.heap[R + 1]? = some (.cells #[.int .i64 0, .int .u64 0, .int .u64 0, .int .i64 0, .int .i64 0] 57 (0, 0)) from by
    rw [← hW, ← hR]
    have := World.alloc_heap_new (w.alloc (.cells #[.int .i64 r, .int .i64 m, .slice none 0 0] 29)) (.cells #[.int .i64 0, .int .u64 0, .int .u64 0, .int .i64 0, .int .i64 0] 57)
    simpa using this)
  have k0 := row_cell hK 0
  have k1 := row_cell hK 1
  have k2 := row_cell hK 2
  simp only [List.getElem?_toArray, List.getElem?_cons_succ, List.getElem?_cons_zero] at k0 k1 k2
  have HW := hid hW
  have CC := hid (rcurve_nil r m p W)
  clear hW hR hK
  go_enter Tryz.func69, Tryz.ntmps69
  go_upto_region 1 with fail
  rw [HW.out, HRR.out]
  go_upto_region 6 with (go_at_call 16; with_reducible refine (CC.out).mono ?_; rintro e v1 ⟨rfl, hb⟩; have V1 := hid hb; clear hb)
  have HZ1 := hid (row_on HZ.out V1.out)
  have AI := hid (show (Tryz.prog.info? 57).map (·.size) = some (#[.int .i64 p, .int .u64 0, .int .u64 0, .int .i64 0, .int .i64 0] : Array Value).size from infoQ)
  have AS := hid (show (#[.int .i64 0, .int .u64 0, .int .u64 0, .int .i64 0, .int .i64 0] : Array Value).size = (#[.int .i64 p, .int .u64 0, .int .u64 0, .int .i64 0, .int .i64 0] : Array Value).size from rfl)
  have AA := hid (show (#[.int .i64 p, .int .u64 0, .int .u64 0, .int .i64 0, .int .i64 0] : Array Value).all (·.oneCell') = true from by simp [Value.oneCell'])
  go_wp2_with (refine wpList_store_row (by rfl) 57 (.tmp 4) (.tmp 35) (by rfl) (R + 1) #[.int .i64 p, .int .u64 0, .int .u64 0, .int .i64 0, .int .i64 0] (by rfl) (by rfl) 57 _ HZ1.out AI.out AS.out AA.out ?_)
  refine bodyPost_ret (results_cell_row (fn := Tryz.f69) Tryz.results69 _ _ (R + 1) 57 #[.int .i64 p, .int .u64 0, .int .u64 0, .int .i64 0, .int .i64 0] (0, 0) _ (by rfl) (setRow_heap _ _ _ _ 57 (0, 0) HZ1.out) Tryz.underlying57 rfl infoQ) rfl ⟨rfl, ?_⟩
  exact setRow_below (btr HBW.out V1.out) (by have := HRR.out; omega)
theorem rcandidates_nil (r m : Int) (w : World) : Calls Tryz.prog 39 #[.agg #[.int .i64 r, .int .i64 m, .slice none 0 0]] w fun e w' => ∃ g, e = .returned (.slice (some ⟨g, 0, none⟩) 1 1) ∧ w'.heap[g]? = some (.cells #[.int .i64 r, .int .u64 0, .int .u64 0, .int .i64 0, .int .i64 0] 57 (0, 0)) ∧ Below w.heap.size w w' := by
  obtain ⟨W, hW⟩ : ∃ W, w.alloc (.cells #[.int .i64 r, .int .i64 m, .slice none 0 0] 29) = W := ⟨_, rfl⟩
  obtain ⟨R, hR⟩ : ∃ R, w.heap.size = R := ⟨_, rfl⟩
  have HRR := hid hR
  have HBW := hid (show Below w.heap.size w W from by rw [← hW]; exact ball _ _)
  have HK := hid (show W.heap[R]? = some (.cells #[.int .i64 r, .int .i64 m, .slice none 0 0] 29 (0, 0)) from by rw [← hW, ← hR]; exact World.alloc_heap_new _ _)
  have k0 := row_cell HK.out 0
  have k1 := row_cell HK.out 1
  have k2 := row_cell HK.out 2
  simp only [List.getElem?_toArray, List.getElem?_cons_succ, List.getElem?_cons_zero] at k0 k1 k2
  have HW := hid hW
  have CC := hid (rAt_nil r m r W)
  clear hW hR
  go_enter Tryz.func39, Tryz.ntmps39
  go_upto_region 1 with fail
  rw [HW.out, HRR.out]
  go_upto_region 2 with (go_at_call 69; with_reducible refine (CC.out).mono ?_; rintro e v1 ⟨rfl, hb⟩; have V1 := hid hb; clear hb)
  obtain ⟨X, hX⟩ : ∃ X, v1.alloc (.cells #[.int .i64 r, .int .u64 0, .int .u64 0, .int .i64 0, .int .i64 0] 57) = X := ⟨_, rfl⟩
  obtain ⟨g, hg⟩ : ∃ g, v1.heap.size = g := ⟨_, rfl⟩
  have BX := hid (show Below v1.heap.size v1 X from by rw [← hX]; exact ball _ _)
  have HX := hid (show X.heap[g]? = some (.cells #[.int .i64 r, .int .u64 0, .int .u64 0, .int .i64 0, .int .i64 0] 57 (0, 0)) from by rw [← hX, ← hg]; exact World.alloc_heap_new _ _)
  rw [hX, hg]
  have k2 := row_cell (row_on (row_on HK.out V1.out) BX.out) 2
  simp only [List.getElem?_toArray, List.getElem?_cons_succ, List.getElem?_cons_zero] at k2
  clear hX hg
  go_wp2
  go_loopw [4, 3] (fun iv lv wr => iv = .int .i64 0 ∧ lv = .slice (some ⟨g, 0, none⟩) 1 1 ∧ X = wr) (fun iv _ _ => 1 - (intOf iv).toNat)
  case atStart => exact ⟨rfl, rfl, rfl⟩
  case round =>
    obtain ⟨rfl, rfl, rfl⟩ := hrel
    go_wp2
    go_ret
    exact ⟨g, rfl, HX.out, btr HBW.out (btr V1.out BX.out)⟩
theorem rquote_nil (r m : Int) (w : World) : Calls Tryz.prog 18 #[.agg #[.int .i64 r, .int .i64 m, .slice none 0 0]] w fun e w' => e = .returned (.tuple #[.agg #[.int .i64 0, .int .u64 0, .int .u64 0, .int .i64 0, .int .i64 0], .bool false]) ∧ Below w.heap.size w w' := by
  obtain ⟨W, hW⟩ : ∃ W, (w.alloc (.cells #[.int .i64 r, .int .i64 m, .slice none 0 0] 29)).alloc (.cells #[.int .i64 0, .int .u64 0, .int .u64 0, .int .i64 0, .int .i64 0] 57) = W := ⟨_, rfl⟩
  obtain ⟨R, hR⟩ : ∃ R, w.heap.size = R := ⟨_, rfl⟩
  have HRR := hid hR
  have HBW := hid (show Below w.heap.size w W from by rw [← hW]; exact btr (ball _ _) (ball _ _))
  have hK : W.heap[R]? = some (.cells #[.int .i64 r, .int .i64 m, .slice none 0 0] 29 (0, 0)) := by rw [← hW, ← hR]; exact row_on (World.alloc_heap_new _ _) (ball _ _)
  have HZ := hid (show W.heap[R + 1]? = some (.cells #[.int .i64 0, .int .u64 0, .int .u64 0, .int .i64 0, .int .i64 0] 57 (0, 0)) from by
    rw [← hW, ← hR]
    have := World.alloc_heap_new (w.alloc (.cells #[.int .i64 r, .int .i64 m, .slice none 0 0] 29)) (.cells #[.int .i64 0, .int .u64 0, .int .u64 0, .int .i64 0, .int .i64 0] 57)
    simpa using this)
  have k0 := row_cell hK 0
  have k1 := row_cell hK 1
  have k2 := row_cell hK 2
  simp only [List.getElem?_toArray, List.getElem?_cons_succ, List.getElem?_cons_zero] at k0 k1 k2
  have HW := hid hW
  have CC := hid (rcandidates_nil r m W)
  clear hW hR hK
  go_enter Tryz.func18, Tryz.ntmps18
  go_upto_region 1 with fail
  rw [HW.out, HRR.out]
  go_wp2_with (go_at_call 39; with_reducible refine (CC.out).mono ?_; rintro e v1 ⟨g, rfl, hg, hb⟩; have V1 := hid hb; have HG := hid hg; clear hg hb)
  obtain ⟨q0, q1, q2, q3, q4⟩ := row5 HG.out
  go_loopw [6, 5] (fun iv mv wr => (iv = .int .i64 0 ∨ iv = .int .i64 1) ∧ mv = .int .u64 0 ∧ v1 = wr) (fun iv _ _ => 1 - (intOf iv).toNat)
  case atStart => exact ⟨.inl rfl, rfl, rfl⟩
  case round =>
    obtain ⟨rfl | rfl, rfl, rfl⟩ := hrel
    · go_wp2
      go_roundw
      case rel => exact ⟨.inr (by go_num), rfl, by simp⟩
      case measure => simp [intOf]
    · have HZ1 := hid (row_on HZ.out V1.out)
      have AI := hid (show (Tryz.prog.info? 57).map (·.size) = some (#[.int .i64 0, .int .u64 0, .int .u64 0, .int .i64 0, .int .i64 0] : Array Value).size from infoQ)
      have AS := hid (show (#[.int .i64 0, .int .u64 0, .int .u64 0, .int .i64 0, .int .i64 0] : Array Value).size = (#[.int .i64 0, .int .u64 0, .int .u64 0, .int .i64 0, .int .i64 0] : Array Value).size from rfl)
      have AA := hid (show (#[.int .i64 0, .int .u64 0, .int .u64 0, .int .i64 0, .int .i64 0] : Array Value).all (·.oneCell') = true from by simp [Value.oneCell'])
      go_wp2_with (refine wpList_store_row (by rfl) 57 (.tmp 2) (.tmp 42) (by rfl) (R + 1) #[.int .i64 0, .int .u64 0, .int .u64 0, .int .i64 0, .int .i64 0] (by rfl) (by rfl) 57 _ HZ1.out AI.out AS.out AA.out ?_)
      refine bodyPost_ret (res_ct (fn := Tryz.f18) Tryz.results18 _ _ (R + 1) 57 #[.int .i64 0, .int .u64 0, .int .u64 0, .int .i64 0, .int .i64 0] (0, 0) _ (.bool false) (by rfl) (by rfl) (setRow_heap _ _ _ _ 57 (0, 0) HZ1.out) Tryz.underlying57 rfl infoQ) rfl ⟨rfl, ?_⟩
      exact setRow_below (btr HBW.out V1.out) (by have := HRR.out; omega)
theorem rinterests_nil (r m s : Int) (w : World) : Calls Tryz.prog 25 #[.agg #[.int .i64 r, .int .i64 m, .slice none 0 0], .int .i64 s] w fun e w' => e = .returned (.slice none 0 0) ∧ Below w.heap.size w w' := by
  go_enter Tryz.func25, Tryz.ntmps25
  go_wp2
  go_loopw [6, 5] (fun iv lv wr => iv = .int .i64 0 ∧ lv = .slice none 0 0 ∧ w.alloc (.cells #[.int .i64 r, .int .i64 m, .slice none 0 0] 29) = wr) (fun iv _ _ => 1 - (intOf iv).toNat)
  case atStart => exact ⟨rfl, rfl, rfl⟩
  case round =>
    obtain ⟨rfl, rfl, rfl⟩ := hrel
    go_wp2
    go_ret
    exact ⟨rfl, ball _ _⟩
theorem sameI_nil (w : World) : Calls Tryz.prog 24 #[.slice none 0 0, .slice none 0 0] w fun e w' => e = .returned (.bool true) ∧ Below w.heap.size w w' := by
  go_enter Tryz.func24, Tryz.ntmps24
  go_wp2
  go_loopw [5] (fun iv wr => iv = .int .i64 0 ∧ w = wr) (fun iv _ => 1 - (intOf iv).toNat)
  case atStart => exact ⟨rfl, rfl⟩
  case round =>
    obtain ⟨rfl, rfl⟩ := hrel
    go_wp2
    go_ret
    exact ⟨rfl, Below.refl _ _⟩
theorem sameF_nil (w : World) : Calls Tryz.prog 21 #[.slice none 0 0, .slice none 0 0] w fun e w' => e = .returned (.bool true) ∧ Below w.heap.size w w' := by
  go_enter Tryz.func21, Tryz.ntmps21
  go_wp2
  go_loopw [5] (fun iv wr => iv = .int .i64 0 ∧ w = wr) (fun iv _ => 1 - (intOf iv).toNat)
  case atStart => exact ⟨rfl, rfl⟩
  case round =>
    obtain ⟨rfl, rfl⟩ := hrel
    go_wp2
    go_ret
    exact ⟨rfl, Below.refl _ _⟩
end Go.Proofs.YtnmkfdndfhefiaaGreat
namespace Go.Proofs.YtnmkfdndfhefiaaGreat
open Go.RowKit Go.Deep Go.Sort
set_option linter.unusedVariables false
set_option linter.unusedSimpArgs false
set_option maxHeartbeats 4000000
set_option maxRecDepth 100000
attribute [local go_sem ↓] Go.wp_at_zero Go.wp_at_succ
theorem step_store_row {P : Program} {w : World} {ops : Array Oper} {o : Oper} {a : Act} {K : Act → World → Prop} {Q : Exit → Act → World → Prop} {E : Prop} (hgd : o.guard = none) (ty : TypeId) (x y : Operand) (ho : o.op = .store ty x y)
    (g : Nat) (cells : Array Value) (hx : a.eval x = .pointer (some ⟨g, 0, none⟩)) (hy : a.eval y = .agg cells)
    (t : TypeId) (old : Array Value) (hg : w.heap[g]? = some (.cells old t (0, 0))) (hi : (P.info? ty).map (·.size) = some cells.size)
    (hold : old.size = cells.size) (h1 : cells.all (·.oneCell') = true)
    (h : K (a.put o.dst undef) (w.setRow g cells)) : if Region.wanted o (yielded ops a.tmps) = true then Oper.wp P o a w K Q else E := by
  have hw : Region.wanted o (yielded ops a.tmps) = true := by simp [Region.wanted, hgd]
  rw [if_pos hw]
  exact wp_store_row ty x y ho g cells hx hy t old hg hi hold h1 h
theorem res_ctct {P : Program} {fn : Func} {p q p2 q2 : Tmp} {ty ty2 : TypeId} (h : fn.results = #[.cell p ty, .tmp q, .cell p2 ty2, .tmp q2]) (tmps : Array Value) (w : World) (g g2 : Nat) (t t2 : TypeId) (cs cs2 : Array Value) (fr fr2 : Nat × Nat) (d d2 : TypeDesc) (v v2 : Value)
    (hp : tmps.getD p undef = .pointer (some ⟨g, 0, none⟩)) (hq : tmps.getD q undef = v) (hp2 : tmps.getD p2 undef = .pointer (some ⟨g2, 0, none⟩)) (hq2 : tmps.getD q2 undef = v2) (hg : w.heap[g]? = some (.cells cs t fr)) (hg2 : w.heap[g2]? = some (.cells cs2 t2 fr2))
    (hu : P.underlying ty = some d) (hd : (match d with | .struct _ | .array _ _ => true | _ => false) = true) (hi : (P.info? ty).map (·.size) = some cs.size)
    (hu2 : P.underlying ty2 = some d2) (hd2 : (match d2 with | .struct _ | .array _ _ => true | _ => false) = true) (hi2 : (P.info? ty2).map (·.size) = some cs2.size) :
    (results fn tmps).run P w = .ok (.tuple #[.agg cs, v, .agg cs2, v2]) w := by
  have hp' : tmps[p]?.getD undef = .pointer (some ⟨g, 0, none⟩) := by simpa using hp
  have hp2' : tmps[p2]?.getD undef = .pointer (some ⟨g2, 0, none⟩) := by simpa using hp2
  have hq' : tmps[q]?.getD undef = v := by simpa using hq
  have hq2' : tmps[q2]?.getD undef = v2 := by simpa using hq2
  simp [results, h, hp', hp2', hq', hq2', asAddr, run_loadVar_row w g t ty cs fr d hg hu hd hi, run_loadVar_row w g2 t2 ty2 cs2 fr2 d2 hg2 hu2 hd2 hi2]
theorem runcross_nil (r m : Int) (w : World) : Calls Tryz.prog 20 #[.agg #[.int .i64 r, .int .i64 m, .slice none 0 0]] w fun e w' => e = .returned (.tuple #[.agg #[.int .i64 r, .int .i64 m, .slice none 0 0], .slice none 0 0, .agg #[.int .i64 0, .int .u64 0, .int .u64 0, .int .i64 0, .int .i64 0], .bool false]) ∧ Below w.heap.size w w' := by
  obtain ⟨R, hR⟩ : ∃ R, w.heap.size = R := ⟨_, rfl⟩
  have HRR := hid hR
  obtain ⟨U1, hU1⟩ : ∃ U, w.alloc (.cells #[.int .i64 r, .int .i64 m, .slice none 0 0] 29) = U := ⟨_, rfl⟩
  obtain ⟨U2, hU2⟩ : ∃ U, U1.alloc (.cells #[.int .i64 0, .int .i64 0, .slice none 0 0] 29) = U := ⟨_, rfl⟩
  obtain ⟨W, hW⟩ : ∃ U, U2.alloc (.cells #[.int .i64 0, .int .u64 0, .int .u64 0, .int .i64 0, .int .i64 0] 57) = U := ⟨_, rfl⟩
  have s1 : U1.heap.size = R + 1 := by rw [← hU1, ← hR]; simp
  have s2 : U2.heap.size = R + 2 := by rw [← hU2]; simp [s1]
  have b1 : Below w.heap.size w U1 := by rw [← hU1]; exact ball _ _
  have b2 : Below U1.heap.size U1 U2 := by rw [← hU2]; exact ball _ _
  have b3 : Below U2.heap.size U2 W := by rw [← hW]; exact ball _ _
  have HBW := hid (btr (btr b1 b2) b3)
  have hK : W.heap[R]? = some (.cells #[.int .i64 r, .int .i64 m, .slice none 0 0] 29 (0, 0)) := row_on (row_on (by rw [← hU1, ← hR]; exact World.alloc_heap_new _ _) b2) b3
  have HK1 := hid (show W.heap[R + 1]? = some (.cells #[.int .i64 0, .int .i64 0, .slice none 0 0] 29 (0, 0)) from row_on (by rw [← hU2, ← s1]; exact World.alloc_heap_new _ _) b3)
  have HZ := hid (show W.heap[R + 2]? = some (.cells #[.int .i64 0, .int .u64 0, .int .u64 0, .int .i64 0, .int .i64 0] 57 (0, 0)) from by rw [← hW, ← s2]; exact World.alloc_heap_new _ _)
  have HK := hid hK
  have k0 := row_cell hK 0
  have k1 := row_cell hK 1
  have k2 := row_cell hK 2
  simp only [List.getElem?_toArray, List.getElem?_cons_succ, List.getElem?_cons_zero] at k0 k1 k2
  have H1 := hid hU1
  have H2 := hid hU2
  have HW := hid hW
  have CC := hid (rquote_nil r m W)
  clear hW hU1 hU2 hR hK s1 s2 b1 b2 b3
  go_enter Tryz.func20, Tryz.ntmps20
  go_upto_region 1 with fail
  rw [H1.out, H2.out, HW.out, HRR.out]
  go_upto_region 3 with (go_at_call 18; with_reducible refine (CC.out).mono ?_; rintro e v1 ⟨rfl, hb⟩; have V1 := hid hb; clear hb)
  clear k0 k1 k2
  obtain ⟨X, hX⟩ : ∃ X, v1.alloc (.cells #[.int .i64 0, .int .u64 0, .int .u64 0, .int .i64 0, .int .i64 0] 57) = X := ⟨_, rfl⟩
  obtain ⟨g, hg⟩ : ∃ g, v1.heap.size = g := ⟨_, rfl⟩
  have BX := hid (show Below v1.heap.size v1 X from by rw [← hX]; exact ball _ _)
  have hXg : X.heap[g]? = some (.cells #[.int .i64 0, .int .u64 0, .int .u64 0, .int .i64 0, .int .i64 0] 57 (0, 0)) := by rw [← hX, ← hg]; exact World.alloc_heap_new _ _
  rw [hX, hg]
  have hKX := row_on (row_on HK.out V1.out) BX.out
  have HK1X := hid (row_on (row_on HK1.out V1.out) BX.out)
  have HZX := hid (row_on (row_on HZ.out V1.out) BX.out)
  have k0 := row_cell hKX 0
  have k1 := row_cell hKX 1
  have k2 := row_cell hKX 2
  simp only [List.getElem?_toArray, List.getElem?_cons_succ, List.getElem?_cons_zero] at k0 k1 k2
  obtain ⟨z0, z1, z2, z3, z4⟩ := row5 hXg
  have HBX := hid (btr HBW.out (btr V1.out BX.out))
  have HKX' := hid hKX
  have HXG := hid hXg
  have HGR := hid (show R + 2 < g from by have := row_lt (row_on HZ.out V1.out); rw [← hg]; exact this)
  have AI := hid (show (Tryz.prog.info? 29).map (·.size) = some (#[.int .i64 r, .int .i64 m, .slice none 0 0] : Array Value).size from infoR)
  have AS := hid (show (#[.int .i64 0, .int .i64 0, .slice none 0 0] : Array Value).size = (#[.int .i64 r, .int .i64 m, .slice none 0 0] : Array Value).size from rfl)
  have AA := hid (show (#[.int .i64 r, .int .i64 m, .slice none 0 0] : Array Value).all (·.oneCell') = true from by simp [Value.oneCell'])
  have AI2 := hid (show (Tryz.prog.info? 57).map (·.size) = some (#[.int .i64 0, .int .u64 0, .int .u64 0, .int .i64 0, .int .i64 0] : Array Value).size from infoQ)
  have AS2 := hid (show (#[.int .i64 0, .int .u64 0, .int .u64 0, .int .i64 0, .int .i64 0] : Array Value).size = (#[.int .i64 0, .int .u64 0, .int .u64 0, .int .i64 0, .int .i64 0] : Array Value).size from rfl)
  have AA2 := hid (show (#[.int .i64 0, .int .u64 0, .int .u64 0, .int .i64 0, .int .i64 0] : Array Value).all (·.oneCell') = true from by simp [Value.oneCell'])
  clear hX hg hXg hKX
  obtain ⟨X0, hX0⟩ : ∃ U, X.drew = U := ⟨_, rfl⟩
  have BX0 := hid (show Below X.heap.size X X0 from by rw [← hX0]; exact bdrew1 _)
  have HS := hid (show ∀ U : World, U.heap[R]? = X.heap[R]? → U.heap[g]? = X.heap[g]? → U.cell? ⟨R, 0, none⟩ = some (.int .i64 r) ∧ U.cell? ⟨R, 1, none⟩ = some (.int .i64 m) ∧ U.cell? ⟨R, 2, none⟩ = some (.slice none 0 0) ∧ U.cell? ⟨g, 0, none⟩ = some (.int .i64 0) ∧ U.cell? ⟨g, 1, none⟩ = some (.int .u64 0) ∧ U.cell? ⟨g, 2, none⟩ = some (.int .u64 0) ∧ U.cell? ⟨g, 3, none⟩ = some (.int .i64 0) ∧ U.cell? ⟨g, 4, none⟩ = some (.int .i64 0) from fun U e1 e2 => by
    have r1 := e1.trans HKX'.out
    obtain ⟨y0, y1, y2, y3, y4⟩ := row5 (e2.trans HXG.out)
    exact ⟨row_cell r1 0, row_cell r1 1, row_cell r1 2, y0, y1, y2, y3, y4⟩)
  have hgR := HGR.out
  have HK1X := hid (row_on HK1X.out BX0.out)
  have HZX := hid (row_on HZX.out BX0.out)
  refine wp_region_held_drew (S := (fun U => U.cell? ⟨R, 0, none⟩ = some (.int .i64 r) ∧ U.cell? ⟨R, 1, none⟩ = some (.int .i64 m) ∧ U.cell? ⟨R, 2, none⟩ = some (.slice none 0 0) ∧ U.cell? ⟨g, 0, none⟩ = some (.int .i64 0) ∧ U.cell? ⟨g, 1, none⟩ = some (.int .u64 0) ∧ U.cell? ⟨g, 2, none⟩ = some (.int .u64 0) ∧ U.cell? ⟨g, 3, none⟩ = some (.int .i64 0) ∧ U.cell? ⟨g, 4, none⟩ = some (.int .i64 0))) (by kernel_rfl) ?_ (fun hHeld => ?_)
  · (try dsimp only); rw [hX0]; exact HS.out X0 (BX0.out.block R (row_lt HKX'.out)) (BX0.out.block g (row_lt HXG.out))
  rw [hX0] at hHeld ⊢
  clear k0 k1 k2 z0 z1 z2 z3 z4
  refine' wpAnyH_take (i := 0) (oi := _) (v := _) rfl (by kernel_rfl) (by kernel_rfl) (by kernel_rfl) (fun _ _ _ h => h) (Or.inl ⟨by kernel_rfl, ?_⟩) (by assumption) ?_
  rotate_left
  · (intro w hSw; (try dsimp only at hSw); go_simp; try (with_reducible rfl))
  try simp only [List.getElem_toArray, List.getElem_cons_succ, List.getElem_cons_zero, Act.put, List.setIfInBounds_toArray, List.set_cons_zero, List.set_cons_succ]
  refine' wpAnyH_take (i := 1) (oi := _) (v := _) rfl (by kernel_rfl) (by kernel_rfl) (by kernel_rfl) (fun _ _ _ h => h) (Or.inl ⟨by kernel_rfl, ?_⟩) (by assumption) ?_
  rotate_left
  · (intro w hSw; (try dsimp only at hSw); go_simp; try (with_reducible rfl))
  try simp only [List.getElem_toArray, List.getElem_cons_succ, List.getElem_cons_zero, Act.put, List.setIfInBounds_toArray, List.set_cons_zero, List.set_cons_succ]
  refine wpAnyH_ready (rs := [2]) (by kernel_rfl) (by simp) ?_
  refine AllReadyH.cons (o := _) rfl (fun KK hK => ?_) AllReadyH.nil
  refine step_store_row (by rfl) 29 (.tmp 2) (.tmp 20) (by rfl) (R + 1) #[.int .i64 r, .int .i64 m, .slice none 0 0] (by rfl) (by rfl) 29 _ HK1X.out AI.out AS.out AA.out ?_
  obtain ⟨Y, hY⟩ : ∃ Y, X0.setRow (R + 1) #[.int .i64 r, .int .i64 m, .slice none 0 0] = Y := ⟨_, rfl⟩
  have KY := hid (show Kp (fun j => j = R + 1) X0 Y from by rw [← hY]; exact setRow_kp _ _ _)
  have HKY := hid (show Y.heap[R + 1]? = some (.cells #[.int .i64 r, .int .i64 m, .slice none 0 0] 29 (0, 0)) from by rw [← hY]; exact setRow_heap X0 (R + 1) _ _ 29 (0, 0) HK1X.out)
  have HZY := hid (KY.out.row HZX.out (by omega))
  have HBY := hid (show Below w.heap.size w Y from by rw [← hY]; exact setRow_below (btr HBX.out BX0.out) (by have := HRR.out; omega))
  have eR := hid (show Y.heap[R]? = X.heap[R]? from (KY.out.obj R (Nat.lt_of_lt_of_le (row_lt HKX'.out) BX0.out.size) (by omega)).trans (BX0.out.block R (row_lt HKX'.out)))
  have eG := hid (show Y.heap[g]? = X.heap[g]? from (KY.out.obj g (Nat.lt_of_lt_of_le (row_lt HXG.out) BX0.out.size) (by omega)).trans (BX0.out.block g (row_lt HXG.out)))
  rw [hY]
  refine hK.out _ _ ?_ (fun hHeld => ?_)
  · (try dsimp only); exact HS.out Y eR.out eG.out
  clear hK hY
  try simp only [List.getElem_toArray, List.getElem_cons_succ, List.getElem_cons_zero, Act.put, List.setIfInBounds_toArray, List.set_cons_zero, List.set_cons_succ]
  refine' wpAnyH_take (i := 3) (oi := _) (v := _) rfl (by kernel_rfl) (by kernel_rfl) (by kernel_rfl) (fun _ _ _ h => h) (Or.inl ⟨by kernel_rfl, ?_⟩) (by assumption) ?_
  rotate_left
  · (intro w hSw; (try dsimp only at hSw); go_simp; try (with_reducible rfl))
  try simp only [List.getElem_toArray, List.getElem_cons_succ, List.getElem_cons_zero, Act.put, List.setIfInBounds_toArray, List.set_cons_zero, List.set_cons_succ]
  refine wpAnyH_ready (rs := [4]) (by kernel_rfl) (by simp) ?_
  refine AllReadyH.cons (o := _) rfl (fun KK hK => ?_) AllReadyH.nil
  refine step_store_row (by rfl) 57 (.tmp 4) (.tmp 21) (by rfl) (R + 2) #[.int .i64 0, .int .u64 0, .int .u64 0, .int .i64 0, .int .i64 0] (by rfl) (by rfl) 57 _ HZY.out AI2.out AS2.out AA2.out ?_
  refine hK.out _ _ ?_ (fun hHeld => ?_)
  · (try dsimp only); exact HS.out _ ((setRow_other Y (R + 2) R _ (by omega)).trans eR.out) ((setRow_other Y (R + 2) g _ (by omega)).trans eG.out)
  clear hK
  try simp only [List.getElem_toArray, List.getElem_cons_succ, List.getElem_cons_zero, Act.put, List.setIfInBounds_toArray, List.set_cons_zero, List.set_cons_succ]
  refine' wpAnyH_take (i := 5) (oi := _) (v := _) rfl (by kernel_rfl) (by kernel_rfl) (by kernel_rfl) (fun _ _ _ h => h) (Or.inl ⟨by kernel_rfl, ?_⟩) (by assumption) ?_
  rotate_left
  · (intro w hSw; (try dsimp only at hSw); go_simp; try (with_reducible rfl))
  try simp only [List.getElem_toArray, List.getElem_cons_succ, List.getElem_cons_zero, Act.put, List.setIfInBounds_toArray, List.set_cons_zero, List.set_cons_succ]
  refine wpAnyH_done (by kernel_rfl) ?_ _
  clear hHeld
  go_wp2
  refine bodyPost_ret (res_ctct (fn := Tryz.f20) Tryz.results20 _ _ (R + 1) (R + 2) 29 57 #[.int .i64 r, .int .i64 m, .slice none 0 0] #[.int .i64 0, .int .u64 0, .int .u64 0, .int .i64 0, .int .i64 0] (0, 0) (0, 0) _ _ (.slice none 0 0) (.bool false) (by rfl) (by rfl) (by rfl) (by rfl) ((setRow_other Y (R + 2) (R + 1) _ (by omega)).trans HKY.out) (setRow_heap _ _ _ _ 57 (0, 0) HZY.out) Tryz.underlying29 rfl infoR Tryz.underlying57 rfl infoQ) rfl ⟨rfl, ?_⟩
  exact setRow_below HBY.out (by have := HRR.out; omega)
/-- both calls of nothing lie in a pair. -/
structure Pn (w0 w : World) (X B : Nat) (r m : Int) : Prop where
  row : w.heap[X]? = some (.cells #[.pointer (some ⟨B, 0, none⟩), .int .i64 r, .int .i64 m, .slice none 0 0] 31 (0, 0))
  cl : Cl w B r m none 0 [] none 0 []
  be : Below w0.heap.size w0 w
  ge : w0.heap.size ≤ X
theorem Pn.on {w0 w w' : World} {X B : Nat} {r m : Int} (h : Pn w0 w X B r m) (hb : Below w.heap.size w w') : Pn w0 w' X B r m := ⟨row_on h.row hb, h.cl.on hb, btr h.be hb, h.ge⟩
theorem made_bad (r m : Int) (w : World) (h : nwk r m = false) : Calls Tryz.prog 5 #[.int .i64 r, .int .i64 m] w fun e w' => ∃ X, e = .returned (.tuple #[.pointer (some ⟨X, 0, none⟩), .bool true]) ∧ w'.cell? ⟨X, 0, none⟩ = some (.pointer none) ∧ Below w.heap.size w w' := by
  have C1 := hid (new_bad r m w h)
  have C2 := hid (rnew_bad r m w h)
  clear h
  go_enter Tryz.func5, Tryz.ntmps5
  go_wp2_with (first | (go_at_call 8; with_reducible refine (C1.out).mono ?_; rintro e w1 ⟨rfl, rfl⟩) | (go_at_call 9; with_reducible refine (C2.out).mono ?_; rintro e w2 ⟨rfl, hb⟩; have V2 := hid hb; clear hb))
  go_ret2
  refine ⟨w2.heap.size + 1, rfl, ?_, btr V2.out (btr (ball _ _) (ball _ _))⟩
  have := World.alloc_heap_new (w2.alloc (.cells #[.int .i64 0, .int .i64 0, .slice none 0 0] 29)) (.cells #[.pointer none, .int .i64 0, .int .i64 0, .slice none 0 0] 31)
  have e : (w2.alloc (.cells #[.int .i64 0, .int .i64 0, .slice none 0 0] 29)).heap.size = w2.heap.size + 1 := by simp
  rw [e] at this
  exact row_cell this 0
theorem made_ok (r m : Int) (w : World) (h : nwk r m = true) : Calls Tryz.prog 5 #[.int .i64 r, .int .i64 m] w fun e w' => ∃ X B, e = .returned (.tuple #[.pointer (some ⟨X, 0, none⟩), .bool true]) ∧ Pn w w' X B r m := by
  have C1 := hid ((new_ok r m w h).mono (R' := fun e w' => e = .returned (.tuple #[.pointer (some ⟨w.heap.size, 0, none⟩), .int .i64 0]) ∧ Hid (w' = w.alloc (.cells #[.int .i64 r, .int .i64 m, .slice none 0 0, .slice none 0 0] 74))) (fun e w' h => ⟨h.1, hid h.2⟩))
  have C2 := hid (fun U => rnew_ok r m U h)
  have HC := hid (Cl.new w h)
  have pq : ∀ U, (binOp .eql 26 (.pointer (some ⟨w.heap.size, 0, none⟩)) (.pointer none)).run Tryz.prog U = .ok (.bool false) U := fun U => by first | exact run_eql_ptr_nil U 26 _ _ Tryz.underlying26 | kernel_rfl | rfl | simp [binOp, Op.equal, Op.equalIn, run_underlying Tryz.underlying26]
  clear h
  go_enter Tryz.func5, Tryz.ntmps5
  go_wp2_with (first | (go_at_call 8; with_reducible refine (C1.out).mono ?_; rintro e w1 ⟨rfl, HW1⟩) | (go_at_call 9; with_reducible refine (C2.out _).mono ?_; rintro e w2 ⟨rfl, hb⟩; have V2 := hid hb; clear hb))
  go_ret2
  have hc := HC.out
  rw [← HW1.out] at hc
  have hb1 : Below w.heap.size w w1 := by rw [HW1.out]; exact ball _ _
  have hb3 := btr (ball w2 (.cells #[.int .i64 r, .int .i64 m, .slice none 0 0] 29)) (ball (w2.alloc (.cells #[.int .i64 r, .int .i64 m, .slice none 0 0] 29)) (.cells #[.pointer (some ⟨w.heap.size, 0, none⟩), .int .i64 r, .int .i64 m, .slice none 0 0] 31))
  refine ⟨w2.heap.size + 1, w.heap.size, rfl, ⟨?_, hc.on (btr V2.out hb3), btr hb1 (btr V2.out hb3), ?_⟩⟩
  · have := World.alloc_heap_new (w2.alloc (.cells #[.int .i64 r, .int .i64 m, .slice none 0 0] 29)) (.cells #[.pointer (some ⟨w.heap.size, 0, none⟩), .int .i64 r, .int .i64 m, .slice none 0 0] 31)
    have e : (w2.alloc (.cells #[.int .i64 r, .int .i64 m, .slice none 0 0] 29)).heap.size = w2.heap.size + 1 := by simp
    rw [e] at this
    exact this
  · have := hb1.size
    have := V2.out.size
    omega
end Go.Proofs.YtnmkfdndfhefiaaGreat
namespace Go.Proofs.YtnmkfdndfhefiaaGreat
open Go.RowKit Go.Deep Go.Sort
set_option linter.unusedVariables false
set_option linter.unusedSimpArgs false
set_option maxHeartbeats 4000000
set_option maxRecDepth 100000
theorem Pn.cells {w0 w : World} {X B : Nat} {r m : Int} (h : Pn w0 w X B r m) : w.cell? ⟨X, 0, none⟩ = some (.pointer (some ⟨B, 0, none⟩)) ∧ w.cell? ⟨X, 1, none⟩ = some (.int .i64 r) ∧ w.cell? ⟨X, 2, none⟩ = some (.int .i64 m) ∧ w.cell? ⟨X, 3, none⟩ = some (.slice none 0 0) := row4 h.row
theorem Pn.kept {w0 w w' : World} {X B : Nat} {r m : Int} {P : Nat → Prop} (h : Pn w0 w X B r m) (hk : Kp P w w') (h0 : ∀ b, b < w0.heap.size → ¬ P b) (hX : ¬ P X) (hB : ¬ P B) : Pn w0 w' X B r m :=
  ⟨hk.row h.row hX, ⟨hk.row h.cl.row hB, Li.nil _, Li.nil _, h.cl.s1, h.cl.s2, h.cl.ap, h.cl.r0, h.cl.r1, h.cl.m0, h.cl.m1, h.cl.mb⟩, h.be.trans (hk.below h.be.size h0), h.ge⟩
theorem sameI_zero (p q : Option Addr) (c d : Nat) (w : World) : Calls Tryz.prog 24 #[.slice p 0 c, .slice q 0 d] w fun e w' => e = .returned (.bool true) ∧ Below w.heap.size w w' := by
  go_enter Tryz.func24, Tryz.ntmps24
  go_wp2
  go_loopw [5] (fun iv wr => iv = .int .i64 0 ∧ w = wr) (fun iv _ => 1 - (intOf iv).toNat)
  case atStart => exact ⟨rfl, rfl⟩
  case round =>
    obtain ⟨rfl, rfl⟩ := hrel
    go_wp2
    go_ret
    exact ⟨rfl, Below.refl _ _⟩
theorem made6 (U : World) (z : It) : (U.alloc (.cells #[.int .u64 z.id, .int .u32 z.mb, .int .i64 z.sd, .int .i64 z.ty, .int .i64 z.pr, .int .u64 z.qt] 35)).ownsRow 0 35 6 (.slice (some ⟨U.heap.size, 0, none⟩) 1 1) 1 (irow z).toList :=
  ⟨rfl, .inr ⟨U.heap.size, 1, #[.int .u64 z.id, .int .u32 z.mb, .int .i64 z.sd, .int .i64 z.ty, .int .i64 z.pr, .int .u64 z.qt], rfl, Nat.zero_le _, World.alloc_heap_new _ _, Nat.le_refl _, by unfold maxLen; omega, rfl, rfl⟩⟩
theorem own_ofp {base : Nat} {w : World} {e : TypeId} {size n c k : Nat} {p : Option Addr} {xs : List Value} (h : w.ownsRow base e size (.slice p n c) n xs) (hk : (Value.slice p n c).ownBlock = some k) : OfP p k := by
  obtain ⟨_, ⟨e5, _⟩ | ⟨g', c', cur, e5, _⟩⟩ := h
  · rw [e5] at hk; cases hk
  · have e6 := (Value.slice.inj e5).1
    rw [e5] at hk; cases hk
    exact e6
theorem listed_nil (X B : Nat) (r m : Int) (w0 w : World) (h : Pn w0 w X B r m) :
    Calls Tryz.prog 7 #[.pointer (some ⟨X, 0, none⟩), .int .i64 1] w fun e w' => e = .returned (.bool true) ∧ Pn w0 w' X B r m := by
  have HP := hid h
  obtain ⟨k0, k1, k2, k3⟩ := h.cells
  have hXs := row_lt h.row
  have hBs := row_lt h.cl.row
  have hw0 := h.be.size
  have CI := hid (fun (U : World) (hU : Pn w0 U X B r m) => (interests1 B r m none 0 [] none 0 [] U hU.cl).mono (R' := fun e w' => ∃ p c, e = .returned (.slice p 0 c) ∧ Hid (Li w' p c []) ∧ Hid (Below U.heap.size U w') ∧ Hid (Pn w0 w' X B r m) ∧ Hid (∀ g, OfP p g → U.heap.size ≤ g)) (fun e w' h => by obtain ⟨p, c, h1, h2, h3, h4⟩ := h; exact ⟨p, c, h1, hid h2, hid h3, hid (hU.on h3), hid h4⟩))
  have CR := hid (fun (U : World) (hU : Pn w0 U X B r m) => (rinterests_nil r m 1 U).mono (R' := fun e w' => e = .returned (.slice none 0 0) ∧ Hid (Below U.heap.size U w') ∧ Hid (Pn w0 w' X B r m)) (fun e w' h => ⟨h.1, hid h.2, hid (hU.on h.2)⟩))
  have CS := hid (fun (p q : Option Addr) (c d : Nat) (U : World) (hU : Pn w0 U X B r m) => (sameI_zero p q c d U).mono (R' := fun e w' => e = .returned (.bool true) ∧ Hid (Below U.heap.size U w') ∧ Hid (Pn w0 w' X B r m)) (fun e w' h => ⟨h.1, hid h.2, hid (hU.on h.2)⟩))
  clear h
  go_enter Tryz.func7, Tryz.ntmps7
  go_upto_region 2 with (go_at_call 23; with_reducible refine (CI.out _ HP.out).mono ?_; rintro e w1 ⟨p, c, rfl, HL, V1, HP1, HG⟩)
  clear k0 k1 k2 k3
  obtain ⟨k0, k1, k2, k3⟩ := HP1.out.cells
  go_wp2_with (first | (go_at_call 25; with_reducible refine (CR.out _ HP1.out).mono ?_; rintro e w2 ⟨rfl, V2, HP2⟩) | (go_at_call 24; with_reducible refine (CS.out _ _ _ _ _ HP2.out).mono ?_; rintro e w3 ⟨rfl, V3, HP3⟩))
  clear k0 k1 k2 k3
  go_loopw [7] (fun iv wr => iv = .int .i64 0 ∧ w3 = wr) (fun iv _ => 1 - (intOf iv).toNat)
  case atStart => exact ⟨rfl, rfl⟩
  case round =>
    obtain ⟨rfl, rfl⟩ := hrel
    have HOW := hid (show (w3.alloc (.cells #[.int .u64 4712, .int .u32 0, .int .i64 0, .int .i64 0, .int .i64 0, .int .u64 0] 35)).ownsRow 0 35 6 (.slice p 0 c) 0 [] from HL.out.on (btr (btr V2.out V3.out) (ball _ _)))
    have HON := hid (made6 w3 ⟨4712, 0, 0, 0, 0, 0⟩)
    go_upto_region 8 with (at_builtin; refine wpList_app_mine (by rfl) (.tmp 32) (.tmp 34) 27 35 _ 6 48 (by rfl) Tryz.underlying27 infoIt rfl (by decide) 0 0 _ 0 _ (by rfl) HOW.out _ 1 1 _ (by rfl) HON.out (irow_one _) (by unfold maxLen; omega) (by omega) (by simp) ?_; intro v' w4 hown hgrow; obtain ⟨p9, q9, rfl⟩ := own_form hown; have HG1 := hid hgrow; clear hown hgrow)
    have HKP := hid (show Kp (fun b => OfP p b) w3 w4 from ⟨HG1.out.os, HG1.out.tape, HG1.out.output, Nat.le_trans (by simp) HG1.out.size, fun b hb hB => (HG1.out.block b (by simp; omega) (fun e => hB (own_ofp HL.out e.symm))).trans ((ball w3 _).block b hb)⟩)
    have HP4 := hid (HP3.out.kept HKP.out (fun b hb hp => by have := HG.out b hp; omega) (fun hp => by have := HG.out X hp; omega) (fun hp => by have := HG.out B hp; omega))
    obtain ⟨k0, k1, k2, k3⟩ := HP4.out.cells
    go_region_held3 (fun U => U.cell? ⟨X, 0, none⟩ = some (.pointer (some ⟨B, 0, none⟩)) ∧ U.cell? ⟨X, 1, none⟩ = some (.int .i64 r) ∧ U.cell? ⟨X, 2, none⟩ = some (.int .i64 m) ∧ U.cell? ⟨X, 3, none⟩ = some (.slice none 0 0)) (go_keep) (first | (go_at_call 23; with_reducible refine (CI.out _ (HP4.out.on (bdrew1 w4))).mono ?_; rintro e w5 ⟨p5, c5, rfl, HL5, V5, HP5, HG5⟩; obtain ⟨k0, k1, k2, k3⟩ := HP5.out.cells) | (go_at_call 25; with_reducible refine (CR.out _ HP5.out).mono ?_; rintro e w6 ⟨rfl, V6, HP6⟩; obtain ⟨k0, k1, k2, k3⟩ := HP6.out.cells) | (go_at_call 24; with_reducible refine (CS.out _ _ _ _ _ HP6.out).mono ?_; rintro e w7 ⟨rfl, V7, HP7⟩; obtain ⟨k0, k1, k2, k3⟩ := HP7.out.cells))
    go_wp2
    go_ret
    exact ⟨rfl, HP7.out⟩
end Go.Proofs.YtnmkfdndfhefiaaGreat
