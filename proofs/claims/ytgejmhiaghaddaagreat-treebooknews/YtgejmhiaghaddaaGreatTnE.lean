/-
  A book is made, and the document's beside it.
-/
import Derived.Test.YtgejmhiaghaddaaGreatTnD
import Derived.Laws.Tables
namespace Go.Proofs.YtgejmhiaghaddaaGreat
open Go.RowKit Go.Deep
set_option linter.unusedVariables false
set_option linter.unusedSimpArgs false
set_option maxHeartbeats 4000000
set_option maxRecDepth 100000
theorem dconfig_any (cap meet : Int) (w : World) :
    Calls Tryz.prog 28 #[.agg #[.int .i64 cap, .int .i64 meet]] w fun e w' => e = .returned (.bool (cfg cap meet)) ∧ Below w.heap.size w w' := by
  by_cases h1 : 1 ≤ cap
  · by_cases h2 : cap ≤ 4096
    · by_cases h3 : 0 ≤ meet
      · by_cases h4 : meet ≤ 3
        · rw [show cfg cap meet = true from decide_eq_true ⟨h1, h2, h3, h4⟩]
          go_enter Tryz.func28, Tryz.ntmps28
          go_wp2
          go_ret
          exact ⟨rfl, ball _ _⟩
        · rw [show cfg cap meet = false from by simp only [cfg, decide_eq_false_iff_not]; omega]
          go_enter Tryz.func28, Tryz.ntmps28
          go_wp2
          go_ret
          exact ⟨rfl, ball _ _⟩
      · rw [show cfg cap meet = false from by simp only [cfg, decide_eq_false_iff_not]; omega]
        go_enter Tryz.func28, Tryz.ntmps28
        go_wp2
        go_ret
        exact ⟨rfl, ball _ _⟩
    · rw [show cfg cap meet = false from by simp only [cfg, decide_eq_false_iff_not]; omega]
      go_enter Tryz.func28, Tryz.ntmps28
      go_wp2
      go_ret
      exact ⟨rfl, ball _ _⟩
  · rw [show cfg cap meet = false from by simp only [cfg, decide_eq_false_iff_not]; omega]
    go_enter Tryz.func28, Tryz.ntmps28
    go_wp2
    go_ret
    exact ⟨rfl, ball _ _⟩
theorem setRow_kp (w : World) (g : Nat) (cs : Array Value) : Kp (fun b => b = g) w (w.setRow g cs) :=
  ⟨rfl, rfl, rfl, by simp [World.setRow], fun b _ hN => by simp [World.setRow, Array.getElem?_modify, Ne.symm hN]⟩
theorem setRow_below {w W : World} {g : Nat} {cs : Array Value} (h : Below w.heap.size w W) (hg : w.heap.size ≤ g) : Below w.heap.size w (W.setRow g cs) := h.trans ((setRow_kp W g cs).below h.size (fun b hb e => by omega))
def dbv (cap meet : Int) (v1 v2 : Value) (high seq : Int) : Array Value := #[.int .i64 cap, .int .i64 meet, v1, v2, .int .u64 high, .int .u64 seq]
theorem info31 : (Tryz.prog.info? 31).map (·.size) = some 6 := by kernel_rfl
section
variable {P : Program}
theorem res_ct {fn : Func} {p q : Tmp} {ty : TypeId} (h : fn.results = #[.cell p ty, .tmp q]) (tmps : Array Value) (w : World) (g : Nat) (t : TypeId) (cs : Array Value) (fr : Nat × Nat) (d : TypeDesc) (v : Value)
    (hp : tmps.getD p undef = .pointer (some ⟨g, 0, none⟩)) (hq : tmps.getD q undef = v) (hg : w.heap[g]? = some (.cells cs t fr))
    (hu : P.underlying ty = some d) (hd : (match d with | .struct _ | .array _ _ => true | _ => false) = true) (hi : (P.info? ty).map (·.size) = some cs.size) :
    (results fn tmps).run P w = .ok (.tuple #[.agg cs, v]) w := by
  have hp' : tmps[p]?.getD undef = .pointer (some ⟨g, 0, none⟩) := by simpa using hp
  have hq' : tmps[q]?.getD undef = v := by simpa using hq
  simp [results, h, hp', hq', asAddr, run_loadVar_row w g t ty cs fr d hg hu hd hi]
theorem res_cc {fn : Func} {p p2 : Tmp} {ty ty2 : TypeId} (h : fn.results = #[.cell p ty, .cell p2 ty2]) (tmps : Array Value) (w : World) (g g2 : Nat) (t t2 : TypeId) (cs cs2 : Array Value) (fr fr2 : Nat × Nat) (d d2 : TypeDesc)
    (hp : tmps.getD p undef = .pointer (some ⟨g, 0, none⟩)) (hp2 : tmps.getD p2 undef = .pointer (some ⟨g2, 0, none⟩)) (hg : w.heap[g]? = some (.cells cs t fr)) (hg2 : w.heap[g2]? = some (.cells cs2 t2 fr2))
    (hu : P.underlying ty = some d) (hd : (match d with | .struct _ | .array _ _ => true | _ => false) = true) (hi : (P.info? ty).map (·.size) = some cs.size)
    (hu2 : P.underlying ty2 = some d2) (hd2 : (match d2 with | .struct _ | .array _ _ => true | _ => false) = true) (hi2 : (P.info? ty2).map (·.size) = some cs2.size) :
    (results fn tmps).run P w = .ok (.tuple #[.agg cs, .agg cs2]) w := by
  have hp' : tmps[p]?.getD undef = .pointer (some ⟨g, 0, none⟩) := by simpa using hp
  have hp2' : tmps[p2]?.getD undef = .pointer (some ⟨g2, 0, none⟩) := by simpa using hp2
  simp [results, h, hp', hp2', asAddr, run_loadVar_row w g t ty cs fr d hg hu hd hi, run_loadVar_row w g2 t2 ty2 cs2 fr2 d2 hg2 hu2 hd2 hi2]
end
theorem dnew_any (cap meet : Int) (w : World) : Calls Tryz.prog 8 #[.agg #[.int .i64 cap, .int .i64 meet]] w fun e w' =>
    e = .returned (.tuple #[.agg (if cfg cap meet = true then dbv cap meet (.slice none 0 0) (.slice none 0 0) 0 0 else dbv 0 0 (.slice none 0 0) (.slice none 0 0) 0 0), .int .i64 (if cfg cap meet = true then 0 else 1)]) ∧ Below w.heap.size w w' := by
  have CC := hid (fun U => dconfig_any cap meet U)
  obtain ⟨v, hv⟩ : ∃ v, cfg cap meet = v := ⟨_, rfl⟩
  rw [hv] at CC ⊢
  obtain ⟨U0, hU0⟩ : ∃ U0, w.alloc (.cells #[.int .i64 cap, .int .i64 meet] 23) = U0 := ⟨_, rfl⟩
  obtain ⟨W1, hW1⟩ : ∃ W1, U0.alloc (.cells #[.int .i64 0, .int .i64 0, .slice none 0 0, .slice none 0 0, .int .u64 0, .int .u64 0] 31) = W1 := ⟨_, rfl⟩
  have hs0 : U0.heap.size = w.heap.size + 1 := by rw [← hU0]; simp
  have hB : W1.heap[w.heap.size]? = some (.cells #[.int .i64 cap, .int .i64 meet] 23 (0, 0)) := by
    rw [← hW1]; exact row_on (by rw [← hU0]; exact World.alloc_heap_new _ _) (ball _ _)
  have hZ : W1.heap[w.heap.size + 1]? = some (.cells #[.int .i64 0, .int .i64 0, .slice none 0 0, .slice none 0 0, .int .u64 0, .int .u64 0] 31 (0, 0)) := by
    rw [← hW1, ← hs0]; exact World.alloc_heap_new _ _
  have HBW := hid (show Below w.heap.size w W1 from by rw [← hW1, ← hU0]; exact btr (ball _ _) (ball _ _))
  have HZ := hid hZ
  have HB := hid hB
  have HU := hid hU0
  have HW := hid hW1
  have c0 := row_cell hB 0
  have c1 := row_cell hB 1
  simp only [List.getElem?_toArray, List.getElem?_cons_succ, List.getElem?_cons_zero] at c0 c1
  clear hv hU0 hW1 hs0 hB hZ
  cases v with
  | false =>
    go_enter Tryz.func8, Tryz.ntmps8
    go_upto_region 1 with fail
    rw [HU.out, HW.out]
    go_upto_region 2 with (go_at_call 28; with_reducible refine (CC.out _).mono ?_; rintro e w1 ⟨rfl, hb1⟩; have HB1 := hid hb1; clear hb1)
    clear c0 c1
    have HZ1 := hid (row_on HZ.out HB1.out)
    have AI := hid (show (Tryz.prog.info? 31).map (·.size) = some (#[.int .i64 0, .int .i64 0, .slice none 0 0, .slice none 0 0, .int .u64 0, .int .u64 0] : Array Value).size from info31)
    have AS := hid (show (#[.int .i64 0, .int .i64 0, .slice none 0 0, .slice none 0 0, .int .u64 0, .int .u64 0] : Array Value).size = (#[.int .i64 0, .int .i64 0, .slice none 0 0, .slice none 0 0, .int .u64 0, .int .u64 0] : Array Value).size from rfl)
    have AA := hid (show (#[.int .i64 0, .int .i64 0, .slice none 0 0, .slice none 0 0, .int .u64 0, .int .u64 0] : Array Value).all (·.oneCell') = true from by simp [Value.oneCell'])
    go_wp2_with (refine wpList_store_row (by rfl) 31 (.tmp 2) (.tmp 7) (by rfl) (w.heap.size + 1) #[.int .i64 0, .int .i64 0, .slice none 0 0, .slice none 0 0, .int .u64 0, .int .u64 0] (by rfl) (by rfl) 31 _ HZ1.out AI.out AS.out AA.out ?_)
    refine bodyPost_ret (res_ct Tryz.results8 _ _ (w.heap.size + 1) 31 #[.int .i64 0, .int .i64 0, .slice none 0 0, .slice none 0 0, .int .u64 0, .int .u64 0] (0, 0) _ (.int .i64 1) (by rfl) (by rfl) (setRow_heap _ _ _ _ 31 (0, 0) HZ1.out) Tryz.underlying31 rfl info31) rfl ⟨rfl, ?_⟩
    exact setRow_below (btr HBW.out HB1.out) (by omega)
  | true =>
    go_enter Tryz.func8, Tryz.ntmps8
    go_upto_region 1 with fail
    rw [HU.out, HW.out]
    go_upto_region 3 with (go_at_call 28; with_reducible refine (CC.out _).mono ?_; rintro e w1 ⟨rfl, hb1⟩; have HB1 := hid hb1; clear hb1)
    clear c0 c1
    have HZ1 := hid (row_on HZ.out HB1.out)
    have hB1 := row_on HB.out HB1.out
    have c0 := row_cell hB1 0
    have c1 := row_cell hB1 1
    simp only [List.getElem?_toArray, List.getElem?_cons_succ, List.getElem?_cons_zero] at c0 c1
    clear hB1
    have AI := hid (show (Tryz.prog.info? 31).map (·.size) = some (#[.int .i64 cap, .int .i64 meet, .slice none 0 0, .slice none 0 0, .int .u64 0, .int .u64 0] : Array Value).size from info31)
    have AS := hid (show (#[.int .i64 0, .int .i64 0, .slice none 0 0, .slice none 0 0, .int .u64 0, .int .u64 0] : Array Value).size = (#[.int .i64 cap, .int .i64 meet, .slice none 0 0, .slice none 0 0, .int .u64 0, .int .u64 0] : Array Value).size from rfl)
    have AA := hid (show (#[.int .i64 cap, .int .i64 meet, .slice none 0 0, .slice none 0 0, .int .u64 0, .int .u64 0] : Array Value).all (·.oneCell') = true from by simp [Value.oneCell'])
    go_wp2_with (refine wpList_store_row (by rfl) 31 (.tmp 2) (.tmp 9) (by rfl) (w.heap.size + 1) #[.int .i64 cap, .int .i64 meet, .slice none 0 0, .slice none 0 0, .int .u64 0, .int .u64 0] (by rfl) (by rfl) 31 _ HZ1.out AI.out AS.out AA.out ?_)
    refine bodyPost_ret (res_ct Tryz.results8 _ _ (w.heap.size + 1) 31 #[.int .i64 cap, .int .i64 meet, .slice none 0 0, .slice none 0 0, .int .u64 0, .int .u64 0] (0, 0) _ (.int .i64 0) (by rfl) (by rfl) (setRow_heap _ _ _ _ 31 (0, 0) HZ1.out) Tryz.underlying31 rfl info31) rfl ⟨rfl, ?_⟩
    exact setRow_below (btr HBW.out HB1.out) (by omega)
theorem new_any (cap meet : Int) (w : World) : Calls Tryz.prog 7 #[.agg #[.int .i64 cap, .int .i64 meet]] w fun e w' => (cfg cap meet = false ∧ e = .returned (.tuple #[.pointer none, .int .i64 1]) ∧ Hid (Below w.heap.size w w')) ∨ (cfg cap meet = true ∧ ∃ B : Nat, e = .returned (.tuple #[.pointer (some ⟨B, 0, none⟩), .int .i64 0]) ∧ Hid (w.heap.size ≤ B) ∧ Hid (Bk w' B cap meet) ∧ Hid (Below w.heap.size w w')) := by
  have CV := hid (fun v U (h : cfg cap meet = v) => valid_none cap meet U v h (by rintro rfl; unfold cfg at h; simp at h; omega))
  have CO := hid (fun U => opened_none cap meet U)
  obtain ⟨v, hv⟩ : ∃ v, cfg cap meet = v := ⟨_, rfl⟩
  have CV2 := hid (fun U => CV.out v U hv)
  clear CV
  rw [hv]
  clear hv
  obtain ⟨R, hR⟩ : ∃ R, w.heap.size = R := ⟨_, rfl⟩
  obtain ⟨U0, hU0⟩ : ∃ U, w.alloc (.cells #[.int .i64 cap, .int .i64 meet] 23) = U := ⟨_, rfl⟩
  obtain ⟨W, hW⟩ : ∃ U, U0.alloc (.cells #[.int .i64 cap, .int .i64 meet, .slice none 0 0, .slice none 0 0, .int .u64 0, .int .u64 0] 31) = U := ⟨_, rfl⟩
  have s0 : U0.heap.size = R + 1 := by rw [← hU0]; simp [hR]
  have b0 : Below w.heap.size w U0 := by rw [← hU0]; exact ball _ _
  have b1 : Below U0.heap.size U0 W := by rw [← hW]; exact ball _ _
  have HBW := hid (btr b0 b1)
  have HR0 := hid (show W.heap[R]? = some (.cells #[.int .i64 cap, .int .i64 meet] 23 (0, 0)) from (row_on (by rw [← hU0, ← hR]; exact World.alloc_heap_new _ _) b1))
  have HR1 := hid (show W.heap[R + 1]? = some (.cells #[.int .i64 cap, .int .i64 meet, .slice none 0 0, .slice none 0 0, .int .u64 0, .int .u64 0] 31 (0, 0)) from (by rw [← hW, ← s0]; exact World.alloc_heap_new _ _))
  have HU0 := hid hU0
  have HW := hid hW
  have HRR := hid hR
  clear hR hU0 hW s0 b0 b1
  have c0 := row_cell HR0.out 0
  have c1 := row_cell HR0.out 1
  simp only [List.getElem?_toArray, List.getElem?_cons_succ, List.getElem?_cons_zero] at c0 c1
  go_enter Tryz.func7, Tryz.ntmps7
  go_upto_region 2 with fail
  rw [HU0.out, HW.out, HRR.out]
  clear c0 c1
  obtain ⟨k_0, k_1, k_2, k_3, k_4, k_5⟩ := row6 HR1.out
  cases v with
  | false =>
    go_wp2_with (go_at_call 26; with_reducible refine (CV2.out _).mono ?_; rintro e w1 ⟨rfl, hb1⟩; have HB1 := hid hb1; clear hb1)
    go_ret2
    exact ⟨rfl, hid (btr HBW.out HB1.out)⟩
  | true =>
    go_upto_region 4 with (go_at_call 26; with_reducible refine (CV2.out _).mono ?_; rintro e w1 ⟨rfl, hb1⟩; have HB1 := hid hb1; clear hb1)
    clear k_0 k_1 k_2 k_3 k_4 k_5
    obtain ⟨k_0, k_1, k_2, k_3, k_4, k_5⟩ := row6 (row_on HR1.out HB1.out)
    go_wp2_with (go_at_call 27; with_reducible refine (CO.out _).mono ?_; rintro e w2 ⟨B, rfl, HB, HK, HB2⟩)
    go_ret2
    exact ⟨B, rfl, hid (Nat.le_trans HBW.out.size (Nat.le_trans HB1.out.size HB.out)), HK, hid (btr (btr HBW.out HB1.out) HB2.out)⟩
theorem made_any (cap meet : Int) (w : World) : Calls Tryz.prog 4 #[.agg #[.int .i64 cap, .int .i64 meet]] w fun e w' => (∃ X : Nat, e = .returned (.tuple #[.pointer (some ⟨X, 0, none⟩), .bool true]) ∧ Hid (w'.heap[X]? = some (.cells #[.pointer none, .int .i64 0, .int .i64 0, .slice none 0 0, .slice none 0 0, .int .u64 0, .int .u64 0] 33 (0, 0))) ∧ Hid (Below w.heap.size w w')) ∨ (∃ X B : Nat, e = .returned (.tuple #[.pointer (some ⟨X, 0, none⟩), .bool true]) ∧ Hid (w'.heap[X]? = some (.cells #[.pointer (some ⟨B, 0, none⟩), .int .i64 cap, .int .i64 meet, .slice none 0 0, .slice none 0 0, .int .u64 0, .int .u64 0] 33 (0, 0))) ∧ Hid (w.heap.size ≤ B) ∧ Hid (Bk w' B cap meet) ∧ Hid (Below w.heap.size w w')) := by
  have CN := hid (fun U => new_any cap meet U)
  have CD := hid (fun U => dnew_any cap meet U)
  obtain ⟨v, hv⟩ : ∃ v, cfg cap meet = v := ⟨_, rfl⟩
  rw [hv] at CN CD
  clear hv
  obtain ⟨R, hR⟩ : ∃ R, w.heap.size = R := ⟨_, rfl⟩
  obtain ⟨W, hW⟩ : ∃ U, w.alloc (.cells #[.int .i64 cap, .int .i64 meet] 23) = U := ⟨_, rfl⟩
  have b0 : Below w.heap.size w W := by rw [← hW]; exact ball _ _
  have HBW := hid b0
  have HR0 := hid (show W.heap[R]? = some (.cells #[.int .i64 cap, .int .i64 meet] 23 (0, 0)) from (by rw [← hW, ← hR]; exact World.alloc_heap_new _ _))
  have HW := hid hW
  have HRR := hid hR
  clear hR hW  b0
  have HS0 := hid (fun (U : World) (hU : Below W.heap.size W U) => (show U.cell? ⟨R, 0, none⟩ = some (.int .i64 cap) ∧ U.cell? ⟨R, 1, none⟩ = some (.int .i64 meet) from ⟨row_cell (row_on HR0.out hU) 0, row_cell (row_on HR0.out hU) 1⟩))
  obtain ⟨c0, c1⟩ := HS0.out W (Below.refl _ _)
  cases v with
  | false =>
    have CN2 := hid (fun U => (CN.out U).mono (R' := fun e w' => e = .returned (.tuple #[.pointer none, .int .i64 1]) ∧ Hid (Below U.heap.size U w')) (by
      rintro e w' (⟨_, h1, h2⟩ | ⟨h, _⟩)
      · exact ⟨h1, h2⟩
      · cases h))
    have CD2 := hid (fun U => (CD.out U).mono (R' := fun e w' => e = .returned (.tuple #[.agg #[.int .i64 0, .int .i64 0, .slice none 0 0, .slice none 0 0, .int .u64 0, .int .u64 0], .int .i64 1]) ∧ Hid (Below U.heap.size U w')) (fun e w' h => ⟨h.1, h.2⟩))
    clear CN CD
    go_enter Tryz.func4, Tryz.ntmps4
    go_upto_region 1 with fail
    rw [HW.out, HRR.out]
    go_upto_region 2 with (go_at_call 7; with_reducible refine (CN2.out _).mono ?_; rintro e w1 ⟨rfl, HB1⟩)
    clear c0 c1
    obtain ⟨c0, c1⟩ := HS0.out w1 HB1.out
    go_upto_region 3 with (go_at_call 8; with_reducible refine (CD2.out _).mono ?_; rintro e w2 ⟨rfl, HB2⟩)
    clear c0 c1
    go_wp2
    go_ret2
    exact .inl ⟨_, rfl, hid (alloc2_new _ _ _), hid (btr HBW.out (btr HB1.out (btr HB2.out (btr (ball _ _) (ball _ _)))))⟩
  | true =>
    have CN2 := hid (fun U => (CN.out U).mono (R' := fun e w' => ∃ B : Nat, e = .returned (.tuple #[.pointer (some ⟨B, 0, none⟩), .int .i64 0]) ∧ Hid (U.heap.size ≤ B) ∧ Hid (Bk w' B cap meet) ∧ Hid (Below U.heap.size U w')) (by
      rintro e w' (⟨h, _⟩ | ⟨_, h⟩)
      · cases h
      · exact h))
    have CD2 := hid (fun U => (CD.out U).mono (R' := fun e w' => e = .returned (.tuple #[.agg #[.int .i64 cap, .int .i64 meet, .slice none 0 0, .slice none 0 0, .int .u64 0, .int .u64 0], .int .i64 0]) ∧ Hid (Below U.heap.size U w')) (fun e w' h => ⟨h.1, h.2⟩))
    clear CN CD
    go_enter Tryz.func4, Tryz.ntmps4
    go_upto_region 1 with fail
    rw [HW.out, HRR.out]
    go_upto_region 2 with (go_at_call 7; with_reducible refine (CN2.out _).mono ?_; rintro e w1 ⟨B, rfl, HG, HK, HB1⟩)
    clear c0 c1
    obtain ⟨c0, c1⟩ := HS0.out w1 HB1.out
    go_upto_region 3 with (go_at_call 8; with_reducible refine (CD2.out _).mono ?_; rintro e w2 ⟨rfl, HB2⟩)
    clear c0 c1
    go_wp2
    go_ret2
    exact .inr ⟨_, B, rfl, hid (alloc2_new _ _ _), hid (Nat.le_trans HBW.out.size HG.out), hid (HK.out.on (btr HB2.out (btr (ball _ _) (ball _ _)))), hid (btr HBW.out (btr HB1.out (btr HB2.out (btr (ball _ _) (ball _ _)))))⟩
end Go.Proofs.YtgejmhiaghaddaaGreat
