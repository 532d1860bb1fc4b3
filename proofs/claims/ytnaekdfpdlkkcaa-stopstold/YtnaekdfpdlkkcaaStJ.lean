/-
  A book is made, and a Book over it.
-/
import Derived.Test.YtnaekdfpdlkkcaaStI
import Derived.Laws.MakeOwn
namespace Go.Proofs.Ytnaekdfpdlkkcaa
open Go.RowKit Go.Deep Go.Shelf
set_option linter.unusedVariables false
set_option linter.unusedSimpArgs false
set_option maxHeartbeats 4000000
set_option maxRecDepth 100000
attribute [local go_sem ↓] Go.wp_at_zero Go.wp_at_succ
def cfg (cap meet : Int) : Bool := decide (1 ≤ cap ∧ cap ≤ 4096 ∧ 0 ≤ meet ∧ meet ≤ 3)
theorem can_any (cap meet : Int) (w : World) :
    Calls Try.prog 9 #[.agg #[.int .i64 cap, .int .i64 meet]] w fun e w' => e = .returned (.bool (cfg cap meet)) ∧ Below w.heap.size w w' := by
  by_cases h1 : 1 ≤ cap
  · by_cases h2 : cap ≤ 4096
    · by_cases h3 : 0 ≤ meet
      · by_cases h4 : meet ≤ 3
        · rw [show cfg cap meet = true from decide_eq_true ⟨h1, h2, h3, h4⟩]
          go_enter Try.func9, Try.ntmps9
          go_wp2
          go_ret
          exact ⟨rfl, ball _ _⟩
        · rw [show cfg cap meet = false from by simp only [cfg, decide_eq_false_iff_not]; omega]
          go_enter Try.func9, Try.ntmps9
          go_wp2
          go_ret
          exact ⟨rfl, ball _ _⟩
      · rw [show cfg cap meet = false from by simp only [cfg, decide_eq_false_iff_not]; omega]
        go_enter Try.func9, Try.ntmps9
        go_wp2
        go_ret
        exact ⟨rfl, ball _ _⟩
    · rw [show cfg cap meet = false from by simp only [cfg, decide_eq_false_iff_not]; omega]
      go_enter Try.func9, Try.ntmps9
      go_wp2
      go_ret
      exact ⟨rfl, ball _ _⟩
  · rw [show cfg cap meet = false from by simp only [cfg, decide_eq_false_iff_not]; omega]
    go_enter Try.func9, Try.ntmps9
    go_wp2
    go_ret
    exact ⟨rfl, ball _ _⟩
theorem info79all : (Try.prog.info? 79).map (fun i => (i.zero, i.size, i.bytes)) = some (some (.pointer none), 1, 8) := by kernel_rfl
theorem listOf_nil (w : World) : Calls Try.prog 20 #[.slice none 0 0] w fun e w' => ∃ q c, e = .returned (.slice q 0 c) ∧ Hid (Below w.heap.size w w') := by
  obtain ⟨i0, hi, hz0, hz1, hz2⟩ := info_parts info79all
  obtain ⟨MC, hMC⟩ : ∃ MC : Array Value, madeCells #[.pointer none] (0 * 1) = MC := ⟨_, rfl⟩
  have hmk : ∀ u : World, (Instr.makeSlice 64 (.int .i64 0) (.int .i64 0)).run Try.prog u = .ok (.slice (some ⟨u.heap.size, 0, none⟩) 0 0) (u.alloc (.cells MC 79)) := fun u => by
    have := run_make (P := Try.prog) u 64 79 i0 _ Try.underlying64 hi hz0 .i64 .i64 0 0 (by omega) (by omega) (by rw [hz2]; omega) (by omega)
    rw [hz1] at this
    rw [← hMC]
    simpa [Value.cells] using this
  clear hi hz0 hz1 hz2 hMC
  go_enter Try.func20, Try.ntmps20
  go_wp2_with fail
  go_loopw [3, 11] (fun rv iv wr => (∃ q c, rv = .slice q 0 c) ∧ iv = .int .i64 0 ∧ Hid (Below w.heap.size w wr)) (fun _ iv _ => 1 - (intOf iv).toNat)
  case atStart => exact ⟨⟨_, _, rfl⟩, rfl, hid (ball _ _)⟩
  case round =>
    obtain ⟨⟨q, c, rfl⟩, rfl, HB⟩ := hrel
    go_wp2
    go_ret
    exact ⟨q, c, rfl, HB⟩
theorem step_store_row {P : Program} {w : World} {ops : Array Oper} {o : Oper} {a : Act} {K : Act → World → Prop} {Q : Exit → Act → World → Prop} {E : Prop} (hgd : o.guard = none) (ty : TypeId) (x y : Operand) (ho : o.op = .store ty x y)
    (g : Nat) (cells : Array Value) (hx : a.eval x = .pointer (some ⟨g, 0, none⟩)) (hy : a.eval y = .agg cells)
    (t : TypeId) (old : Array Value) (hg : w.heap[g]? = some (.cells old t (0, 0))) (hi : (P.info? ty).map (·.size) = some cells.size)
    (hold : old.size = cells.size) (h1 : cells.all (·.oneCell') = true)
    (h : K (a.put o.dst undef) (w.setRow g cells)) : if Region.wanted o (yielded ops a.tmps) = true then Oper.wp P o a w K Q else E := by
  have hw : Region.wanted o (yielded ops a.tmps) = true := by simp [Region.wanted, hgd]
  rw [if_pos hw]
  exact wp_store_row ty x y ho g cells hx hy t old hg hi hold h1 h
theorem info66 : (Try.prog.info? 66).map (·.size) = some 2 := by kernel_rfl
theorem opened_any (cap meet : Int) (w : World) : Calls Try.prog 10 #[.agg #[.int .i64 cap, .int .i64 meet, .slice none 0 0, .slice none 0 0, .int .u64 0, .int .u64 0]] w fun e w' => ∃ B, e = .returned (.pointer (some ⟨B, 0, none⟩)) ∧ Hid (Below w.heap.size w w') := by
  obtain ⟨R, hR⟩ : ∃ R, w.heap.size = R := ⟨_, rfl⟩
  obtain ⟨W, hW⟩ : ∃ U, w.alloc (.cells #[.int .i64 cap, .int .i64 meet, .slice none 0 0, .slice none 0 0, .int .u64 0, .int .u64 0] 47) = U := ⟨_, rfl⟩
  have b0 : Below w.heap.size w W := by rw [← hW]; exact ball _ _
  have HBW := hid b0
  have HR0 := hid (show W.heap[R]? = some (.cells #[.int .i64 cap, .int .i64 meet, .slice none 0 0, .slice none 0 0, .int .u64 0, .int .u64 0] 47 (0, 0)) from (by rw [← hW, ← hR]; exact World.alloc_heap_new _ _))
  have HW := hid hW
  have HRR := hid hR
  clear hR hW  b0
  go_enter Try.func10, Try.ntmps10
  go_upto_region 1 with fail
  rw [HW.out, HRR.out]
  obtain ⟨Y0, hY0⟩ : ∃ X, W.drew = X := ⟨_, rfl⟩
  have HE0 := hid (show Below W.heap.size W Y0 from by rw [← hY0]; exact bdrew1 _)
  have HRY := hid (row_on HR0.out HE0.out)
  have BE0 := hid (Below.refl Y0.heap.size Y0)
  refine wp_region_held_drew (S := (fun U => U.cell? ⟨R, 0, none⟩ = some (.int .i64 cap) ∧ U.cell? ⟨R, 1, none⟩ = some (.int .i64 meet) ∧ U.cell? ⟨R, 2, none⟩ = some (.slice none 0 0) ∧ U.cell? ⟨R, 3, none⟩ = some (.slice none 0 0) ∧ U.cell? ⟨R, 4, none⟩ = some (.int .u64 0) ∧ U.cell? ⟨R, 5, none⟩ = some (.int .u64 0))) (by kernel_rfl) ?_ (fun hHeld => ?_)
  · (try dsimp only); ((rw [hY0]; exact row6 HRY.out))
  rw [hY0] at hHeld ⊢
  clear hY0
  refine' wpAnyH_take (i := 0) (oi := _) (v := _) rfl (by kernel_rfl) (by kernel_rfl) (by kernel_rfl) (fun _ _ _ h => h) (Or.inl ⟨by kernel_rfl, ?_⟩) (by assumption) ?_
  rotate_left
  · (intro w hSw; (try dsimp only at hSw); go_simp; try (with_reducible rfl))
  try simp only [List.getElem_toArray, List.getElem_cons_succ, List.getElem_cons_zero, Act.put, List.setIfInBounds_toArray, List.set_cons_zero, List.set_cons_succ]
  refine' wpAnyH_take (i := 1) (oi := _) (v := _) rfl (by kernel_rfl) (by kernel_rfl) (by kernel_rfl) (fun _ _ _ h => h) (Or.inl ⟨by kernel_rfl, ?_⟩) (by assumption) ?_
  rotate_left
  · (intro w hSw; (try dsimp only at hSw); go_simp; try (with_reducible rfl))
  try simp only [List.getElem_toArray, List.getElem_cons_succ, List.getElem_cons_zero, Act.put, List.setIfInBounds_toArray, List.set_cons_zero, List.set_cons_succ]
  refine' wpAnyH_take (i := 3) (oi := _) (v := _) rfl (by kernel_rfl) (by kernel_rfl) (by kernel_rfl) (fun _ _ _ h => h) (Or.inl ⟨by kernel_rfl, ?_⟩) (by assumption) ?_
  rotate_left
  · (intro w hSw; (try dsimp only at hSw); go_simp; try (with_reducible rfl))
  try simp only [List.getElem_toArray, List.getElem_cons_succ, List.getElem_cons_zero, Act.put, List.setIfInBounds_toArray, List.set_cons_zero, List.set_cons_succ]
  refine' wpAnyH_take (i := 4) (oi := _) (v := _) rfl (by kernel_rfl) (by kernel_rfl) (by kernel_rfl) (fun _ _ _ h => h) (Or.inl ⟨by kernel_rfl, ?_⟩) (by assumption) ?_
  rotate_left
  · (intro w hSw; (try dsimp only at hSw); go_simp; try (with_reducible rfl))
  try simp only [List.getElem_toArray, List.getElem_cons_succ, List.getElem_cons_zero, Act.put, List.setIfInBounds_toArray, List.set_cons_zero, List.set_cons_succ]
  refine wpAnyH_ready (rs := [2, 7]) (by kernel_rfl) (by simp) ?_
  refine (AllReadyH.cons (o := _) rfl (fun KK hK => ?_) (AllReadyH.cons (o := _) rfl (fun KK hK => ?_) AllReadyH.nil))
  focus
    go_simp
    go_at_call 20; with_reducible refine (listOf_nil Y0).mono ?_; rintro e X2 ⟨q2, c2, rfl, hb2⟩
    (try go_wp2_with fail)
    have BX2 := hid (btr BE0.out hb2.out)
    refine hK.out _ _ ?_ (fun hHeld => ?_)
    · (try dsimp only); exact row6 (row_on HRY.out (BX2.out))
    clear hK
    try simp only [List.getElem_toArray, List.getElem_cons_succ, List.getElem_cons_zero, Act.put, List.setIfInBounds_toArray, List.set_cons_zero, List.set_cons_succ]
    refine wpAnyH_ready (rs := [5, 7]) (by kernel_rfl) (by simp) ?_
    refine (AllReadyH.cons (o := _) rfl (fun KK hK => ?_) (AllReadyH.cons (o := _) rfl (fun KK hK => ?_) AllReadyH.nil))
    focus
      go_simp
      go_at_call 20; with_reducible refine (listOf_nil X2).mono ?_; rintro e X5 ⟨q5, c5, rfl, hb5⟩
      (try go_wp2_with fail)
      have BX5 := hid (btr BX2.out hb5.out)
      refine hK.out _ _ ?_ (fun hHeld => ?_)
      · (try dsimp only); exact row6 (row_on HRY.out (BX5.out))
      clear hK
      try simp only [List.getElem_toArray, List.getElem_cons_succ, List.getElem_cons_zero, Act.put, List.setIfInBounds_toArray, List.set_cons_zero, List.set_cons_succ]
      refine' wpAnyH_take (i := 6) (oi := _) (v := _) rfl (by kernel_rfl) (by kernel_rfl) (by kernel_rfl) (fun _ _ _ h => h) (Or.inl ⟨by kernel_rfl, ?_⟩) (by assumption) ?_
      rotate_left
      · (intro w hSw; (try dsimp only at hSw); go_simp; try (with_reducible rfl))
      try simp only [List.getElem_toArray, List.getElem_cons_succ, List.getElem_cons_zero, Act.put, List.setIfInBounds_toArray, List.set_cons_zero, List.set_cons_succ]
      refine wpAnyH_ready (rs := [7]) (by kernel_rfl) (by simp) ?_
      refine (AllReadyH.cons (o := _) rfl (fun KK hK => ?_) AllReadyH.nil)
      go_simp
      refine hK.out _ _ ?_ (fun hHeld => ?_)
      · (try dsimp only); exact row6 (row_on HRY.out (btr BX5.out (ball _ _)))
      clear hK
      try simp only [List.getElem_toArray, List.getElem_cons_succ, List.getElem_cons_zero, Act.put, List.setIfInBounds_toArray, List.set_cons_zero, List.set_cons_succ]
      obtain ⟨X7, hX7⟩ : ∃ X, X5.alloc (.cells #[.slice none 0 0, .slice none 0 0] 66) = X := ⟨_, rfl⟩
      have BX7 := hid (show Below Y0.heap.size Y0 X7 from by rw [← hX7]; exact btr BX5.out (ball _ _))
      obtain ⟨g7, hg7⟩ : ∃ g, X5.heap.size = g := ⟨_, rfl⟩
      have y7 : Y0.heap.size ≤ g7 := by rw [← hg7]; exact BX5.out.size
      have ZX7 := hid (show X7.heap[g7]? = some (.cells #[.slice none 0 0, .slice none 0 0] 66 (0, 0)) from by rw [← hX7, ← hg7]; exact World.alloc_heap_new _ _)
      rw [hX7, hg7]
      clear hX7 hg7
      have ZZ := ZX7
      have ZB := BX7
      obtain ⟨WL, hWL⟩ : ∃ X, X7 = X := ⟨_, rfl⟩
      rw [hWL] at ZZ ZB ⊢
      clear hWL
    rotate_left 1
    focus
      go_simp
      refine hK.out _ _ ?_ (fun hHeld => ?_)
      · (try dsimp only); exact row6 (row_on HRY.out (btr BX2.out (ball _ _)))
      clear hK
      try simp only [List.getElem_toArray, List.getElem_cons_succ, List.getElem_cons_zero, Act.put, List.setIfInBounds_toArray, List.set_cons_zero, List.set_cons_succ]
      obtain ⟨X7, hX7⟩ : ∃ X, X2.alloc (.cells #[.slice none 0 0, .slice none 0 0] 66) = X := ⟨_, rfl⟩
      have BX7 := hid (show Below Y0.heap.size Y0 X7 from by rw [← hX7]; exact btr BX2.out (ball _ _))
      obtain ⟨g7, hg7⟩ : ∃ g, X2.heap.size = g := ⟨_, rfl⟩
      have y7 : Y0.heap.size ≤ g7 := by rw [← hg7]; exact BX2.out.size
      have ZX7 := hid (show X7.heap[g7]? = some (.cells #[.slice none 0 0, .slice none 0 0] 66 (0, 0)) from by rw [← hX7, ← hg7]; exact World.alloc_heap_new _ _)
      rw [hX7, hg7]
      clear hX7 hg7
      refine wpAnyH_ready (rs := [5]) (by kernel_rfl) (by simp) ?_
      refine (AllReadyH.cons (o := _) rfl (fun KK hK => ?_) AllReadyH.nil)
      go_simp
      go_at_call 20; with_reducible refine (listOf_nil X7).mono ?_; rintro e X5 ⟨q5, c5, rfl, hb5⟩
      (try go_wp2_with fail)
      have BX5 := hid (btr BX7.out hb5.out)
      have ZX5 := hid (row_on ZX7.out hb5.out)
      refine hK.out _ _ ?_ (fun hHeld => ?_)
      · (try dsimp only); exact row6 (row_on HRY.out (BX5.out))
      clear hK
      try simp only [List.getElem_toArray, List.getElem_cons_succ, List.getElem_cons_zero, Act.put, List.setIfInBounds_toArray, List.set_cons_zero, List.set_cons_succ]
      refine' wpAnyH_take (i := 6) (oi := _) (v := _) rfl (by kernel_rfl) (by kernel_rfl) (by kernel_rfl) (fun _ _ _ h => h) (Or.inl ⟨by kernel_rfl, ?_⟩) (by assumption) ?_
      rotate_left
      · (intro w hSw; (try dsimp only at hSw); go_simp; try (with_reducible rfl))
      try simp only [List.getElem_toArray, List.getElem_cons_succ, List.getElem_cons_zero, Act.put, List.setIfInBounds_toArray, List.set_cons_zero, List.set_cons_succ]
      have ZZ := ZX5
      have ZB := BX5
      obtain ⟨WL, hWL⟩ : ∃ X, X5 = X := ⟨_, rfl⟩
      rw [hWL] at ZZ ZB ⊢
      clear hWL
    rotate_left 1
  rotate_left 2
  focus
    go_simp
    refine hK.out _ _ ?_ (fun hHeld => ?_)
    · (try dsimp only); exact row6 (row_on HRY.out (btr BE0.out (ball _ _)))
    clear hK
    try simp only [List.getElem_toArray, List.getElem_cons_succ, List.getElem_cons_zero, Act.put, List.setIfInBounds_toArray, List.set_cons_zero, List.set_cons_succ]
    obtain ⟨X7, hX7⟩ : ∃ X, Y0.alloc (.cells #[.slice none 0 0, .slice none 0 0] 66) = X := ⟨_, rfl⟩
    have BX7 := hid (show Below Y0.heap.size Y0 X7 from by rw [← hX7]; exact btr BE0.out (ball _ _))
    obtain ⟨g7, hg7⟩ : ∃ g, Y0.heap.size = g := ⟨_, rfl⟩
    have y7 : Y0.heap.size ≤ g7 := by rw [← hg7]; exact BE0.out.size
    have ZX7 := hid (show X7.heap[g7]? = some (.cells #[.slice none 0 0, .slice none 0 0] 66 (0, 0)) from by rw [← hX7, ← hg7]; exact World.alloc_heap_new _ _)
    rw [hX7, hg7]
    clear hX7 hg7
    refine wpAnyH_ready (rs := [2]) (by kernel_rfl) (by simp) ?_
    refine (AllReadyH.cons (o := _) rfl (fun KK hK => ?_) AllReadyH.nil)
    go_simp
    go_at_call 20; with_reducible refine (listOf_nil X7).mono ?_; rintro e X2 ⟨q2, c2, rfl, hb2⟩
    (try go_wp2_with fail)
    have BX2 := hid (btr BX7.out hb2.out)
    have ZX2 := hid (row_on ZX7.out hb2.out)
    refine hK.out _ _ ?_ (fun hHeld => ?_)
    · (try dsimp only); exact row6 (row_on HRY.out (BX2.out))
    clear hK
    try simp only [List.getElem_toArray, List.getElem_cons_succ, List.getElem_cons_zero, Act.put, List.setIfInBounds_toArray, List.set_cons_zero, List.set_cons_succ]
    refine wpAnyH_ready (rs := [5]) (by kernel_rfl) (by simp) ?_
    refine (AllReadyH.cons (o := _) rfl (fun KK hK => ?_) AllReadyH.nil)
    go_simp
    go_at_call 20; with_reducible refine (listOf_nil X2).mono ?_; rintro e X5 ⟨q5, c5, rfl, hb5⟩
    (try go_wp2_with fail)
    have BX5 := hid (btr BX2.out hb5.out)
    have ZX5 := hid (row_on ZX2.out hb5.out)
    refine hK.out _ _ ?_ (fun hHeld => ?_)
    · (try dsimp only); exact row6 (row_on HRY.out (BX5.out))
    clear hK
    try simp only [List.getElem_toArray, List.getElem_cons_succ, List.getElem_cons_zero, Act.put, List.setIfInBounds_toArray, List.set_cons_zero, List.set_cons_succ]
    refine' wpAnyH_take (i := 6) (oi := _) (v := _) rfl (by kernel_rfl) (by kernel_rfl) (by kernel_rfl) (fun _ _ _ h => h) (Or.inl ⟨by kernel_rfl, ?_⟩) (by assumption) ?_
    rotate_left
    · (intro w hSw; (try dsimp only at hSw); go_simp; try (with_reducible rfl))
    try simp only [List.getElem_toArray, List.getElem_cons_succ, List.getElem_cons_zero, Act.put, List.setIfInBounds_toArray, List.set_cons_zero, List.set_cons_succ]
    have ZZ := ZX5
    have ZB := BX5
    obtain ⟨WL, hWL⟩ : ∃ X, X5 = X := ⟨_, rfl⟩
    rw [hWL] at ZZ ZB ⊢
    clear hWL
  rotate_left 1
  all_goals
    have AI := hid (show (Try.prog.info? 66).map (·.size) = some (#[.slice q2 0 c2, .slice q5 0 c5] : Array Value).size from info66)
    have AS := hid (show (#[.slice none 0 0, .slice none 0 0] : Array Value).size = (#[.slice q2 0 c2, .slice q5 0 c5] : Array Value).size from rfl)
    have AA := hid (show (#[.slice q2 0 c2, .slice q5 0 c5] : Array Value).all (·.oneCell') = true from by simp [Value.oneCell'])
    refine wpAnyH_ready (rs := [8]) (by kernel_rfl) (by simp) ?_
    refine AllReadyH.cons (o := _) rfl (fun KK hK => ?_) AllReadyH.nil
    refine step_store_row (by rfl) 66 (.tmp 3) (.tmp 10) (by rfl) g7 #[.slice q2 0 c2, .slice q5 0 c5] (by rfl) (by rfl) 66 _ ZZ.out AI.out AS.out AA.out ?_
    have k1 := setRow_kp WL g7 #[.slice q2 0 c2, .slice q5 0 c5]
    have HBV := hid (ZB.out.trans (k1.below ZB.out.size (fun j hj e => by omega)))
    have HZV := hid (setRow_heap WL g7 _ #[.slice q2 0 c2, .slice q5 0 c5] 66 (0, 0) ZZ.out)
    refine hK.out _ _ ?_ (fun hHeld => ?_)
    · (try dsimp only); exact row6 (row_on HRY.out (HBV.out))
    clear hK k1
    try simp only [List.getElem_toArray, List.getElem_cons_succ, List.getElem_cons_zero, Act.put, List.setIfInBounds_toArray, List.set_cons_zero, List.set_cons_succ]
    refine wpAnyH_done (by kernel_rfl) ?_ _
    obtain ⟨V, hV⟩ : ∃ X, WL.setRow g7 #[.slice q2 0 c2, .slice q5 0 c5] = X := ⟨_, rfl⟩
    rw [hV] at HBV HZV ⊢
    clear hV hHeld
    obtain ⟨a0, a1, a2, a3, a4, a5⟩ := row6 (row_on HRY.out HBV.out)
    have z0 := row_cell HZV.out 0
    have z1 := row_cell HZV.out 1
    simp only [List.getElem?_toArray, List.getElem?_cons_succ, List.getElem?_cons_zero] at z0 z1
    go_wp2
    go_ret
    exact ⟨_, rfl, hid (btr (btr (btr HBW.out HE0.out) HBV.out) (ball _ _))⟩
theorem new_any (cap meet : Int) (w : World) : Calls Try.prog 4 #[.agg #[.int .i64 cap, .int .i64 meet]] w fun e w' => (cfg cap meet = false ∧ e = .returned (.tuple #[.pointer none, .int .i64 1]) ∧ Below w.heap.size w w') ∨ (cfg cap meet = true ∧ ∃ B, e = .returned (.tuple #[.pointer (some ⟨B, 0, none⟩), .int .i64 0]) ∧ Below w.heap.size w w') := by
  have CC := hid (fun U => can_any cap meet U)
  have CO := hid (fun (U : World) => opened_any cap meet U)
  obtain ⟨v, hv⟩ : ∃ v, cfg cap meet = v := ⟨_, rfl⟩
  rw [hv] at CC ⊢
  clear hv
  obtain ⟨R, hR⟩ : ∃ R, w.heap.size = R := ⟨_, rfl⟩
  obtain ⟨W, hW⟩ : ∃ U, w.alloc (.cells #[.int .i64 cap, .int .i64 meet] 23) = U := ⟨_, rfl⟩
  have b0 : Below w.heap.size w W := by rw [← hW]; exact ball _ _
  have HBW := hid b0
  have HR0 := hid (show W.heap[R]? = some (.cells #[.int .i64 cap, .int .i64 meet] 23 (0, 0)) from (by rw [← hW, ← hR]; exact World.alloc_heap_new _ _))
  have HW := hid hW
  have HRR := hid hR
  clear hR hW  b0
  have HCE := hid (fun (U : World) (hU : Below W.heap.size W U) => (show U.cell? ⟨R, 0, none⟩ = some (.int .i64 cap) ∧ U.cell? ⟨R, 1, none⟩ = some (.int .i64 meet) from by
    have h := row_on HR0.out hU
    exact ⟨row_cell h 0, row_cell h 1⟩))
  obtain ⟨c0, c1⟩ := HCE.out W (Below.refl _ _)
  cases v with
  | false =>
    go_enter Try.func4, Try.ntmps4
    go_upto_region 1 with fail
    rw [HW.out, HRR.out]
    go_wp2_with (go_at_call 9; with_reducible refine (CC.out _).mono ?_; rintro e w1 ⟨rfl, hb1⟩; have HB1 := hid hb1; clear hb1)
    go_ret2
    first | exact .inl ⟨trivial, rfl, btr HBW.out HB1.out⟩ | exact .inl ⟨rfl, rfl, btr HBW.out HB1.out⟩
  | true =>
    go_enter Try.func4, Try.ntmps4
    go_upto_region 1 with fail
    rw [HW.out, HRR.out]
    go_wp2_with (first | (go_at_call 9; with_reducible refine (CC.out _).mono ?_; rintro e w1 ⟨rfl, hb1⟩; have HB1 := hid hb1; obtain ⟨d0, d1⟩ := HCE.out w1 hb1; clear hb1) | (go_at_call 10; with_reducible refine (CO.out w1).mono ?_; rintro e w2 ⟨B, rfl, hb2⟩))
    go_ret2
    first | exact .inr ⟨trivial, B, rfl, btr (btr HBW.out HB1.out) hb2.out⟩ | exact .inr ⟨rfl, B, rfl, btr (btr HBW.out HB1.out) hb2.out⟩ | exact .inr ⟨trivial, ⟨B, rfl⟩, btr (btr HBW.out HB1.out) hb2.out⟩ | exact .inr ⟨rfl, ⟨B, rfl⟩, btr (btr HBW.out HB1.out) hb2.out⟩
theorem most_any (w : World) : Calls Try.prog 11 #[.int .i64 1] w fun e w' => e = .returned (.bool true) ∧ w' = w := by
  go_enter Try.func11, Try.ntmps11
  go_wp2
  go_ret
  exact ⟨rfl, rfl⟩
theorem stops_new (B : Nat) (w : World) : Calls Try.prog 5 #[.iface 28 (.pointer (some ⟨B, 0, none⟩)), .int .i64 1] w fun e w' => ∃ K, e = .returned (.tuple #[.pointer (some ⟨K, 0, none⟩), .int .i64 0]) ∧ Hid (Below w.heap.size w w') ∧ Hid (w.heap.size ≤ K) ∧ Hid (w'.heap[K]? = some (.cells #[.iface 28 (.pointer (some ⟨B, 0, none⟩)), .int .i64 1, .slice none 0 0, .int .u64 0, .int .u64 0, .int .i64 0, .bool false] 54 (0, 0))) := by
  have C := hid (fun (U : World) => most_any U)
  go_enter Try.func5, Try.ntmps5
  go_wp2_with (go_at_call 11; with_reducible refine (C.out _).mono ?_; rintro e w1 ⟨rfl, rfl⟩)
  go_ret2
  exact ⟨_, rfl, hid (ball _ _), hid (Nat.le_refl _), hid (World.alloc_heap_new _ _)⟩
end Go.Proofs.Ytnaekdfpdlkkcaa
