/-
  Both subscribers: what is refused, and the document's new one and its Good.
-/
import Derived.Test.YtiphgfghdbmlcaaFgD
import Derived.Test.YtiphgfghdbmlcaaFfD
namespace Go.Proofs.Ytiphgfghdbmlcaa
open Go.RowKit Go.Deep
set_option linter.unusedVariables false
set_option linter.unusedSimpArgs false
set_option maxHeartbeats 4000000
set_option maxRecDepth 100000
attribute [local go_sem ↓] Go.wp_at_zero Go.wp_at_succ
theorem newS_no (d : Int) (h : ¬ (0 ≤ d ∧ d ≤ 1024)) (w : World) : Calls Try.prog 17 #[.int .i64 d] w fun e w' => e = .returned (.tuple #[.pointer none, .int .i64 1]) ∧ Below w.heap.size w w' := by
  by_cases h1 : d < 0
  · go_enter Try.func17, Try.ntmps17
    go_wp2
    go_ret2
    exact ⟨rfl, Below.refl _ _⟩
  · have h2 : 1024 < d := by omega
    have h1' : decide (d < 0) = false := by simpa using h1
    clear h h1
    go_enter Try.func17, Try.ntmps17
    go_wp2
    go_ret2
    exact ⟨rfl, Below.refl _ _⟩
theorem rnewS_no (d : Int) (h : ¬ (0 ≤ d ∧ d ≤ 1024)) (w : World) : Calls Try.prog 18 #[.int .i64 d] w fun e w' => e = .returned (.tuple #[.agg #[.int .i64 0, .int .u64 0, .slice none 0 0, .slice none 0 0, .slice none 0 0, .int .u64 0, .int .u64 0, .int .i64 0, .int .i64 0, .int .i64 0, .int .u64 0, .int .i64 0], .int .i64 1]) ∧ Below w.heap.size w w' := by
  by_cases h1 : d < 0
  · go_enter Try.func18, Try.ntmps18
    go_wp2
    refine bodyPost_ret (v := .tuple #[.agg #[.int .i64 0, .int .u64 0, .slice none 0 0, .slice none 0 0, .slice none 0 0, .int .u64 0, .int .u64 0, .int .i64 0, .int .i64 0, .int .i64 0, .int .u64 0, .int .i64 0], .int .i64 1]) (by simp [results, Try.results18, go_sem, *]) rfl ⟨rfl, ?_⟩
    exact ball _ _
  · have h2 : 1024 < d := by omega
    have h1' : decide (d < 0) = false := by simpa using h1
    clear h h1
    go_enter Try.func18, Try.ntmps18
    go_wp2
    refine bodyPost_ret (v := .tuple #[.agg #[.int .i64 0, .int .u64 0, .slice none 0 0, .slice none 0 0, .slice none 0 0, .int .u64 0, .int .u64 0, .int .i64 0, .int .i64 0, .int .i64 0, .int .u64 0, .int .i64 0], .int .i64 1]) (by simp [results, Try.results18, go_sem, *]) rfl ⟨rfl, ?_⟩
    exact ball _ _
theorem rnewS_ok (d : Nat) (h2 : d ≤ 1024) (w : World) : Calls Try.prog 18 #[.int .i64 d] w fun e w' => e = .returned (.tuple #[.agg #[.int .i64 d, .int .u64 0, .slice none 0 0, .slice none 0 0, .slice none 0 0, .int .u64 0, .int .u64 0, .int .i64 0, .int .i64 0, .int .i64 0, .int .u64 0, .int .i64 0], .int .i64 0]) ∧ Below w.heap.size w w' := by
  have a1 : decide ((d : Int) < 0) = false := by simp
  have a2 : decide (1024 < (d : Int)) = false := by simp; omega
  have a3 : decide (1024 < d) = false := by simp; omega
  go_enter Try.func18, Try.ntmps18
  go_wp2
  refine bodyPost_ret (v := .tuple #[.agg #[.int .i64 d, .int .u64 0, .slice none 0 0, .slice none 0 0, .slice none 0 0, .int .u64 0, .int .u64 0, .int .i64 0, .int .i64 0, .int .i64 0, .int .u64 0, .int .i64 0], .int .i64 0]) (by simp [results, Try.results18, go_sem, *]) rfl ⟨rfl, ?_⟩
  exact ball _ _
theorem rgood_any (d sq gr : Int) (n1 n2 n3 c1 c2 c3 : Nat) (p1 p2 p3 : Option Addr) (la : Dm) (w : World) : Calls Try.prog 45 #[.agg #[.int .i64 d, .int .u64 sq, .slice p1 n1 c1, .slice p2 n2 c2, .slice p3 n3 c3, .int .u64 gr, .int .u64 la.sq, .int .i64 la.kd, .int .i64 la.sd, .int .i64 la.pr, .int .u64 la.qt, .int .i64 la.ct]] w fun e w' => e = .returned (.bool (decide (gr ≤ sq))) ∧ Below w.heap.size w w' := by
  go_enter Try.func45, Try.ntmps45
  go_wp2
  go_ret
  exact ⟨rfl, ball _ _⟩
theorem rlast_any (d sq gr : Int) (n1 n2 n3 c1 c2 c3 : Nat) (p1 p2 p3 : Option Addr) (la : Dm) (w : World) : Calls Try.prog 43 #[.agg #[.int .i64 d, .int .u64 sq, .slice p1 n1 c1, .slice p2 n2 c2, .slice p3 n3 c3, .int .u64 gr, .int .u64 la.sq, .int .i64 la.kd, .int .i64 la.sd, .int .i64 la.pr, .int .u64 la.qt, .int .i64 la.ct]] w fun e w' => e = .returned (.tuple #[.agg #[.int .u64 la.sq, .int .i64 la.kd, .int .i64 la.sd, .int .i64 la.pr, .int .u64 la.qt, .int .i64 la.ct], .bool (la.kd == 2)]) ∧ Below w.heap.size w w' := by
  obtain ⟨R, hR⟩ : ∃ R, w.heap.size = R := ⟨_, rfl⟩
  obtain ⟨W, hW⟩ : ∃ W, (w.alloc (.cells #[.int .i64 d, .int .u64 sq, .slice p1 n1 c1, .slice p2 n2 c2, .slice p3 n3 c3, .int .u64 gr, .int .u64 la.sq, .int .i64 la.kd, .int .i64 la.sd, .int .i64 la.pr, .int .u64 la.qt, .int .i64 la.ct] 57)).alloc (.cells #[.int .u64 0, .int .i64 0, .int .i64 0, .int .i64 0, .int .u64 0, .int .i64 0] 48) = W := ⟨_, rfl⟩
  obtain ⟨hb0, x0, x1, hs⟩ := alloc2 hR hW
  have HB := hid hb0
  have HD := hid (x0 _ _ rfl)
  have HZ := hid (x1 _ _ rfl)
  have HW := hid hW
  have HR := hid hR
  clear hb0 x0 x1 hW hR hs
  go_enter Try.func43, Try.ntmps43
  go_upto_region 1 with fail
  rw [HW.out, HR.out]
  have hlo : w.heap.size ≤ R + 1 := by rw [HR.out]; omega
  have hne : ¬ R = R + 1 := by omega
  refine reg_cut (X := Unit) (fun a t => (((((((a.put (some 4) (.pointer (some ⟨R, 6, none⟩))).put (some 5) (.agg #[.int .u64 la.sq, .int .i64 la.kd, .int .i64 la.sd, .int .i64 la.pr, .int .u64 la.qt, .int .i64 la.ct])).put (some 6) (.pointer (some ⟨R, 6, none⟩))).put (some 7) (.pointer (some ⟨R, 7, none⟩))).put (some 8) (.int .i64 la.kd)).put (some 9) (.bool (la.kd == 2))).put (some 3) (.bool (la.kd == 2)))) (fun t V => Hid (Below w.heap.size w V) ∧ Hid (V.heap[R + 1]? = some (.cells #[.int .u64 la.sq, .int .i64 la.kd, .int .i64 la.sd, .int .i64 la.pr, .int .u64 la.qt, .int .i64 la.ct] 48 (0, 0)))) ?_ ?_
  · obtain ⟨V25, hV25⟩ : ∃ U, W.drew = U := ⟨_, rfl⟩
    have BV25 := hid (show Below W.heap.size W V25 from by rw [← hV25]; exact bdrew1 _)
    have CV25 := hid (btr HB.out BV25.out)
    have r26 := hid (row_on HD.out BV25.out)
    have r27 := hid (row_on HZ.out BV25.out)
    refine wp_region_held_drew (S := (fun U => U.cell? ⟨R, 6, none⟩ = some (.int .u64 la.sq) ∧ U.cell? ⟨R, 7, none⟩ = some (.int .i64 la.kd) ∧ U.cell? ⟨R, 8, none⟩ = some (.int .i64 la.sd) ∧ U.cell? ⟨R, 9, none⟩ = some (.int .i64 la.pr) ∧ U.cell? ⟨R, 10, none⟩ = some (.int .u64 la.qt) ∧ U.cell? ⟨R, 11, none⟩ = some (.int .i64 la.ct))) (by kernel_rfl) ?_ (fun hHeld => ?_)
    · (try dsimp only); rw [hV25]; exact ⟨row_cell r26.out 6, row_cell r26.out 7, row_cell r26.out 8, row_cell r26.out 9, row_cell r26.out 10, row_cell r26.out 11⟩
    rw [hV25] at hHeld ⊢
    clear hV25
    refine' wpAnyH_take (i := 0) (oi := _) (v := _) rfl (by kernel_rfl) (by kernel_rfl) (by kernel_rfl) (fun _ _ _ h => h) (Or.inl ⟨by kernel_rfl, ?_⟩) (by assumption) ?_
    rotate_left
    · (intro w hSw; (try dsimp only at hSw); go_simp; try (with_reducible rfl))
    try simp only [List.getElem_toArray, List.getElem_cons_succ, List.getElem_cons_zero, Act.put, List.setIfInBounds_toArray, List.set_cons_zero, List.set_cons_succ]
    refine' wpAnyH_take (i := 1) (oi := _) (v := _) rfl (by kernel_rfl) (by kernel_rfl) (by kernel_rfl) (fun _ _ _ h => h) (Or.inl ⟨by kernel_rfl, ?_⟩) (by assumption) ?_
    rotate_left
    · (intro w hSw; (try dsimp only at hSw); go_simp; try (with_reducible rfl))
    try simp only [List.getElem_toArray, List.getElem_cons_succ, List.getElem_cons_zero, Act.put, List.setIfInBounds_toArray, List.set_cons_zero, List.set_cons_succ]
    refine' wpAnyH_take (i := 2) (oi := _) (v := _) rfl (by kernel_rfl) (by kernel_rfl) (by kernel_rfl) (fun _ _ _ h => h) (Or.inl ⟨by kernel_rfl, ?_⟩) (by assumption) ?_
    rotate_left
    · (intro w hSw; (try dsimp only at hSw); go_simp; try (with_reducible rfl))
    try simp only [List.getElem_toArray, List.getElem_cons_succ, List.getElem_cons_zero, Act.put, List.setIfInBounds_toArray, List.set_cons_zero, List.set_cons_succ]
    refine' wpAnyH_take (i := 3) (oi := _) (v := _) rfl (by kernel_rfl) (by kernel_rfl) (by kernel_rfl) (fun _ _ _ h => h) (Or.inl ⟨by kernel_rfl, ?_⟩) (by assumption) ?_
    rotate_left
    · (intro w hSw; (try dsimp only at hSw); go_simp; try (with_reducible rfl))
    try simp only [List.getElem_toArray, List.getElem_cons_succ, List.getElem_cons_zero, Act.put, List.setIfInBounds_toArray, List.set_cons_zero, List.set_cons_succ]
    refine' wpAnyH_take (i := 4) (oi := _) (v := _) rfl (by kernel_rfl) (by kernel_rfl) (by kernel_rfl) (fun _ _ _ h => h) (Or.inl ⟨by kernel_rfl, ?_⟩) (by assumption) ?_
    rotate_left
    · (intro w hSw; (try dsimp only at hSw); go_simp; try (with_reducible rfl))
    try simp only [List.getElem_toArray, List.getElem_cons_succ, List.getElem_cons_zero, Act.put, List.setIfInBounds_toArray, List.set_cons_zero, List.set_cons_succ]
    refine' wpAnyH_take (i := 5) (oi := _) (v := _) rfl (by kernel_rfl) (by kernel_rfl) (by kernel_rfl) (fun _ _ _ h => h) (Or.inl ⟨by kernel_rfl, ?_⟩) (by assumption) ?_
    rotate_left
    · (intro w hSw; (try dsimp only at hSw); go_simp; try (with_reducible rfl))
    try simp only [List.getElem_toArray, List.getElem_cons_succ, List.getElem_cons_zero, Act.put, List.setIfInBounds_toArray, List.set_cons_zero, List.set_cons_succ]
    refine wpAnyH_ready (rs := [6]) (by kernel_rfl) (by simp) ?_
    refine (AllReadyH.cons (o := _) rfl (fun K hK => ?_) AllReadyH.nil)
    refine step_store_row (by rfl) 48 (.tmp 2) (.tmp 5) (by rfl) (R + 1) #[.int .u64 la.sq, .int .i64 la.kd, .int .i64 la.sd, .int .i64 la.pr, .int .u64 la.qt, .int .i64 la.ct] (by rfl) (by rfl) 48 _ r27.out infoD (by rfl) (by simp [Value.oneCell']) ?_
    obtain ⟨Y28, hY28⟩ : ∃ Y, V25.setRow (R + 1) #[.int .u64 la.sq, .int .i64 la.kd, .int .i64 la.sd, .int .i64 la.pr, .int .u64 la.qt, .int .i64 la.ct] = Y := ⟨_, rfl⟩
    have KY28 := hid (show Kp (fun j => j = (R + 1)) V25 Y28 from by rw [← hY28]; exact setRow_kp _ _ _)
    have AY28 := hid (show Y28.heap[(R + 1)]? = some (.cells #[.int .u64 la.sq, .int .i64 la.kd, .int .i64 la.sd, .int .i64 la.pr, .int .u64 la.qt, .int .i64 la.ct] 48 (0, 0)) from by rw [← hY28]; exact setRow_heap V25 (R + 1) _ _ 48 (0, 0) r27.out)
    have DY28 := hid (show Below w.heap.size w Y28 from by rw [← hY28]; exact setRow_below CV25.out hlo)
    have r29 := hid (KY28.out.row r26.out (fun e => hne e))
    rw [hY28]
    refine hK.out _ _ ?_ (fun hHeld => ?_)
    · (try dsimp only); exact ⟨row_cell r29.out 6, row_cell r29.out 7, row_cell r29.out 8, row_cell r29.out 9, row_cell r29.out 10, row_cell r29.out 11⟩
    clear hK K hY28
    try simp only [List.getElem_toArray, List.getElem_cons_succ, List.getElem_cons_zero, Act.put, List.setIfInBounds_toArray, List.set_cons_zero, List.set_cons_succ]
    refine' wpAnyH_take (i := 7) (oi := _) (v := _) rfl (by kernel_rfl) (by kernel_rfl) (by kernel_rfl) (fun _ _ _ h => h) (Or.inl ⟨by kernel_rfl, ?_⟩) (by assumption) ?_
    rotate_left
    · (intro w hSw; (try dsimp only at hSw); go_simp; try (with_reducible rfl))
    try simp only [List.getElem_toArray, List.getElem_cons_succ, List.getElem_cons_zero, Act.put, List.setIfInBounds_toArray, List.set_cons_zero, List.set_cons_succ]
    refine wpAnyH_done (by kernel_rfl) ?_ _
    exact ⟨(), by kernel_rfl, DY28, AY28⟩
  · rintro ⟨⟩ V ⟨BV, HV⟩
    try simp only [List.getElem_toArray, List.getElem_cons_succ, List.getElem_cons_zero, Act.put, List.setIfInBounds_toArray, List.set_cons_zero, List.set_cons_succ]
    go_wp2
    refine bodyPost_ret (res_ct (fn := Try.f43) Try.results43 _ _ (R + 1) 48 #[.int .u64 la.sq, .int .i64 la.kd, .int .i64 la.sd, .int .i64 la.pr, .int .u64 la.qt, .int .i64 la.ct] (0, 0) _ (.bool (la.kd == 2)) (by rfl) (by rfl) HV.out Try.underlying48 rfl infoD) rfl ⟨rfl, BV.out⟩
theorem last_any {w : World} {S M nm : Nat} {sq hold gr : Int} {p1 : Option Addr} {c1 : Nat} {l1 : List Lv} {p2 : Option Addr} {c2 : Nat} {l2 : List Lv} {L : List Dm} {la : Dm} (h : Sb w S M nm sq hold gr p1 c1 l1 p2 c2 l2 L la) : Calls Try.prog 42 #[.pointer (some ⟨S, 0, none⟩)] w fun e w' => e = .returned (.tuple #[.agg #[.int .u64 la.sq, .int .i64 la.kd, .int .i64 la.sd, .int .i64 la.pr, .int .u64 la.qt, .int .i64 la.ct], .bool (decide (0 < la.sq))]) ∧ Below w.heap.size w w' := by
  obtain ⟨R, hR⟩ : ∃ R, w.heap.size = R := ⟨_, rfl⟩
  obtain ⟨W, hW⟩ : ∃ W, w.alloc (.cells #[.int .u64 0, .int .i64 0, .int .i64 0, .int .i64 0, .int .u64 0, .int .i64 0] 48) = W := ⟨_, rfl⟩
  have hb0 : Below w.heap.size w W := by rw [← hW]; exact ball _ _
  have HB := hid hb0
  have HZ := hid (show W.heap[R]? = some (.cells #[.int .u64 0, .int .i64 0, .int .i64 0, .int .i64 0, .int .u64 0, .int .i64 0] 48 (0, 0)) from by rw [← hW, ← hR]; exact World.alloc_heap_new _ _)
  have HD := hid (row_on h.row hb0)
  have HW := hid hW
  have HR := hid hR
  have hlo : w.heap.size ≤ R := by rw [hR]; exact Nat.le_refl _
  have hne : ¬ S = R := by have := row_lt h.row; omega
  clear hb0 hW hR h
  go_enter Try.func42, Try.ntmps42
  go_upto_region 1 with fail
  rw [HW.out, HR.out]
  refine reg_cut (X := Unit) (fun a t => (((((((((((a.put (some 4) (.pointer (some ⟨S, 0, none⟩))).put (some 5) (.pointer (some ⟨S, 0, none⟩))).put (some 6) (.pointer (some ⟨S, 6, none⟩))).put (some 7) (.agg #[.int .u64 la.sq, .int .i64 la.kd, .int .i64 la.sd, .int .i64 la.pr, .int .u64 la.qt, .int .i64 la.ct])).put (some 8) (.pointer (some ⟨S, 0, none⟩))).put (some 9) (.pointer (some ⟨S, 0, none⟩))).put (some 10) (.pointer (some ⟨S, 6, none⟩))).put (some 11) (.pointer (some ⟨S, 6, none⟩))).put (some 12) (.int .u64 la.sq)).put (some 13) (.bool (decide (0 < la.sq)))).put (some 3) (.bool (decide (0 < la.sq))))) (fun t V => Hid (Below w.heap.size w V) ∧ Hid (V.heap[R]? = some (.cells #[.int .u64 la.sq, .int .i64 la.kd, .int .i64 la.sd, .int .i64 la.pr, .int .u64 la.qt, .int .i64 la.ct] 48 (0, 0)))) ?_ ?_
  · obtain ⟨V30, hV30⟩ : ∃ U, W.drew = U := ⟨_, rfl⟩
    have BV30 := hid (show Below W.heap.size W V30 from by rw [← hV30]; exact bdrew1 _)
    have CV30 := hid (btr HB.out BV30.out)
    have r31 := hid (row_on HD.out BV30.out)
    have r32 := hid (row_on HZ.out BV30.out)
    refine wp_region_held_drew (S := (fun U => U.cell? ⟨S, 6, none⟩ = some (.int .u64 la.sq) ∧ U.cell? ⟨S, 7, none⟩ = some (.int .i64 la.kd) ∧ U.cell? ⟨S, 8, none⟩ = some (.int .i64 la.sd) ∧ U.cell? ⟨S, 9, none⟩ = some (.int .i64 la.pr) ∧ U.cell? ⟨S, 10, none⟩ = some (.int .u64 la.qt) ∧ U.cell? ⟨S, 11, none⟩ = some (.int .i64 la.ct))) (by kernel_rfl) ?_ (fun hHeld => ?_)
    · (try dsimp only); rw [hV30]; exact ⟨row_cell r31.out 6, row_cell r31.out 7, row_cell r31.out 8, row_cell r31.out 9, row_cell r31.out 10, row_cell r31.out 11⟩
    rw [hV30] at hHeld ⊢
    clear hV30
    refine' wpAnyH_take (i := 0) (oi := _) (v := _) rfl (by kernel_rfl) (by kernel_rfl) (by kernel_rfl) (fun _ _ _ h => h) (Or.inl ⟨by kernel_rfl, ?_⟩) (by assumption) ?_
    rotate_left
    · (intro w hSw; (try dsimp only at hSw); go_simp; try (with_reducible rfl))
    try simp only [List.getElem_toArray, List.getElem_cons_succ, List.getElem_cons_zero, Act.put, List.setIfInBounds_toArray, List.set_cons_zero, List.set_cons_succ]
    refine' wpAnyH_take (i := 1) (oi := _) (v := _) rfl (by kernel_rfl) (by kernel_rfl) (by kernel_rfl) (fun _ _ _ h => h) (Or.inl ⟨by kernel_rfl, ?_⟩) (by assumption) ?_
    rotate_left
    · (intro w hSw; (try dsimp only at hSw); go_simp; try (with_reducible rfl))
    try simp only [List.getElem_toArray, List.getElem_cons_succ, List.getElem_cons_zero, Act.put, List.setIfInBounds_toArray, List.set_cons_zero, List.set_cons_succ]
    refine' wpAnyH_take (i := 2) (oi := _) (v := _) rfl (by kernel_rfl) (by kernel_rfl) (by kernel_rfl) (fun _ _ _ h => h) (Or.inl ⟨by kernel_rfl, ?_⟩) (by assumption) ?_
    rotate_left
    · (intro w hSw; (try dsimp only at hSw); go_simp; try (with_reducible rfl))
    try simp only [List.getElem_toArray, List.getElem_cons_succ, List.getElem_cons_zero, Act.put, List.setIfInBounds_toArray, List.set_cons_zero, List.set_cons_succ]
    refine' wpAnyH_take (i := 3) (oi := _) (v := _) rfl (by kernel_rfl) (by kernel_rfl) (by kernel_rfl) (fun _ _ _ h => h) (Or.inl ⟨by kernel_rfl, ?_⟩) (by assumption) ?_
    rotate_left
    · (intro w hSw; (try dsimp only at hSw); go_simp; try (with_reducible rfl))
    try simp only [List.getElem_toArray, List.getElem_cons_succ, List.getElem_cons_zero, Act.put, List.setIfInBounds_toArray, List.set_cons_zero, List.set_cons_succ]
    refine' wpAnyH_take (i := 4) (oi := _) (v := _) rfl (by kernel_rfl) (by kernel_rfl) (by kernel_rfl) (fun _ _ _ h => h) (Or.inl ⟨by kernel_rfl, ?_⟩) (by assumption) ?_
    rotate_left
    · (intro w hSw; (try dsimp only at hSw); go_simp; try (with_reducible rfl))
    try simp only [List.getElem_toArray, List.getElem_cons_succ, List.getElem_cons_zero, Act.put, List.setIfInBounds_toArray, List.set_cons_zero, List.set_cons_succ]
    refine' wpAnyH_take (i := 5) (oi := _) (v := _) rfl (by kernel_rfl) (by kernel_rfl) (by kernel_rfl) (fun _ _ _ h => h) (Or.inl ⟨by kernel_rfl, ?_⟩) (by assumption) ?_
    rotate_left
    · (intro w hSw; (try dsimp only at hSw); go_simp; try (with_reducible rfl))
    try simp only [List.getElem_toArray, List.getElem_cons_succ, List.getElem_cons_zero, Act.put, List.setIfInBounds_toArray, List.set_cons_zero, List.set_cons_succ]
    refine' wpAnyH_take (i := 6) (oi := _) (v := _) rfl (by kernel_rfl) (by kernel_rfl) (by kernel_rfl) (fun _ _ _ h => h) (Or.inl ⟨by kernel_rfl, ?_⟩) (by assumption) ?_
    rotate_left
    · (intro w hSw; (try dsimp only at hSw); go_simp; try (with_reducible rfl))
    try simp only [List.getElem_toArray, List.getElem_cons_succ, List.getElem_cons_zero, Act.put, List.setIfInBounds_toArray, List.set_cons_zero, List.set_cons_succ]
    refine' wpAnyH_take (i := 7) (oi := _) (v := _) rfl (by kernel_rfl) (by kernel_rfl) (by kernel_rfl) (fun _ _ _ h => h) (Or.inl ⟨by kernel_rfl, ?_⟩) (by assumption) ?_
    rotate_left
    · (intro w hSw; (try dsimp only at hSw); go_simp; try (with_reducible rfl))
    try simp only [List.getElem_toArray, List.getElem_cons_succ, List.getElem_cons_zero, Act.put, List.setIfInBounds_toArray, List.set_cons_zero, List.set_cons_succ]
    refine' wpAnyH_take (i := 8) (oi := _) (v := _) rfl (by kernel_rfl) (by kernel_rfl) (by kernel_rfl) (fun _ _ _ h => h) (Or.inl ⟨by kernel_rfl, ?_⟩) (by assumption) ?_
    rotate_left
    · (intro w hSw; (try dsimp only at hSw); go_simp; try (with_reducible rfl))
    try simp only [List.getElem_toArray, List.getElem_cons_succ, List.getElem_cons_zero, Act.put, List.setIfInBounds_toArray, List.set_cons_zero, List.set_cons_succ]
    refine' wpAnyH_take (i := 9) (oi := _) (v := _) rfl (by kernel_rfl) (by kernel_rfl) (by kernel_rfl) (fun _ _ _ h => h) (Or.inl ⟨by kernel_rfl, ?_⟩) (by assumption) ?_
    rotate_left
    · (intro w hSw; (try dsimp only at hSw); go_simp; try (with_reducible rfl))
    try simp only [List.getElem_toArray, List.getElem_cons_succ, List.getElem_cons_zero, Act.put, List.setIfInBounds_toArray, List.set_cons_zero, List.set_cons_succ]
    refine wpAnyH_ready (rs := [10]) (by kernel_rfl) (by simp) ?_
    refine (AllReadyH.cons (o := _) rfl (fun K hK => ?_) AllReadyH.nil)
    refine step_store_row (by rfl) 48 (.tmp 2) (.tmp 7) (by rfl) R #[.int .u64 la.sq, .int .i64 la.kd, .int .i64 la.sd, .int .i64 la.pr, .int .u64 la.qt, .int .i64 la.ct] (by rfl) (by rfl) 48 _ r32.out infoD (by rfl) (by simp [Value.oneCell']) ?_
    obtain ⟨Y33, hY33⟩ : ∃ Y, V30.setRow R #[.int .u64 la.sq, .int .i64 la.kd, .int .i64 la.sd, .int .i64 la.pr, .int .u64 la.qt, .int .i64 la.ct] = Y := ⟨_, rfl⟩
    have KY33 := hid (show Kp (fun j => j = R) V30 Y33 from by rw [← hY33]; exact setRow_kp _ _ _)
    have AY33 := hid (show Y33.heap[R]? = some (.cells #[.int .u64 la.sq, .int .i64 la.kd, .int .i64 la.sd, .int .i64 la.pr, .int .u64 la.qt, .int .i64 la.ct] 48 (0, 0)) from by rw [← hY33]; exact setRow_heap V30 R _ _ 48 (0, 0) r32.out)
    have DY33 := hid (show Below w.heap.size w Y33 from by rw [← hY33]; exact setRow_below CV30.out hlo)
    have r34 := hid (KY33.out.row r31.out (fun e => hne e))
    rw [hY33]
    refine hK.out _ _ ?_ (fun hHeld => ?_)
    · (try dsimp only); exact ⟨row_cell r34.out 6, row_cell r34.out 7, row_cell r34.out 8, row_cell r34.out 9, row_cell r34.out 10, row_cell r34.out 11⟩
    clear hK K hY33
    try simp only [List.getElem_toArray, List.getElem_cons_succ, List.getElem_cons_zero, Act.put, List.setIfInBounds_toArray, List.set_cons_zero, List.set_cons_succ]
    refine' wpAnyH_take (i := 11) (oi := _) (v := _) rfl (by kernel_rfl) (by kernel_rfl) (by kernel_rfl) (fun _ _ _ h => h) (Or.inl ⟨by kernel_rfl, ?_⟩) (by assumption) ?_
    rotate_left
    · (intro w hSw; (try dsimp only at hSw); go_simp; try (with_reducible rfl))
    try simp only [List.getElem_toArray, List.getElem_cons_succ, List.getElem_cons_zero, Act.put, List.setIfInBounds_toArray, List.set_cons_zero, List.set_cons_succ]
    refine wpAnyH_done (by kernel_rfl) ?_ _
    exact ⟨(), by kernel_rfl, DY33, AY33⟩
  · rintro ⟨⟩ V ⟨BV, HV⟩
    try simp only [List.getElem_toArray, List.getElem_cons_succ, List.getElem_cons_zero, Act.put, List.setIfInBounds_toArray, List.set_cons_zero, List.set_cons_succ]
    go_wp2
    refine bodyPost_ret (res_ct (fn := Try.f42) Try.results42 _ _ R 48 #[.int .u64 la.sq, .int .i64 la.kd, .int .i64 la.sd, .int .i64 la.pr, .int .u64 la.qt, .int .i64 la.ct] (0, 0) _ (.bool (decide (0 < la.sq))) (by rfl) (by rfl) HV.out Try.underlying48 rfl infoD) rfl ⟨rfl, BV.out⟩
end Go.Proofs.Ytiphgfghdbmlcaa
