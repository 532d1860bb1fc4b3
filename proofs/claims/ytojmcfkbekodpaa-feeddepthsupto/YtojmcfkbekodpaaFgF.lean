/-
  What is held is done, as far as no number is missing.
-/
import Derived.Test.YtojmcfkbekodpaaKr
import Derived.LoopN
namespace Go.Proofs.Ytojmcfkbekodpaa.Fd
open Go.RowKit Go.Deep
set_option linter.unusedVariables false
set_option linter.unusedSimpArgs false
set_option maxHeartbeats 8000000
set_option maxRecDepth 100000
attribute [local go_sem ↓] Go.wp_at_zero Go.wp_at_succ
theorem catch_none {w : World} {S M nm : Nat} {sq hold gr : Int} {p1 : Option Addr} {c1 : Nat} {l1 : List Lv} {p2 : Option Addr} {c2 : Nat} {l2 : List Lv} {L : List Dm} {la : Dm} (h : Sb w S M nm sq hold gr p1 c1 l1 p2 c2 l2 L la) (hx : L.any (fun x => x.sq == uw (sq + 1)) = false) :
    Calls Try.prog 42 #[.pointer (some ⟨S, 0, none⟩)] w fun e w' => e = .returned (.tuple #[]) ∧ Below w.heap.size w w' := by
  obtain ⟨y, hy⟩ : ∃ y, IntKind.u64.wrap (sq + 1) = y := ⟨_, rfl⟩
  have hyr : 0 ≤ y ∧ y < 18446744073709551616 := by rw [← hy]; exact uw_rng _
  have hx' : L.any (fun x => x.sq == y) = false := by rw [← hy]; exact hx
  have LK := hid (show ∀ U, Below w.heap.size w U → (Instr.lookup 103 (.map (some M)) (.int .u64 y) true).run Try.prog U = .ok (.tuple #[.agg #[.int .u64 dm0.sq, .int .i64 dm0.kd, .int .i64 dm0.sd, .int .i64 dm0.pr, .int .u64 dm0.qt, .int .i64 dm0.ct], .bool false]) U from fun U hU => by
    have := (h.hm.on hU).look y hyr
    rw [hx', fnd_not hx'] at this
    exact this)
  have HROW := hid h.row
  clear h hx hx' hyr
  go_enter Try.func42, Try.ntmps42
  go_wp2
  refine wp_loop_rounds 1 ?_
  rw [rounds_succ]
  go_upto_region 0 with fail
  refine reg_cut (X := Nat) (fun a t => ((((((((((((((((a.put (some 5) (.pointer (some ⟨S, 0, none⟩))).put (some 6) (.pointer (some ⟨S, 0, none⟩))).put (some 7) (.pointer (some ⟨S, 4, none⟩))).put (some 8) (.map (some M))).put (some 9) (.pointer (some ⟨S, 0, none⟩))).put (some 10) (.pointer (some ⟨S, 0, none⟩))).put (some 11) (.pointer (some ⟨S, 0, none⟩))).put (some 12) (.pointer (some ⟨S, 0, none⟩))).put (some 13) (.int .u64 sq)).put (some 14) (.int .u64 y)).put (some 15) (.tuple #[.agg #[.int .u64 dm0.sq, .int .i64 dm0.kd, .int .i64 dm0.sd, .int .i64 dm0.pr, .int .u64 dm0.qt, .int .i64 dm0.ct], .bool false])).put (some 4) (.tuple #[.agg #[.int .u64 dm0.sq, .int .i64 dm0.kd, .int .i64 dm0.sd, .int .i64 dm0.pr, .int .u64 dm0.qt, .int .i64 dm0.ct], .bool false])).put (some 16) (.agg #[.int .u64 dm0.sq, .int .i64 dm0.kd, .int .i64 dm0.sd, .int .i64 dm0.pr, .int .u64 dm0.qt, .int .i64 dm0.ct])).put (some 17) (.bool false)).put (some 2) (.pointer (some ⟨t, 0, none⟩))).put (some 3) (.bool false))) (fun t V => Hid (Below w.heap.size w V) ∧ Hid (V.heap[t]? = some (.cells #[.int .u64 dm0.sq, .int .i64 dm0.kd, .int .i64 dm0.sd, .int .i64 dm0.pr, .int .u64 dm0.qt, .int .i64 dm0.ct] 47 (0, 0)))) ?_ ?_
  · obtain ⟨V1, hV1⟩ : ∃ U, w.drew = U := ⟨_, rfl⟩
    have BV1 := hid (show Below w.heap.size w V1 from by rw [← hV1]; exact bdrew1 _)
    have r2 := hid (row_on HROW.out BV1.out)
    refine wp_region_held_drew (S := (fun U => U.cell? ⟨S, 0, none⟩ = some (.int .u64 sq) ∧ U.cell? ⟨S, 4, none⟩ = some (.map (some M)) ∧ (Instr.lookup 103 (.map (some M)) (.int .u64 y) true).run Try.prog U = .ok (.tuple #[.agg #[.int .u64 dm0.sq, .int .i64 dm0.kd, .int .i64 dm0.sd, .int .i64 dm0.pr, .int .u64 dm0.qt, .int .i64 dm0.ct], .bool false]) U)) (by kernel_rfl) ?_ (fun hHeld => ?_)
    · (try dsimp only); rw [hV1]; exact ⟨row_cell r2.out 0, row_cell r2.out 4, LK.out _ BV1.out⟩
    rw [hV1] at hHeld ⊢
    clear hV1
    refine' wpAnyH_take (i := 0) (oi := _) (v := _) rfl (by kernel_rfl) (by kernel_rfl) (by kernel_rfl) (fun _ _ _ h => h) (Or.inl ⟨by kernel_rfl, ?_⟩) (by assumption) ?_
    rotate_left
    · (intro w hSw; (try dsimp only at hSw); go_simp; try (with_reducible rfl))
    try simp only [List.getElem_toArray, List.getElem_cons_succ, List.getElem_cons_zero, Act.put, List.setIfInBounds_toArray, List.set_cons_zero, List.set_cons_succ]
    refine' wpAnyH_take (i := 1) (oi := _) (v := _) rfl (by kernel_rfl) (by kernel_rfl) (by kernel_rfl) (fun _ _ _ h => h) (Or.inl ⟨by kernel_rfl, ?_⟩) (by assumption) ?_
    rotate_left
    · (intro w hSw; (try dsimp only at hSw); go_simp; try (with_reducible rfl))
    try simp only [List.getElem_toArray, List.getElem_cons_succ, List.getElem_cons_zero, Act.put, List.setIfInBounds_toArray, List.set_cons_zero, List.set_cons_succ]
    refine' wpAnyH_take (i := 2) (oi := _) (v := _) rfl (by kernel_rfl) (by kernel_rfl) (by kernel_rfl) (fun _ _ _ h => h) (Or.inl ⟨by kernel_rfl, ?_⟩) (by assumption) ?_
    rotate_left
    · (intro w hSw; (try dsimp only at hSw); go_simp; try (with_reducible rfl))
    try simp only [List.getElem_toArray, List.getElem_cons_succ, List.getElem_cons_zero, Act.put, List.setIfInBounds_toArray, List.set_cons_zero, List.set_cons_succ]
    refine' wpAnyH_take (i := 3) (oi := _) (v := _) rfl (by kernel_rfl) (by kernel_rfl) (by kernel_rfl) (fun _ _ _ h => h) (Or.inl ⟨by kernel_rfl, ?_⟩) (by assumption) ?_
    rotate_left
    · (intro w hSw; (try dsimp only at hSw); go_simp; try (with_reducible rfl))
    try simp only [List.getElem_toArray, List.getElem_cons_succ, List.getElem_cons_zero, Act.put, List.setIfInBounds_toArray, List.set_cons_zero, List.set_cons_succ]
    refine' wpAnyH_take (i := 4) (oi := _) (v := _) rfl (by kernel_rfl) (by kernel_rfl) (by kernel_rfl) (fun _ _ _ h => h) (Or.inl ⟨by kernel_rfl, ?_⟩) (by assumption) ?_
    rotate_left
    · (intro w hSw; (try dsimp only at hSw); go_simp; try (with_reducible rfl))
    try simp only [List.getElem_toArray, List.getElem_cons_succ, List.getElem_cons_zero, Act.put, List.setIfInBounds_toArray, List.set_cons_zero, List.set_cons_succ]
    refine' wpAnyH_take (i := 5) (oi := _) (v := _) rfl (by kernel_rfl) (by kernel_rfl) (by kernel_rfl) (fun _ _ _ h => h) (Or.inl ⟨by kernel_rfl, ?_⟩) (by assumption) ?_
    rotate_left
    · (intro w hSw; (try dsimp only at hSw); go_simp; try (with_reducible rfl))
    try simp only [List.getElem_toArray, List.getElem_cons_succ, List.getElem_cons_zero, Act.put, List.setIfInBounds_toArray, List.set_cons_zero, List.set_cons_succ]
    refine' wpAnyH_take (i := 6) (oi := _) (v := _) rfl (by kernel_rfl) (by kernel_rfl) (by kernel_rfl) (fun _ _ _ h => h) (Or.inl ⟨by kernel_rfl, ?_⟩) (by assumption) ?_
    rotate_left
    · (intro w hSw; (try dsimp only at hSw); go_simp; try (with_reducible rfl))
    try simp only [List.getElem_toArray, List.getElem_cons_succ, List.getElem_cons_zero, Act.put, List.setIfInBounds_toArray, List.set_cons_zero, List.set_cons_succ]
    refine' wpAnyH_take (i := 7) (oi := _) (v := _) rfl (by kernel_rfl) (by kernel_rfl) (by kernel_rfl) (fun _ _ _ h => h) (Or.inl ⟨by kernel_rfl, ?_⟩) (by assumption) ?_
    rotate_left
    · (intro w hSw; (try dsimp only at hSw); go_simp; try (with_reducible rfl))
    try simp only [List.getElem_toArray, List.getElem_cons_succ, List.getElem_cons_zero, Act.put, List.setIfInBounds_toArray, List.set_cons_zero, List.set_cons_succ]
    refine' wpAnyH_take (i := 8) (oi := _) (v := _) rfl (by kernel_rfl) (by kernel_rfl) (by kernel_rfl) (fun _ _ _ h => h) (Or.inl ⟨by kernel_rfl, ?_⟩) (by assumption) ?_
    rotate_left
    · (intro w hSw; (try dsimp only at hSw); go_simp; try (with_reducible rfl))
    try simp only [List.getElem_toArray, List.getElem_cons_succ, List.getElem_cons_zero, Act.put, List.setIfInBounds_toArray, List.set_cons_zero, List.set_cons_succ]
    refine' wpAnyH_take (i := 9) (oi := _) (v := _) rfl (by kernel_rfl) (by kernel_rfl) (by kernel_rfl) (fun _ _ _ h => h) (Or.inl ⟨by kernel_rfl, ?_⟩) (by assumption) ?_
    rotate_left
    · (intro w hSw; (try dsimp only at hSw); go_simp; try (with_reducible rfl))
    try simp only [List.getElem_toArray, List.getElem_cons_succ, List.getElem_cons_zero, Act.put, List.setIfInBounds_toArray, List.set_cons_zero, List.set_cons_succ]
    refine' wpAnyH_take (i := 10) (oi := _) (v := _) rfl (by kernel_rfl) (by kernel_rfl) (by kernel_rfl) (fun _ _ _ h => h) (Or.inl ⟨by kernel_rfl, ?_⟩) (by assumption) ?_
    rotate_left
    · (intro w hSw; (try dsimp only at hSw); go_simp; try (with_reducible rfl))
    try simp only [List.getElem_toArray, List.getElem_cons_succ, List.getElem_cons_zero, Act.put, List.setIfInBounds_toArray, List.set_cons_zero, List.set_cons_succ]
    refine' wpAnyH_take (i := 11) (oi := _) (v := _) rfl (by kernel_rfl) (by kernel_rfl) (by kernel_rfl) (fun _ _ _ h => h) (Or.inl ⟨by kernel_rfl, ?_⟩) (by assumption) ?_
    rotate_left
    · (intro w hSw; (try dsimp only at hSw); go_simp; try (with_reducible rfl))
    try simp only [List.getElem_toArray, List.getElem_cons_succ, List.getElem_cons_zero, Act.put, List.setIfInBounds_toArray, List.set_cons_zero, List.set_cons_succ]
    refine' wpAnyH_take (i := 12) (oi := _) (v := _) rfl (by kernel_rfl) (by kernel_rfl) (by kernel_rfl) (fun _ _ _ h => h) (Or.inl ⟨by kernel_rfl, ?_⟩) (by assumption) ?_
    rotate_left
    · (intro w hSw; (try dsimp only at hSw); go_simp; try (with_reducible rfl))
    try simp only [List.getElem_toArray, List.getElem_cons_succ, List.getElem_cons_zero, Act.put, List.setIfInBounds_toArray, List.set_cons_zero, List.set_cons_succ]
    refine' wpAnyH_take (i := 13) (oi := _) (v := _) rfl (by kernel_rfl) (by kernel_rfl) (by kernel_rfl) (fun _ _ _ h => h) (Or.inl ⟨by kernel_rfl, ?_⟩) (by assumption) ?_
    rotate_left
    · (intro w hSw; (try dsimp only at hSw); go_simp; try (with_reducible rfl))
    try simp only [List.getElem_toArray, List.getElem_cons_succ, List.getElem_cons_zero, Act.put, List.setIfInBounds_toArray, List.set_cons_zero, List.set_cons_succ]
    refine wpAnyH_ready (rs := [14]) (by kernel_rfl) (by simp) ?_
    refine (AllReadyH.cons (o := _) rfl (fun K hK => ?_) AllReadyH.nil)
    go_simp
    obtain ⟨X3, hX3⟩ : ∃ X, V1.alloc (.cells #[.int .u64 0, .int .i64 0, .int .i64 0, .int .i64 0, .int .u64 0, .int .i64 0] 47) = X := ⟨_, rfl⟩
    have bX3 : Below V1.heap.size V1 X3 := by rw [← hX3]; exact ball _ _
    have r5 := hid (row_on r2.out bX3)
    have DX3 := hid (btr BV1.out bX3)
    have zX3 : X3.heap[V1.heap.size]? = some (.cells #[.int .u64 0, .int .i64 0, .int .i64 0, .int .i64 0, .int .u64 0, .int .i64 0] 47 (0, 0)) := by rw [← hX3]; exact World.alloc_heap_new _ _
    have yg4 := BV1.out.size
    obtain ⟨g4, hg4⟩ : ∃ g, V1.heap.size = g := ⟨_, rfl⟩
    have n6 : g4 ≠ S := by have := row_lt r2.out; omega
    rw [hg4] at zX3 yg4
    have ZX3 := hid zX3
    rw [hX3, hg4]
    clear hX3 hg4 zX3 bX3
    refine hK.out _ _ ?_ (fun hHeld => ?_)
    · (try dsimp only); exact ⟨row_cell r5.out 0, row_cell r5.out 4, LK.out _ DX3.out⟩
    clear hK K
    try simp only [List.getElem_toArray, List.getElem_cons_succ, List.getElem_cons_zero, Act.put, List.setIfInBounds_toArray, List.set_cons_zero, List.set_cons_succ]
    refine wpAnyH_ready (rs := [15]) (by kernel_rfl) (by simp) ?_
    refine (AllReadyH.cons (o := _) rfl (fun K hK => ?_) AllReadyH.nil)
    refine step_store_row (by rfl) 47 (.tmp 2) (.tmp 16) (by rfl) g4 #[.int .u64 dm0.sq, .int .i64 dm0.kd, .int .i64 dm0.sd, .int .i64 dm0.pr, .int .u64 dm0.qt, .int .i64 dm0.ct] (by rfl) (by rfl) 47 _ ZX3.out infoD (by rfl) (by simp [Value.oneCell']) ?_
    obtain ⟨Y7, hY7⟩ : ∃ Y, X3.setRow g4 #[.int .u64 dm0.sq, .int .i64 dm0.kd, .int .i64 dm0.sd, .int .i64 dm0.pr, .int .u64 dm0.qt, .int .i64 dm0.ct] = Y := ⟨_, rfl⟩
    have KY7 := hid (show Kp (fun j => j = g4) X3 Y7 from by rw [← hY7]; exact setRow_kp _ _ _)
    have AY7 := hid (show Y7.heap[g4]? = some (.cells #[.int .u64 dm0.sq, .int .i64 dm0.kd, .int .i64 dm0.sd, .int .i64 dm0.pr, .int .u64 dm0.qt, .int .i64 dm0.ct] 47 (0, 0)) from by rw [← hY7]; exact setRow_heap X3 g4 _ _ 47 (0, 0) ZX3.out)
    have DY7 := hid (show Below w.heap.size w Y7 from by rw [← hY7]; exact setRow_below DX3.out yg4)
    have r8 := hid (KY7.out.row r5.out (fun e => n6.symm e))
    rw [hY7]
    refine hK.out _ _ ?_ (fun hHeld => ?_)
    · (try dsimp only); exact ⟨row_cell r8.out 0, row_cell r8.out 4, LK.out _ DY7.out⟩
    clear hK K hY7
    try simp only [List.getElem_toArray, List.getElem_cons_succ, List.getElem_cons_zero, Act.put, List.setIfInBounds_toArray, List.set_cons_zero, List.set_cons_succ]
    refine' wpAnyH_take (i := 16) (oi := _) (v := _) rfl (by kernel_rfl) (by kernel_rfl) (by kernel_rfl) (fun _ _ _ h => h) (Or.inl ⟨by kernel_rfl, ?_⟩) (by assumption) ?_
    rotate_left
    · (intro w hSw; (try dsimp only at hSw); go_simp; try (with_reducible rfl))
    try simp only [List.getElem_toArray, List.getElem_cons_succ, List.getElem_cons_zero, Act.put, List.setIfInBounds_toArray, List.set_cons_zero, List.set_cons_succ]
    refine wpAnyH_done (by kernel_rfl) ?_ _
    exact ⟨g4, by kernel_rfl, DY7, AY7⟩
  · rintro P V ⟨BV, HP⟩
    try simp only [List.getElem_toArray, List.getElem_cons_succ, List.getElem_cons_zero, Act.put, List.setIfInBounds_toArray, List.set_cons_zero, List.set_cons_succ]
    go_wp2
    refine bodyPost_ret (results_none rfl _ _ _) rfl ?_
    exact ⟨rfl, BV.out⟩
theorem catch_one {w : World} {S M nm : Nat} {sq hold gr : Int} {p1 : Option Addr} {c1 : Nat} {l1 : List Lv} {p2 : Option Addr} {c2 : Nat} {l2 : List Lv} {L : List Dm} {la : Dm} (h : Sb w S M nm sq hold gr p1 c1 l1 p2 c2 l2 L la) (m : Dm) (hx : L.any (fun x => x.sq == uw (sq + 1)) = true) (hf : fnd L (uw (sq + 1)) = m) (hnd : L.Pairwise (fun x y => x.sq ≠ y.sq)) (hn : (L.filter (fun d => d.sq != m.sq)).any (fun x => x.sq == uw (m.sq + 1)) = false) (hk : m.kd = 1) (hsd : m.sd = 2) (hd : dgn m = false) (ha : ∀ k (hk : k < l2.length), bt 2 l2[k].pr m.pr = true) (hnew : Lok 2 (l2 ++ [⟨m.pr, m.qt, m.ct⟩])) (ap : ∀ g, OfP p1 g → ¬ OfP p2 g) :
    Calls Try.prog 42 #[.pointer (some ⟨S, 0, none⟩)] w fun e w' => e = .returned (.tuple #[]) ∧ ∃ q c', Sb w' S M nm m.sq hold gr p1 c1 l1 q c' (l2 ++ [⟨m.pr, m.qt, m.ct⟩]) (L.filter (fun d => d.sq != m.sq)) la ∧ Kp (fun g => g = S ∨ g = M ∨ OfP p2 g) w w' ∧ Fr w.heap.size p2 q := by
  obtain ⟨y, hy⟩ : ∃ y, IntKind.u64.wrap (sq + 1) = y := ⟨_, rfl⟩
  have hyr : 0 ≤ y ∧ y < 18446744073709551616 := by rw [← hy]; exact uw_rng _
  have hx' : L.any (fun x => x.sq == y) = true := by rw [← hy]; exact hx
  have hf' : fnd L y = m := by rw [← hy]; exact hf
  have hmy : m.sq = y := by rw [← hf']; exact (fnd_mem hx').2
  have hmr : 0 ≤ m.sq ∧ m.sq < 18446744073709551616 := by rw [hmy]; exact hyr
  have LK := hid (show ∀ U, Below w.heap.size w U → (Instr.lookup 103 (.map (some M)) (.int .u64 y) true).run Try.prog U = .ok (.tuple #[.agg #[.int .u64 m.sq, .int .i64 m.kd, .int .i64 m.sd, .int .i64 m.pr, .int .u64 m.qt, .int .i64 m.ct], .bool true]) U from fun U hU => by
    have := (h.hm.on hU).look y hyr
    rw [hx', hf'] at this
    exact this)
  have HROW := hid h.row
  have HS := hid h
  have HND := hid hnd
  have HNO := hid hn
  have HMR := hid hmr
  have HDO := hid (fun (U : World) (L' : List Dm) (hU : Sb U S M nm sq hold gr p1 c1 l1 p2 c2 l2 L' la) => do_sell hU m hmr hk hsd hd ha hnew ap)
  clear h hx hx' hyr hf hf' hnd hn hmy hmr hk hsd hd ha hnew ap
  go_enter Try.func42, Try.ntmps42
  go_wp2
  refine wp_loop_rounds 2 ?_
  rw [rounds_succ]
  go_upto_region 0 with fail
  refine reg_cut (X := Nat) (fun a t => ((((((((((((((((a.put (some 5) (.pointer (some ⟨S, 0, none⟩))).put (some 6) (.pointer (some ⟨S, 0, none⟩))).put (some 7) (.pointer (some ⟨S, 4, none⟩))).put (some 8) (.map (some M))).put (some 9) (.pointer (some ⟨S, 0, none⟩))).put (some 10) (.pointer (some ⟨S, 0, none⟩))).put (some 11) (.pointer (some ⟨S, 0, none⟩))).put (some 12) (.pointer (some ⟨S, 0, none⟩))).put (some 13) (.int .u64 sq)).put (some 14) (.int .u64 y)).put (some 15) (.tuple #[.agg #[.int .u64 m.sq, .int .i64 m.kd, .int .i64 m.sd, .int .i64 m.pr, .int .u64 m.qt, .int .i64 m.ct], .bool true])).put (some 4) (.tuple #[.agg #[.int .u64 m.sq, .int .i64 m.kd, .int .i64 m.sd, .int .i64 m.pr, .int .u64 m.qt, .int .i64 m.ct], .bool true])).put (some 16) (.agg #[.int .u64 m.sq, .int .i64 m.kd, .int .i64 m.sd, .int .i64 m.pr, .int .u64 m.qt, .int .i64 m.ct])).put (some 17) (.bool true)).put (some 2) (.pointer (some ⟨t, 0, none⟩))).put (some 3) (.bool true))) (fun t V => Hid (Below w.heap.size w V) ∧ Hid (V.heap[t]? = some (.cells #[.int .u64 m.sq, .int .i64 m.kd, .int .i64 m.sd, .int .i64 m.pr, .int .u64 m.qt, .int .i64 m.ct] 47 (0, 0)))) ?_ ?_
  · obtain ⟨V9, hV9⟩ : ∃ U, w.drew = U := ⟨_, rfl⟩
    have BV9 := hid (show Below w.heap.size w V9 from by rw [← hV9]; exact bdrew1 _)
    have r10 := hid (row_on HROW.out BV9.out)
    refine wp_region_held_drew (S := (fun U => U.cell? ⟨S, 0, none⟩ = some (.int .u64 sq) ∧ U.cell? ⟨S, 4, none⟩ = some (.map (some M)) ∧ (Instr.lookup 103 (.map (some M)) (.int .u64 y) true).run Try.prog U = .ok (.tuple #[.agg #[.int .u64 m.sq, .int .i64 m.kd, .int .i64 m.sd, .int .i64 m.pr, .int .u64 m.qt, .int .i64 m.ct], .bool true]) U)) (by kernel_rfl) ?_ (fun hHeld => ?_)
    · (try dsimp only); rw [hV9]; exact ⟨row_cell r10.out 0, row_cell r10.out 4, LK.out _ BV9.out⟩
    rw [hV9] at hHeld ⊢
    clear hV9
    refine' wpAnyH_take (i := 0) (oi := _) (v := _) rfl (by kernel_rfl) (by kernel_rfl) (by kernel_rfl) (fun _ _ _ h => h) (Or.inl ⟨by kernel_rfl, ?_⟩) (by assumption) ?_
    rotate_left
    · (intro w hSw; (try dsimp only at hSw); go_simp; try (with_reducible rfl))
    try simp only [List.getElem_toArray, List.getElem_cons_succ, List.getElem_cons_zero, Act.put, List.setIfInBounds_toArray, List.set_cons_zero, List.set_cons_succ]
    refine' wpAnyH_take (i := 1) (oi := _) (v := _) rfl (by kernel_rfl) (by kernel_rfl) (by kernel_rfl) (fun _ _ _ h => h) (Or.inl ⟨by kernel_rfl, ?_⟩) (by assumption) ?_
    rotate_left
    · (intro w hSw; (try dsimp only at hSw); go_simp; try (with_reducible rfl))
    try simp only [List.getElem_toArray, List.getElem_cons_succ, List.getElem_cons_zero, Act.put, List.setIfInBounds_toArray, List.set_cons_zero, List.set_cons_succ]
    refine' wpAnyH_take (i := 2) (oi := _) (v := _) rfl (by kernel_rfl) (by kernel_rfl) (by kernel_rfl) (fun _ _ _ h => h) (Or.inl ⟨by kernel_rfl, ?_⟩) (by assumption) ?_
    rotate_left
    · (intro w hSw; (try dsimp only at hSw); go_simp; try (with_reducible rfl))
    try simp only [List.getElem_toArray, List.getElem_cons_succ, List.getElem_cons_zero, Act.put, List.setIfInBounds_toArray, List.set_cons_zero, List.set_cons_succ]
    refine' wpAnyH_take (i := 3) (oi := _) (v := _) rfl (by kernel_rfl) (by kernel_rfl) (by kernel_rfl) (fun _ _ _ h => h) (Or.inl ⟨by kernel_rfl, ?_⟩) (by assumption) ?_
    rotate_left
    · (intro w hSw; (try dsimp only at hSw); go_simp; try (with_reducible rfl))
    try simp only [List.getElem_toArray, List.getElem_cons_succ, List.getElem_cons_zero, Act.put, List.setIfInBounds_toArray, List.set_cons_zero, List.set_cons_succ]
    refine' wpAnyH_take (i := 4) (oi := _) (v := _) rfl (by kernel_rfl) (by kernel_rfl) (by kernel_rfl) (fun _ _ _ h => h) (Or.inl ⟨by kernel_rfl, ?_⟩) (by assumption) ?_
    rotate_left
    · (intro w hSw; (try dsimp only at hSw); go_simp; try (with_reducible rfl))
    try simp only [List.getElem_toArray, List.getElem_cons_succ, List.getElem_cons_zero, Act.put, List.setIfInBounds_toArray, List.set_cons_zero, List.set_cons_succ]
    refine' wpAnyH_take (i := 5) (oi := _) (v := _) rfl (by kernel_rfl) (by kernel_rfl) (by kernel_rfl) (fun _ _ _ h => h) (Or.inl ⟨by kernel_rfl, ?_⟩) (by assumption) ?_
    rotate_left
    · (intro w hSw; (try dsimp only at hSw); go_simp; try (with_reducible rfl))
    try simp only [List.getElem_toArray, List.getElem_cons_succ, List.getElem_cons_zero, Act.put, List.setIfInBounds_toArray, List.set_cons_zero, List.set_cons_succ]
    refine' wpAnyH_take (i := 6) (oi := _) (v := _) rfl (by kernel_rfl) (by kernel_rfl) (by kernel_rfl) (fun _ _ _ h => h) (Or.inl ⟨by kernel_rfl, ?_⟩) (by assumption) ?_
    rotate_left
    · (intro w hSw; (try dsimp only at hSw); go_simp; try (with_reducible rfl))
    try simp only [List.getElem_toArray, List.getElem_cons_succ, List.getElem_cons_zero, Act.put, List.setIfInBounds_toArray, List.set_cons_zero, List.set_cons_succ]
    refine' wpAnyH_take (i := 7) (oi := _) (v := _) rfl (by kernel_rfl) (by kernel_rfl) (by kernel_rfl) (fun _ _ _ h => h) (Or.inl ⟨by kernel_rfl, ?_⟩) (by assumption) ?_
    rotate_left
    · (intro w hSw; (try dsimp only at hSw); go_simp; try (with_reducible rfl))
    try simp only [List.getElem_toArray, List.getElem_cons_succ, List.getElem_cons_zero, Act.put, List.setIfInBounds_toArray, List.set_cons_zero, List.set_cons_succ]
    refine' wpAnyH_take (i := 8) (oi := _) (v := _) rfl (by kernel_rfl) (by kernel_rfl) (by kernel_rfl) (fun _ _ _ h => h) (Or.inl ⟨by kernel_rfl, ?_⟩) (by assumption) ?_
    rotate_left
    · (intro w hSw; (try dsimp only at hSw); go_simp; try (with_reducible rfl))
    try simp only [List.getElem_toArray, List.getElem_cons_succ, List.getElem_cons_zero, Act.put, List.setIfInBounds_toArray, List.set_cons_zero, List.set_cons_succ]
    refine' wpAnyH_take (i := 9) (oi := _) (v := _) rfl (by kernel_rfl) (by kernel_rfl) (by kernel_rfl) (fun _ _ _ h => h) (Or.inl ⟨by kernel_rfl, ?_⟩) (by assumption) ?_
    rotate_left
    · (intro w hSw; (try dsimp only at hSw); go_simp; try (with_reducible rfl))
    try simp only [List.getElem_toArray, List.getElem_cons_succ, List.getElem_cons_zero, Act.put, List.setIfInBounds_toArray, List.set_cons_zero, List.set_cons_succ]
    refine' wpAnyH_take (i := 10) (oi := _) (v := _) rfl (by kernel_rfl) (by kernel_rfl) (by kernel_rfl) (fun _ _ _ h => h) (Or.inl ⟨by kernel_rfl, ?_⟩) (by assumption) ?_
    rotate_left
    · (intro w hSw; (try dsimp only at hSw); go_simp; try (with_reducible rfl))
    try simp only [List.getElem_toArray, List.getElem_cons_succ, List.getElem_cons_zero, Act.put, List.setIfInBounds_toArray, List.set_cons_zero, List.set_cons_succ]
    refine' wpAnyH_take (i := 11) (oi := _) (v := _) rfl (by kernel_rfl) (by kernel_rfl) (by kernel_rfl) (fun _ _ _ h => h) (Or.inl ⟨by kernel_rfl, ?_⟩) (by assumption) ?_
    rotate_left
    · (intro w hSw; (try dsimp only at hSw); go_simp; try (with_reducible rfl))
    try simp only [List.getElem_toArray, List.getElem_cons_succ, List.getElem_cons_zero, Act.put, List.setIfInBounds_toArray, List.set_cons_zero, List.set_cons_succ]
    refine' wpAnyH_take (i := 12) (oi := _) (v := _) rfl (by kernel_rfl) (by kernel_rfl) (by kernel_rfl) (fun _ _ _ h => h) (Or.inl ⟨by kernel_rfl, ?_⟩) (by assumption) ?_
    rotate_left
    · (intro w hSw; (try dsimp only at hSw); go_simp; try (with_reducible rfl))
    try simp only [List.getElem_toArray, List.getElem_cons_succ, List.getElem_cons_zero, Act.put, List.setIfInBounds_toArray, List.set_cons_zero, List.set_cons_succ]
    refine' wpAnyH_take (i := 13) (oi := _) (v := _) rfl (by kernel_rfl) (by kernel_rfl) (by kernel_rfl) (fun _ _ _ h => h) (Or.inl ⟨by kernel_rfl, ?_⟩) (by assumption) ?_
    rotate_left
    · (intro w hSw; (try dsimp only at hSw); go_simp; try (with_reducible rfl))
    try simp only [List.getElem_toArray, List.getElem_cons_succ, List.getElem_cons_zero, Act.put, List.setIfInBounds_toArray, List.set_cons_zero, List.set_cons_succ]
    refine wpAnyH_ready (rs := [14]) (by kernel_rfl) (by simp) ?_
    refine (AllReadyH.cons (o := _) rfl (fun K hK => ?_) AllReadyH.nil)
    go_simp
    obtain ⟨X11, hX11⟩ : ∃ X, V9.alloc (.cells #[.int .u64 0, .int .i64 0, .int .i64 0, .int .i64 0, .int .u64 0, .int .i64 0] 47) = X := ⟨_, rfl⟩
    have bX11 : Below V9.heap.size V9 X11 := by rw [← hX11]; exact ball _ _
    have r13 := hid (row_on r10.out bX11)
    have DX11 := hid (btr BV9.out bX11)
    have zX11 : X11.heap[V9.heap.size]? = some (.cells #[.int .u64 0, .int .i64 0, .int .i64 0, .int .i64 0, .int .u64 0, .int .i64 0] 47 (0, 0)) := by rw [← hX11]; exact World.alloc_heap_new _ _
    have yg12 := BV9.out.size
    obtain ⟨g12, hg12⟩ : ∃ g, V9.heap.size = g := ⟨_, rfl⟩
    have n14 : g12 ≠ S := by have := row_lt r10.out; omega
    rw [hg12] at zX11 yg12
    have ZX11 := hid zX11
    rw [hX11, hg12]
    clear hX11 hg12 zX11 bX11
    refine hK.out _ _ ?_ (fun hHeld => ?_)
    · (try dsimp only); exact ⟨row_cell r13.out 0, row_cell r13.out 4, LK.out _ DX11.out⟩
    clear hK K
    try simp only [List.getElem_toArray, List.getElem_cons_succ, List.getElem_cons_zero, Act.put, List.setIfInBounds_toArray, List.set_cons_zero, List.set_cons_succ]
    refine wpAnyH_ready (rs := [15]) (by kernel_rfl) (by simp) ?_
    refine (AllReadyH.cons (o := _) rfl (fun K hK => ?_) AllReadyH.nil)
    refine step_store_row (by rfl) 47 (.tmp 2) (.tmp 16) (by rfl) g12 #[.int .u64 m.sq, .int .i64 m.kd, .int .i64 m.sd, .int .i64 m.pr, .int .u64 m.qt, .int .i64 m.ct] (by rfl) (by rfl) 47 _ ZX11.out infoD (by rfl) (by simp [Value.oneCell']) ?_
    obtain ⟨Y15, hY15⟩ : ∃ Y, X11.setRow g12 #[.int .u64 m.sq, .int .i64 m.kd, .int .i64 m.sd, .int .i64 m.pr, .int .u64 m.qt, .int .i64 m.ct] = Y := ⟨_, rfl⟩
    have KY15 := hid (show Kp (fun j => j = g12) X11 Y15 from by rw [← hY15]; exact setRow_kp _ _ _)
    have AY15 := hid (show Y15.heap[g12]? = some (.cells #[.int .u64 m.sq, .int .i64 m.kd, .int .i64 m.sd, .int .i64 m.pr, .int .u64 m.qt, .int .i64 m.ct] 47 (0, 0)) from by rw [← hY15]; exact setRow_heap X11 g12 _ _ 47 (0, 0) ZX11.out)
    have DY15 := hid (show Below w.heap.size w Y15 from by rw [← hY15]; exact setRow_below DX11.out yg12)
    have r16 := hid (KY15.out.row r13.out (fun e => n14.symm e))
    rw [hY15]
    refine hK.out _ _ ?_ (fun hHeld => ?_)
    · (try dsimp only); exact ⟨row_cell r16.out 0, row_cell r16.out 4, LK.out _ DY15.out⟩
    clear hK K hY15
    try simp only [List.getElem_toArray, List.getElem_cons_succ, List.getElem_cons_zero, Act.put, List.setIfInBounds_toArray, List.set_cons_zero, List.set_cons_succ]
    refine' wpAnyH_take (i := 16) (oi := _) (v := _) rfl (by kernel_rfl) (by kernel_rfl) (by kernel_rfl) (fun _ _ _ h => h) (Or.inl ⟨by kernel_rfl, ?_⟩) (by assumption) ?_
    rotate_left
    · (intro w hSw; (try dsimp only at hSw); go_simp; try (with_reducible rfl))
    try simp only [List.getElem_toArray, List.getElem_cons_succ, List.getElem_cons_zero, Act.put, List.setIfInBounds_toArray, List.set_cons_zero, List.set_cons_succ]
    refine wpAnyH_done (by kernel_rfl) ?_ _
    exact ⟨g12, by kernel_rfl, DY15, AY15⟩
  · rintro P V ⟨BV, HP⟩
    try simp only [List.getElem_toArray, List.getElem_cons_succ, List.getElem_cons_zero, Act.put, List.setIfInBounds_toArray, List.set_cons_zero, List.set_cons_succ]
    clear LK HROW
    have HSV := hid (HS.out.on BV.out)
    obtain ⟨V2, hrun, hm2, hk2⟩ := (HSV.out.hm.on (bdrew1 V)).del HND.out m.sq HMR.out 0
    have HM2 := hid hm2
    have HK2 := hid hk2
    obtain ⟨k0, k1, k2, k3, k4, k5⟩ := row12 HSV.out.row
    obtain ⟨j0, j1, j2, j3, j4, j5⟩ := row6 HP.out
    clear hm2 hk2 k0 k1 k2 k3 k5 hy
    go_upto_region 2 with fail
    go_region_law fail
    all_goals
      have hs := HSV.out.on (bdrew1 V)
      have HS2 := hid (show Sb V2 S M nm sq hold gr p1 c1 l1 p2 c2 l2 (L.filter (fun d => d.sq != m.sq)) la from ⟨HK2.out.row hs.row (fun e => map_ne hs.hm hs.row e.symm), hs.o1.kept HK2.out (fun g hg e => by obtain ⟨cu, hc⟩ := hs.o1.ty hg; exact map_ne hs.hm hc e.symm), hs.o2.kept HK2.out (fun g hg e => by obtain ⟨cu, hc⟩ := hs.o2.ty hg; exact map_ne hs.hm hc e.symm), hs.k1, hs.k2, HM2.out, hs.sq, hs.gr⟩)
      have HP2 := hid (HK2.out.row (row_on HP.out (bdrew1 V)) (fun e => map_ne hs.hm (row_on HP.out (bdrew1 V)) e.symm))
      clear hs hrun j0 j1 j2 j3 j4 j5 k4
      obtain ⟨j0, j1, j2, j3, j4, j5⟩ := row6 HP2.out
      have CD := hid (HDO.out V2 _ HS2.out)
      go_upto_region 3 with fail
      go_wp2_with (go_at_call 41; with_reducible refine (CD.out).mono ?_; rintro e V3 ⟨rfl, q, c', h1, h2, h3⟩; have HS3 := hid h1; have HK3 := hid h2; have HF3 := hid h3; clear h1 h2 h3)
      try simp only [Exit.inBlock, Exit.then]
      rw [rounds_succ]
      obtain ⟨y2, hy2⟩ : ∃ y, IntKind.u64.wrap (m.sq + 1) = y := ⟨_, rfl⟩
      have hyr2 : 0 ≤ y2 ∧ y2 < 18446744073709551616 := by rw [← hy2]; exact uw_rng _
      have hx2 : (L.filter (fun d => d.sq != m.sq)).any (fun x => x.sq == y2) = false := by rw [← hy2]; exact HNO.out
      have LK := hid (show ∀ U, Below V3.heap.size V3 U → (Instr.lookup 103 (.map (some M)) (.int .u64 y2) true).run Try.prog U = .ok (.tuple #[.agg #[.int .u64 dm0.sq, .int .i64 dm0.kd, .int .i64 dm0.sd, .int .i64 dm0.pr, .int .u64 dm0.qt, .int .i64 dm0.ct], .bool false]) U from fun U hU => by
        have := (HS3.out.hm.on hU).look y2 hyr2
        rw [hx2, fnd_not hx2] at this
        exact this)
      have HROW := hid HS3.out.row
      clear j0 j1 j2 j3 j4 j5 hyr2 hx2
      go_upto_region 0 with fail
      refine reg_cut (X := Nat) (fun a t => ((((((((((((((((a.put (some 5) (.pointer (some ⟨S, 0, none⟩))).put (some 6) (.pointer (some ⟨S, 0, none⟩))).put (some 7) (.pointer (some ⟨S, 4, none⟩))).put (some 8) (.map (some M))).put (some 9) (.pointer (some ⟨S, 0, none⟩))).put (some 10) (.pointer (some ⟨S, 0, none⟩))).put (some 11) (.pointer (some ⟨S, 0, none⟩))).put (some 12) (.pointer (some ⟨S, 0, none⟩))).put (some 13) (.int .u64 m.sq)).put (some 14) (.int .u64 y2)).put (some 15) (.tuple #[.agg #[.int .u64 dm0.sq, .int .i64 dm0.kd, .int .i64 dm0.sd, .int .i64 dm0.pr, .int .u64 dm0.qt, .int .i64 dm0.ct], .bool false])).put (some 4) (.tuple #[.agg #[.int .u64 dm0.sq, .int .i64 dm0.kd, .int .i64 dm0.sd, .int .i64 dm0.pr, .int .u64 dm0.qt, .int .i64 dm0.ct], .bool false])).put (some 16) (.agg #[.int .u64 dm0.sq, .int .i64 dm0.kd, .int .i64 dm0.sd, .int .i64 dm0.pr, .int .u64 dm0.qt, .int .i64 dm0.ct])).put (some 17) (.bool false)).put (some 2) (.pointer (some ⟨t, 0, none⟩))).put (some 3) (.bool false))) (fun t V => Hid (Below V3.heap.size V3 V) ∧ Hid (V.heap[t]? = some (.cells #[.int .u64 dm0.sq, .int .i64 dm0.kd, .int .i64 dm0.sd, .int .i64 dm0.pr, .int .u64 dm0.qt, .int .i64 dm0.ct] 47 (0, 0)))) ?_ ?_
      · obtain ⟨V17, hV17⟩ : ∃ U, V3.drew = U := ⟨_, rfl⟩
        have BV17 := hid (show Below V3.heap.size V3 V17 from by rw [← hV17]; exact bdrew1 _)
        have r18 := hid (row_on HROW.out BV17.out)
        refine wp_region_held_drew (S := (fun U => U.cell? ⟨S, 0, none⟩ = some (.int .u64 m.sq) ∧ U.cell? ⟨S, 4, none⟩ = some (.map (some M)) ∧ (Instr.lookup 103 (.map (some M)) (.int .u64 y2) true).run Try.prog U = .ok (.tuple #[.agg #[.int .u64 dm0.sq, .int .i64 dm0.kd, .int .i64 dm0.sd, .int .i64 dm0.pr, .int .u64 dm0.qt, .int .i64 dm0.ct], .bool false]) U)) (by kernel_rfl) ?_ (fun hHeld => ?_)
        · (try dsimp only); rw [hV17]; exact ⟨row_cell r18.out 0, row_cell r18.out 4, LK.out _ BV17.out⟩
        rw [hV17] at hHeld ⊢
        clear hV17
        refine' wpAnyH_take (i := 0) (oi := _) (v := _) rfl (by kernel_rfl) (by kernel_rfl) (by kernel_rfl) (fun _ _ _ h => h) (Or.inl ⟨by kernel_rfl, ?_⟩) (by assumption) ?_
        rotate_left
        · (intro w hSw; (try dsimp only at hSw); go_simp; try (with_reducible rfl))
        try simp only [List.getElem_toArray, List.getElem_cons_succ, List.getElem_cons_zero, Act.put, List.setIfInBounds_toArray, List.set_cons_zero, List.set_cons_succ]
        refine' wpAnyH_take (i := 1) (oi := _) (v := _) rfl (by kernel_rfl) (by kernel_rfl) (by kernel_rfl) (fun _ _ _ h => h) (Or.inl ⟨by kernel_rfl, ?_⟩) (by assumption) ?_
        rotate_left
        · (intro w hSw; (try dsimp only at hSw); go_simp; try (with_reducible rfl))
        try simp only [List.getElem_toArray, List.getElem_cons_succ, List.getElem_cons_zero, Act.put, List.setIfInBounds_toArray, List.set_cons_zero, List.set_cons_succ]
        refine' wpAnyH_take (i := 2) (oi := _) (v := _) rfl (by kernel_rfl) (by kernel_rfl) (by kernel_rfl) (fun _ _ _ h => h) (Or.inl ⟨by kernel_rfl, ?_⟩) (by assumption) ?_
        rotate_left
        · (intro w hSw; (try dsimp only at hSw); go_simp; try (with_reducible rfl))
        try simp only [List.getElem_toArray, List.getElem_cons_succ, List.getElem_cons_zero, Act.put, List.setIfInBounds_toArray, List.set_cons_zero, List.set_cons_succ]
        refine' wpAnyH_take (i := 3) (oi := _) (v := _) rfl (by kernel_rfl) (by kernel_rfl) (by kernel_rfl) (fun _ _ _ h => h) (Or.inl ⟨by kernel_rfl, ?_⟩) (by assumption) ?_
        rotate_left
        · (intro w hSw; (try dsimp only at hSw); go_simp; try (with_reducible rfl))
        try simp only [List.getElem_toArray, List.getElem_cons_succ, List.getElem_cons_zero, Act.put, List.setIfInBounds_toArray, List.set_cons_zero, List.set_cons_succ]
        refine' wpAnyH_take (i := 4) (oi := _) (v := _) rfl (by kernel_rfl) (by kernel_rfl) (by kernel_rfl) (fun _ _ _ h => h) (Or.inl ⟨by kernel_rfl, ?_⟩) (by assumption) ?_
        rotate_left
        · (intro w hSw; (try dsimp only at hSw); go_simp; try (with_reducible rfl))
        try simp only [List.getElem_toArray, List.getElem_cons_succ, List.getElem_cons_zero, Act.put, List.setIfInBounds_toArray, List.set_cons_zero, List.set_cons_succ]
        refine' wpAnyH_take (i := 5) (oi := _) (v := _) rfl (by kernel_rfl) (by kernel_rfl) (by kernel_rfl) (fun _ _ _ h => h) (Or.inl ⟨by kernel_rfl, ?_⟩) (by assumption) ?_
        rotate_left
        · (intro w hSw; (try dsimp only at hSw); go_simp; try (with_reducible rfl))
        try simp only [List.getElem_toArray, List.getElem_cons_succ, List.getElem_cons_zero, Act.put, List.setIfInBounds_toArray, List.set_cons_zero, List.set_cons_succ]
        refine' wpAnyH_take (i := 6) (oi := _) (v := _) rfl (by kernel_rfl) (by kernel_rfl) (by kernel_rfl) (fun _ _ _ h => h) (Or.inl ⟨by kernel_rfl, ?_⟩) (by assumption) ?_
        rotate_left
        · (intro w hSw; (try dsimp only at hSw); go_simp; try (with_reducible rfl))
        try simp only [List.getElem_toArray, List.getElem_cons_succ, List.getElem_cons_zero, Act.put, List.setIfInBounds_toArray, List.set_cons_zero, List.set_cons_succ]
        refine' wpAnyH_take (i := 7) (oi := _) (v := _) rfl (by kernel_rfl) (by kernel_rfl) (by kernel_rfl) (fun _ _ _ h => h) (Or.inl ⟨by kernel_rfl, ?_⟩) (by assumption) ?_
        rotate_left
        · (intro w hSw; (try dsimp only at hSw); go_simp; try (with_reducible rfl))
        try simp only [List.getElem_toArray, List.getElem_cons_succ, List.getElem_cons_zero, Act.put, List.setIfInBounds_toArray, List.set_cons_zero, List.set_cons_succ]
        refine' wpAnyH_take (i := 8) (oi := _) (v := _) rfl (by kernel_rfl) (by kernel_rfl) (by kernel_rfl) (fun _ _ _ h => h) (Or.inl ⟨by kernel_rfl, ?_⟩) (by assumption) ?_
        rotate_left
        · (intro w hSw; (try dsimp only at hSw); go_simp; try (with_reducible rfl))
        try simp only [List.getElem_toArray, List.getElem_cons_succ, List.getElem_cons_zero, Act.put, List.setIfInBounds_toArray, List.set_cons_zero, List.set_cons_succ]
        refine' wpAnyH_take (i := 9) (oi := _) (v := _) rfl (by kernel_rfl) (by kernel_rfl) (by kernel_rfl) (fun _ _ _ h => h) (Or.inl ⟨by kernel_rfl, ?_⟩) (by assumption) ?_
        rotate_left
        · (intro w hSw; (try dsimp only at hSw); go_simp; try (with_reducible rfl))
        try simp only [List.getElem_toArray, List.getElem_cons_succ, List.getElem_cons_zero, Act.put, List.setIfInBounds_toArray, List.set_cons_zero, List.set_cons_succ]
        refine' wpAnyH_take (i := 10) (oi := _) (v := _) rfl (by kernel_rfl) (by kernel_rfl) (by kernel_rfl) (fun _ _ _ h => h) (Or.inl ⟨by kernel_rfl, ?_⟩) (by assumption) ?_
        rotate_left
        · (intro w hSw; (try dsimp only at hSw); go_simp; try (with_reducible rfl))
        try simp only [List.getElem_toArray, List.getElem_cons_succ, List.getElem_cons_zero, Act.put, List.setIfInBounds_toArray, List.set_cons_zero, List.set_cons_succ]
        refine' wpAnyH_take (i := 11) (oi := _) (v := _) rfl (by kernel_rfl) (by kernel_rfl) (by kernel_rfl) (fun _ _ _ h => h) (Or.inl ⟨by kernel_rfl, ?_⟩) (by assumption) ?_
        rotate_left
        · (intro w hSw; (try dsimp only at hSw); go_simp; try (with_reducible rfl))
        try simp only [List.getElem_toArray, List.getElem_cons_succ, List.getElem_cons_zero, Act.put, List.setIfInBounds_toArray, List.set_cons_zero, List.set_cons_succ]
        refine' wpAnyH_take (i := 12) (oi := _) (v := _) rfl (by kernel_rfl) (by kernel_rfl) (by kernel_rfl) (fun _ _ _ h => h) (Or.inl ⟨by kernel_rfl, ?_⟩) (by assumption) ?_
        rotate_left
        · (intro w hSw; (try dsimp only at hSw); go_simp; try (with_reducible rfl))
        try simp only [List.getElem_toArray, List.getElem_cons_succ, List.getElem_cons_zero, Act.put, List.setIfInBounds_toArray, List.set_cons_zero, List.set_cons_succ]
        refine' wpAnyH_take (i := 13) (oi := _) (v := _) rfl (by kernel_rfl) (by kernel_rfl) (by kernel_rfl) (fun _ _ _ h => h) (Or.inl ⟨by kernel_rfl, ?_⟩) (by assumption) ?_
        rotate_left
        · (intro w hSw; (try dsimp only at hSw); go_simp; try (with_reducible rfl))
        try simp only [List.getElem_toArray, List.getElem_cons_succ, List.getElem_cons_zero, Act.put, List.setIfInBounds_toArray, List.set_cons_zero, List.set_cons_succ]
        refine wpAnyH_ready (rs := [14]) (by kernel_rfl) (by simp) ?_
        refine (AllReadyH.cons (o := _) rfl (fun K hK => ?_) AllReadyH.nil)
        go_simp
        obtain ⟨X19, hX19⟩ : ∃ X, V17.alloc (.cells #[.int .u64 0, .int .i64 0, .int .i64 0, .int .i64 0, .int .u64 0, .int .i64 0] 47) = X := ⟨_, rfl⟩
        have bX19 : Below V17.heap.size V17 X19 := by rw [← hX19]; exact ball _ _
        have r21 := hid (row_on r18.out bX19)
        have DX19 := hid (btr BV17.out bX19)
        have zX19 : X19.heap[V17.heap.size]? = some (.cells #[.int .u64 0, .int .i64 0, .int .i64 0, .int .i64 0, .int .u64 0, .int .i64 0] 47 (0, 0)) := by rw [← hX19]; exact World.alloc_heap_new _ _
        have yg20 := BV17.out.size
        obtain ⟨g20, hg20⟩ : ∃ g, V17.heap.size = g := ⟨_, rfl⟩
        have n22 : g20 ≠ S := by have := row_lt r18.out; omega
        rw [hg20] at zX19 yg20
        have ZX19 := hid zX19
        rw [hX19, hg20]
        clear hX19 hg20 zX19 bX19
        refine hK.out _ _ ?_ (fun hHeld => ?_)
        · (try dsimp only); exact ⟨row_cell r21.out 0, row_cell r21.out 4, LK.out _ DX19.out⟩
        clear hK K
        try simp only [List.getElem_toArray, List.getElem_cons_succ, List.getElem_cons_zero, Act.put, List.setIfInBounds_toArray, List.set_cons_zero, List.set_cons_succ]
        refine wpAnyH_ready (rs := [15]) (by kernel_rfl) (by simp) ?_
        refine (AllReadyH.cons (o := _) rfl (fun K hK => ?_) AllReadyH.nil)
        refine step_store_row (by rfl) 47 (.tmp 2) (.tmp 16) (by rfl) g20 #[.int .u64 dm0.sq, .int .i64 dm0.kd, .int .i64 dm0.sd, .int .i64 dm0.pr, .int .u64 dm0.qt, .int .i64 dm0.ct] (by rfl) (by rfl) 47 _ ZX19.out infoD (by rfl) (by simp [Value.oneCell']) ?_
        obtain ⟨Y23, hY23⟩ : ∃ Y, X19.setRow g20 #[.int .u64 dm0.sq, .int .i64 dm0.kd, .int .i64 dm0.sd, .int .i64 dm0.pr, .int .u64 dm0.qt, .int .i64 dm0.ct] = Y := ⟨_, rfl⟩
        have KY23 := hid (show Kp (fun j => j = g20) X19 Y23 from by rw [← hY23]; exact setRow_kp _ _ _)
        have AY23 := hid (show Y23.heap[g20]? = some (.cells #[.int .u64 dm0.sq, .int .i64 dm0.kd, .int .i64 dm0.sd, .int .i64 dm0.pr, .int .u64 dm0.qt, .int .i64 dm0.ct] 47 (0, 0)) from by rw [← hY23]; exact setRow_heap X19 g20 _ _ 47 (0, 0) ZX19.out)
        have DY23 := hid (show Below V3.heap.size V3 Y23 from by rw [← hY23]; exact setRow_below DX19.out yg20)
        have r24 := hid (KY23.out.row r21.out (fun e => n22.symm e))
        rw [hY23]
        refine hK.out _ _ ?_ (fun hHeld => ?_)
        · (try dsimp only); exact ⟨row_cell r24.out 0, row_cell r24.out 4, LK.out _ DY23.out⟩
        clear hK K hY23
        try simp only [List.getElem_toArray, List.getElem_cons_succ, List.getElem_cons_zero, Act.put, List.setIfInBounds_toArray, List.set_cons_zero, List.set_cons_succ]
        refine' wpAnyH_take (i := 16) (oi := _) (v := _) rfl (by kernel_rfl) (by kernel_rfl) (by kernel_rfl) (fun _ _ _ h => h) (Or.inl ⟨by kernel_rfl, ?_⟩) (by assumption) ?_
        rotate_left
        · (intro w hSw; (try dsimp only at hSw); go_simp; try (with_reducible rfl))
        try simp only [List.getElem_toArray, List.getElem_cons_succ, List.getElem_cons_zero, Act.put, List.setIfInBounds_toArray, List.set_cons_zero, List.set_cons_succ]
        refine wpAnyH_done (by kernel_rfl) ?_ _
        exact ⟨g20, by kernel_rfl, DY23, AY23⟩
      · rintro P3 V4 ⟨BV4, HP4⟩
        try simp only [List.getElem_toArray, List.getElem_cons_succ, List.getElem_cons_zero, Act.put, List.setIfInBounds_toArray, List.set_cons_zero, List.set_cons_succ]
        go_wp2
        refine bodyPost_ret (results_none rfl _ _ _) rfl ?_
        refine ⟨rfl, q, c', HS3.out.on BV4.out, ?_, HF3.out.mono (Nat.le_trans (btr BV.out (bdrew1 V)).size HK2.out.size)⟩
        exact (((Kp.of _ (btr BV.out (bdrew1 V))).trans HK2.out (fun _ _ h => .inr (.inl h))).trans HK3.out (fun _ _ h => h.elim .inl (fun h => .inr (.inr h)))).trans (Kp.of (fun _ => False) BV4.out) (fun _ _ h => h.elim)
end Go.Proofs.Ytojmcfkbekodpaa.Fd
