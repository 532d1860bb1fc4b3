/-
  What a ledger is asked: whether a member is open, a balance, a position, its entries.
-/
import Derived.Test.YtdbnkidfclgnfaaAcI
namespace Go.Proofs.Ytdbnkidfclgnfaa.Ac
open Go.RowKit Go.Deep Go.Maps Go.Proofs.Ytdbnkidfclgnfaa.MonM
set_option linter.unusedVariables false
set_option linter.unusedSimpArgs false
set_option maxHeartbeats 8000000
set_option maxRecDepth 100000
attribute [local go_sem ↓] Go.wp_at_zero Go.wp_at_succ
theorem Bl.look {w : World} {O : Nat → Prop} {k : Nat} {f : Int × Int → Option Int} {B : Option Nat} (h : Bl w O k f B) (m t : Int) (hm : U32 m) (ht : (Lit.int .i64 t).wf = true) : (Instr.lookup 53 (.map B) (.agg #[.int .u32 m, .int .i64 t]) true).run Try.prog w = .ok (.tuple #[mv ((f (m, t)).getD 0), .bool (f (m, t)).isSome]) w := by
  cases B with
  | none =>
    rw [show f (m, t) = none from h _]
    exact look_none okB w (m, t) ⟨hm, ht⟩
  | some b => exact h.2.look okB (m, t) ⟨hm, ht⟩
theorem Bl.get {w : World} {O : Nat → Prop} {k : Nat} {f : Int × Int → Option Int} {B : Option Nat} (h : Bl w O k f B) (m t : Int) (hm : U32 m) (ht : (Lit.int .i64 t).wf = true) : (Instr.lookup 53 (.map B) (.agg #[.int .u32 m, .int .i64 t]) false).run Try.prog w = .ok (mv ((f (m, t)).getD 0)) w := by
  cases B with
  | none =>
    rw [show f (m, t) = none from h _]
    exact get_none okB w (m, t) ⟨hm, ht⟩
  | some b => exact h.2.get okB (m, t) ⟨hm, ht⟩
theorem Pl.look {w : World} {O : Nat → Prop} {k : Nat} {g : Int → Int → Po} {B P : Option Nat} (h : Pl w O k g B P) (m : Int) (hm : U32 m) : ∃ o, (Instr.lookup 54 (.map P) (.int .u32 m) false).run Try.prog w = .ok (.map o) w ∧ ∀ i, U32 i → (Instr.lookup 57 (.map o) (.int .u32 i) false).run Try.prog w = .ok (.agg (g m i).row) w := by
  cases P with
  | none =>
    refine ⟨none, get_none okM w m hm, fun i hi => ?_⟩
    rw [show g m i = po0 from h _ _]
    exact get_none okP w i hi
  | some q =>
    obtain ⟨a, r, H⟩ := h
    have h1 := H.mp.get okM m hm
    cases e : a m with
    | none =>
      rw [e] at h1
      refine ⟨none, h1, fun i hi => ?_⟩
      rw [H.no m hm e i hi]
      exact get_none okP w i hi
    | some o =>
      rw [e] at h1
      obtain ⟨M, rfl, _, _, x, y⟩ := H.yes m o hm e
      refine ⟨some M, h1, fun i hi => ?_⟩
      rw [y i hi]
      exact x.get okP i hi
theorem wf1 : (Lit.int .i64 1).wf = true := by decide
theorem infoPo5 : (Try.prog.info? 38).map (·.size) = some 5 := by kernel_rfl
theorem isOpen_any {w : World} {G : Nat} {O : Nat → Prop} {k : Nat} {s : Ls} (h : Lg w G O k s) (m : Int) (hm : U32 m) :
    Calls Try.prog 26 #[.pointer (some ⟨G, 0, none⟩), .int .u32 m] w fun e w' => e = .returned (.bool (s.f (m, 1)).isSome) ∧ Below w.heap.size w w' := by
  obtain ⟨B, P, p, c, h⟩ := h
  have HG := hid h.row
  unfold lrow at HG
  have LK := hid (fun U (hU : Below w.heap.size w U) => (h.on hU).bal.look m 1 hm wf1)
  have CC := hid (show ∀ U, Calls Try.prog 23 #[.int .u32 m] U fun e w' => e = .returned (.agg #[.int .u32 m, .int .i64 1]) ∧ Hid (Below U.heap.size U w') from fun U => cash_any m U)
  obtain ⟨v, hv⟩ : ∃ v, (s.f (m, 1)).getD 0 = v := ⟨_, rfl⟩
  obtain ⟨b, hb⟩ : ∃ b, (s.f (m, 1)).isSome = b := ⟨_, rfl⟩
  rw [hv, hb] at LK
  rw [hb]
  unfold mv at LK
  clear h hv hb hm
  go_enter Try.func26, Try.ntmps26
  go_upto_region 1 with fail
  refine reg_cut (X := Nat) (fun a t => ((((((((((((a.put (some 8) (.pointer (some ⟨G, 0, none⟩))).put (some 9) (.pointer (some ⟨G, 0, none⟩))).put (some 10) (.pointer (some ⟨G, 3, none⟩))).put (some 11) (.map B)).put (some 12) (.int .u32 m)).put (some 13) (.agg #[.int .u32 m, .int .i64 1])).put (some 14) (.tuple #[.agg #[.int .u64 (hiW v), .int .u64 (loW v)], .bool b])).put (some 7) (.tuple #[.agg #[.int .u64 (hiW v), .int .u64 (loW v)], .bool b])).put (some 15) (.agg #[.int .u64 (hiW v), .int .u64 (loW v)])).put (some 16) (.bool b)).put (some 5) (.pointer (some ⟨t, 0, none⟩))).put (some 6) (.bool b))) (fun t V => Hid (Below w.heap.size w V)) ?_ ?_
  · obtain ⟨V1, hV1⟩ : ∃ U, w.drew = U := ⟨_, rfl⟩
    have BV1 := hid (show Below w.heap.size w V1 from by rw [← hV1]; exact bdrew1 _)
    have r2 := hid (row_on HG.out BV1.out)
    refine wp_region_held_drew (S := (fun U => U.cell? ⟨G, 3, none⟩ = some (.map B) ∧ (Instr.lookup 53 (.map B) (.agg #[.int .u32 m, .int .i64 1]) true).run Try.prog U = .ok (.tuple #[.agg #[.int .u64 (hiW v), .int .u64 (loW v)], .bool b]) U)) (by kernel_rfl) ?_ (fun hHeld => ?_)
    · (try dsimp only); rw [hV1]; exact ⟨row_cell r2.out 3, LK.out _ BV1.out⟩
    rw [hV1] at hHeld ⊢
    clear hV1
    refine' wpAnyH_take (i := 0) (oi := _) (v := _) rfl (by kernel_rfl) (by kernel_rfl) (by kernel_rfl) (fun _ _ _ h => h) (Or.inl ⟨by kernel_rfl, ?_⟩) (by assumption) ?_
    rotate_left
    · (intro w hSw; (try dsimp only at hSw); go_simp; try (with_reducible rfl))
    try simp only [List.getElem_toArray, List.getElem_cons_succ, List.getElem_cons_zero, Act.put, List.setIfInBounds_toArray, List.set_cons_zero, List.set_cons_succ]
    refine' wpAnyH_take (i := 1) (oi := _) (v := _) rfl (by kernel_rfl) (by kernel_rfl) (by kernel_rfl) (fun _ _ _ h => h) (Or.inl ⟨by kernel_rfl, ?_⟩) (by assumption) ?_
    rotate_left
    · (intro w hSw; (try dsimp only at hSw); go_simp; try (with_reducible rfl))
    try simp only [List.getElem_toArray, List.getElem_cons_succ, List.getElem_cons_zero, Act.put, List.setIfInBounds_toArray, List.set_cons_zero, List.set_cons_succ]
    refine' wpAnyH_take (i := 2) (oi := _) (v := _) rfl (by kernel_rfl) (by kernel_rfl) (by kernel_rfl) (fun _ _ _ h => h) (Or.inl ⟨by kernel_rfl, ?_⟩) (by assumption) ?_
    rotate_left
    · (intro w hSw; (try dsimp only at hSw); go_simp; try (with_reducible rfl))
    try simp only [List.getElem_toArray, List.getElem_cons_succ, List.getElem_cons_zero, Act.put, List.setIfInBounds_toArray, List.set_cons_zero, List.set_cons_succ]
    refine' wpAnyH_take (i := 3) (oi := _) (v := _) rfl (by kernel_rfl) (by kernel_rfl) (by kernel_rfl) (fun _ _ _ h => h) (Or.inl ⟨by kernel_rfl, ?_⟩) (by assumption) ?_
    rotate_left
    · (intro w hSw; (try dsimp only at hSw); go_simp; try (with_reducible rfl))
    try simp only [List.getElem_toArray, List.getElem_cons_succ, List.getElem_cons_zero, Act.put, List.setIfInBounds_toArray, List.set_cons_zero, List.set_cons_succ]
    refine' wpAnyH_take (i := 4) (oi := _) (v := _) rfl (by kernel_rfl) (by kernel_rfl) (by kernel_rfl) (fun _ _ _ h => h) (Or.inl ⟨by kernel_rfl, ?_⟩) (by assumption) ?_
    rotate_left
    · (intro w hSw; (try dsimp only at hSw); go_simp; try (with_reducible rfl))
    try simp only [List.getElem_toArray, List.getElem_cons_succ, List.getElem_cons_zero, Act.put, List.setIfInBounds_toArray, List.set_cons_zero, List.set_cons_succ]
    refine wpAnyH_ready (rs := [5, 10]) (by kernel_rfl) (by simp) ?_
    refine (AllReadyH.cons (o := _) rfl (fun K hK => ?_) (AllReadyH.cons (o := _) rfl (fun K hK => ?_) AllReadyH.nil))
    · go_simp
      go_at_call 23
      with_reducible refine (CC.out V1).mono ?_
      rintro e X3 ⟨rfl, DbX3⟩
      have r4 := hid (row_on r2.out DbX3.out)
      have DX3 := hid (btr BV1.out DbX3.out)
      have UX3 := hid (BV1.out.size)
      (try go_wp2_with fail)
      refine hK.out _ _ ?_ (fun hHeld => ?_)
      · (try dsimp only); exact ⟨row_cell r4.out 3, LK.out _ DX3.out⟩
      clear hK K
      try simp only [List.getElem_toArray, List.getElem_cons_succ, List.getElem_cons_zero, Act.put, List.setIfInBounds_toArray, List.set_cons_zero, List.set_cons_succ]
      refine' wpAnyH_take (i := 6) (oi := _) (v := _) rfl (by kernel_rfl) (by kernel_rfl) (by kernel_rfl) (fun _ _ _ h => h) (Or.inl ⟨by kernel_rfl, ?_⟩) (by assumption) ?_
      rotate_left
      · (intro w hSw; (try dsimp only at hSw); go_simp; try (with_reducible rfl))
      try simp only [List.getElem_toArray, List.getElem_cons_succ, List.getElem_cons_zero, Act.put, List.setIfInBounds_toArray, List.set_cons_zero, List.set_cons_succ]
      refine' wpAnyH_take (i := 7) (oi := _) (v := _) rfl (by kernel_rfl) (by kernel_rfl) (by kernel_rfl) (fun _ _ _ h => h) (Or.inl ⟨by kernel_rfl, ?_⟩) (by assumption) ?_
      rotate_left
      · (intro w hSw; (try dsimp only at hSw); go_simp; try (with_reducible rfl))
      try simp only [List.getElem_toArray, List.getElem_cons_succ, List.getElem_cons_zero, Act.put, List.setIfInBounds_toArray, List.set_cons_zero, List.set_cons_succ]
      refine' wpAnyH_take (i := 8) (oi := _) (v := _) rfl (by kernel_rfl) (by kernel_rfl) (by kernel_rfl) (fun _ _ _ h => h) (Or.inl ⟨by kernel_rfl, ?_⟩) (by assumption) ?_
      rotate_left
      · (intro w hSw; (try dsimp only at hSw); go_simp; try (with_reducible rfl))
      try simp only [List.getElem_toArray, List.getElem_cons_succ, List.getElem_cons_zero, Act.put, List.setIfInBounds_toArray, List.set_cons_zero, List.set_cons_succ]
      refine' wpAnyH_take (i := 9) (oi := _) (v := _) rfl (by kernel_rfl) (by kernel_rfl) (by kernel_rfl) (fun _ _ _ h => h) (Or.inl ⟨by kernel_rfl, ?_⟩) (by assumption) ?_
      rotate_left
      · (intro w hSw; (try dsimp only at hSw); go_simp; try (with_reducible rfl))
      try simp only [List.getElem_toArray, List.getElem_cons_succ, List.getElem_cons_zero, Act.put, List.setIfInBounds_toArray, List.set_cons_zero, List.set_cons_succ]
      refine wpAnyH_ready (rs := [10]) (by kernel_rfl) (by simp) ?_
      refine (AllReadyH.cons (o := _) rfl (fun K hK => ?_) AllReadyH.nil)
      go_simp
      obtain ⟨X5, hX5⟩ : ∃ X, X3.alloc (.cells #[.int .u64 0, .int .u64 0] 36) = X := ⟨_, rfl⟩
      have bX5 : Below X3.heap.size X3 X5 := by rw [← hX5]; exact ball _ _
      have r7 := hid (row_on r4.out bX5)
      have DX5 := hid (btr DX3.out bX5)
      have zX5 : X5.heap[X3.heap.size]? = some (.cells #[.int .u64 0, .int .u64 0] 36 (0, 0)) := by rw [← hX5]; exact World.alloc_heap_new _ _
      have yg6 := DX3.out.size
      obtain ⟨g6, hg6⟩ : ∃ g, X3.heap.size = g := ⟨_, rfl⟩
      have n8 : g6 ≠ G := by have := row_lt r4.out; omega
      rw [hg6] at zX5 yg6
      have ZX5 := hid zX5
      rw [hX5, hg6]
      clear hX5 hg6 zX5 bX5
      refine hK.out _ _ ?_ (fun hHeld => ?_)
      · (try dsimp only); exact ⟨row_cell r7.out 3, LK.out _ DX5.out⟩
      clear hK K
      try simp only [List.getElem_toArray, List.getElem_cons_succ, List.getElem_cons_zero, Act.put, List.setIfInBounds_toArray, List.set_cons_zero, List.set_cons_succ]
      refine wpAnyH_ready (rs := [11]) (by kernel_rfl) (by simp) ?_
      refine (AllReadyH.cons (o := _) rfl (fun K hK => ?_) AllReadyH.nil)
      refine step_store_row (by rfl) 36 (.tmp 5) (.tmp 15) (by rfl) g6 #[.int .u64 (hiW v), .int .u64 (loW v)] (by rfl) (by rfl) 36 _ ZX5.out infoM (by rfl) (by simp [Value.oneCell']) ?_
      obtain ⟨Y9, hY9⟩ : ∃ Y, X5.setRow g6 #[.int .u64 (hiW v), .int .u64 (loW v)] = Y := ⟨_, rfl⟩
      have KY9 := hid (show Kp (fun j => j = g6) X5 Y9 from by rw [← hY9]; exact setRow_kp _ _ _)
      have AY9 := hid (show Y9.heap[g6]? = some (.cells #[.int .u64 (hiW v), .int .u64 (loW v)] 36 (0, 0)) from by rw [← hY9]; exact setRow_heap X5 g6 _ _ 36 (0, 0) ZX5.out)
      have DY9 := hid (show Below w.heap.size w Y9 from by rw [← hY9]; exact setRow_below DX5.out yg6)
      have r10 := hid (KY9.out.row r7.out (fun e => n8.symm e))
      rw [hY9]
      refine hK.out _ _ ?_ (fun hHeld => ?_)
      · (try dsimp only); exact ⟨row_cell r10.out 3, LK.out _ DY9.out⟩
      clear hK K hY9
      try simp only [List.getElem_toArray, List.getElem_cons_succ, List.getElem_cons_zero, Act.put, List.setIfInBounds_toArray, List.set_cons_zero, List.set_cons_succ]
      refine' wpAnyH_take (i := 12) (oi := _) (v := _) rfl (by kernel_rfl) (by kernel_rfl) (by kernel_rfl) (fun _ _ _ h => h) (Or.inl ⟨by kernel_rfl, ?_⟩) (by assumption) ?_
      rotate_left
      · (intro w hSw; (try dsimp only at hSw); go_simp; try (with_reducible rfl))
      try simp only [List.getElem_toArray, List.getElem_cons_succ, List.getElem_cons_zero, Act.put, List.setIfInBounds_toArray, List.set_cons_zero, List.set_cons_succ]
      refine wpAnyH_done (by kernel_rfl) ?_ _
      exact ⟨g6, by kernel_rfl, DY9⟩
    · go_simp
      obtain ⟨X11, hX11⟩ : ∃ X, V1.alloc (.cells #[.int .u64 0, .int .u64 0] 36) = X := ⟨_, rfl⟩
      have bX11 : Below V1.heap.size V1 X11 := by rw [← hX11]; exact ball _ _
      have r13 := hid (row_on r2.out bX11)
      have DX11 := hid (btr BV1.out bX11)
      have zX11 : X11.heap[V1.heap.size]? = some (.cells #[.int .u64 0, .int .u64 0] 36 (0, 0)) := by rw [← hX11]; exact World.alloc_heap_new _ _
      have yg12 := BV1.out.size
      obtain ⟨g12, hg12⟩ : ∃ g, V1.heap.size = g := ⟨_, rfl⟩
      have n14 : g12 ≠ G := by have := row_lt r2.out; omega
      rw [hg12] at zX11 yg12
      have ZX11 := hid zX11
      rw [hX11, hg12]
      clear hX11 hg12 zX11 bX11
      refine hK.out _ _ ?_ (fun hHeld => ?_)
      · (try dsimp only); exact ⟨row_cell r13.out 3, LK.out _ DX11.out⟩
      clear hK K
      try simp only [List.getElem_toArray, List.getElem_cons_succ, List.getElem_cons_zero, Act.put, List.setIfInBounds_toArray, List.set_cons_zero, List.set_cons_succ]
      refine wpAnyH_ready (rs := [5]) (by kernel_rfl) (by simp) ?_
      refine (AllReadyH.cons (o := _) rfl (fun K hK => ?_) AllReadyH.nil)
      go_simp
      go_at_call 23
      with_reducible refine (CC.out X11).mono ?_
      rintro e X15 ⟨rfl, DbX15⟩
      have r16 := hid (row_on r13.out DbX15.out)
      have r17 := hid (row_on ZX11.out DbX15.out)
      have DX15 := hid (btr DX11.out DbX15.out)
      have UX15 := hid (DX11.out.size)
      (try go_wp2_with fail)
      refine hK.out _ _ ?_ (fun hHeld => ?_)
      · (try dsimp only); exact ⟨row_cell r16.out 3, LK.out _ DX15.out⟩
      clear hK K
      try simp only [List.getElem_toArray, List.getElem_cons_succ, List.getElem_cons_zero, Act.put, List.setIfInBounds_toArray, List.set_cons_zero, List.set_cons_succ]
      refine' wpAnyH_take (i := 6) (oi := _) (v := _) rfl (by kernel_rfl) (by kernel_rfl) (by kernel_rfl) (fun _ _ _ h => h) (Or.inl ⟨by kernel_rfl, ?_⟩) (by assumption) ?_
      rotate_left
      · (intro w hSw; (try dsimp only at hSw); go_simp; try (with_reducible rfl))
      try simp only [List.getElem_toArray, List.getElem_cons_succ, List.getElem_cons_zero, Act.put, List.setIfInBounds_toArray, List.set_cons_zero, List.set_cons_succ]
      refine' wpAnyH_take (i := 7) (oi := _) (v := _) rfl (by kernel_rfl) (by kernel_rfl) (by kernel_rfl) (fun _ _ _ h => h) (Or.inl ⟨by kernel_rfl, ?_⟩) (by assumption) ?_
      rotate_left
      · (intro w hSw; (try dsimp only at hSw); go_simp; try (with_reducible rfl))
      try simp only [List.getElem_toArray, List.getElem_cons_succ, List.getElem_cons_zero, Act.put, List.setIfInBounds_toArray, List.set_cons_zero, List.set_cons_succ]
      refine' wpAnyH_take (i := 8) (oi := _) (v := _) rfl (by kernel_rfl) (by kernel_rfl) (by kernel_rfl) (fun _ _ _ h => h) (Or.inl ⟨by kernel_rfl, ?_⟩) (by assumption) ?_
      rotate_left
      · (intro w hSw; (try dsimp only at hSw); go_simp; try (with_reducible rfl))
      try simp only [List.getElem_toArray, List.getElem_cons_succ, List.getElem_cons_zero, Act.put, List.setIfInBounds_toArray, List.set_cons_zero, List.set_cons_succ]
      refine' wpAnyH_take (i := 9) (oi := _) (v := _) rfl (by kernel_rfl) (by kernel_rfl) (by kernel_rfl) (fun _ _ _ h => h) (Or.inl ⟨by kernel_rfl, ?_⟩) (by assumption) ?_
      rotate_left
      · (intro w hSw; (try dsimp only at hSw); go_simp; try (with_reducible rfl))
      try simp only [List.getElem_toArray, List.getElem_cons_succ, List.getElem_cons_zero, Act.put, List.setIfInBounds_toArray, List.set_cons_zero, List.set_cons_succ]
      refine wpAnyH_ready (rs := [11]) (by kernel_rfl) (by simp) ?_
      refine (AllReadyH.cons (o := _) rfl (fun K hK => ?_) AllReadyH.nil)
      refine step_store_row (by rfl) 36 (.tmp 5) (.tmp 15) (by rfl) g12 #[.int .u64 (hiW v), .int .u64 (loW v)] (by rfl) (by rfl) 36 _ r17.out infoM (by rfl) (by simp [Value.oneCell']) ?_
      obtain ⟨Y18, hY18⟩ : ∃ Y, X15.setRow g12 #[.int .u64 (hiW v), .int .u64 (loW v)] = Y := ⟨_, rfl⟩
      have KY18 := hid (show Kp (fun j => j = g12) X15 Y18 from by rw [← hY18]; exact setRow_kp _ _ _)
      have AY18 := hid (show Y18.heap[g12]? = some (.cells #[.int .u64 (hiW v), .int .u64 (loW v)] 36 (0, 0)) from by rw [← hY18]; exact setRow_heap X15 g12 _ _ 36 (0, 0) r17.out)
      have DY18 := hid (show Below w.heap.size w Y18 from by rw [← hY18]; exact setRow_below DX15.out yg12)
      have r19 := hid (KY18.out.row r16.out (fun e => n14.symm e))
      rw [hY18]
      refine hK.out _ _ ?_ (fun hHeld => ?_)
      · (try dsimp only); exact ⟨row_cell r19.out 3, LK.out _ DY18.out⟩
      clear hK K hY18
      try simp only [List.getElem_toArray, List.getElem_cons_succ, List.getElem_cons_zero, Act.put, List.setIfInBounds_toArray, List.set_cons_zero, List.set_cons_succ]
      refine' wpAnyH_take (i := 12) (oi := _) (v := _) rfl (by kernel_rfl) (by kernel_rfl) (by kernel_rfl) (fun _ _ _ h => h) (Or.inl ⟨by kernel_rfl, ?_⟩) (by assumption) ?_
      rotate_left
      · (intro w hSw; (try dsimp only at hSw); go_simp; try (with_reducible rfl))
      try simp only [List.getElem_toArray, List.getElem_cons_succ, List.getElem_cons_zero, Act.put, List.setIfInBounds_toArray, List.set_cons_zero, List.set_cons_succ]
      refine wpAnyH_done (by kernel_rfl) ?_ _
      exact ⟨g12, by kernel_rfl, DY18⟩
  rintro t V B1
  try simp only [List.getElem_toArray, List.getElem_cons_succ, List.getElem_cons_zero, Act.put, List.setIfInBounds_toArray, List.set_cons_zero, List.set_cons_succ]
  go_wp2
  go_ret
  exact ⟨rfl, B1.out⟩
theorem position_any {w : World} {G : Nat} {O : Nat → Prop} {k : Nat} {s : Ls} (h : Lg w G O k s) (m i : Int) (hm : U32 m) (hi : U32 i) :
    Calls Try.prog 7 #[.pointer (some ⟨G, 0, none⟩), .int .u32 m, .int .u32 i] w fun e w' => e = .returned (.agg (s.g m i).row) ∧ Below w.heap.size w w' := by
  obtain ⟨B, P, p, c, h⟩ := h
  obtain ⟨W, hW⟩ : ∃ W, w.alloc (.cells #[.int .i64 0, .int .u64 0, .int .u64 0, .int .u64 0, .int .u64 0] 38) = W := ⟨_, rfl⟩
  have HZ := hid (show W.heap[w.heap.size]? = some (.cells #[.int .i64 0, .int .u64 0, .int .u64 0, .int .u64 0, .int .u64 0] 38 (0, 0)) from by rw [← hW]; exact World.alloc_heap_new _ _)
  have HB := hid (show Below w.heap.size w W from by rw [← hW]; exact ball _ _)
  have h' := h.on HB.out
  obtain ⟨o, l1, l2⟩ := h'.pos.look m hm
  have l2 := l2 i hi
  have a0 := row_cell h'.row 5
  unfold lrow at a0
  simp only [List.getElem?_toArray, List.getElem?_cons_succ, List.getElem?_cons_zero] at a0
  obtain ⟨x, hx⟩ : ∃ x, s.g m i = x := ⟨_, rfl⟩
  rw [hx] at l2 ⊢
  unfold Po.row at l2 ⊢
  have HW := hid hW
  clear hW hx h h' hm hi
  go_enter Try.func7, Try.ntmps7
  go_upto_region 1 with fail
  rw [HW.out]
  go_wp2_with (refine wpList_store_row (by rfl) 38 (.tmp 6) (.tmp 14) (by rfl) w.heap.size #[.int .i64 x.qt, .int .u64 (hiW x.co), .int .u64 (loW x.co), .int .u64 (hiW x.ga), .int .u64 (loW x.ga)] (by rfl) (by rfl) 38 _ HZ.out infoPo5 (by rfl) (by simp [Value.oneCell']) ?_)
  refine bodyPost_ret (results_cell_row (fn := Try.f7) Try.results7 _ _ w.heap.size 38 #[.int .i64 x.qt, .int .u64 (hiW x.co), .int .u64 (loW x.co), .int .u64 (hiW x.ga), .int .u64 (loW x.ga)] (0, 0) _ (by rfl) (setRow_heap _ _ _ _ 38 (0, 0) HZ.out) Try.underlying38 rfl infoPo5) rfl ⟨rfl, ?_⟩
  exact setRow_below HB.out (Nat.le_refl _)
end Go.Proofs.Ytdbnkidfclgnfaa.Ac
