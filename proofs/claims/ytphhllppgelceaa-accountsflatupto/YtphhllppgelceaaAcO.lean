/-
  What a trade costs.
-/
import Derived.Test.YtphhllppgelceaaAcN
import Derived.Test.YtphhllppgelceaaAcF
namespace Go.Proofs.Ytphhllppgelceaa.Ac
open Go.RowKit Go.Deep Go.Maps Go.Proofs.Ytphhllppgelceaa.MonM
set_option linter.unusedVariables false
set_option linter.unusedSimpArgs false
set_option maxHeartbeats 8000000
set_option maxRecDepth 100000
attribute [local go_sem ↓] Go.wp_at_zero Go.wp_at_succ
theorem Lg.mono {w : World} {G : Nat} {O : Nat → Prop} {k k' : Nat} {s : Ls} (h : Lg w G O k s) (hk : k ≤ k') : Lg w G O k' s := by
  obtain ⟨B, P, p, c, h⟩ := h
  exact ⟨B, P, p, c, h.mono (fun _ h => h) h.lt hk⟩
theorem enter_any {w : World} {G : Nat} {O : Nat → Prop} {k : Nat} {s : Ls} (h : Lg w G O k s) (hB : ∃ x, s.f x ≠ none) (fm fk tm tk v : Int) (hfm : U32 fm) (hfk : (Lit.int .i64 fk).wf = true) (htm : U32 tm) (htk : (Lit.int .i64 tk).wf = true) (hv : Amt v) (hk : k ≤ 1000000000000) :
    Calls Try.prog 31 #[.pointer (some ⟨G, 0, none⟩), .agg #[.int .u32 fm, .int .i64 fk], .agg #[.int .u32 tm, .int .i64 tk], mv v] w fun e w' => e = .returned (.tuple #[]) ∧ ∃ O', Lg w' G O' (k + 3) (ent s (fm, fk) (tm, tk) v) ∧ Kp O w w' ∧ Ex w O O' := by
  by_cases h0 : v = 0
  · subst h0
    refine (enter_zero fm fk tm tk).mono ?_
    rintro e w' ⟨rfl, hb⟩
    exact ⟨rfl, O, by unfold ent; rw [if_pos rfl]; exact (h.on hb).mono (by omega), Kp.of O hb, Ex.refl _ _⟩
  · obtain ⟨B, P, p, c, h⟩ := h
    cases B with
    | none =>
      obtain ⟨x, hx⟩ := hB
      exact absurd (h.bal x) hx
    | some b => exact enter_some h fm fk tm tk v hfm hfk htm htk hv h0 hk
theorem wf2 : (Lit.int .i64 2).wf = true := by decide
theorem u320 : U32 0 := u32_mk (by decide) (by decide)
def fee (s : Ls) (v : Int) (tk : Bool) : Int := ptn v (if tk then s.ta else s.ma) s.bb 1
theorem fee_amt {s : Ls} (h : Tf s) (v : Int) (hv : Amt v) (tk : Bool) : Amt (fee s v tk) := by
  unfold fee
  cases tk
  · exact ptn_amt v _ _ 1 hv h.m0 h.mb h.b0
  · exact ptn_amt v _ _ 1 hv h.t0 h.tb h.b0
theorem charge_true {w : World} {G : Nat} {O : Nat → Prop} {k : Nat} {s : Ls} (h : Lg w G O k s) (hB : ∃ x, s.f x ≠ none) (m v : Int) (hm : U32 m) (hv : Amt v) (hk : k ≤ 1000000000000) :
    Calls Try.prog 33 #[.pointer (some ⟨G, 0, none⟩), .int .u32 m, mv v, .bool true] w fun e w' => e = .returned (.tuple #[]) ∧ ∃ O', Lg w' G O' (k + 3) (ent s (m, 1) (0, 2) (fee s v true)) ∧ Kp O w w' ∧ Ex w O O' := by
  have HG0 := hid h
  obtain ⟨B, P, p, c, h⟩ := h
  obtain ⟨Wa, hWa⟩ : ∃ W, w.alloc (.cells #[.int .u64 (hiW v), .int .u64 (loW v)] 40) = W := ⟨_, rfl⟩
  obtain ⟨R, hR⟩ : ∃ R, w.heap.size = R := ⟨_, rfl⟩
  have HBA := hid (show Below w.heap.size w Wa from by rw [← hWa]; exact ball _ _)
  have HRA := hid (show Wa.heap[R]? = some (.cells #[.int .u64 (hiW v), .int .u64 (loW v)] 40 (0, 0)) from by rw [← hWa, ← hR]; exact World.alloc_heap_new _ _)
  have HG := hid (row_on h.row HBA.out)
  unfold lrow at HG
  have HT := hid h.tf
  have CPo := hid (show ∀ U, Calls Try.prog 48 #[mv v, .int .u32 s.ta, .int .u32 s.bb, .int .i64 1] U fun e w' => e = .returned (.tuple #[mv (fee s v true), .int .i64 0]) ∧ Hid (Below U.heap.size U w') from fun U => portion_any v s.ta s.bb 1 U hv (by have := HT.out.m0; have := HT.out.t0; omega) (by have := HT.out.mb; have := HT.out.tb; omega) (by have := HT.out.b0; omega) (by have := HT.out.b1; omega) (.inr rfl))
  have CC := hid (show ∀ U, Calls Try.prog 32 #[.int .u32 m] U fun e w' => e = .returned (.agg #[.int .u32 m, .int .i64 1]) ∧ Hid (Below U.heap.size U w') from fun U => cash_any m U)
  have HF := hid (fee_amt h.tf v hv true)
  have CE := hid (show ∀ U, Below w.heap.size w U → Calls Try.prog 31 #[.pointer (some ⟨G, 0, none⟩), .agg #[.int .u32 m, .int .i64 1], .agg #[.int .u32 0, .int .i64 2], mv (fee s v true)] U fun e w' => e = .returned (.tuple #[]) ∧ Hid (∃ O', Lg w' G O' (k + 3) (ent s (m, 1) (0, 2) (fee s v true)) ∧ Kp O U w' ∧ Ex U O O') from fun U hU => enter_any (HG0.out.on hU) hB m 1 0 2 _ hm wf1 u320 wf2 HF.out hk)
  obtain ⟨fe, hfe⟩ : ∃ x, fee s v true = x := ⟨_, rfl⟩
  rw [hfe] at CPo CE HF ⊢
  have a0 := row_cell HG.out 0
  have a1 := row_cell HG.out 1
  simp only [List.getElem?_toArray, List.getElem?_cons_succ, List.getElem?_cons_zero] at a0 a1
  have HWa := hid hWa
  have HR := hid hR
  have HLT := hid h.lt
  unfold mv at CPo CE ⊢
  clear hWa hR h hB hm hv hk hfe
  go_enter Try.func33, Try.ntmps33
  go_upto_region 1 with fail
  rw [HWa.out, HR.out]
  clear HWa
  go_upto_region 4 with fail
  clear a0 a1
  refine reg_cut (X := Nat) (fun a t => (((((((((((((a.put (some 23) (.agg #[.int .u64 (hiW v), .int .u64 (loW v)])).put (some 24) (.int .u32 s.ta)).put (some 25) (.pointer (some ⟨G, 0, none⟩))).put (some 26) (.pointer (some ⟨G, 0, none⟩))).put (some 27) (.pointer (some ⟨G, 0, none⟩))).put (some 28) (.pointer (some ⟨G, 2, none⟩))).put (some 29) (.int .u32 s.bb)).put (some 30) (.tuple #[.agg #[.int .u64 (hiW fe), .int .u64 (loW fe)], .int .i64 0])).put (some 22) (.tuple #[.agg #[.int .u64 (hiW fe), .int .u64 (loW fe)], .int .i64 0])).put (some 31) (.agg #[.int .u64 (hiW fe), .int .u64 (loW fe)])).put (some 32) (.int .i64 0)).put (some 9) (.pointer (some ⟨t, 0, none⟩))).put (some 10) (.int .i64 0))) (fun t V => Hid (Below Wa.heap.size Wa V) ∧ Hid (V.heap[t]? = some (.cells #[.int .u64 (hiW fe), .int .u64 (loW fe)] 40 (0, 0))) ∧ Hid (Wa.heap.size ≤ t)) ?_ ?_
  · obtain ⟨V5, hV5⟩ : ∃ U, Wa.drew = U := ⟨_, rfl⟩
    have BV5 := hid (show Below Wa.heap.size Wa V5 from by rw [← hV5]; exact bdrew1 _)
    have r6 := hid (row_on HRA.out BV5.out)
    have r7 := hid (row_on HG.out BV5.out)
    refine wp_region_held_drew (S := (fun U => U.cell? ⟨R, 0, none⟩ = some (.int .u64 (hiW v)) ∧ U.cell? ⟨R, 1, none⟩ = some (.int .u64 (loW v)) ∧ U.cell? ⟨G, 2, none⟩ = some (.int .u32 s.bb))) (by kernel_rfl) ?_ (fun hHeld => ?_)
    · (try dsimp only); rw [hV5]; exact ⟨row_cell r6.out 0, row_cell r6.out 1, row_cell r7.out 2⟩
    rw [hV5] at hHeld ⊢
    clear hV5
    refine' wpAnyH_take (i := 0) (oi := _) (v := _) rfl (by kernel_rfl) (by kernel_rfl) (by kernel_rfl) (fun _ _ _ h => h) (Or.inl ⟨by kernel_rfl, ?_⟩) (by assumption) ?_
    rotate_left
    · (intro w hSw; (try dsimp only at hSw); go_simp; try (with_reducible rfl))
    try simp only [List.getElem_toArray, List.getElem_cons_succ, List.getElem_cons_zero, Act.put, List.setIfInBounds_toArray, List.set_cons_zero, List.set_cons_succ]
    refine' wpAnyH_take (i := 1) (oi := _) (v := _) rfl (by kernel_rfl) (by kernel_rfl) (by kernel_rfl) (fun _ _ _ h => h) (Or.inl ⟨by kernel_rfl, ?_⟩) (by assumption) ?_
    rotate_left
    · (intro w hSw; (try dsimp only at hSw); go_simp; try (with_reducible rfl))
    try simp only [List.getElem_toArray, List.getElem_cons_succ, List.getElem_cons_zero, Act.put, List.setIfInBounds_toArray, List.set_cons_zero, List.set_cons_succ]
    refine' wpAnyH_take (i := 2) (oi := _) (v := _) rfl (by kernel_rfl) (by kernel_rfl) (by kernel_rfl) (fun _ _ _ h => h) (Or.inl ⟨by kernel_rfl, ?_⟩) (by assumption) ?_
    rotate_left
    · (intro w hSw; (try dsimp only at hSw); go_simp; try (with_reducible rfl))
    try simp only [List.getElem_toArray, List.getElem_cons_succ, List.getElem_cons_zero, Act.put, List.setIfInBounds_toArray, List.set_cons_zero, List.set_cons_succ]
    refine' wpAnyH_take (i := 3) (oi := _) (v := _) rfl (by kernel_rfl) (by kernel_rfl) (by kernel_rfl) (fun _ _ _ h => h) (Or.inl ⟨by kernel_rfl, ?_⟩) (by assumption) ?_
    rotate_left
    · (intro w hSw; (try dsimp only at hSw); go_simp; try (with_reducible rfl))
    try simp only [List.getElem_toArray, List.getElem_cons_succ, List.getElem_cons_zero, Act.put, List.setIfInBounds_toArray, List.set_cons_zero, List.set_cons_succ]
    refine' wpAnyH_take (i := 4) (oi := _) (v := _) rfl (by kernel_rfl) (by kernel_rfl) (by kernel_rfl) (fun _ _ _ h => h) (Or.inl ⟨by kernel_rfl, ?_⟩) (by assumption) ?_
    rotate_left
    · (intro w hSw; (try dsimp only at hSw); go_simp; try (with_reducible rfl))
    try simp only [List.getElem_toArray, List.getElem_cons_succ, List.getElem_cons_zero, Act.put, List.setIfInBounds_toArray, List.set_cons_zero, List.set_cons_succ]
    refine' wpAnyH_take (i := 5) (oi := _) (v := _) rfl (by kernel_rfl) (by kernel_rfl) (by kernel_rfl) (fun _ _ _ h => h) (Or.inl ⟨by kernel_rfl, ?_⟩) (by assumption) ?_
    rotate_left
    · (intro w hSw; (try dsimp only at hSw); go_simp; try (with_reducible rfl))
    try simp only [List.getElem_toArray, List.getElem_cons_succ, List.getElem_cons_zero, Act.put, List.setIfInBounds_toArray, List.set_cons_zero, List.set_cons_succ]
    refine' wpAnyH_take (i := 6) (oi := _) (v := _) rfl (by kernel_rfl) (by kernel_rfl) (by kernel_rfl) (fun _ _ _ h => h) (Or.inl ⟨by kernel_rfl, ?_⟩) (by assumption) ?_
    rotate_left
    · (intro w hSw; (try dsimp only at hSw); go_simp; try (with_reducible rfl))
    try simp only [List.getElem_toArray, List.getElem_cons_succ, List.getElem_cons_zero, Act.put, List.setIfInBounds_toArray, List.set_cons_zero, List.set_cons_succ]
    refine wpAnyH_ready (rs := [7, 11]) (by kernel_rfl) (by simp) ?_
    refine (AllReadyH.cons (o := _) rfl (fun K hK => ?_) (AllReadyH.cons (o := _) rfl (fun K hK => ?_) AllReadyH.nil))
    · go_simp
      go_at_call 48
      with_reducible refine (CPo.out V5).mono ?_
      rintro e X8 ⟨rfl, DbX8⟩
      have r9 := hid (row_on r6.out DbX8.out)
      have r10 := hid (row_on r7.out DbX8.out)
      have DX8 := hid (btr BV5.out DbX8.out)
      have UX8 := hid (BV5.out.size)
      (try go_wp2_with fail)
      refine hK.out _ _ ?_ (fun hHeld => ?_)
      · (try dsimp only); exact ⟨row_cell r9.out 0, row_cell r9.out 1, row_cell r10.out 2⟩
      clear hK K
      try simp only [List.getElem_toArray, List.getElem_cons_succ, List.getElem_cons_zero, Act.put, List.setIfInBounds_toArray, List.set_cons_zero, List.set_cons_succ]
      refine' wpAnyH_take (i := 8) (oi := _) (v := _) rfl (by kernel_rfl) (by kernel_rfl) (by kernel_rfl) (fun _ _ _ h => h) (Or.inl ⟨by kernel_rfl, ?_⟩) (by assumption) ?_
      rotate_left
      · (intro w hSw; (try dsimp only at hSw); go_simp; try (with_reducible rfl))
      try simp only [List.getElem_toArray, List.getElem_cons_succ, List.getElem_cons_zero, Act.put, List.setIfInBounds_toArray, List.set_cons_zero, List.set_cons_succ]
      refine' wpAnyH_take (i := 9) (oi := _) (v := _) rfl (by kernel_rfl) (by kernel_rfl) (by kernel_rfl) (fun _ _ _ h => h) (Or.inl ⟨by kernel_rfl, ?_⟩) (by assumption) ?_
      rotate_left
      · (intro w hSw; (try dsimp only at hSw); go_simp; try (with_reducible rfl))
      try simp only [List.getElem_toArray, List.getElem_cons_succ, List.getElem_cons_zero, Act.put, List.setIfInBounds_toArray, List.set_cons_zero, List.set_cons_succ]
      refine' wpAnyH_take (i := 10) (oi := _) (v := _) rfl (by kernel_rfl) (by kernel_rfl) (by kernel_rfl) (fun _ _ _ h => h) (Or.inl ⟨by kernel_rfl, ?_⟩) (by assumption) ?_
      rotate_left
      · (intro w hSw; (try dsimp only at hSw); go_simp; try (with_reducible rfl))
      try simp only [List.getElem_toArray, List.getElem_cons_succ, List.getElem_cons_zero, Act.put, List.setIfInBounds_toArray, List.set_cons_zero, List.set_cons_succ]
      refine wpAnyH_ready (rs := [11]) (by kernel_rfl) (by simp) ?_
      refine (AllReadyH.cons (o := _) rfl (fun K hK => ?_) AllReadyH.nil)
      go_simp
      obtain ⟨X11, hX11⟩ : ∃ X, X8.alloc (.cells #[.int .u64 0, .int .u64 0] 40) = X := ⟨_, rfl⟩
      have bX11 : Below X8.heap.size X8 X11 := by rw [← hX11]; exact ball _ _
      have r13 := hid (row_on r9.out bX11)
      have r14 := hid (row_on r10.out bX11)
      have DX11 := hid (btr DX8.out bX11)
      have zX11 : X11.heap[X8.heap.size]? = some (.cells #[.int .u64 0, .int .u64 0] 40 (0, 0)) := by rw [← hX11]; exact World.alloc_heap_new _ _
      have yg12 := DX8.out.size
      obtain ⟨g12, hg12⟩ : ∃ g, X8.heap.size = g := ⟨_, rfl⟩
      have n15 : g12 ≠ R := by have := row_lt r9.out; omega
      have n16 : g12 ≠ G := by have := row_lt r10.out; omega
      rw [hg12] at zX11 yg12
      have ZX11 := hid zX11
      rw [hX11, hg12]
      clear hX11 hg12 zX11 bX11
      refine hK.out _ _ ?_ (fun hHeld => ?_)
      · (try dsimp only); exact ⟨row_cell r13.out 0, row_cell r13.out 1, row_cell r14.out 2⟩
      clear hK K
      try simp only [List.getElem_toArray, List.getElem_cons_succ, List.getElem_cons_zero, Act.put, List.setIfInBounds_toArray, List.set_cons_zero, List.set_cons_succ]
      refine wpAnyH_ready (rs := [12]) (by kernel_rfl) (by simp) ?_
      refine (AllReadyH.cons (o := _) rfl (fun K hK => ?_) AllReadyH.nil)
      refine step_store_row (by rfl) 40 (.tmp 9) (.tmp 31) (by rfl) g12 #[.int .u64 (hiW fe), .int .u64 (loW fe)] (by rfl) (by rfl) 40 _ ZX11.out infoM (by rfl) (by simp [Value.oneCell']) ?_
      obtain ⟨Y17, hY17⟩ : ∃ Y, X11.setRow g12 #[.int .u64 (hiW fe), .int .u64 (loW fe)] = Y := ⟨_, rfl⟩
      have KY17 := hid (show Kp (fun j => j = g12) X11 Y17 from by rw [← hY17]; exact setRow_kp _ _ _)
      have AY17 := hid (show Y17.heap[g12]? = some (.cells #[.int .u64 (hiW fe), .int .u64 (loW fe)] 40 (0, 0)) from by rw [← hY17]; exact setRow_heap X11 g12 _ _ 40 (0, 0) ZX11.out)
      have DY17 := hid (show Below Wa.heap.size Wa Y17 from by rw [← hY17]; exact setRow_below DX11.out yg12)
      have r18 := hid (KY17.out.row r13.out (fun e => n15.symm e))
      have r19 := hid (KY17.out.row r14.out (fun e => n16.symm e))
      rw [hY17]
      refine hK.out _ _ ?_ (fun hHeld => ?_)
      · (try dsimp only); exact ⟨row_cell r18.out 0, row_cell r18.out 1, row_cell r19.out 2⟩
      clear hK K hY17
      try simp only [List.getElem_toArray, List.getElem_cons_succ, List.getElem_cons_zero, Act.put, List.setIfInBounds_toArray, List.set_cons_zero, List.set_cons_succ]
      refine' wpAnyH_take (i := 13) (oi := _) (v := _) rfl (by kernel_rfl) (by kernel_rfl) (by kernel_rfl) (fun _ _ _ h => h) (Or.inl ⟨by kernel_rfl, ?_⟩) (by assumption) ?_
      rotate_left
      · (intro w hSw; (try dsimp only at hSw); go_simp; try (with_reducible rfl))
      try simp only [List.getElem_toArray, List.getElem_cons_succ, List.getElem_cons_zero, Act.put, List.setIfInBounds_toArray, List.set_cons_zero, List.set_cons_succ]
      refine wpAnyH_done (by kernel_rfl) ?_ _
      exact ⟨g12, by kernel_rfl, DY17, AY17, yg12⟩
    · go_simp
      obtain ⟨X20, hX20⟩ : ∃ X, V5.alloc (.cells #[.int .u64 0, .int .u64 0] 40) = X := ⟨_, rfl⟩
      have bX20 : Below V5.heap.size V5 X20 := by rw [← hX20]; exact ball _ _
      have r22 := hid (row_on r6.out bX20)
      have r23 := hid (row_on r7.out bX20)
      have DX20 := hid (btr BV5.out bX20)
      have zX20 : X20.heap[V5.heap.size]? = some (.cells #[.int .u64 0, .int .u64 0] 40 (0, 0)) := by rw [← hX20]; exact World.alloc_heap_new _ _
      have yg21 := BV5.out.size
      obtain ⟨g21, hg21⟩ : ∃ g, V5.heap.size = g := ⟨_, rfl⟩
      have n24 : g21 ≠ R := by have := row_lt r6.out; omega
      have n25 : g21 ≠ G := by have := row_lt r7.out; omega
      rw [hg21] at zX20 yg21
      have ZX20 := hid zX20
      rw [hX20, hg21]
      clear hX20 hg21 zX20 bX20
      refine hK.out _ _ ?_ (fun hHeld => ?_)
      · (try dsimp only); exact ⟨row_cell r22.out 0, row_cell r22.out 1, row_cell r23.out 2⟩
      clear hK K
      try simp only [List.getElem_toArray, List.getElem_cons_succ, List.getElem_cons_zero, Act.put, List.setIfInBounds_toArray, List.set_cons_zero, List.set_cons_succ]
      refine wpAnyH_ready (rs := [7]) (by kernel_rfl) (by simp) ?_
      refine (AllReadyH.cons (o := _) rfl (fun K hK => ?_) AllReadyH.nil)
      go_simp
      go_at_call 48
      with_reducible refine (CPo.out X20).mono ?_
      rintro e X26 ⟨rfl, DbX26⟩
      have r27 := hid (row_on r22.out DbX26.out)
      have r28 := hid (row_on r23.out DbX26.out)
      have r29 := hid (row_on ZX20.out DbX26.out)
      have DX26 := hid (btr DX20.out DbX26.out)
      have UX26 := hid (DX20.out.size)
      (try go_wp2_with fail)
      refine hK.out _ _ ?_ (fun hHeld => ?_)
      · (try dsimp only); exact ⟨row_cell r27.out 0, row_cell r27.out 1, row_cell r28.out 2⟩
      clear hK K
      try simp only [List.getElem_toArray, List.getElem_cons_succ, List.getElem_cons_zero, Act.put, List.setIfInBounds_toArray, List.set_cons_zero, List.set_cons_succ]
      refine' wpAnyH_take (i := 8) (oi := _) (v := _) rfl (by kernel_rfl) (by kernel_rfl) (by kernel_rfl) (fun _ _ _ h => h) (Or.inl ⟨by kernel_rfl, ?_⟩) (by assumption) ?_
      rotate_left
      · (intro w hSw; (try dsimp only at hSw); go_simp; try (with_reducible rfl))
      try simp only [List.getElem_toArray, List.getElem_cons_succ, List.getElem_cons_zero, Act.put, List.setIfInBounds_toArray, List.set_cons_zero, List.set_cons_succ]
      refine' wpAnyH_take (i := 9) (oi := _) (v := _) rfl (by kernel_rfl) (by kernel_rfl) (by kernel_rfl) (fun _ _ _ h => h) (Or.inl ⟨by kernel_rfl, ?_⟩) (by assumption) ?_
      rotate_left
      · (intro w hSw; (try dsimp only at hSw); go_simp; try (with_reducible rfl))
      try simp only [List.getElem_toArray, List.getElem_cons_succ, List.getElem_cons_zero, Act.put, List.setIfInBounds_toArray, List.set_cons_zero, List.set_cons_succ]
      refine' wpAnyH_take (i := 10) (oi := _) (v := _) rfl (by kernel_rfl) (by kernel_rfl) (by kernel_rfl) (fun _ _ _ h => h) (Or.inl ⟨by kernel_rfl, ?_⟩) (by assumption) ?_
      rotate_left
      · (intro w hSw; (try dsimp only at hSw); go_simp; try (with_reducible rfl))
      try simp only [List.getElem_toArray, List.getElem_cons_succ, List.getElem_cons_zero, Act.put, List.setIfInBounds_toArray, List.set_cons_zero, List.set_cons_succ]
      refine wpAnyH_ready (rs := [12]) (by kernel_rfl) (by simp) ?_
      refine (AllReadyH.cons (o := _) rfl (fun K hK => ?_) AllReadyH.nil)
      refine step_store_row (by rfl) 40 (.tmp 9) (.tmp 31) (by rfl) g21 #[.int .u64 (hiW fe), .int .u64 (loW fe)] (by rfl) (by rfl) 40 _ r29.out infoM (by rfl) (by simp [Value.oneCell']) ?_
      obtain ⟨Y30, hY30⟩ : ∃ Y, X26.setRow g21 #[.int .u64 (hiW fe), .int .u64 (loW fe)] = Y := ⟨_, rfl⟩
      have KY30 := hid (show Kp (fun j => j = g21) X26 Y30 from by rw [← hY30]; exact setRow_kp _ _ _)
      have AY30 := hid (show Y30.heap[g21]? = some (.cells #[.int .u64 (hiW fe), .int .u64 (loW fe)] 40 (0, 0)) from by rw [← hY30]; exact setRow_heap X26 g21 _ _ 40 (0, 0) r29.out)
      have DY30 := hid (show Below Wa.heap.size Wa Y30 from by rw [← hY30]; exact setRow_below DX26.out yg21)
      have r31 := hid (KY30.out.row r27.out (fun e => n24.symm e))
      have r32 := hid (KY30.out.row r28.out (fun e => n25.symm e))
      rw [hY30]
      refine hK.out _ _ ?_ (fun hHeld => ?_)
      · (try dsimp only); exact ⟨row_cell r31.out 0, row_cell r31.out 1, row_cell r32.out 2⟩
      clear hK K hY30
      try simp only [List.getElem_toArray, List.getElem_cons_succ, List.getElem_cons_zero, Act.put, List.setIfInBounds_toArray, List.set_cons_zero, List.set_cons_succ]
      refine' wpAnyH_take (i := 13) (oi := _) (v := _) rfl (by kernel_rfl) (by kernel_rfl) (by kernel_rfl) (fun _ _ _ h => h) (Or.inl ⟨by kernel_rfl, ?_⟩) (by assumption) ?_
      rotate_left
      · (intro w hSw; (try dsimp only at hSw); go_simp; try (with_reducible rfl))
      try simp only [List.getElem_toArray, List.getElem_cons_succ, List.getElem_cons_zero, Act.put, List.setIfInBounds_toArray, List.set_cons_zero, List.set_cons_succ]
      refine wpAnyH_done (by kernel_rfl) ?_ _
      exact ⟨g21, by kernel_rfl, DY30, AY30, yg21⟩
  rintro t V ⟨B4, GT, NT⟩
  try simp only [List.getElem_toArray, List.getElem_cons_succ, List.getElem_cons_zero, Act.put, List.setIfInBounds_toArray, List.set_cons_zero, List.set_cons_succ]
  go_upto_region 5 with fail
  obtain ⟨V1, hV1⟩ : ∃ U, V.drew = U := ⟨_, rfl⟩
  have BV1 := hid (show Below V.heap.size V V1 from by rw [← hV1]; exact bdrew1 _)
  have r2 := hid (row_on GT.out BV1.out)
  refine wp_region_held_drew (S := fun U => U.cell? ⟨t, 0, none⟩ = some (.int .u64 (hiW fe)) ∧ U.cell? ⟨t, 1, none⟩ = some (.int .u64 (loW fe))) (by kernel_rfl) ?_ (fun hHeld => ?_)
  · (try dsimp only); rw [hV1]; exact ⟨row_cell r2.out 0, row_cell r2.out 1⟩
  rw [hV1] at hHeld ⊢
  clear hV1
  refine' wpAnyH_take (i := 0) (oi := _) (v := _) rfl (by kernel_rfl) (by kernel_rfl) (by kernel_rfl) (fun _ _ _ h => h) (Or.inl ⟨by kernel_rfl, ?_⟩) (by assumption) ?_
  rotate_left
  · (intro w hSw; (try dsimp only at hSw); go_simp; try (with_reducible rfl))
  try simp only [List.getElem_toArray, List.getElem_cons_succ, List.getElem_cons_zero, Act.put, List.setIfInBounds_toArray, List.set_cons_zero, List.set_cons_succ]
  refine' wpAnyH_take (i := 1) (oi := _) (v := _) rfl (by kernel_rfl) (by kernel_rfl) (by kernel_rfl) (fun _ _ _ h => h) (Or.inl ⟨by kernel_rfl, ?_⟩) (by assumption) ?_
  rotate_left
  · (intro w hSw; (try dsimp only at hSw); go_simp; try (with_reducible rfl))
  try simp only [List.getElem_toArray, List.getElem_cons_succ, List.getElem_cons_zero, Act.put, List.setIfInBounds_toArray, List.set_cons_zero, List.set_cons_succ]
  refine' wpAnyH_take (i := 3) (oi := _) (v := _) rfl (by kernel_rfl) (by kernel_rfl) (by kernel_rfl) (fun _ _ _ h => h) (Or.inl ⟨by kernel_rfl, ?_⟩) (by assumption) ?_
  rotate_left
  · (intro w hSw; (try dsimp only at hSw); go_simp; try (with_reducible rfl))
  try simp only [List.getElem_toArray, List.getElem_cons_succ, List.getElem_cons_zero, Act.put, List.setIfInBounds_toArray, List.set_cons_zero, List.set_cons_succ]
  refine' wpAnyH_take (i := 4) (oi := _) (v := _) rfl (by kernel_rfl) (by kernel_rfl) (by kernel_rfl) (fun _ _ _ h => h) (Or.inl ⟨by kernel_rfl, ?_⟩) (by assumption) ?_
  rotate_left
  · (intro w hSw; (try dsimp only at hSw); go_simp; try (with_reducible rfl))
  try simp only [List.getElem_toArray, List.getElem_cons_succ, List.getElem_cons_zero, Act.put, List.setIfInBounds_toArray, List.set_cons_zero, List.set_cons_succ]
  refine wpAnyH_ready (rs := [2]) (by kernel_rfl) (by simp) ?_
  refine (AllReadyH.cons (o := _) rfl (fun K hK => ?_) AllReadyH.nil)
  go_simp
  go_at_call 32
  with_reducible refine (CC.out V1).mono ?_
  rintro e X3 ⟨rfl, DbX3⟩
  have r4 := hid (row_on r2.out DbX3.out)
  have DX3 := hid (btr BV1.out DbX3.out)
  (try go_wp2_with fail)
  refine hK.out _ _ ?_ (fun hHeld => ?_)
  · (try dsimp only); exact ⟨row_cell r4.out 0, row_cell r4.out 1⟩
  clear hK K
  try simp only [List.getElem_toArray, List.getElem_cons_succ, List.getElem_cons_zero, Act.put, List.setIfInBounds_toArray, List.set_cons_zero, List.set_cons_succ]
  refine wpAnyH_ready (rs := [5]) (by kernel_rfl) (by simp) ?_
  refine (AllReadyH.cons (o := _) rfl (fun K hK => ?_) AllReadyH.nil)
  have hbX := btr HBA.out (btr B4.out DX3.out)
  go_simp
  go_at_call 31
  with_reducible refine (CE.out X3 hbX).mono ?_
  rintro e Z ⟨rfl, hZ⟩
  have HBX := hid hbX
  clear hbX
  obtain ⟨O', z1, z2, z3⟩ := hZ.out
  have Z1 := hid z1
  have Z2 := hid z2
  have Z3 := hid z3
  clear z1 z2 z3 hZ
  have rT := hid (Z2.out.row r4.out (fun e => by have h1 := HLT.out t e; have h2 := NT.out; have h3 := HBA.out.size; omega))
  (try go_wp2_with fail)
  refine hK.out _ _ ?_ (fun hHeld => ?_)
  · (try dsimp only); exact ⟨row_cell rT.out 0, row_cell rT.out 1⟩
  clear hK K
  try simp only [List.getElem_toArray, List.getElem_cons_succ, List.getElem_cons_zero, Act.put, List.setIfInBounds_toArray, List.set_cons_zero, List.set_cons_succ]
  refine wpAnyH_done (by kernel_rfl) ?_ _
  go_end0
  exact ⟨rfl, O', Z1.out, (Kp.of O HBX.out).trans Z2.out (fun _ _ h => h), (Ex.refl w O).trans Z3.out HBX.out.size⟩
theorem charge_false {w : World} {G : Nat} {O : Nat → Prop} {k : Nat} {s : Ls} (h : Lg w G O k s) (hB : ∃ x, s.f x ≠ none) (m v : Int) (hm : U32 m) (hv : Amt v) (hk : k ≤ 1000000000000) :
    Calls Try.prog 33 #[.pointer (some ⟨G, 0, none⟩), .int .u32 m, mv v, .bool false] w fun e w' => e = .returned (.tuple #[]) ∧ ∃ O', Lg w' G O' (k + 3) (ent s (m, 1) (0, 2) (fee s v false)) ∧ Kp O w w' ∧ Ex w O O' := by
  have HG0 := hid h
  obtain ⟨B, P, p, c, h⟩ := h
  obtain ⟨Wa, hWa⟩ : ∃ W, w.alloc (.cells #[.int .u64 (hiW v), .int .u64 (loW v)] 40) = W := ⟨_, rfl⟩
  obtain ⟨R, hR⟩ : ∃ R, w.heap.size = R := ⟨_, rfl⟩
  have HBA := hid (show Below w.heap.size w Wa from by rw [← hWa]; exact ball _ _)
  have HRA := hid (show Wa.heap[R]? = some (.cells #[.int .u64 (hiW v), .int .u64 (loW v)] 40 (0, 0)) from by rw [← hWa, ← hR]; exact World.alloc_heap_new _ _)
  have HG := hid (row_on h.row HBA.out)
  unfold lrow at HG
  have HT := hid h.tf
  have CPo := hid (show ∀ U, Calls Try.prog 48 #[mv v, .int .u32 s.ma, .int .u32 s.bb, .int .i64 1] U fun e w' => e = .returned (.tuple #[mv (fee s v false), .int .i64 0]) ∧ Hid (Below U.heap.size U w') from fun U => portion_any v s.ma s.bb 1 U hv (by have := HT.out.m0; have := HT.out.t0; omega) (by have := HT.out.mb; have := HT.out.tb; omega) (by have := HT.out.b0; omega) (by have := HT.out.b1; omega) (.inr rfl))
  have CC := hid (show ∀ U, Calls Try.prog 32 #[.int .u32 m] U fun e w' => e = .returned (.agg #[.int .u32 m, .int .i64 1]) ∧ Hid (Below U.heap.size U w') from fun U => cash_any m U)
  have HF := hid (fee_amt h.tf v hv false)
  have CE := hid (show ∀ U, Below w.heap.size w U → Calls Try.prog 31 #[.pointer (some ⟨G, 0, none⟩), .agg #[.int .u32 m, .int .i64 1], .agg #[.int .u32 0, .int .i64 2], mv (fee s v false)] U fun e w' => e = .returned (.tuple #[]) ∧ Hid (∃ O', Lg w' G O' (k + 3) (ent s (m, 1) (0, 2) (fee s v false)) ∧ Kp O U w' ∧ Ex U O O') from fun U hU => enter_any (HG0.out.on hU) hB m 1 0 2 _ hm wf1 u320 wf2 HF.out hk)
  obtain ⟨fe, hfe⟩ : ∃ x, fee s v false = x := ⟨_, rfl⟩
  rw [hfe] at CPo CE HF ⊢
  have a0 := row_cell HG.out 0
  have a1 := row_cell HG.out 1
  simp only [List.getElem?_toArray, List.getElem?_cons_succ, List.getElem?_cons_zero] at a0 a1
  have HWa := hid hWa
  have HR := hid hR
  have HLT := hid h.lt
  unfold mv at CPo CE ⊢
  clear hWa hR h hB hm hv hk hfe
  go_enter Try.func33, Try.ntmps33
  go_upto_region 1 with fail
  rw [HWa.out, HR.out]
  clear HWa
  go_upto_region 4 with fail
  clear a0 a1
  refine reg_cut (X := Nat) (fun a t => (((((((((((((a.put (some 23) (.agg #[.int .u64 (hiW v), .int .u64 (loW v)])).put (some 24) (.int .u32 s.ma)).put (some 25) (.pointer (some ⟨G, 0, none⟩))).put (some 26) (.pointer (some ⟨G, 0, none⟩))).put (some 27) (.pointer (some ⟨G, 0, none⟩))).put (some 28) (.pointer (some ⟨G, 2, none⟩))).put (some 29) (.int .u32 s.bb)).put (some 30) (.tuple #[.agg #[.int .u64 (hiW fe), .int .u64 (loW fe)], .int .i64 0])).put (some 22) (.tuple #[.agg #[.int .u64 (hiW fe), .int .u64 (loW fe)], .int .i64 0])).put (some 31) (.agg #[.int .u64 (hiW fe), .int .u64 (loW fe)])).put (some 32) (.int .i64 0)).put (some 9) (.pointer (some ⟨t, 0, none⟩))).put (some 10) (.int .i64 0))) (fun t V => Hid (Below Wa.heap.size Wa V) ∧ Hid (V.heap[t]? = some (.cells #[.int .u64 (hiW fe), .int .u64 (loW fe)] 40 (0, 0))) ∧ Hid (Wa.heap.size ≤ t)) ?_ ?_
  · obtain ⟨V37, hV37⟩ : ∃ U, Wa.drew = U := ⟨_, rfl⟩
    have BV37 := hid (show Below Wa.heap.size Wa V37 from by rw [← hV37]; exact bdrew1 _)
    have r38 := hid (row_on HRA.out BV37.out)
    have r39 := hid (row_on HG.out BV37.out)
    refine wp_region_held_drew (S := (fun U => U.cell? ⟨R, 0, none⟩ = some (.int .u64 (hiW v)) ∧ U.cell? ⟨R, 1, none⟩ = some (.int .u64 (loW v)) ∧ U.cell? ⟨G, 2, none⟩ = some (.int .u32 s.bb))) (by kernel_rfl) ?_ (fun hHeld => ?_)
    · (try dsimp only); rw [hV37]; exact ⟨row_cell r38.out 0, row_cell r38.out 1, row_cell r39.out 2⟩
    rw [hV37] at hHeld ⊢
    clear hV37
    refine' wpAnyH_take (i := 0) (oi := _) (v := _) rfl (by kernel_rfl) (by kernel_rfl) (by kernel_rfl) (fun _ _ _ h => h) (Or.inl ⟨by kernel_rfl, ?_⟩) (by assumption) ?_
    rotate_left
    · (intro w hSw; (try dsimp only at hSw); go_simp; try (with_reducible rfl))
    try simp only [List.getElem_toArray, List.getElem_cons_succ, List.getElem_cons_zero, Act.put, List.setIfInBounds_toArray, List.set_cons_zero, List.set_cons_succ]
    refine' wpAnyH_take (i := 1) (oi := _) (v := _) rfl (by kernel_rfl) (by kernel_rfl) (by kernel_rfl) (fun _ _ _ h => h) (Or.inl ⟨by kernel_rfl, ?_⟩) (by assumption) ?_
    rotate_left
    · (intro w hSw; (try dsimp only at hSw); go_simp; try (with_reducible rfl))
    try simp only [List.getElem_toArray, List.getElem_cons_succ, List.getElem_cons_zero, Act.put, List.setIfInBounds_toArray, List.set_cons_zero, List.set_cons_succ]
    refine' wpAnyH_take (i := 2) (oi := _) (v := _) rfl (by kernel_rfl) (by kernel_rfl) (by kernel_rfl) (fun _ _ _ h => h) (Or.inl ⟨by kernel_rfl, ?_⟩) (by assumption) ?_
    rotate_left
    · (intro w hSw; (try dsimp only at hSw); go_simp; try (with_reducible rfl))
    try simp only [List.getElem_toArray, List.getElem_cons_succ, List.getElem_cons_zero, Act.put, List.setIfInBounds_toArray, List.set_cons_zero, List.set_cons_succ]
    refine' wpAnyH_take (i := 3) (oi := _) (v := _) rfl (by kernel_rfl) (by kernel_rfl) (by kernel_rfl) (fun _ _ _ h => h) (Or.inl ⟨by kernel_rfl, ?_⟩) (by assumption) ?_
    rotate_left
    · (intro w hSw; (try dsimp only at hSw); go_simp; try (with_reducible rfl))
    try simp only [List.getElem_toArray, List.getElem_cons_succ, List.getElem_cons_zero, Act.put, List.setIfInBounds_toArray, List.set_cons_zero, List.set_cons_succ]
    refine' wpAnyH_take (i := 4) (oi := _) (v := _) rfl (by kernel_rfl) (by kernel_rfl) (by kernel_rfl) (fun _ _ _ h => h) (Or.inl ⟨by kernel_rfl, ?_⟩) (by assumption) ?_
    rotate_left
    · (intro w hSw; (try dsimp only at hSw); go_simp; try (with_reducible rfl))
    try simp only [List.getElem_toArray, List.getElem_cons_succ, List.getElem_cons_zero, Act.put, List.setIfInBounds_toArray, List.set_cons_zero, List.set_cons_succ]
    refine' wpAnyH_take (i := 5) (oi := _) (v := _) rfl (by kernel_rfl) (by kernel_rfl) (by kernel_rfl) (fun _ _ _ h => h) (Or.inl ⟨by kernel_rfl, ?_⟩) (by assumption) ?_
    rotate_left
    · (intro w hSw; (try dsimp only at hSw); go_simp; try (with_reducible rfl))
    try simp only [List.getElem_toArray, List.getElem_cons_succ, List.getElem_cons_zero, Act.put, List.setIfInBounds_toArray, List.set_cons_zero, List.set_cons_succ]
    refine' wpAnyH_take (i := 6) (oi := _) (v := _) rfl (by kernel_rfl) (by kernel_rfl) (by kernel_rfl) (fun _ _ _ h => h) (Or.inl ⟨by kernel_rfl, ?_⟩) (by assumption) ?_
    rotate_left
    · (intro w hSw; (try dsimp only at hSw); go_simp; try (with_reducible rfl))
    try simp only [List.getElem_toArray, List.getElem_cons_succ, List.getElem_cons_zero, Act.put, List.setIfInBounds_toArray, List.set_cons_zero, List.set_cons_succ]
    refine wpAnyH_ready (rs := [7, 11]) (by kernel_rfl) (by simp) ?_
    refine (AllReadyH.cons (o := _) rfl (fun K hK => ?_) (AllReadyH.cons (o := _) rfl (fun K hK => ?_) AllReadyH.nil))
    · go_simp
      go_at_call 48
      with_reducible refine (CPo.out V37).mono ?_
      rintro e X40 ⟨rfl, DbX40⟩
      have r41 := hid (row_on r38.out DbX40.out)
      have r42 := hid (row_on r39.out DbX40.out)
      have DX40 := hid (btr BV37.out DbX40.out)
      have UX40 := hid (BV37.out.size)
      (try go_wp2_with fail)
      refine hK.out _ _ ?_ (fun hHeld => ?_)
      · (try dsimp only); exact ⟨row_cell r41.out 0, row_cell r41.out 1, row_cell r42.out 2⟩
      clear hK K
      try simp only [List.getElem_toArray, List.getElem_cons_succ, List.getElem_cons_zero, Act.put, List.setIfInBounds_toArray, List.set_cons_zero, List.set_cons_succ]
      refine' wpAnyH_take (i := 8) (oi := _) (v := _) rfl (by kernel_rfl) (by kernel_rfl) (by kernel_rfl) (fun _ _ _ h => h) (Or.inl ⟨by kernel_rfl, ?_⟩) (by assumption) ?_
      rotate_left
      · (intro w hSw; (try dsimp only at hSw); go_simp; try (with_reducible rfl))
      try simp only [List.getElem_toArray, List.getElem_cons_succ, List.getElem_cons_zero, Act.put, List.setIfInBounds_toArray, List.set_cons_zero, List.set_cons_succ]
      refine' wpAnyH_take (i := 9) (oi := _) (v := _) rfl (by kernel_rfl) (by kernel_rfl) (by kernel_rfl) (fun _ _ _ h => h) (Or.inl ⟨by kernel_rfl, ?_⟩) (by assumption) ?_
      rotate_left
      · (intro w hSw; (try dsimp only at hSw); go_simp; try (with_reducible rfl))
      try simp only [List.getElem_toArray, List.getElem_cons_succ, List.getElem_cons_zero, Act.put, List.setIfInBounds_toArray, List.set_cons_zero, List.set_cons_succ]
      refine' wpAnyH_take (i := 10) (oi := _) (v := _) rfl (by kernel_rfl) (by kernel_rfl) (by kernel_rfl) (fun _ _ _ h => h) (Or.inl ⟨by kernel_rfl, ?_⟩) (by assumption) ?_
      rotate_left
      · (intro w hSw; (try dsimp only at hSw); go_simp; try (with_reducible rfl))
      try simp only [List.getElem_toArray, List.getElem_cons_succ, List.getElem_cons_zero, Act.put, List.setIfInBounds_toArray, List.set_cons_zero, List.set_cons_succ]
      refine wpAnyH_ready (rs := [11]) (by kernel_rfl) (by simp) ?_
      refine (AllReadyH.cons (o := _) rfl (fun K hK => ?_) AllReadyH.nil)
      go_simp
      obtain ⟨X43, hX43⟩ : ∃ X, X40.alloc (.cells #[.int .u64 0, .int .u64 0] 40) = X := ⟨_, rfl⟩
      have bX43 : Below X40.heap.size X40 X43 := by rw [← hX43]; exact ball _ _
      have r45 := hid (row_on r41.out bX43)
      have r46 := hid (row_on r42.out bX43)
      have DX43 := hid (btr DX40.out bX43)
      have zX43 : X43.heap[X40.heap.size]? = some (.cells #[.int .u64 0, .int .u64 0] 40 (0, 0)) := by rw [← hX43]; exact World.alloc_heap_new _ _
      have yg44 := DX40.out.size
      obtain ⟨g44, hg44⟩ : ∃ g, X40.heap.size = g := ⟨_, rfl⟩
      have n47 : g44 ≠ R := by have := row_lt r41.out; omega
      have n48 : g44 ≠ G := by have := row_lt r42.out; omega
      rw [hg44] at zX43 yg44
      have ZX43 := hid zX43
      rw [hX43, hg44]
      clear hX43 hg44 zX43 bX43
      refine hK.out _ _ ?_ (fun hHeld => ?_)
      · (try dsimp only); exact ⟨row_cell r45.out 0, row_cell r45.out 1, row_cell r46.out 2⟩
      clear hK K
      try simp only [List.getElem_toArray, List.getElem_cons_succ, List.getElem_cons_zero, Act.put, List.setIfInBounds_toArray, List.set_cons_zero, List.set_cons_succ]
      refine wpAnyH_ready (rs := [12]) (by kernel_rfl) (by simp) ?_
      refine (AllReadyH.cons (o := _) rfl (fun K hK => ?_) AllReadyH.nil)
      refine step_store_row (by rfl) 40 (.tmp 9) (.tmp 31) (by rfl) g44 #[.int .u64 (hiW fe), .int .u64 (loW fe)] (by rfl) (by rfl) 40 _ ZX43.out infoM (by rfl) (by simp [Value.oneCell']) ?_
      obtain ⟨Y49, hY49⟩ : ∃ Y, X43.setRow g44 #[.int .u64 (hiW fe), .int .u64 (loW fe)] = Y := ⟨_, rfl⟩
      have KY49 := hid (show Kp (fun j => j = g44) X43 Y49 from by rw [← hY49]; exact setRow_kp _ _ _)
      have AY49 := hid (show Y49.heap[g44]? = some (.cells #[.int .u64 (hiW fe), .int .u64 (loW fe)] 40 (0, 0)) from by rw [← hY49]; exact setRow_heap X43 g44 _ _ 40 (0, 0) ZX43.out)
      have DY49 := hid (show Below Wa.heap.size Wa Y49 from by rw [← hY49]; exact setRow_below DX43.out yg44)
      have r50 := hid (KY49.out.row r45.out (fun e => n47.symm e))
      have r51 := hid (KY49.out.row r46.out (fun e => n48.symm e))
      rw [hY49]
      refine hK.out _ _ ?_ (fun hHeld => ?_)
      · (try dsimp only); exact ⟨row_cell r50.out 0, row_cell r50.out 1, row_cell r51.out 2⟩
      clear hK K hY49
      try simp only [List.getElem_toArray, List.getElem_cons_succ, List.getElem_cons_zero, Act.put, List.setIfInBounds_toArray, List.set_cons_zero, List.set_cons_succ]
      refine' wpAnyH_take (i := 13) (oi := _) (v := _) rfl (by kernel_rfl) (by kernel_rfl) (by kernel_rfl) (fun _ _ _ h => h) (Or.inl ⟨by kernel_rfl, ?_⟩) (by assumption) ?_
      rotate_left
      · (intro w hSw; (try dsimp only at hSw); go_simp; try (with_reducible rfl))
      try simp only [List.getElem_toArray, List.getElem_cons_succ, List.getElem_cons_zero, Act.put, List.setIfInBounds_toArray, List.set_cons_zero, List.set_cons_succ]
      refine wpAnyH_done (by kernel_rfl) ?_ _
      exact ⟨g44, by kernel_rfl, DY49, AY49, yg44⟩
    · go_simp
      obtain ⟨X52, hX52⟩ : ∃ X, V37.alloc (.cells #[.int .u64 0, .int .u64 0] 40) = X := ⟨_, rfl⟩
      have bX52 : Below V37.heap.size V37 X52 := by rw [← hX52]; exact ball _ _
      have r54 := hid (row_on r38.out bX52)
      have r55 := hid (row_on r39.out bX52)
      have DX52 := hid (btr BV37.out bX52)
      have zX52 : X52.heap[V37.heap.size]? = some (.cells #[.int .u64 0, .int .u64 0] 40 (0, 0)) := by rw [← hX52]; exact World.alloc_heap_new _ _
      have yg53 := BV37.out.size
      obtain ⟨g53, hg53⟩ : ∃ g, V37.heap.size = g := ⟨_, rfl⟩
      have n56 : g53 ≠ R := by have := row_lt r38.out; omega
      have n57 : g53 ≠ G := by have := row_lt r39.out; omega
      rw [hg53] at zX52 yg53
      have ZX52 := hid zX52
      rw [hX52, hg53]
      clear hX52 hg53 zX52 bX52
      refine hK.out _ _ ?_ (fun hHeld => ?_)
      · (try dsimp only); exact ⟨row_cell r54.out 0, row_cell r54.out 1, row_cell r55.out 2⟩
      clear hK K
      try simp only [List.getElem_toArray, List.getElem_cons_succ, List.getElem_cons_zero, Act.put, List.setIfInBounds_toArray, List.set_cons_zero, List.set_cons_succ]
      refine wpAnyH_ready (rs := [7]) (by kernel_rfl) (by simp) ?_
      refine (AllReadyH.cons (o := _) rfl (fun K hK => ?_) AllReadyH.nil)
      go_simp
      go_at_call 48
      with_reducible refine (CPo.out X52).mono ?_
      rintro e X58 ⟨rfl, DbX58⟩
      have r59 := hid (row_on r54.out DbX58.out)
      have r60 := hid (row_on r55.out DbX58.out)
      have r61 := hid (row_on ZX52.out DbX58.out)
      have DX58 := hid (btr DX52.out DbX58.out)
      have UX58 := hid (DX52.out.size)
      (try go_wp2_with fail)
      refine hK.out _ _ ?_ (fun hHeld => ?_)
      · (try dsimp only); exact ⟨row_cell r59.out 0, row_cell r59.out 1, row_cell r60.out 2⟩
      clear hK K
      try simp only [List.getElem_toArray, List.getElem_cons_succ, List.getElem_cons_zero, Act.put, List.setIfInBounds_toArray, List.set_cons_zero, List.set_cons_succ]
      refine' wpAnyH_take (i := 8) (oi := _) (v := _) rfl (by kernel_rfl) (by kernel_rfl) (by kernel_rfl) (fun _ _ _ h => h) (Or.inl ⟨by kernel_rfl, ?_⟩) (by assumption) ?_
      rotate_left
      · (intro w hSw; (try dsimp only at hSw); go_simp; try (with_reducible rfl))
      try simp only [List.getElem_toArray, List.getElem_cons_succ, List.getElem_cons_zero, Act.put, List.setIfInBounds_toArray, List.set_cons_zero, List.set_cons_succ]
      refine' wpAnyH_take (i := 9) (oi := _) (v := _) rfl (by kernel_rfl) (by kernel_rfl) (by kernel_rfl) (fun _ _ _ h => h) (Or.inl ⟨by kernel_rfl, ?_⟩) (by assumption) ?_
      rotate_left
      · (intro w hSw; (try dsimp only at hSw); go_simp; try (with_reducible rfl))
      try simp only [List.getElem_toArray, List.getElem_cons_succ, List.getElem_cons_zero, Act.put, List.setIfInBounds_toArray, List.set_cons_zero, List.set_cons_succ]
      refine' wpAnyH_take (i := 10) (oi := _) (v := _) rfl (by kernel_rfl) (by kernel_rfl) (by kernel_rfl) (fun _ _ _ h => h) (Or.inl ⟨by kernel_rfl, ?_⟩) (by assumption) ?_
      rotate_left
      · (intro w hSw; (try dsimp only at hSw); go_simp; try (with_reducible rfl))
      try simp only [List.getElem_toArray, List.getElem_cons_succ, List.getElem_cons_zero, Act.put, List.setIfInBounds_toArray, List.set_cons_zero, List.set_cons_succ]
      refine wpAnyH_ready (rs := [12]) (by kernel_rfl) (by simp) ?_
      refine (AllReadyH.cons (o := _) rfl (fun K hK => ?_) AllReadyH.nil)
      refine step_store_row (by rfl) 40 (.tmp 9) (.tmp 31) (by rfl) g53 #[.int .u64 (hiW fe), .int .u64 (loW fe)] (by rfl) (by rfl) 40 _ r61.out infoM (by rfl) (by simp [Value.oneCell']) ?_
      obtain ⟨Y62, hY62⟩ : ∃ Y, X58.setRow g53 #[.int .u64 (hiW fe), .int .u64 (loW fe)] = Y := ⟨_, rfl⟩
      have KY62 := hid (show Kp (fun j => j = g53) X58 Y62 from by rw [← hY62]; exact setRow_kp _ _ _)
      have AY62 := hid (show Y62.heap[g53]? = some (.cells #[.int .u64 (hiW fe), .int .u64 (loW fe)] 40 (0, 0)) from by rw [← hY62]; exact setRow_heap X58 g53 _ _ 40 (0, 0) r61.out)
      have DY62 := hid (show Below Wa.heap.size Wa Y62 from by rw [← hY62]; exact setRow_below DX58.out yg53)
      have r63 := hid (KY62.out.row r59.out (fun e => n56.symm e))
      have r64 := hid (KY62.out.row r60.out (fun e => n57.symm e))
      rw [hY62]
      refine hK.out _ _ ?_ (fun hHeld => ?_)
      · (try dsimp only); exact ⟨row_cell r63.out 0, row_cell r63.out 1, row_cell r64.out 2⟩
      clear hK K hY62
      try simp only [List.getElem_toArray, List.getElem_cons_succ, List.getElem_cons_zero, Act.put, List.setIfInBounds_toArray, List.set_cons_zero, List.set_cons_succ]
      refine' wpAnyH_take (i := 13) (oi := _) (v := _) rfl (by kernel_rfl) (by kernel_rfl) (by kernel_rfl) (fun _ _ _ h => h) (Or.inl ⟨by kernel_rfl, ?_⟩) (by assumption) ?_
      rotate_left
      · (intro w hSw; (try dsimp only at hSw); go_simp; try (with_reducible rfl))
      try simp only [List.getElem_toArray, List.getElem_cons_succ, List.getElem_cons_zero, Act.put, List.setIfInBounds_toArray, List.set_cons_zero, List.set_cons_succ]
      refine wpAnyH_done (by kernel_rfl) ?_ _
      exact ⟨g53, by kernel_rfl, DY62, AY62, yg53⟩
  rintro t V ⟨B4, GT, NT⟩
  try simp only [List.getElem_toArray, List.getElem_cons_succ, List.getElem_cons_zero, Act.put, List.setIfInBounds_toArray, List.set_cons_zero, List.set_cons_succ]
  go_upto_region 5 with fail
  obtain ⟨V33, hV33⟩ : ∃ U, V.drew = U := ⟨_, rfl⟩
  have BV33 := hid (show Below V.heap.size V V33 from by rw [← hV33]; exact bdrew1 _)
  have r34 := hid (row_on GT.out BV33.out)
  refine wp_region_held_drew (S := fun U => U.cell? ⟨t, 0, none⟩ = some (.int .u64 (hiW fe)) ∧ U.cell? ⟨t, 1, none⟩ = some (.int .u64 (loW fe))) (by kernel_rfl) ?_ (fun hHeld => ?_)
  · (try dsimp only); rw [hV33]; exact ⟨row_cell r34.out 0, row_cell r34.out 1⟩
  rw [hV33] at hHeld ⊢
  clear hV33
  refine' wpAnyH_take (i := 0) (oi := _) (v := _) rfl (by kernel_rfl) (by kernel_rfl) (by kernel_rfl) (fun _ _ _ h => h) (Or.inl ⟨by kernel_rfl, ?_⟩) (by assumption) ?_
  rotate_left
  · (intro w hSw; (try dsimp only at hSw); go_simp; try (with_reducible rfl))
  try simp only [List.getElem_toArray, List.getElem_cons_succ, List.getElem_cons_zero, Act.put, List.setIfInBounds_toArray, List.set_cons_zero, List.set_cons_succ]
  refine' wpAnyH_take (i := 1) (oi := _) (v := _) rfl (by kernel_rfl) (by kernel_rfl) (by kernel_rfl) (fun _ _ _ h => h) (Or.inl ⟨by kernel_rfl, ?_⟩) (by assumption) ?_
  rotate_left
  · (intro w hSw; (try dsimp only at hSw); go_simp; try (with_reducible rfl))
  try simp only [List.getElem_toArray, List.getElem_cons_succ, List.getElem_cons_zero, Act.put, List.setIfInBounds_toArray, List.set_cons_zero, List.set_cons_succ]
  refine' wpAnyH_take (i := 3) (oi := _) (v := _) rfl (by kernel_rfl) (by kernel_rfl) (by kernel_rfl) (fun _ _ _ h => h) (Or.inl ⟨by kernel_rfl, ?_⟩) (by assumption) ?_
  rotate_left
  · (intro w hSw; (try dsimp only at hSw); go_simp; try (with_reducible rfl))
  try simp only [List.getElem_toArray, List.getElem_cons_succ, List.getElem_cons_zero, Act.put, List.setIfInBounds_toArray, List.set_cons_zero, List.set_cons_succ]
  refine' wpAnyH_take (i := 4) (oi := _) (v := _) rfl (by kernel_rfl) (by kernel_rfl) (by kernel_rfl) (fun _ _ _ h => h) (Or.inl ⟨by kernel_rfl, ?_⟩) (by assumption) ?_
  rotate_left
  · (intro w hSw; (try dsimp only at hSw); go_simp; try (with_reducible rfl))
  try simp only [List.getElem_toArray, List.getElem_cons_succ, List.getElem_cons_zero, Act.put, List.setIfInBounds_toArray, List.set_cons_zero, List.set_cons_succ]
  refine wpAnyH_ready (rs := [2]) (by kernel_rfl) (by simp) ?_
  refine (AllReadyH.cons (o := _) rfl (fun K hK => ?_) AllReadyH.nil)
  go_simp
  go_at_call 32
  with_reducible refine (CC.out V33).mono ?_
  rintro e X35 ⟨rfl, DbX35⟩
  have r36 := hid (row_on r34.out DbX35.out)
  have DX35 := hid (btr BV33.out DbX35.out)
  (try go_wp2_with fail)
  refine hK.out _ _ ?_ (fun hHeld => ?_)
  · (try dsimp only); exact ⟨row_cell r36.out 0, row_cell r36.out 1⟩
  clear hK K
  try simp only [List.getElem_toArray, List.getElem_cons_succ, List.getElem_cons_zero, Act.put, List.setIfInBounds_toArray, List.set_cons_zero, List.set_cons_succ]
  refine wpAnyH_ready (rs := [5]) (by kernel_rfl) (by simp) ?_
  refine (AllReadyH.cons (o := _) rfl (fun K hK => ?_) AllReadyH.nil)
  have hbX := btr HBA.out (btr B4.out DX35.out)
  go_simp
  go_at_call 31
  with_reducible refine (CE.out X35 hbX).mono ?_
  rintro e Z ⟨rfl, hZ⟩
  have HBX := hid hbX
  clear hbX
  obtain ⟨O', z1, z2, z3⟩ := hZ.out
  have Z1 := hid z1
  have Z2 := hid z2
  have Z3 := hid z3
  clear z1 z2 z3 hZ
  have rT := hid (Z2.out.row r36.out (fun e => by have h1 := HLT.out t e; have h2 := NT.out; have h3 := HBA.out.size; omega))
  (try go_wp2_with fail)
  refine hK.out _ _ ?_ (fun hHeld => ?_)
  · (try dsimp only); exact ⟨row_cell rT.out 0, row_cell rT.out 1⟩
  clear hK K
  try simp only [List.getElem_toArray, List.getElem_cons_succ, List.getElem_cons_zero, Act.put, List.setIfInBounds_toArray, List.set_cons_zero, List.set_cons_succ]
  refine wpAnyH_done (by kernel_rfl) ?_ _
  go_end0
  exact ⟨rfl, O', Z1.out, (Kp.of O HBX.out).trans Z2.out (fun _ _ h => h), (Ex.refl w O).trans Z3.out HBX.out.size⟩

end Go.Proofs.Ytphhllppgelceaa.Ac
