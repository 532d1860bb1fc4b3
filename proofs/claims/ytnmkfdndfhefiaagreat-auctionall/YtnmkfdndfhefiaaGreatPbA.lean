/-
  A step: Enter.
-/
import Derived.Test.YtnmkfdndfhefiaaGreatPaA
namespace Go.Proofs.YtnmkfdndfhefiaaGreat
open Go.RowKit Go.Deep Go.Shelf
set_option linter.unusedVariables false
set_option linter.unusedSimpArgs false
set_option maxHeartbeats 16000000
set_option maxRecDepth 100000
attribute [local go_sem ↓] Go.wp_at_zero Go.wp_at_succ
theorem step0 {w0 w : World} {O : Nat → Prop} {X B : Nat} {r m : Int} {L : List It} {p1 : Option Addr} {c1 : Nat} {p2 : Option Addr} {c2 : Nat} {pL : Option Addr} {cL : Nat} (h : Pp w0 w O X B r m L p1 c1 p2 c2 pL cL) (ot : Bool) (x : It) (id n : Int) :
    Calls Tryz.prog 6 #[.pointer (some ⟨X, 0, none⟩), .agg #[.int .i64 0, .bool ot, .int .u64 x.id, .int .u32 x.mb, .int .i64 x.sd, .int .i64 x.ty, .int .i64 x.pr, .int .u64 x.qt, .int .u64 id, .int .i64 n]] w fun e w' => e = .returned (.bool true) ∧ Nx w0 w w' O X := by
  obtain ⟨R, hR⟩ : ∃ R, w.heap.size = R := ⟨_, rfl⟩
  obtain ⟨W, hW⟩ : ∃ W, w.alloc (.cells #[.int .i64 0, .bool ot, .int .u64 x.id, .int .u32 x.mb, .int .i64 x.sd, .int .i64 x.ty, .int .i64 x.pr, .int .u64 x.qt, .int .u64 id, .int .i64 n] 37) = W := ⟨_, rfl⟩
  have HBW := hid (show Below w.heap.size w W from by rw [← hW]; exact ball _ _)
  have HO := hid (show W.heap[R]? = some (.cells #[.int .i64 0, .bool ot, .int .u64 x.id, .int .u32 x.mb, .int .i64 x.sd, .int .i64 x.ty, .int .i64 x.pr, .int .u64 x.qt, .int .u64 id, .int .i64 n] 37 (0, 0)) from by rw [← hW, ← hR]; exact World.alloc_heap_new _ _)
  have HP0 := hid h
  have HP := hid (h.on HBW.out)
  obtain ⟨nL, hnL⟩ : ∃ k, L.length = k := ⟨_, rfl⟩
  have HNL := hid hnL
  have HXR := hid (show W.heap[X]? = some (.cells #[.pointer (some ⟨B, 0, none⟩), .int .i64 r, .int .i64 m, .slice pL nL cL] 31 (0, 0)) from by have := HP.out.row; rw [hnL] at this; exact this)
  have HW := hid hW
  have HRR := hid hR
  obtain ⟨E, hE⟩ : ∃ E, rfd m L x = E := ⟨_, rfl⟩
  obtain ⟨L2, hL2⟩ : ∃ l, dl m L x = l := ⟨_, rfl⟩
  obtain ⟨n2, hn2⟩ : ∃ k, L2.length = k := ⟨_, rfl⟩
  have HL2 := hid hL2
  have HN2 := hid hn2
  have HLK := hid (show Lk L2 from by rw [← hL2]; exact dl_lk h.lk h.cl.m1)
  have CR := hid (show ∀ (U : World), Below W.heap.size W U → Calls Tryz.prog 10 #[.agg #[.int .i64 r, .int .i64 m, .slice pL nL cL], .agg #[.int .u64 x.id, .int .u32 x.mb, .int .i64 x.sd, .int .i64 x.ty, .int .i64 x.pr, .int .u64 x.qt]] U fun e w' => ∃ p' c', e = .returned (.tuple #[.agg #[.int .i64 r, .int .i64 m, .slice p' n2 c'], .int .i64 E]) ∧ Hid (Li w' p' c' L2) ∧ Hid (Below U.heap.size U w') ∧ Hid (∀ g, OfP p' g → OfP pL g ∨ w.heap.size ≤ g) from fun U hU => by
    have := renter_any r m pL cL L x U (HP.out.li.on hU) HP.out.lk.ln
    rw [hnL, hE, hL2, hn2] at this
    exact this.mono (fun e w' hh => by obtain ⟨p', c', h1, h2, h3, h4⟩ := hh; exact ⟨p', c', h1, h2, h3, fun g hg => (h4 g hg).imp _root_.id (fun e => Nat.le_trans (btr HBW.out hU).size e)⟩))
  have CE := hid (show ∀ (U : World), Cl U B r m p1 c1 (iso 1 L) p2 c2 (iso 2 L) → Calls Tryz.prog 11 #[.pointer (some ⟨B, 0, none⟩), .agg #[.int .u64 x.id, .int .u32 x.mb, .int .i64 x.sd, .int .i64 x.ty, .int .i64 x.pr, .int .u64 x.qt]] U fun e w' => e = .returned (.int .i64 E) ∧ Hid (∃ q1 d1 q2 d2, Cl w' B r m q1 d1 (iso 1 L2) q2 d2 (iso 2 L2) ∧ (∀ g, OfP q1 g ∨ OfP q2 g → (OfP p1 g ∨ OfP p2 g) ∨ U.heap.size ≤ g) ∧ Kp (fun j => j = B ∨ OfP p1 j ∨ OfP p2 j) U w') from fun U hU => by
    have := enter_any B r m p1 c1 (iso 1 L) p2 c2 (iso 2 L) x U hU
    rw [rfd_rfi h.lk, hE, eb_dl h.lk, es_dl h.lk, hL2] at this
    exact this)
  clear hE hL2 hn2
  clear h hW hR hnL
  go_enter Tryz.func6, Tryz.ntmps6
  go_upto_region 1 with fail
  rw [HW.out, HRR.out]
  have o0 : W.cell? ⟨R, 0, none⟩ = some (.int .i64 0) := row_cell HO.out 0
  go_upto_region 3 with fail
  clear o0
  refine reg_cut (X := Nat × Option Addr × Nat) (fun a t => ((((((((((((a.put (some 37) (.pointer (some ⟨X, 0, none⟩))).put (some 38) (.pointer (some ⟨X, 0, none⟩))).put (some 39) (.pointer (some ⟨X, 1, none⟩))).put (some 40) (.agg #[.int .i64 r, .int .i64 m, .slice pL nL cL])).put (some 41) (.pointer (some ⟨R, 2, none⟩))).put (some 42) (.agg #[.int .u64 x.id, .int .u32 x.mb, .int .i64 x.sd, .int .i64 x.ty, .int .i64 x.pr, .int .u64 x.qt])).put (some 43) (.tuple #[.agg #[.int .i64 r, .int .i64 m, .slice t.2.1 n2 t.2.2], .int .i64 E])).put (some 36) (.tuple #[.agg #[.int .i64 r, .int .i64 m, .slice t.2.1 n2 t.2.2], .int .i64 E])).put (some 44) (.agg #[.int .i64 r, .int .i64 m, .slice t.2.1 n2 t.2.2])).put (some 45) (.int .i64 E)).put (some 5) (.pointer (some ⟨t.1, 0, none⟩))).put (some 6) (.int .i64 E))) (fun t V => Hid (Below W.heap.size W V) ∧ Hid (V.heap[t.1]? = some (.cells #[.int .i64 r, .int .i64 m, .slice t.2.1 n2 t.2.2] 29 (0, 0))) ∧ Hid (Li V t.2.1 t.2.2 L2) ∧ Hid (∀ g, OfP t.2.1 g → OfP pL g ∨ w.heap.size ≤ g)) ?_ ?_
  · obtain ⟨V1, hV1⟩ : ∃ U, W.drew = U := ⟨_, rfl⟩
    have BV1 := hid (show Below W.heap.size W V1 from by rw [← hV1]; exact bdrew1 _)
    have r2 := hid (row_on HXR.out BV1.out)
    have r3 := hid (row_on HO.out BV1.out)
    refine wp_region_held_drew (S := (fun U => U.cell? ⟨X, 1, none⟩ = some (.int .i64 r) ∧ U.cell? ⟨X, 2, none⟩ = some (.int .i64 m) ∧ U.cell? ⟨X, 3, none⟩ = some (.slice pL nL cL) ∧ U.cell? ⟨R, 2, none⟩ = some (.int .u64 x.id) ∧ U.cell? ⟨R, 3, none⟩ = some (.int .u32 x.mb) ∧ U.cell? ⟨R, 4, none⟩ = some (.int .i64 x.sd) ∧ U.cell? ⟨R, 5, none⟩ = some (.int .i64 x.ty) ∧ U.cell? ⟨R, 6, none⟩ = some (.int .i64 x.pr) ∧ U.cell? ⟨R, 7, none⟩ = some (.int .u64 x.qt))) (by kernel_rfl) ?_ (fun hHeld => ?_)
    · (try dsimp only); rw [hV1]; exact ⟨row_cell r2.out 1, row_cell r2.out 2, row_cell r2.out 3, row_cell r3.out 2, row_cell r3.out 3, row_cell r3.out 4, row_cell r3.out 5, row_cell r3.out 6, row_cell r3.out 7⟩
    rw [hV1] at hHeld ⊢
    clear hV1
    refine' wpAnyH_take (i := 0) (oi := _) (v := _) rfl (by kernel_rfl) (by kernel_rfl) (by kernel_rfl) (fun _ _ _ h => h) (Or.inl ⟨by kernel_rfl, ?_⟩) (by assumption) ?_
    rotate_left
    · (intro w hSw; (try dsimp only at hSw); go_simp; try (with_reducible rfl))
    try simp only [List.getElem_toArray, List.getElem_cons_succ, List.getElem_cons_zero, Act.put, List.setIfInBounds_toArray, List.set_cons_zero, List.set_cons_succ]
    refine' wpAnyH_take (i := 1) (oi := _) (v := _) rfl (by kernel_rfl) (by kernel_rfl) (by kernel_rfl) (fun _ _ _ h => h) (Or.inl ⟨by kernel_rfl, ?_⟩) (by assumption) ?_
    rotate_left
    · (intro w hSw; (try dsimp only at hSw); go_simp; try (with_reducible rfl))
    try simp only [List.getElem_toArray, List.getElem_cons_succ, List.getElem_cons_zero, Act.put, List.setIfInBounds_toArray, List.set_cons_zero, List.set_cons_succ]
    refine' wpAnyH_take (i := 2) (oi := _) (v := _) rfl (by kernel_rfl) (by kernel_rfl) (by kernel_rfl) (fun _ _ _ h => h) (Or.inl ⟨by kernel_rfl, ?_⟩) (by assumption) ?_
    rotate_left
    · (intro w hSw; (try dsimp only at hSw); go_simp; try (with_reducible rfl))
    try simp only [List.getElem_toArray, List.getElem_cons_succ, List.getElem_cons_zero, Act.put, List.setIfInBounds_toArray, List.set_cons_zero, List.set_cons_succ]
    refine' wpAnyH_take (i := 3) (oi := _) (v := _) rfl (by kernel_rfl) (by kernel_rfl) (by kernel_rfl) (fun _ _ _ h => h) (Or.inl ⟨by kernel_rfl, ?_⟩) (by assumption) ?_
    rotate_left
    · (intro w hSw; (try dsimp only at hSw); go_simp; try (with_reducible rfl))
    try simp only [List.getElem_toArray, List.getElem_cons_succ, List.getElem_cons_zero, Act.put, List.setIfInBounds_toArray, List.set_cons_zero, List.set_cons_succ]
    refine' wpAnyH_take (i := 4) (oi := _) (v := _) rfl (by kernel_rfl) (by kernel_rfl) (by kernel_rfl) (fun _ _ _ h => h) (Or.inl ⟨by kernel_rfl, ?_⟩) (by assumption) ?_
    rotate_left
    · (intro w hSw; (try dsimp only at hSw); go_simp; try (with_reducible rfl))
    try simp only [List.getElem_toArray, List.getElem_cons_succ, List.getElem_cons_zero, Act.put, List.setIfInBounds_toArray, List.set_cons_zero, List.set_cons_succ]
    refine' wpAnyH_take (i := 5) (oi := _) (v := _) rfl (by kernel_rfl) (by kernel_rfl) (by kernel_rfl) (fun _ _ _ h => h) (Or.inl ⟨by kernel_rfl, ?_⟩) (by assumption) ?_
    rotate_left
    · (intro w hSw; (try dsimp only at hSw); go_simp; try (with_reducible rfl))
    try simp only [List.getElem_toArray, List.getElem_cons_succ, List.getElem_cons_zero, Act.put, List.setIfInBounds_toArray, List.set_cons_zero, List.set_cons_succ]
    refine wpAnyH_ready (rs := [6, 10]) (by kernel_rfl) (by simp) ?_
    refine (AllReadyH.cons (o := _) rfl (fun K hK => ?_) (AllReadyH.cons (o := _) rfl (fun K hK => ?_) AllReadyH.nil))
    · go_simp
      go_at_call 10
      with_reducible refine (CR.out V1 BV1.out).mono ?_
      rintro e X4 ⟨p', c', rfl, LIn, DbX4, FRE⟩
      have r5 := hid (row_on r2.out DbX4.out)
      have r6 := hid (row_on r3.out DbX4.out)
      have DX4 := hid (btr BV1.out DbX4.out)
      have UX4 := hid (BV1.out.size)
      (try go_wp2_with fail)
      refine hK.out _ _ ?_ (fun hHeld => ?_)
      · (try dsimp only); exact ⟨row_cell r5.out 1, row_cell r5.out 2, row_cell r5.out 3, row_cell r6.out 2, row_cell r6.out 3, row_cell r6.out 4, row_cell r6.out 5, row_cell r6.out 6, row_cell r6.out 7⟩
      clear hK K
      try simp only [List.getElem_toArray, List.getElem_cons_succ, List.getElem_cons_zero, Act.put, List.setIfInBounds_toArray, List.set_cons_zero, List.set_cons_succ]
      refine' wpAnyH_take (i := 7) (oi := _) (v := _) rfl (by kernel_rfl) (by kernel_rfl) (by kernel_rfl) (fun _ _ _ h => h) (Or.inl ⟨by kernel_rfl, ?_⟩) (by assumption) ?_
      rotate_left
      · (intro w hSw; (try dsimp only at hSw); go_simp; try (with_reducible rfl))
      try simp only [List.getElem_toArray, List.getElem_cons_succ, List.getElem_cons_zero, Act.put, List.setIfInBounds_toArray, List.set_cons_zero, List.set_cons_succ]
      refine' wpAnyH_take (i := 8) (oi := _) (v := _) rfl (by kernel_rfl) (by kernel_rfl) (by kernel_rfl) (fun _ _ _ h => h) (Or.inl ⟨by kernel_rfl, ?_⟩) (by assumption) ?_
      rotate_left
      · (intro w hSw; (try dsimp only at hSw); go_simp; try (with_reducible rfl))
      try simp only [List.getElem_toArray, List.getElem_cons_succ, List.getElem_cons_zero, Act.put, List.setIfInBounds_toArray, List.set_cons_zero, List.set_cons_succ]
      refine' wpAnyH_take (i := 9) (oi := _) (v := _) rfl (by kernel_rfl) (by kernel_rfl) (by kernel_rfl) (fun _ _ _ h => h) (Or.inl ⟨by kernel_rfl, ?_⟩) (by assumption) ?_
      rotate_left
      · (intro w hSw; (try dsimp only at hSw); go_simp; try (with_reducible rfl))
      try simp only [List.getElem_toArray, List.getElem_cons_succ, List.getElem_cons_zero, Act.put, List.setIfInBounds_toArray, List.set_cons_zero, List.set_cons_succ]
      refine wpAnyH_ready (rs := [10]) (by kernel_rfl) (by simp) ?_
      refine (AllReadyH.cons (o := _) rfl (fun K hK => ?_) AllReadyH.nil)
      go_simp
      obtain ⟨X7, hX7⟩ : ∃ X, X4.alloc (.cells #[.int .i64 0, .int .i64 0, .slice none 0 0] 29) = X := ⟨_, rfl⟩
      have bX7 : Below X4.heap.size X4 X7 := by rw [← hX7]; exact ball _ _
      have r9 := hid (row_on r5.out bX7)
      have r10 := hid (row_on r6.out bX7)
      have e11 := hid (LIn.out.on bX7)
      have DX7 := hid (btr DX4.out bX7)
      have zX7 : X7.heap[X4.heap.size]? = some (.cells #[.int .i64 0, .int .i64 0, .slice none 0 0] 29 (0, 0)) := by rw [← hX7]; exact World.alloc_heap_new _ _
      have yg8 := DX4.out.size
      obtain ⟨g8, hg8⟩ : ∃ g, X4.heap.size = g := ⟨_, rfl⟩
      have n12 : g8 ≠ X := by have := row_lt r5.out; omega
      have n13 : g8 ≠ R := by have := row_lt r6.out; omega
      rw [hg8] at zX7 yg8
      have ZX7 := hid zX7
      rw [hX7, hg8]
      clear hX7 hg8 zX7 bX7
      refine hK.out _ _ ?_ (fun hHeld => ?_)
      · (try dsimp only); exact ⟨row_cell r9.out 1, row_cell r9.out 2, row_cell r9.out 3, row_cell r10.out 2, row_cell r10.out 3, row_cell r10.out 4, row_cell r10.out 5, row_cell r10.out 6, row_cell r10.out 7⟩
      clear hK K
      try simp only [List.getElem_toArray, List.getElem_cons_succ, List.getElem_cons_zero, Act.put, List.setIfInBounds_toArray, List.set_cons_zero, List.set_cons_succ]
      refine wpAnyH_ready (rs := [11]) (by kernel_rfl) (by simp) ?_
      refine (AllReadyH.cons (o := _) rfl (fun K hK => ?_) AllReadyH.nil)
      refine step_store_row (by rfl) 29 (.tmp 5) (.tmp 44) (by rfl) g8 #[.int .i64 r, .int .i64 m, .slice p' n2 c'] (by rfl) (by rfl) 29 _ ZX7.out infoRc (by rfl) (by simp [Value.oneCell']) ?_
      obtain ⟨Y14, hY14⟩ : ∃ Y, X7.setRow g8 #[.int .i64 r, .int .i64 m, .slice p' n2 c'] = Y := ⟨_, rfl⟩
      have KY14 := hid (show Kp (fun j => j = g8) X7 Y14 from by rw [← hY14]; exact setRow_kp _ _ _)
      have AY14 := hid (show Y14.heap[g8]? = some (.cells #[.int .i64 r, .int .i64 m, .slice p' n2 c'] 29 (0, 0)) from by rw [← hY14]; exact setRow_heap X7 g8 _ _ 29 (0, 0) ZX7.out)
      have DY14 := hid (show Below W.heap.size W Y14 from by rw [← hY14]; exact setRow_below DX7.out yg8)
      have r15 := hid (KY14.out.row r9.out (fun e => n12.symm e))
      have r16 := hid (KY14.out.row r10.out (fun e => n13.symm e))
      have e17 := hid (e11.out.kept KY14.out (fun g hg e => by obtain ⟨cu, hc⟩ := e11.out.ty hg; exact row_ne hc ZX7.out (by decide) e))
      rw [hY14]
      refine hK.out _ _ ?_ (fun hHeld => ?_)
      · (try dsimp only); exact ⟨row_cell r15.out 1, row_cell r15.out 2, row_cell r15.out 3, row_cell r16.out 2, row_cell r16.out 3, row_cell r16.out 4, row_cell r16.out 5, row_cell r16.out 6, row_cell r16.out 7⟩
      clear hK K hY14
      try simp only [List.getElem_toArray, List.getElem_cons_succ, List.getElem_cons_zero, Act.put, List.setIfInBounds_toArray, List.set_cons_zero, List.set_cons_succ]
      refine' wpAnyH_take (i := 12) (oi := _) (v := _) rfl (by kernel_rfl) (by kernel_rfl) (by kernel_rfl) (fun _ _ _ h => h) (Or.inl ⟨by kernel_rfl, ?_⟩) (by assumption) ?_
      rotate_left
      · (intro w hSw; (try dsimp only at hSw); go_simp; try (with_reducible rfl))
      try simp only [List.getElem_toArray, List.getElem_cons_succ, List.getElem_cons_zero, Act.put, List.setIfInBounds_toArray, List.set_cons_zero, List.set_cons_succ]
      refine wpAnyH_done (by kernel_rfl) ?_ _
      exact ⟨(g8, p', c'), by rfl, DY14, AY14, e17, FRE⟩
    · go_simp
      obtain ⟨X18, hX18⟩ : ∃ X, V1.alloc (.cells #[.int .i64 0, .int .i64 0, .slice none 0 0] 29) = X := ⟨_, rfl⟩
      have bX18 : Below V1.heap.size V1 X18 := by rw [← hX18]; exact ball _ _
      have r20 := hid (row_on r2.out bX18)
      have r21 := hid (row_on r3.out bX18)
      have DX18 := hid (btr BV1.out bX18)
      have zX18 : X18.heap[V1.heap.size]? = some (.cells #[.int .i64 0, .int .i64 0, .slice none 0 0] 29 (0, 0)) := by rw [← hX18]; exact World.alloc_heap_new _ _
      have yg19 := BV1.out.size
      obtain ⟨g19, hg19⟩ : ∃ g, V1.heap.size = g := ⟨_, rfl⟩
      have n22 : g19 ≠ X := by have := row_lt r2.out; omega
      have n23 : g19 ≠ R := by have := row_lt r3.out; omega
      rw [hg19] at zX18 yg19
      have ZX18 := hid zX18
      rw [hX18, hg19]
      clear hX18 hg19 zX18 bX18
      refine hK.out _ _ ?_ (fun hHeld => ?_)
      · (try dsimp only); exact ⟨row_cell r20.out 1, row_cell r20.out 2, row_cell r20.out 3, row_cell r21.out 2, row_cell r21.out 3, row_cell r21.out 4, row_cell r21.out 5, row_cell r21.out 6, row_cell r21.out 7⟩
      clear hK K
      try simp only [List.getElem_toArray, List.getElem_cons_succ, List.getElem_cons_zero, Act.put, List.setIfInBounds_toArray, List.set_cons_zero, List.set_cons_succ]
      refine wpAnyH_ready (rs := [6]) (by kernel_rfl) (by simp) ?_
      refine (AllReadyH.cons (o := _) rfl (fun K hK => ?_) AllReadyH.nil)
      go_simp
      go_at_call 10
      with_reducible refine (CR.out X18 DX18.out).mono ?_
      rintro e X24 ⟨p', c', rfl, LIn, DbX24, FRE⟩
      have r25 := hid (row_on r20.out DbX24.out)
      have r26 := hid (row_on r21.out DbX24.out)
      have r27 := hid (row_on ZX18.out DbX24.out)
      have DX24 := hid (btr DX18.out DbX24.out)
      have UX24 := hid (DX18.out.size)
      (try go_wp2_with fail)
      refine hK.out _ _ ?_ (fun hHeld => ?_)
      · (try dsimp only); exact ⟨row_cell r25.out 1, row_cell r25.out 2, row_cell r25.out 3, row_cell r26.out 2, row_cell r26.out 3, row_cell r26.out 4, row_cell r26.out 5, row_cell r26.out 6, row_cell r26.out 7⟩
      clear hK K
      try simp only [List.getElem_toArray, List.getElem_cons_succ, List.getElem_cons_zero, Act.put, List.setIfInBounds_toArray, List.set_cons_zero, List.set_cons_succ]
      refine' wpAnyH_take (i := 7) (oi := _) (v := _) rfl (by kernel_rfl) (by kernel_rfl) (by kernel_rfl) (fun _ _ _ h => h) (Or.inl ⟨by kernel_rfl, ?_⟩) (by assumption) ?_
      rotate_left
      · (intro w hSw; (try dsimp only at hSw); go_simp; try (with_reducible rfl))
      try simp only [List.getElem_toArray, List.getElem_cons_succ, List.getElem_cons_zero, Act.put, List.setIfInBounds_toArray, List.set_cons_zero, List.set_cons_succ]
      refine' wpAnyH_take (i := 8) (oi := _) (v := _) rfl (by kernel_rfl) (by kernel_rfl) (by kernel_rfl) (fun _ _ _ h => h) (Or.inl ⟨by kernel_rfl, ?_⟩) (by assumption) ?_
      rotate_left
      · (intro w hSw; (try dsimp only at hSw); go_simp; try (with_reducible rfl))
      try simp only [List.getElem_toArray, List.getElem_cons_succ, List.getElem_cons_zero, Act.put, List.setIfInBounds_toArray, List.set_cons_zero, List.set_cons_succ]
      refine' wpAnyH_take (i := 9) (oi := _) (v := _) rfl (by kernel_rfl) (by kernel_rfl) (by kernel_rfl) (fun _ _ _ h => h) (Or.inl ⟨by kernel_rfl, ?_⟩) (by assumption) ?_
      rotate_left
      · (intro w hSw; (try dsimp only at hSw); go_simp; try (with_reducible rfl))
      try simp only [List.getElem_toArray, List.getElem_cons_succ, List.getElem_cons_zero, Act.put, List.setIfInBounds_toArray, List.set_cons_zero, List.set_cons_succ]
      refine wpAnyH_ready (rs := [11]) (by kernel_rfl) (by simp) ?_
      refine (AllReadyH.cons (o := _) rfl (fun K hK => ?_) AllReadyH.nil)
      refine step_store_row (by rfl) 29 (.tmp 5) (.tmp 44) (by rfl) g19 #[.int .i64 r, .int .i64 m, .slice p' n2 c'] (by rfl) (by rfl) 29 _ r27.out infoRc (by rfl) (by simp [Value.oneCell']) ?_
      obtain ⟨Y28, hY28⟩ : ∃ Y, X24.setRow g19 #[.int .i64 r, .int .i64 m, .slice p' n2 c'] = Y := ⟨_, rfl⟩
      have KY28 := hid (show Kp (fun j => j = g19) X24 Y28 from by rw [← hY28]; exact setRow_kp _ _ _)
      have AY28 := hid (show Y28.heap[g19]? = some (.cells #[.int .i64 r, .int .i64 m, .slice p' n2 c'] 29 (0, 0)) from by rw [← hY28]; exact setRow_heap X24 g19 _ _ 29 (0, 0) r27.out)
      have DY28 := hid (show Below W.heap.size W Y28 from by rw [← hY28]; exact setRow_below DX24.out yg19)
      have r29 := hid (KY28.out.row r25.out (fun e => n22.symm e))
      have r30 := hid (KY28.out.row r26.out (fun e => n23.symm e))
      have e31 := hid (LIn.out.kept KY28.out (fun g hg e => by obtain ⟨cu, hc⟩ := LIn.out.ty hg; exact row_ne hc r27.out (by decide) e))
      rw [hY28]
      refine hK.out _ _ ?_ (fun hHeld => ?_)
      · (try dsimp only); exact ⟨row_cell r29.out 1, row_cell r29.out 2, row_cell r29.out 3, row_cell r30.out 2, row_cell r30.out 3, row_cell r30.out 4, row_cell r30.out 5, row_cell r30.out 6, row_cell r30.out 7⟩
      clear hK K hY28
      try simp only [List.getElem_toArray, List.getElem_cons_succ, List.getElem_cons_zero, Act.put, List.setIfInBounds_toArray, List.set_cons_zero, List.set_cons_succ]
      refine' wpAnyH_take (i := 12) (oi := _) (v := _) rfl (by kernel_rfl) (by kernel_rfl) (by kernel_rfl) (fun _ _ _ h => h) (Or.inl ⟨by kernel_rfl, ?_⟩) (by assumption) ?_
      rotate_left
      · (intro w hSw; (try dsimp only at hSw); go_simp; try (with_reducible rfl))
      try simp only [List.getElem_toArray, List.getElem_cons_succ, List.getElem_cons_zero, Act.put, List.setIfInBounds_toArray, List.set_cons_zero, List.set_cons_succ]
      refine wpAnyH_done (by kernel_rfl) ?_ _
      exact ⟨(g19, p', c'), by rfl, DY28, AY28, e31, FRE⟩
  · rintro ⟨γ, p', c'⟩ Y ⟨BY, HG, HLI, FRE⟩
    dsimp only at HG HLI FRE
    try simp only [List.getElem_toArray, List.getElem_cons_succ, List.getElem_cons_zero, Act.put, List.setIfInBounds_toArray, List.set_cons_zero, List.set_cons_succ]
    have HXY := hid (row_on HXR.out BY.out)
    obtain ⟨k0, k1, k2, k3⟩ := row4 HXY.out
    obtain ⟨g0, g1, g2⟩ := row3 HG.out
    have f1 := row_frz HXY.out 1
    have f2 := row_frz HXY.out 2
    have f3 := row_frz HXY.out 3
    go_upto_region 5 with fail
    obtain ⟨q1, q2⟩ := x_set HXY.out (.int .i64 r) (.int .i64 m) (.slice p' n2 c')
    obtain ⟨Q, hQ⟩ : ∃ Q, ((Y.setCell ⟨X, 1, none⟩ (.int .i64 r)).setCell ⟨X, 2, none⟩ (.int .i64 m)).setCell ⟨X, 3, none⟩ (.slice p' n2 c') = Q := ⟨_, rfl⟩
    rw [hQ] at q1 q2 ⊢
    have HQ1 := hid q1
    have HQ2 := hid q2
    have HRQ := hid (q2.row (row_on HO.out BY.out) (fun e => row_ne HO.out HXR.out (by decide) e))
    have HCQ := hid (show Cl Q B r m p1 c1 (iso 1 L) p2 c2 (iso 2 L) from (HP.out.cl.on BY.out).kept q2 (fun e => row_ne HP.out.cl.row HXR.out (by decide) e) (fun g hg e => by
      rcases hg with hg | hg
      · obtain ⟨cu, hc⟩ := HP.out.cl.l1.ty hg; exact row_ne hc HXR.out (by decide) e
      · obtain ⟨cu, hc⟩ := HP.out.cl.l2.ty hg; exact row_ne hc HXR.out (by decide) e))
    clear hQ k0 k1 k2 k3 g0 g1 g2 f1 f2 f3 q1 q2
    have HSS := hid (show ∀ U : World, U.heap[X]? = some (.cells #[.pointer (some ⟨B, 0, none⟩), .int .i64 r, .int .i64 m, .slice p' n2 c'] 31 (0, 0)) → U.heap[R]? = some (.cells #[.int .i64 0, .bool ot, .int .u64 x.id, .int .u32 x.mb, .int .i64 x.sd, .int .i64 x.ty, .int .i64 x.pr, .int .u64 x.qt, .int .u64 id, .int .i64 n] 37 (0, 0)) → U.cell? ⟨X, 0, none⟩ = some (.pointer (some ⟨B, 0, none⟩)) ∧ U.cell? ⟨R, 2, none⟩ = some (.int .u64 x.id) ∧ U.cell? ⟨R, 3, none⟩ = some (.int .u32 x.mb) ∧ U.cell? ⟨R, 4, none⟩ = some (.int .i64 x.sd) ∧ U.cell? ⟨R, 5, none⟩ = some (.int .i64 x.ty) ∧ U.cell? ⟨R, 6, none⟩ = some (.int .i64 x.pr) ∧ U.cell? ⟨R, 7, none⟩ = some (.int .u64 x.qt) from fun U e1 e2 => ⟨row_cell e1 0, row_cell e2 2, row_cell e2 3, row_cell e2 4, row_cell e2 5, row_cell e2 6, row_cell e2 7⟩)
    have HNB := hid (show ∀ (g : Nat) (t : TypeId) (cs : Array Value), (t = 31 ∨ t = 37) → Q.heap[g]? = some (.cells cs t (0, 0)) → ¬ (g = B ∨ OfP p1 g ∨ OfP p2 g) from fun g t cs ht hg => by
      rintro (e | e | e)
      · subst e; exact row_ne hg HCQ.out.row (by rcases ht with rfl | rfl <;> decide) rfl
      · obtain ⟨cu, hc⟩ := HCQ.out.l1.ty e; exact row_ne hg hc (by rcases ht with rfl | rfl <;> decide) rfl
      · obtain ⟨cu, hc⟩ := HCQ.out.l2.ty e; exact row_ne hg hc (by rcases ht with rfl | rfl <;> decide) rfl)
    obtain ⟨V, hV⟩ : ∃ U, Q.drew = U := ⟨_, rfl⟩
    have BV := hid (show Below Q.heap.size Q V from by rw [← hV]; exact bdrew1 _)
    refine wp_region_held_drew (S := (fun U => U.cell? ⟨X, 0, none⟩ = some (.pointer (some ⟨B, 0, none⟩)) ∧ U.cell? ⟨R, 2, none⟩ = some (.int .u64 x.id) ∧ U.cell? ⟨R, 3, none⟩ = some (.int .u32 x.mb) ∧ U.cell? ⟨R, 4, none⟩ = some (.int .i64 x.sd) ∧ U.cell? ⟨R, 5, none⟩ = some (.int .i64 x.ty) ∧ U.cell? ⟨R, 6, none⟩ = some (.int .i64 x.pr) ∧ U.cell? ⟨R, 7, none⟩ = some (.int .u64 x.qt))) (by kernel_rfl) ?_ (fun hHeld => ?_)
    · (try dsimp only); rw [hV]; exact HSS.out V (row_on HQ1.out BV.out) (row_on HRQ.out BV.out)
    rw [hV] at hHeld ⊢
    clear hV
    refine' wpAnyH_take (i := 0) (oi := _) (v := _) rfl (by kernel_rfl) (by kernel_rfl) (by kernel_rfl) (fun _ _ _ h => h) (Or.inl ⟨by kernel_rfl, ?_⟩) (by assumption) ?_
    rotate_left
    · (intro w hSw; (try dsimp only at hSw); go_simp; try (with_reducible rfl))
    try simp only [List.getElem_toArray, List.getElem_cons_succ, List.getElem_cons_zero, Act.put, List.setIfInBounds_toArray, List.set_cons_zero, List.set_cons_succ]
    refine' wpAnyH_take (i := 1) (oi := _) (v := _) rfl (by kernel_rfl) (by kernel_rfl) (by kernel_rfl) (fun _ _ _ h => h) (Or.inl ⟨by kernel_rfl, ?_⟩) (by assumption) ?_
    rotate_left
    · (intro w hSw; (try dsimp only at hSw); go_simp; try (with_reducible rfl))
    try simp only [List.getElem_toArray, List.getElem_cons_succ, List.getElem_cons_zero, Act.put, List.setIfInBounds_toArray, List.set_cons_zero, List.set_cons_succ]
    refine' wpAnyH_take (i := 2) (oi := _) (v := _) rfl (by kernel_rfl) (by kernel_rfl) (by kernel_rfl) (fun _ _ _ h => h) (Or.inl ⟨by kernel_rfl, ?_⟩) (by assumption) ?_
    rotate_left
    · (intro w hSw; (try dsimp only at hSw); go_simp; try (with_reducible rfl))
    try simp only [List.getElem_toArray, List.getElem_cons_succ, List.getElem_cons_zero, Act.put, List.setIfInBounds_toArray, List.set_cons_zero, List.set_cons_succ]
    refine' wpAnyH_take (i := 3) (oi := _) (v := _) rfl (by kernel_rfl) (by kernel_rfl) (by kernel_rfl) (fun _ _ _ h => h) (Or.inl ⟨by kernel_rfl, ?_⟩) (by assumption) ?_
    rotate_left
    · (intro w hSw; (try dsimp only at hSw); go_simp; try (with_reducible rfl))
    try simp only [List.getElem_toArray, List.getElem_cons_succ, List.getElem_cons_zero, Act.put, List.setIfInBounds_toArray, List.set_cons_zero, List.set_cons_succ]
    refine' wpAnyH_take (i := 4) (oi := _) (v := _) rfl (by kernel_rfl) (by kernel_rfl) (by kernel_rfl) (fun _ _ _ h => h) (Or.inl ⟨by kernel_rfl, ?_⟩) (by assumption) ?_
    rotate_left
    · (intro w hSw; (try dsimp only at hSw); go_simp; try (with_reducible rfl))
    try simp only [List.getElem_toArray, List.getElem_cons_succ, List.getElem_cons_zero, Act.put, List.setIfInBounds_toArray, List.set_cons_zero, List.set_cons_succ]
    refine' wpAnyH_take (i := 5) (oi := _) (v := _) rfl (by kernel_rfl) (by kernel_rfl) (by kernel_rfl) (fun _ _ _ h => h) (Or.inl ⟨by kernel_rfl, ?_⟩) (by assumption) ?_
    rotate_left
    · (intro w hSw; (try dsimp only at hSw); go_simp; try (with_reducible rfl))
    try simp only [List.getElem_toArray, List.getElem_cons_succ, List.getElem_cons_zero, Act.put, List.setIfInBounds_toArray, List.set_cons_zero, List.set_cons_succ]
    refine' wpAnyH_take (i := 7) (oi := _) (v := _) rfl (by kernel_rfl) (by kernel_rfl) (by kernel_rfl) (fun _ _ _ h => h) (Or.inl ⟨by kernel_rfl, ?_⟩) (by assumption) ?_
    rotate_left
    · (intro w hSw; (try dsimp only at hSw); go_simp; try (with_reducible rfl))
    try simp only [List.getElem_toArray, List.getElem_cons_succ, List.getElem_cons_zero, Act.put, List.setIfInBounds_toArray, List.set_cons_zero, List.set_cons_succ]
    refine wpAnyH_ready (rs := [6]) (by kernel_rfl) (by simp) ?_
    refine AllReadyH.cons (o := _) rfl (fun KK hK => ?_) AllReadyH.nil
    go_simp
    go_at_call 11
    with_reducible refine (CE.out V (HCQ.out.on BV.out)).mono ?_
    rintro e V2 ⟨rfl, RES⟩
    obtain ⟨q1, d1, q2, d2, h1, h2, h3⟩ := RES.out
    have KV := hid ((Kp.of (fun j => j = B ∨ OfP p1 j ∨ OfP p2 j) BV.out).trans h3 (fun g _ hg => hg))
    have H1 := hid h1
    have H2 := hid h2
    clear h1 h2 h3 RES
    (try go_wp2_with fail)
    refine hK.out _ _ ?_ (fun hHeld => ?_)
    · (try dsimp only); exact HSS.out V2 (KV.out.row HQ1.out (HNB.out X _ _ (.inl rfl) HQ1.out)) (KV.out.row HRQ.out (HNB.out R _ _ (.inr rfl) HRQ.out))
    clear hK KK
    try simp only [List.getElem_toArray, List.getElem_cons_succ, List.getElem_cons_zero, Act.put, List.setIfInBounds_toArray, List.set_cons_zero, List.set_cons_succ]
    refine' wpAnyH_take (i := 8) (oi := _) (v := _) rfl (by kernel_rfl) (by kernel_rfl) (by kernel_rfl) (fun _ _ _ h => h) (Or.inl ⟨by kernel_rfl, ?_⟩) (by assumption) ?_
    rotate_left
    · (intro w hSw; (try dsimp only at hSw); go_simp; try (with_reducible rfl))
    try simp only [List.getElem_toArray, List.getElem_cons_succ, List.getElem_cons_zero, Act.put, List.setIfInBounds_toArray, List.set_cons_zero, List.set_cons_succ]
    refine' wpAnyH_take (i := 9) (oi := _) (v := _) rfl (by kernel_rfl) (by kernel_rfl) (by kernel_rfl) (fun _ _ _ h => h) (Or.inl ⟨by kernel_rfl, ?_⟩) (by assumption) ?_
    rotate_left
    · (intro w hSw; (try dsimp only at hSw); go_simp; try (with_reducible rfl))
    try simp only [List.getElem_toArray, List.getElem_cons_succ, List.getElem_cons_zero, Act.put, List.setIfInBounds_toArray, List.set_cons_zero, List.set_cons_succ]
    refine wpAnyH_done (by kernel_rfl) ?_ _
    clear hHeld
    go_wp2
    go_ret
    refine ⟨rfl, ?_⟩
    have hr := HQ1.out
    rw [← HN2.out] at hr
    exact HP0.out.entered (btr HBW.out BY.out) HLI.out HLK.out FRE.out HQ2.out hr H1.out (fun g hg => (H2.out g hg).imp _root_.id (fun e => Nat.le_trans BV.out.size e)) KV.out
end Go.Proofs.YtnmkfdndfhefiaaGreat
