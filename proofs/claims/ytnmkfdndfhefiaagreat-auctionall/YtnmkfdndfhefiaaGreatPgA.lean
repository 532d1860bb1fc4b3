/-
  Steps: Drop, Anchor.
-/
import Derived.Test.YtnmkfdndfhefiaaGreatGh
namespace Go.Proofs.YtnmkfdndfhefiaaGreat
open Go.RowKit Go.Deep Go.Shelf
set_option linter.unusedVariables false
set_option linter.unusedSimpArgs false
set_option maxHeartbeats 16000000
set_option maxRecDepth 100000
attribute [local go_sem ↓] Go.wp_at_zero Go.wp_at_succ
theorem step1 {w0 w : World} {O : Nat → Prop} {X B : Nat} {r m : Int} {L : List It} {p1 : Option Addr} {c1 : Nat} {p2 : Option Addr} {c2 : Nat} {pL : Option Addr} {cL : Nat} (h : Pp w0 w O X B r m L p1 c1 p2 c2 pL cL) (ot : Bool) (x : It) (id n : Int) :
    Calls Tryz.prog 6 #[.pointer (some ⟨X, 0, none⟩), .agg #[.int .i64 1, .bool ot, .int .u64 x.id, .int .u32 x.mb, .int .i64 x.sd, .int .i64 x.ty, .int .i64 x.pr, .int .u64 x.qt, .int .u64 id, .int .i64 n]] w fun e w' => e = .returned (.bool true) ∧ Nx w0 w w' O X := by
  obtain ⟨R, hR⟩ : ∃ R, w.heap.size = R := ⟨_, rfl⟩
  obtain ⟨W, hW⟩ : ∃ W, w.alloc (.cells #[.int .i64 1, .bool ot, .int .u64 x.id, .int .u32 x.mb, .int .i64 x.sd, .int .i64 x.ty, .int .i64 x.pr, .int .u64 x.qt, .int .u64 id, .int .i64 n] 37) = W := ⟨_, rfl⟩
  have HBW := hid (show Below w.heap.size w W from by rw [← hW]; exact ball _ _)
  have HO := hid (show W.heap[R]? = some (.cells #[.int .i64 1, .bool ot, .int .u64 x.id, .int .u32 x.mb, .int .i64 x.sd, .int .i64 x.ty, .int .i64 x.pr, .int .u64 x.qt, .int .u64 id, .int .i64 n] 37 (0, 0)) from by rw [← hW, ← hR]; exact World.alloc_heap_new _ _)
  have HP0 := hid h
  have HP := hid (h.on HBW.out)
  obtain ⟨nL, hnL⟩ : ∃ k, L.length = k := ⟨_, rfl⟩
  have HNL := hid hnL
  have HXR := hid (show W.heap[X]? = some (.cells #[.pointer (some ⟨B, 0, none⟩), .int .i64 r, .int .i64 m, .slice pL nL cL] 31 (0, 0)) from by have := HP.out.row; rw [hnL] at this; exact this)
  have HW := hid hW
  have HRR := hid hR
  obtain ⟨z, hz⟩ : ∃ z, dit id L = z := ⟨_, rfl⟩
  obtain ⟨b, hb⟩ : ∃ b, hsi id L = b := ⟨_, rfl⟩
  obtain ⟨L2, hL2⟩ : ∃ l, oth id L = l := ⟨_, rfl⟩
  obtain ⟨n2, hn2⟩ : ∃ k, L2.length = k := ⟨_, rfl⟩
  have HN2 := hid hn2
  have HLK := hid (show Lk L2 from by rw [← hL2]; exact h.lk.oth id)
  have HPL := hid (show ∀ g, (g = B ∨ OfP p1 g ∨ OfP p2 g) → g < w.heap.size from fun g hg => by
    rcases hg with rfl | hg
    · exact row_lt h.cl.row
    · exact (h.og g (h.o1 g hg)).2)
  have CA := hid (fun (U : World) (hU : Cl U B r m p1 c1 (iso 1 L) p2 c2 (iso 2 L)) => (show Calls Tryz.prog 12 #[.pointer (some ⟨B, 0, none⟩), .int .u64 id] U fun e w' => e = .returned (.tuple #[.agg #[.int .u64 z.id, .int .u32 z.mb, .int .i64 z.sd, .int .i64 z.ty, .int .i64 z.pr, .int .u64 z.qt], .bool b]) ∧ Hid (Cl w' B r m p1 c1 (iso 1 L2) p2 c2 (iso 2 L2)) ∧ Hid (Kp (fun j => j = B ∨ OfP p1 j ∨ OfP p2 j) U w') from by
    have := drop_any B r m p1 c1 L p2 c2 id U hU h.lk
    rw [hz, hb, hL2] at this
    exact this))
  have CB := hid (fun (U : World) (hU : Li U pL cL L) => (show Calls Tryz.prog 13 #[.agg #[.int .i64 r, .int .i64 m, .slice pL nL cL], .int .u64 id] U fun e w' => ∃ p' c', e = .returned (.tuple #[.agg #[.int .i64 r, .int .i64 m, .slice p' n2 c'], .agg #[.int .u64 z.id, .int .u32 z.mb, .int .i64 z.sd, .int .i64 z.ty, .int .i64 z.pr, .int .u64 z.qt], .bool b]) ∧ Hid (Li w' p' c' L2) ∧ Hid (Below U.heap.size U w') ∧ Hid (∀ g, OfP p' g → OfP pL g ∨ U.heap.size ≤ g) from by
    have := rdrop_any r m id pL cL L U hU h.lk
    rw [hz, hb, hL2, hn2, hnL] at this
    exact this))
  have hwW := HBW.out.size
  have nbX := hid (show ¬ (X = B ∨ OfP p1 X ∨ OfP p2 X) from by
    rintro (e | e | e)
    · exact row_ne HXR.out HP.out.cl.row (by decide) e
    · obtain ⟨cu, hc⟩ := HP.out.cl.l1.ty e; exact row_ne HXR.out hc (by decide) rfl
    · obtain ⟨cu, hc⟩ := HP.out.cl.l2.ty e; exact row_ne HXR.out hc (by decide) rfl)
  have nbR := hid (show ¬ (R = B ∨ OfP p1 R ∨ OfP p2 R) from fun e => by have := HPL.out R e; omega)
  clear hz hb hL2 hn2
  clear h hW hR hnL
  go_enter Tryz.func6, Tryz.ntmps6
  go_upto_region 1 with fail
  rw [HW.out, HRR.out]
  have o0 : W.cell? ⟨R, 0, none⟩ = some (.int .i64 1) := row_cell HO.out 0
  go_upto_region 7 with fail
  clear o0
  refine reg_cut (X := Nat) (fun a t => ((((((((((((a.put (some 62) (.pointer (some ⟨X, 0, none⟩))).put (some 63) (.pointer (some ⟨X, 0, none⟩))).put (some 64) (.pointer (some ⟨X, 0, none⟩))).put (some 65) (.pointer (some ⟨B, 0, none⟩))).put (some 66) (.pointer (some ⟨R, 8, none⟩))).put (some 67) (.int .u64 id)).put (some 68) (.tuple #[.agg #[.int .u64 z.id, .int .u32 z.mb, .int .i64 z.sd, .int .i64 z.ty, .int .i64 z.pr, .int .u64 z.qt], .bool b])).put (some 61) (.tuple #[.agg #[.int .u64 z.id, .int .u32 z.mb, .int .i64 z.sd, .int .i64 z.ty, .int .i64 z.pr, .int .u64 z.qt], .bool b])).put (some 69) (.agg #[.int .u64 z.id, .int .u32 z.mb, .int .i64 z.sd, .int .i64 z.ty, .int .i64 z.pr, .int .u64 z.qt])).put (some 70) (.bool b)).put (some 7) (.pointer (some ⟨t, 0, none⟩))).put (some 8) (.bool b))) (fun t V => Hid (Kp (fun j => j = B ∨ OfP p1 j ∨ OfP p2 j) W V) ∧ Hid (V.heap[t]? = some (.cells #[.int .u64 z.id, .int .u32 z.mb, .int .i64 z.sd, .int .i64 z.ty, .int .i64 z.pr, .int .u64 z.qt] 35 (0, 0))) ∧ Hid (W.heap.size ≤ t) ∧ Hid (Cl V B r m p1 c1 (iso 1 L2) p2 c2 (iso 2 L2)) ∧ Hid (V.heap[X]? = some (.cells #[.pointer (some ⟨B, 0, none⟩), .int .i64 r, .int .i64 m, .slice pL nL cL] 31 (0, 0))) ∧ Hid (V.heap[R]? = some (.cells #[.int .i64 1, .bool ot, .int .u64 x.id, .int .u32 x.mb, .int .i64 x.sd, .int .i64 x.ty, .int .i64 x.pr, .int .u64 x.qt, .int .u64 id, .int .i64 n] 37 (0, 0)))) ?_ ?_
  · obtain ⟨V1, hV1⟩ : ∃ U, W.drew = U := ⟨_, rfl⟩
    have BV1 := hid (show Below W.heap.size W V1 from by rw [← hV1]; exact bdrew1 _)
    have r2 := hid (row_on HXR.out BV1.out)
    have r3 := hid (row_on HO.out BV1.out)
    refine wp_region_held_drew (S := (fun U => U.cell? ⟨X, 0, none⟩ = some (.pointer (some ⟨B, 0, none⟩)) ∧ U.cell? ⟨R, 8, none⟩ = some (.int .u64 id))) (by kernel_rfl) ?_ (fun hHeld => ?_)
    · (try dsimp only); rw [hV1]; exact ⟨row_cell r2.out 0, row_cell r3.out 8⟩
    rw [hV1] at hHeld ⊢
    clear hV1
    refine' wpAnyH_take (i := 0) (oi := _) (v := _) rfl (by kernel_rfl) (by kernel_rfl) (by kernel_rfl) (fun _ _ _ h => h) (Or.inl ⟨by kernel_rfl, ?_⟩) (by assumption) ?_
    rotate_left
    · (intro w hSw; (try dsimp only at hSw); go_simp; try (with_reducible rfl))
    try simp only [List.getElem_toArray, List.getElem_cons_succ, List.getElem_cons_zero, Act.put, List.setIfInBounds_toArray, List.set_cons_zero, List.set_cons_succ]
    refine' wpAnyH_take (i := 1) (oi := _) (v := _) rfl (by kernel_rfl) (by kernel_rfl) (by kernel_rfl) (fun _ _ _ h => h) (Or.inl ⟨by kernel_rfl, ?_⟩) (by assumption) ?_
    rotate_left
    · (intro w hSw; (try dsimp only at hSw); go_simp; try (with_reducible rfl))
    try simp only [List.getElem_toArray, List.getElem_cons_succ, List.getElem_cons_zero, Act.put, List.setIfInBounds_toArray, List.set_cons_zero, List.set_cons_succ]
    refine' wpAnyH_take (i := 2) (oi := _) (v := _) rfl (by kernel_rfl) (by kernel_rfl) (by kernel_rfl) (fun _ _ _ h => h) (Or.inl ⟨by kernel_rfl, ?_⟩) (by assumption) ?_
    rotate_left
    · (intro w hSw; (try dsimp only at hSw); go_simp; try (with_reducible rfl))
    try simp only [List.getElem_toArray, List.getElem_cons_succ, List.getElem_cons_zero, Act.put, List.setIfInBounds_toArray, List.set_cons_zero, List.set_cons_succ]
    refine' wpAnyH_take (i := 3) (oi := _) (v := _) rfl (by kernel_rfl) (by kernel_rfl) (by kernel_rfl) (fun _ _ _ h => h) (Or.inl ⟨by kernel_rfl, ?_⟩) (by assumption) ?_
    rotate_left
    · (intro w hSw; (try dsimp only at hSw); go_simp; try (with_reducible rfl))
    try simp only [List.getElem_toArray, List.getElem_cons_succ, List.getElem_cons_zero, Act.put, List.setIfInBounds_toArray, List.set_cons_zero, List.set_cons_succ]
    refine' wpAnyH_take (i := 4) (oi := _) (v := _) rfl (by kernel_rfl) (by kernel_rfl) (by kernel_rfl) (fun _ _ _ h => h) (Or.inl ⟨by kernel_rfl, ?_⟩) (by assumption) ?_
    rotate_left
    · (intro w hSw; (try dsimp only at hSw); go_simp; try (with_reducible rfl))
    try simp only [List.getElem_toArray, List.getElem_cons_succ, List.getElem_cons_zero, Act.put, List.setIfInBounds_toArray, List.set_cons_zero, List.set_cons_succ]
    refine' wpAnyH_take (i := 5) (oi := _) (v := _) rfl (by kernel_rfl) (by kernel_rfl) (by kernel_rfl) (fun _ _ _ h => h) (Or.inl ⟨by kernel_rfl, ?_⟩) (by assumption) ?_
    rotate_left
    · (intro w hSw; (try dsimp only at hSw); go_simp; try (with_reducible rfl))
    try simp only [List.getElem_toArray, List.getElem_cons_succ, List.getElem_cons_zero, Act.put, List.setIfInBounds_toArray, List.set_cons_zero, List.set_cons_succ]
    refine wpAnyH_ready (rs := [6, 10]) (by kernel_rfl) (by simp) ?_
    refine (AllReadyH.cons (o := _) rfl (fun K hK => ?_) (AllReadyH.cons (o := _) rfl (fun K hK => ?_) AllReadyH.nil))
    · go_simp
      go_at_call 12
      with_reducible refine (CA.out V1 (HP.out.cl.on BV1.out)).mono ?_
      rintro e X4 ⟨rfl, CLn, KX4⟩
      have r5 := hid (KX4.out.row r2.out (nbX.out))
      have r6 := hid (KX4.out.row r3.out (nbR.out))
      have DX4 := hid ((Kp.of (fun j => j = B ∨ OfP p1 j ∨ OfP p2 j) BV1.out).trans KX4.out (fun _ _ e => e))
      (try go_wp2_with fail)
      refine hK.out _ _ ?_ (fun hHeld => ?_)
      · (try dsimp only); exact ⟨row_cell r5.out 0, row_cell r6.out 8⟩
      clear hK K
      try simp only [List.getElem_toArray, List.getElem_cons_succ, List.getElem_cons_zero, Act.put, List.setIfInBounds_toArray, List.set_cons_zero, List.set_cons_succ]
      refine' wpAnyH_take (i := 7) (oi := _) (v := _) rfl (by kernel_rfl) (by kernel_rfl) (by kernel_rfl) (fun _ _ _ h => h) (Or.inl ⟨by kernel_rfl, ?_⟩) (by assumption) ?_
      rotate_left
      · (intro w hSw; (try dsimp only at hSw); go_simp; try (with_reducible rfl))
      try simp only [List.getElem_toArray, List.getElem_cons_succ, List.getElem_cons_zero, Act.put, List.setIfInBounds_toArray, List.set_cons_zero, List.set_cons_succ]
      refine' wpAnyH_take (i := 8) (oi := _) (v := _) rfl (by kernel_rfl) (by kernel_rfl) (by kernel_rfl) (fun _ _ _ h => h) (Or.inl ⟨by kernel_rfl, ?_⟩) (by assumption) ?_
      rotate_left
      · (intro w hSw; (try dsimp only at hSw); go_simp; try (with_reducible rfl))
      try simp only [List.getElem_toArray, List.getElem_cons_succ, List.getElem_cons_zero, Act.put, List.setIfInBounds_toArray, List.set_cons_zero, List.set_cons_succ]
      refine' wpAnyH_take (i := 9) (oi := _) (v := _) rfl (by kernel_rfl) (by kernel_rfl) (by kernel_rfl) (fun _ _ _ h => h) (Or.inl ⟨by kernel_rfl, ?_⟩) (by assumption) ?_
      rotate_left
      · (intro w hSw; (try dsimp only at hSw); go_simp; try (with_reducible rfl))
      try simp only [List.getElem_toArray, List.getElem_cons_succ, List.getElem_cons_zero, Act.put, List.setIfInBounds_toArray, List.set_cons_zero, List.set_cons_succ]
      refine wpAnyH_ready (rs := [10]) (by kernel_rfl) (by simp) ?_
      refine (AllReadyH.cons (o := _) rfl (fun K hK => ?_) AllReadyH.nil)
      go_simp
      obtain ⟨X7, hX7⟩ : ∃ X, X4.alloc (.cells #[.int .u64 0, .int .u32 0, .int .i64 0, .int .i64 0, .int .i64 0, .int .u64 0] 35) = X := ⟨_, rfl⟩
      have bX7 : Below X4.heap.size X4 X7 := by rw [← hX7]; exact ball _ _
      have r9 := hid (row_on r5.out bX7)
      have r10 := hid (row_on r6.out bX7)
      have e11 := hid (CLn.out.on bX7)
      have DX7 := hid (DX4.out.trans (Kp.of (fun j => j = B ∨ OfP p1 j ∨ OfP p2 j) bX7) (fun _ _ e => e))
      have zX7 : X7.heap[X4.heap.size]? = some (.cells #[.int .u64 0, .int .u32 0, .int .i64 0, .int .i64 0, .int .i64 0, .int .u64 0] 35 (0, 0)) := by rw [← hX7]; exact World.alloc_heap_new _ _
      have yg8 := DX4.out.size
      obtain ⟨g8, hg8⟩ : ∃ g, X4.heap.size = g := ⟨_, rfl⟩
      have n12 : g8 ≠ X := by have := row_lt r5.out; omega
      have n13 : g8 ≠ R := by have := row_lt r6.out; omega
      rw [hg8] at zX7 yg8
      have ZX7 := hid zX7
      rw [hX7, hg8]
      clear hX7 hg8 zX7 bX7
      refine hK.out _ _ ?_ (fun hHeld => ?_)
      · (try dsimp only); exact ⟨row_cell r9.out 0, row_cell r10.out 8⟩
      clear hK K
      try simp only [List.getElem_toArray, List.getElem_cons_succ, List.getElem_cons_zero, Act.put, List.setIfInBounds_toArray, List.set_cons_zero, List.set_cons_succ]
      refine wpAnyH_ready (rs := [11]) (by kernel_rfl) (by simp) ?_
      refine (AllReadyH.cons (o := _) rfl (fun K hK => ?_) AllReadyH.nil)
      refine step_store_row (by rfl) 35 (.tmp 7) (.tmp 69) (by rfl) g8 #[.int .u64 z.id, .int .u32 z.mb, .int .i64 z.sd, .int .i64 z.ty, .int .i64 z.pr, .int .u64 z.qt] (by rfl) (by rfl) 35 _ ZX7.out infoI6 (by rfl) (by simp [Value.oneCell']) ?_
      obtain ⟨Y14, hY14⟩ : ∃ Y, X7.setRow g8 #[.int .u64 z.id, .int .u32 z.mb, .int .i64 z.sd, .int .i64 z.ty, .int .i64 z.pr, .int .u64 z.qt] = Y := ⟨_, rfl⟩
      have KY14 := hid (show Kp (fun j => j = g8) X7 Y14 from by rw [← hY14]; exact setRow_kp _ _ _)
      have AY14 := hid (show Y14.heap[g8]? = some (.cells #[.int .u64 z.id, .int .u32 z.mb, .int .i64 z.sd, .int .i64 z.ty, .int .i64 z.pr, .int .u64 z.qt] 35 (0, 0)) from by rw [← hY14]; exact setRow_heap X7 g8 _ _ 35 (0, 0) ZX7.out)
      have DY14 := hid (DX7.out.trans KY14.out (fun b hb e => absurd hb (by have := yg8; omega)))
      have r15 := hid (KY14.out.row r9.out (fun e => n12.symm e))
      have r16 := hid (KY14.out.row r10.out (fun e => n13.symm e))
      have e17 := hid (e11.out.kept KY14.out (fun e => by have := HPL.out B (.inl rfl); have := yg8; omega) (fun g hg e => by have := HPL.out g (.inr hg); have := yg8; omega))
      rw [hY14]
      refine hK.out _ _ ?_ (fun hHeld => ?_)
      · (try dsimp only); exact ⟨row_cell r15.out 0, row_cell r16.out 8⟩
      clear hK K hY14
      try simp only [List.getElem_toArray, List.getElem_cons_succ, List.getElem_cons_zero, Act.put, List.setIfInBounds_toArray, List.set_cons_zero, List.set_cons_succ]
      refine' wpAnyH_take (i := 12) (oi := _) (v := _) rfl (by kernel_rfl) (by kernel_rfl) (by kernel_rfl) (fun _ _ _ h => h) (Or.inl ⟨by kernel_rfl, ?_⟩) (by assumption) ?_
      rotate_left
      · (intro w hSw; (try dsimp only at hSw); go_simp; try (with_reducible rfl))
      try simp only [List.getElem_toArray, List.getElem_cons_succ, List.getElem_cons_zero, Act.put, List.setIfInBounds_toArray, List.set_cons_zero, List.set_cons_succ]
      refine wpAnyH_done (by kernel_rfl) ?_ _
      exact ⟨g8, by rfl, DY14, AY14, hid yg8, e17, r15, r16⟩
    · go_simp
      obtain ⟨X18, hX18⟩ : ∃ X, V1.alloc (.cells #[.int .u64 0, .int .u32 0, .int .i64 0, .int .i64 0, .int .i64 0, .int .u64 0] 35) = X := ⟨_, rfl⟩
      have bX18 : Below V1.heap.size V1 X18 := by rw [← hX18]; exact ball _ _
      have r20 := hid (row_on r2.out bX18)
      have r21 := hid (row_on r3.out bX18)
      have BWX18 := btr BV1.out bX18
      have DX18 := hid ((Kp.of (fun j => j = B ∨ OfP p1 j ∨ OfP p2 j) BV1.out).trans (Kp.of (fun j => j = B ∨ OfP p1 j ∨ OfP p2 j) bX18) (fun _ _ e => e))
      have zX18 : X18.heap[V1.heap.size]? = some (.cells #[.int .u64 0, .int .u32 0, .int .i64 0, .int .i64 0, .int .i64 0, .int .u64 0] 35 (0, 0)) := by rw [← hX18]; exact World.alloc_heap_new _ _
      have yg19 := BV1.out.size
      obtain ⟨g19, hg19⟩ : ∃ g, V1.heap.size = g := ⟨_, rfl⟩
      have n22 : g19 ≠ X := by have := row_lt r2.out; omega
      have n23 : g19 ≠ R := by have := row_lt r3.out; omega
      rw [hg19] at zX18 yg19
      have ZX18 := hid zX18
      rw [hX18, hg19]
      clear hX18 hg19 zX18 bX18
      refine hK.out _ _ ?_ (fun hHeld => ?_)
      · (try dsimp only); exact ⟨row_cell r20.out 0, row_cell r21.out 8⟩
      clear hK K
      try simp only [List.getElem_toArray, List.getElem_cons_succ, List.getElem_cons_zero, Act.put, List.setIfInBounds_toArray, List.set_cons_zero, List.set_cons_succ]
      refine wpAnyH_ready (rs := [6]) (by kernel_rfl) (by simp) ?_
      refine (AllReadyH.cons (o := _) rfl (fun K hK => ?_) AllReadyH.nil)
      go_simp
      go_at_call 12
      with_reducible refine (CA.out X18 (HP.out.cl.on BWX18)).mono ?_
      rintro e X24 ⟨rfl, CLn, KX24⟩
      have r25 := hid (KX24.out.row r20.out (nbX.out))
      have r26 := hid (KX24.out.row r21.out (nbR.out))
      have r27 := hid (KX24.out.row ZX18.out (fun e => by have := HPL.out _ e; have := yg19; omega))
      have DX24 := hid (DX18.out.trans KX24.out (fun _ _ e => e))
      (try go_wp2_with fail)
      refine hK.out _ _ ?_ (fun hHeld => ?_)
      · (try dsimp only); exact ⟨row_cell r25.out 0, row_cell r26.out 8⟩
      clear hK K
      try simp only [List.getElem_toArray, List.getElem_cons_succ, List.getElem_cons_zero, Act.put, List.setIfInBounds_toArray, List.set_cons_zero, List.set_cons_succ]
      refine' wpAnyH_take (i := 7) (oi := _) (v := _) rfl (by kernel_rfl) (by kernel_rfl) (by kernel_rfl) (fun _ _ _ h => h) (Or.inl ⟨by kernel_rfl, ?_⟩) (by assumption) ?_
      rotate_left
      · (intro w hSw; (try dsimp only at hSw); go_simp; try (with_reducible rfl))
      try simp only [List.getElem_toArray, List.getElem_cons_succ, List.getElem_cons_zero, Act.put, List.setIfInBounds_toArray, List.set_cons_zero, List.set_cons_succ]
      refine' wpAnyH_take (i := 8) (oi := _) (v := _) rfl (by kernel_rfl) (by kernel_rfl) (by kernel_rfl) (fun _ _ _ h => h) (Or.inl ⟨by kernel_rfl, ?_⟩) (by assumption) ?_
      rotate_left
      · (intro w hSw; (try dsimp only at hSw); go_simp; try (with_reducible rfl))
      try simp only [List.getElem_toArray, List.getElem_cons_succ, List.getElem_cons_zero, Act.put, List.setIfInBounds_toArray, List.set_cons_zero, List.set_cons_succ]
      refine' wpAnyH_take (i := 9) (oi := _) (v := _) rfl (by kernel_rfl) (by kernel_rfl) (by kernel_rfl) (fun _ _ _ h => h) (Or.inl ⟨by kernel_rfl, ?_⟩) (by assumption) ?_
      rotate_left
      · (intro w hSw; (try dsimp only at hSw); go_simp; try (with_reducible rfl))
      try simp only [List.getElem_toArray, List.getElem_cons_succ, List.getElem_cons_zero, Act.put, List.setIfInBounds_toArray, List.set_cons_zero, List.set_cons_succ]
      refine wpAnyH_ready (rs := [11]) (by kernel_rfl) (by simp) ?_
      refine (AllReadyH.cons (o := _) rfl (fun K hK => ?_) AllReadyH.nil)
      refine step_store_row (by rfl) 35 (.tmp 7) (.tmp 69) (by rfl) g19 #[.int .u64 z.id, .int .u32 z.mb, .int .i64 z.sd, .int .i64 z.ty, .int .i64 z.pr, .int .u64 z.qt] (by rfl) (by rfl) 35 _ r27.out infoI6 (by rfl) (by simp [Value.oneCell']) ?_
      obtain ⟨Y28, hY28⟩ : ∃ Y, X24.setRow g19 #[.int .u64 z.id, .int .u32 z.mb, .int .i64 z.sd, .int .i64 z.ty, .int .i64 z.pr, .int .u64 z.qt] = Y := ⟨_, rfl⟩
      have KY28 := hid (show Kp (fun j => j = g19) X24 Y28 from by rw [← hY28]; exact setRow_kp _ _ _)
      have AY28 := hid (show Y28.heap[g19]? = some (.cells #[.int .u64 z.id, .int .u32 z.mb, .int .i64 z.sd, .int .i64 z.ty, .int .i64 z.pr, .int .u64 z.qt] 35 (0, 0)) from by rw [← hY28]; exact setRow_heap X24 g19 _ _ 35 (0, 0) r27.out)
      have DY28 := hid (DX24.out.trans KY28.out (fun b hb e => absurd hb (by have := yg19; omega)))
      have r29 := hid (KY28.out.row r25.out (fun e => n22.symm e))
      have r30 := hid (KY28.out.row r26.out (fun e => n23.symm e))
      have e31 := hid (CLn.out.kept KY28.out (fun e => by have := HPL.out B (.inl rfl); have := yg19; omega) (fun g hg e => by have := HPL.out g (.inr hg); have := yg19; omega))
      rw [hY28]
      refine hK.out _ _ ?_ (fun hHeld => ?_)
      · (try dsimp only); exact ⟨row_cell r29.out 0, row_cell r30.out 8⟩
      clear hK K hY28
      try simp only [List.getElem_toArray, List.getElem_cons_succ, List.getElem_cons_zero, Act.put, List.setIfInBounds_toArray, List.set_cons_zero, List.set_cons_succ]
      refine' wpAnyH_take (i := 12) (oi := _) (v := _) rfl (by kernel_rfl) (by kernel_rfl) (by kernel_rfl) (fun _ _ _ h => h) (Or.inl ⟨by kernel_rfl, ?_⟩) (by assumption) ?_
      rotate_left
      · (intro w hSw; (try dsimp only at hSw); go_simp; try (with_reducible rfl))
      try simp only [List.getElem_toArray, List.getElem_cons_succ, List.getElem_cons_zero, Act.put, List.setIfInBounds_toArray, List.set_cons_zero, List.set_cons_succ]
      refine wpAnyH_done (by kernel_rfl) ?_ _
      exact ⟨g19, by rfl, DY28, AY28, hid yg19, e31, r29, r30⟩
  · rintro δ Y ⟨KY, HD, HDW, HCL, HXY, HRY⟩
    try simp only [List.getElem_toArray, List.getElem_cons_succ, List.getElem_cons_zero, Act.put, List.setIfInBounds_toArray, List.set_cons_zero, List.set_cons_succ]
    have HLY := hid (show Li Y pL cL L from HP.out.li.kept KY.out (fun g hg e => by
      rcases e with e | e
      · obtain ⟨cu, hc⟩ := HP.out.li.ty hg; subst e; exact row_ne hc HP.out.cl.row (by decide) rfl
      · exact HP.out.ap g e hg))
    go_upto_region 8 with fail
    refine reg_cut (X := Nat × Nat × Option Addr × Nat) (fun a t => ((((((((((((((a.put (some 72) (.pointer (some ⟨X, 0, none⟩))).put (some 73) (.pointer (some ⟨X, 0, none⟩))).put (some 74) (.pointer (some ⟨X, 1, none⟩))).put (some 75) (.agg #[.int .i64 r, .int .i64 m, .slice pL nL cL])).put (some 76) (.pointer (some ⟨R, 8, none⟩))).put (some 77) (.int .u64 id)).put (some 78) (.tuple #[.agg #[.int .i64 r, .int .i64 m, .slice t.2.2.1 n2 t.2.2.2], .agg #[.int .u64 z.id, .int .u32 z.mb, .int .i64 z.sd, .int .i64 z.ty, .int .i64 z.pr, .int .u64 z.qt], .bool b])).put (some 71) (.tuple #[.agg #[.int .i64 r, .int .i64 m, .slice t.2.2.1 n2 t.2.2.2], .agg #[.int .u64 z.id, .int .u32 z.mb, .int .i64 z.sd, .int .i64 z.ty, .int .i64 z.pr, .int .u64 z.qt], .bool b])).put (some 79) (.agg #[.int .i64 r, .int .i64 m, .slice t.2.2.1 n2 t.2.2.2])).put (some 80) (.agg #[.int .u64 z.id, .int .u32 z.mb, .int .i64 z.sd, .int .i64 z.ty, .int .i64 z.pr, .int .u64 z.qt])).put (some 81) (.bool b)).put (some 9) (.pointer (some ⟨t.1, 0, none⟩))).put (some 10) (.pointer (some ⟨t.2.1, 0, none⟩))).put (some 11) (.bool b))) (fun t V => Hid (Below Y.heap.size Y V) ∧ Hid (V.heap[t.1]? = some (.cells #[.int .i64 r, .int .i64 m, .slice t.2.2.1 n2 t.2.2.2] 29 (0, 0))) ∧ Hid (V.heap[t.2.1]? = some (.cells #[.int .u64 z.id, .int .u32 z.mb, .int .i64 z.sd, .int .i64 z.ty, .int .i64 z.pr, .int .u64 z.qt] 35 (0, 0))) ∧ Hid (Li V t.2.2.1 t.2.2.2 L2) ∧ Hid (∀ g, OfP t.2.2.1 g → OfP pL g ∨ Y.heap.size ≤ g)) ?_ ?_
    · obtain ⟨V32, hV32⟩ : ∃ U, Y.drew = U := ⟨_, rfl⟩
      have BV32 := hid (show Below Y.heap.size Y V32 from by rw [← hV32]; exact bdrew1 _)
      have r33 := hid (row_on HXY.out BV32.out)
      have r34 := hid (row_on HRY.out BV32.out)
      refine wp_region_held_drew (S := (fun U => U.cell? ⟨X, 1, none⟩ = some (.int .i64 r) ∧ U.cell? ⟨X, 2, none⟩ = some (.int .i64 m) ∧ U.cell? ⟨X, 3, none⟩ = some (.slice pL nL cL) ∧ U.cell? ⟨R, 8, none⟩ = some (.int .u64 id))) (by kernel_rfl) ?_ (fun hHeld => ?_)
      · (try dsimp only); rw [hV32]; exact ⟨row_cell r33.out 1, row_cell r33.out 2, row_cell r33.out 3, row_cell r34.out 8⟩
      rw [hV32] at hHeld ⊢
      clear hV32
      refine' wpAnyH_take (i := 0) (oi := _) (v := _) rfl (by kernel_rfl) (by kernel_rfl) (by kernel_rfl) (fun _ _ _ h => h) (Or.inl ⟨by kernel_rfl, ?_⟩) (by assumption) ?_
      rotate_left
      · (intro w hSw; (try dsimp only at hSw); go_simp; try (with_reducible rfl))
      try simp only [List.getElem_toArray, List.getElem_cons_succ, List.getElem_cons_zero, Act.put, List.setIfInBounds_toArray, List.set_cons_zero, List.set_cons_succ]
      refine' wpAnyH_take (i := 1) (oi := _) (v := _) rfl (by kernel_rfl) (by kernel_rfl) (by kernel_rfl) (fun _ _ _ h => h) (Or.inl ⟨by kernel_rfl, ?_⟩) (by assumption) ?_
      rotate_left
      · (intro w hSw; (try dsimp only at hSw); go_simp; try (with_reducible rfl))
      try simp only [List.getElem_toArray, List.getElem_cons_succ, List.getElem_cons_zero, Act.put, List.setIfInBounds_toArray, List.set_cons_zero, List.set_cons_succ]
      refine' wpAnyH_take (i := 2) (oi := _) (v := _) rfl (by kernel_rfl) (by kernel_rfl) (by kernel_rfl) (fun _ _ _ h => h) (Or.inl ⟨by kernel_rfl, ?_⟩) (by assumption) ?_
      rotate_left
      · (intro w hSw; (try dsimp only at hSw); go_simp; try (with_reducible rfl))
      try simp only [List.getElem_toArray, List.getElem_cons_succ, List.getElem_cons_zero, Act.put, List.setIfInBounds_toArray, List.set_cons_zero, List.set_cons_succ]
      refine' wpAnyH_take (i := 3) (oi := _) (v := _) rfl (by kernel_rfl) (by kernel_rfl) (by kernel_rfl) (fun _ _ _ h => h) (Or.inl ⟨by kernel_rfl, ?_⟩) (by assumption) ?_
      rotate_left
      · (intro w hSw; (try dsimp only at hSw); go_simp; try (with_reducible rfl))
      try simp only [List.getElem_toArray, List.getElem_cons_succ, List.getElem_cons_zero, Act.put, List.setIfInBounds_toArray, List.set_cons_zero, List.set_cons_succ]
      refine' wpAnyH_take (i := 4) (oi := _) (v := _) rfl (by kernel_rfl) (by kernel_rfl) (by kernel_rfl) (fun _ _ _ h => h) (Or.inl ⟨by kernel_rfl, ?_⟩) (by assumption) ?_
      rotate_left
      · (intro w hSw; (try dsimp only at hSw); go_simp; try (with_reducible rfl))
      try simp only [List.getElem_toArray, List.getElem_cons_succ, List.getElem_cons_zero, Act.put, List.setIfInBounds_toArray, List.set_cons_zero, List.set_cons_succ]
      refine' wpAnyH_take (i := 5) (oi := _) (v := _) rfl (by kernel_rfl) (by kernel_rfl) (by kernel_rfl) (fun _ _ _ h => h) (Or.inl ⟨by kernel_rfl, ?_⟩) (by assumption) ?_
      rotate_left
      · (intro w hSw; (try dsimp only at hSw); go_simp; try (with_reducible rfl))
      try simp only [List.getElem_toArray, List.getElem_cons_succ, List.getElem_cons_zero, Act.put, List.setIfInBounds_toArray, List.set_cons_zero, List.set_cons_succ]
      refine wpAnyH_ready (rs := [6, 11, 12]) (by kernel_rfl) (by simp) ?_
      refine (AllReadyH.cons (o := _) rfl (fun K hK => ?_) (AllReadyH.cons (o := _) rfl (fun K hK => ?_) (AllReadyH.cons (o := _) rfl (fun K hK => ?_) AllReadyH.nil)))
      · go_simp
        go_at_call 13
        with_reducible refine (CB.out V32 (HLY.out.on BV32.out)).mono ?_
        rintro e X35 ⟨p', c', rfl, LIn, DbX35, FRE⟩
        have FRW := hid (show ∀ g, OfP p' g → OfP pL g ∨ Y.heap.size ≤ g from fun g hg => (FRE.out g hg).imp _root_.id (fun e => Nat.le_trans BV32.out.size e))
        have r36 := hid (row_on r33.out DbX35.out)
        have r37 := hid (row_on r34.out DbX35.out)
        have DX35 := hid (btr BV32.out DbX35.out)
        have UX35 := hid (BV32.out.size)
        (try go_wp2_with fail)
        refine hK.out _ _ ?_ (fun hHeld => ?_)
        · (try dsimp only); exact ⟨row_cell r36.out 1, row_cell r36.out 2, row_cell r36.out 3, row_cell r37.out 8⟩
        clear hK K
        try simp only [List.getElem_toArray, List.getElem_cons_succ, List.getElem_cons_zero, Act.put, List.setIfInBounds_toArray, List.set_cons_zero, List.set_cons_succ]
        refine' wpAnyH_take (i := 7) (oi := _) (v := _) rfl (by kernel_rfl) (by kernel_rfl) (by kernel_rfl) (fun _ _ _ h => h) (Or.inl ⟨by kernel_rfl, ?_⟩) (by assumption) ?_
        rotate_left
        · (intro w hSw; (try dsimp only at hSw); go_simp; try (with_reducible rfl))
        try simp only [List.getElem_toArray, List.getElem_cons_succ, List.getElem_cons_zero, Act.put, List.setIfInBounds_toArray, List.set_cons_zero, List.set_cons_succ]
        refine' wpAnyH_take (i := 8) (oi := _) (v := _) rfl (by kernel_rfl) (by kernel_rfl) (by kernel_rfl) (fun _ _ _ h => h) (Or.inl ⟨by kernel_rfl, ?_⟩) (by assumption) ?_
        rotate_left
        · (intro w hSw; (try dsimp only at hSw); go_simp; try (with_reducible rfl))
        try simp only [List.getElem_toArray, List.getElem_cons_succ, List.getElem_cons_zero, Act.put, List.setIfInBounds_toArray, List.set_cons_zero, List.set_cons_succ]
        refine' wpAnyH_take (i := 9) (oi := _) (v := _) rfl (by kernel_rfl) (by kernel_rfl) (by kernel_rfl) (fun _ _ _ h => h) (Or.inl ⟨by kernel_rfl, ?_⟩) (by assumption) ?_
        rotate_left
        · (intro w hSw; (try dsimp only at hSw); go_simp; try (with_reducible rfl))
        try simp only [List.getElem_toArray, List.getElem_cons_succ, List.getElem_cons_zero, Act.put, List.setIfInBounds_toArray, List.set_cons_zero, List.set_cons_succ]
        refine' wpAnyH_take (i := 10) (oi := _) (v := _) rfl (by kernel_rfl) (by kernel_rfl) (by kernel_rfl) (fun _ _ _ h => h) (Or.inl ⟨by kernel_rfl, ?_⟩) (by assumption) ?_
        rotate_left
        · (intro w hSw; (try dsimp only at hSw); go_simp; try (with_reducible rfl))
        try simp only [List.getElem_toArray, List.getElem_cons_succ, List.getElem_cons_zero, Act.put, List.setIfInBounds_toArray, List.set_cons_zero, List.set_cons_succ]
        refine wpAnyH_ready (rs := [11, 12]) (by kernel_rfl) (by simp) ?_
        refine (AllReadyH.cons (o := _) rfl (fun K hK => ?_) (AllReadyH.cons (o := _) rfl (fun K hK => ?_) AllReadyH.nil))
        · go_simp
          obtain ⟨X38, hX38⟩ : ∃ X, X35.alloc (.cells #[.int .i64 0, .int .i64 0, .slice none 0 0] 29) = X := ⟨_, rfl⟩
          have bX38 : Below X35.heap.size X35 X38 := by rw [← hX38]; exact ball _ _
          have r40 := hid (row_on r36.out bX38)
          have r41 := hid (row_on r37.out bX38)
          have e42 := hid (LIn.out.on bX38)
          have DX38 := hid (btr DX35.out bX38)
          have zX38 : X38.heap[X35.heap.size]? = some (.cells #[.int .i64 0, .int .i64 0, .slice none 0 0] 29 (0, 0)) := by rw [← hX38]; exact World.alloc_heap_new _ _
          have yg39 := DX35.out.size
          obtain ⟨g39, hg39⟩ : ∃ g, X35.heap.size = g := ⟨_, rfl⟩
          have n43 : g39 ≠ X := by have := row_lt r36.out; omega
          have n44 : g39 ≠ R := by have := row_lt r37.out; omega
          rw [hg39] at zX38 yg39
          have ZX38 := hid zX38
          rw [hX38, hg39]
          clear hX38 hg39 zX38 bX38
          refine hK.out _ _ ?_ (fun hHeld => ?_)
          · (try dsimp only); exact ⟨row_cell r40.out 1, row_cell r40.out 2, row_cell r40.out 3, row_cell r41.out 8⟩
          clear hK K
          try simp only [List.getElem_toArray, List.getElem_cons_succ, List.getElem_cons_zero, Act.put, List.setIfInBounds_toArray, List.set_cons_zero, List.set_cons_succ]
          refine wpAnyH_ready (rs := [12]) (by kernel_rfl) (by simp) ?_
          refine (AllReadyH.cons (o := _) rfl (fun K hK => ?_) AllReadyH.nil)
          go_simp
          obtain ⟨X45, hX45⟩ : ∃ X, X38.alloc (.cells #[.int .u64 0, .int .u32 0, .int .i64 0, .int .i64 0, .int .i64 0, .int .u64 0] 35) = X := ⟨_, rfl⟩
          have bX45 : Below X38.heap.size X38 X45 := by rw [← hX45]; exact ball _ _
          have r47 := hid (row_on r40.out bX45)
          have r48 := hid (row_on r41.out bX45)
          have r49 := hid (row_on ZX38.out bX45)
          have e50 := hid (e42.out.on bX45)
          have DX45 := hid (btr DX38.out bX45)
          have zX45 : X45.heap[X38.heap.size]? = some (.cells #[.int .u64 0, .int .u32 0, .int .i64 0, .int .i64 0, .int .i64 0, .int .u64 0] 35 (0, 0)) := by rw [← hX45]; exact World.alloc_heap_new _ _
          have yg46 := DX38.out.size
          obtain ⟨g46, hg46⟩ : ∃ g, X38.heap.size = g := ⟨_, rfl⟩
          have n51 : g46 ≠ X := by have := row_lt r40.out; omega
          have n52 : g46 ≠ R := by have := row_lt r41.out; omega
          have n53 : g46 ≠ g39 := by have := row_lt ZX38.out; omega
          have NLD : ∀ q, OfP p' q → q ≠ g46 := fun q hq e => by obtain ⟨cu, hc⟩ := e42.out.ty hq; have := row_lt hc; omega
          rw [hg46] at zX45 yg46
          have ZX45 := hid zX45
          rw [hX45, hg46]
          clear hX45 hg46 zX45 bX45
          refine hK.out _ _ ?_ (fun hHeld => ?_)
          · (try dsimp only); exact ⟨row_cell r47.out 1, row_cell r47.out 2, row_cell r47.out 3, row_cell r48.out 8⟩
          clear hK K
          try simp only [List.getElem_toArray, List.getElem_cons_succ, List.getElem_cons_zero, Act.put, List.setIfInBounds_toArray, List.set_cons_zero, List.set_cons_succ]
          refine wpAnyH_ready (rs := [13]) (by kernel_rfl) (by simp) ?_
          refine (AllReadyH.cons (o := _) rfl (fun K hK => ?_) AllReadyH.nil)
          refine step_store_row (by rfl) 29 (.tmp 9) (.tmp 79) (by rfl) g39 #[.int .i64 r, .int .i64 m, .slice p' n2 c'] (by rfl) (by rfl) 29 _ r49.out infoRc (by rfl) (by simp [Value.oneCell']) ?_
          obtain ⟨Y54, hY54⟩ : ∃ Y, X45.setRow g39 #[.int .i64 r, .int .i64 m, .slice p' n2 c'] = Y := ⟨_, rfl⟩
          have KY54 := hid (show Kp (fun j => j = g39) X45 Y54 from by rw [← hY54]; exact setRow_kp _ _ _)
          have AY54 := hid (show Y54.heap[g39]? = some (.cells #[.int .i64 r, .int .i64 m, .slice p' n2 c'] 29 (0, 0)) from by rw [← hY54]; exact setRow_heap X45 g39 _ _ 29 (0, 0) r49.out)
          have DY54 := hid (show Below Y.heap.size Y Y54 from by rw [← hY54]; exact setRow_below DX45.out yg39)
          have r55 := hid (KY54.out.row r47.out (fun e => n43.symm e))
          have r56 := hid (KY54.out.row r48.out (fun e => n44.symm e))
          have r57 := hid (KY54.out.row ZX45.out (fun e => n53 e))
          have e58 := hid (e50.out.kept KY54.out (fun g hg e => by obtain ⟨cu, hc⟩ := e50.out.ty hg; exact row_ne hc r49.out (by decide) e))
          rw [hY54]
          refine hK.out _ _ ?_ (fun hHeld => ?_)
          · (try dsimp only); exact ⟨row_cell r55.out 1, row_cell r55.out 2, row_cell r55.out 3, row_cell r56.out 8⟩
          clear hK K hY54
          try simp only [List.getElem_toArray, List.getElem_cons_succ, List.getElem_cons_zero, Act.put, List.setIfInBounds_toArray, List.set_cons_zero, List.set_cons_succ]
          refine wpAnyH_ready (rs := [14]) (by kernel_rfl) (by simp) ?_
          refine (AllReadyH.cons (o := _) rfl (fun K hK => ?_) AllReadyH.nil)
          refine step_store_row (by rfl) 35 (.tmp 10) (.tmp 80) (by rfl) g46 #[.int .u64 z.id, .int .u32 z.mb, .int .i64 z.sd, .int .i64 z.ty, .int .i64 z.pr, .int .u64 z.qt] (by rfl) (by rfl) 35 _ r57.out infoI6 (by rfl) (by simp [Value.oneCell']) ?_
          obtain ⟨Y59, hY59⟩ : ∃ Y, Y54.setRow g46 #[.int .u64 z.id, .int .u32 z.mb, .int .i64 z.sd, .int .i64 z.ty, .int .i64 z.pr, .int .u64 z.qt] = Y := ⟨_, rfl⟩
          have KY59 := hid (show Kp (fun j => j = g46) Y54 Y59 from by rw [← hY59]; exact setRow_kp _ _ _)
          have AY59 := hid (show Y59.heap[g46]? = some (.cells #[.int .u64 z.id, .int .u32 z.mb, .int .i64 z.sd, .int .i64 z.ty, .int .i64 z.pr, .int .u64 z.qt] 35 (0, 0)) from by rw [← hY59]; exact setRow_heap Y54 g46 _ _ 35 (0, 0) r57.out)
          have DY59 := hid (show Below Y.heap.size Y Y59 from by rw [← hY59]; exact setRow_below DY54.out yg46)
          have r60 := hid (KY59.out.row r55.out (fun e => n51.symm e))
          have r61 := hid (KY59.out.row r56.out (fun e => n52.symm e))
          have r62 := hid (KY59.out.row AY54.out (fun e => n53.symm e))
          have e63 := hid (e58.out.kept KY59.out (fun g hg e => NLD g hg e))
          rw [hY59]
          refine hK.out _ _ ?_ (fun hHeld => ?_)
          · (try dsimp only); exact ⟨row_cell r60.out 1, row_cell r60.out 2, row_cell r60.out 3, row_cell r61.out 8⟩
          clear hK K hY59
          try simp only [List.getElem_toArray, List.getElem_cons_succ, List.getElem_cons_zero, Act.put, List.setIfInBounds_toArray, List.set_cons_zero, List.set_cons_succ]
          refine' wpAnyH_take (i := 15) (oi := _) (v := _) rfl (by kernel_rfl) (by kernel_rfl) (by kernel_rfl) (fun _ _ _ h => h) (Or.inl ⟨by kernel_rfl, ?_⟩) (by assumption) ?_
          rotate_left
          · (intro w hSw; (try dsimp only at hSw); go_simp; try (with_reducible rfl))
          try simp only [List.getElem_toArray, List.getElem_cons_succ, List.getElem_cons_zero, Act.put, List.setIfInBounds_toArray, List.set_cons_zero, List.set_cons_succ]
          refine wpAnyH_done (by kernel_rfl) ?_ _
          exact ⟨(g39, g46, p', c'), by rfl, DY59, r62, AY59, e63, FRW⟩
        · go_simp
          obtain ⟨X64, hX64⟩ : ∃ X, X35.alloc (.cells #[.int .u64 0, .int .u32 0, .int .i64 0, .int .i64 0, .int .i64 0, .int .u64 0] 35) = X := ⟨_, rfl⟩
          have bX64 : Below X35.heap.size X35 X64 := by rw [← hX64]; exact ball _ _
          have r66 := hid (row_on r36.out bX64)
          have r67 := hid (row_on r37.out bX64)
          have e68 := hid (LIn.out.on bX64)
          have DX64 := hid (btr DX35.out bX64)
          have zX64 : X64.heap[X35.heap.size]? = some (.cells #[.int .u64 0, .int .u32 0, .int .i64 0, .int .i64 0, .int .i64 0, .int .u64 0] 35 (0, 0)) := by rw [← hX64]; exact World.alloc_heap_new _ _
          have yg65 := DX35.out.size
          obtain ⟨g65, hg65⟩ : ∃ g, X35.heap.size = g := ⟨_, rfl⟩
          have n69 : g65 ≠ X := by have := row_lt r36.out; omega
          have n70 : g65 ≠ R := by have := row_lt r37.out; omega
          have NLD : ∀ q, OfP p' q → q ≠ g65 := fun q hq e => by obtain ⟨cu, hc⟩ := LIn.out.ty hq; have := row_lt hc; omega
          rw [hg65] at zX64 yg65
          have ZX64 := hid zX64
          rw [hX64, hg65]
          clear hX64 hg65 zX64 bX64
          refine hK.out _ _ ?_ (fun hHeld => ?_)
          · (try dsimp only); exact ⟨row_cell r66.out 1, row_cell r66.out 2, row_cell r66.out 3, row_cell r67.out 8⟩
          clear hK K
          try simp only [List.getElem_toArray, List.getElem_cons_succ, List.getElem_cons_zero, Act.put, List.setIfInBounds_toArray, List.set_cons_zero, List.set_cons_succ]
          refine wpAnyH_ready (rs := [11]) (by kernel_rfl) (by simp) ?_
          refine (AllReadyH.cons (o := _) rfl (fun K hK => ?_) AllReadyH.nil)
          go_simp
          obtain ⟨X71, hX71⟩ : ∃ X, X64.alloc (.cells #[.int .i64 0, .int .i64 0, .slice none 0 0] 29) = X := ⟨_, rfl⟩
          have bX71 : Below X64.heap.size X64 X71 := by rw [← hX71]; exact ball _ _
          have r73 := hid (row_on r66.out bX71)
          have r74 := hid (row_on r67.out bX71)
          have r75 := hid (row_on ZX64.out bX71)
          have e76 := hid (e68.out.on bX71)
          have DX71 := hid (btr DX64.out bX71)
          have zX71 : X71.heap[X64.heap.size]? = some (.cells #[.int .i64 0, .int .i64 0, .slice none 0 0] 29 (0, 0)) := by rw [← hX71]; exact World.alloc_heap_new _ _
          have yg72 := DX64.out.size
          obtain ⟨g72, hg72⟩ : ∃ g, X64.heap.size = g := ⟨_, rfl⟩
          have n77 : g72 ≠ X := by have := row_lt r66.out; omega
          have n78 : g72 ≠ R := by have := row_lt r67.out; omega
          have n79 : g72 ≠ g65 := by have := row_lt ZX64.out; omega
          rw [hg72] at zX71 yg72
          have ZX71 := hid zX71
          rw [hX71, hg72]
          clear hX71 hg72 zX71 bX71
          refine hK.out _ _ ?_ (fun hHeld => ?_)
          · (try dsimp only); exact ⟨row_cell r73.out 1, row_cell r73.out 2, row_cell r73.out 3, row_cell r74.out 8⟩
          clear hK K
          try simp only [List.getElem_toArray, List.getElem_cons_succ, List.getElem_cons_zero, Act.put, List.setIfInBounds_toArray, List.set_cons_zero, List.set_cons_succ]
          refine wpAnyH_ready (rs := [13]) (by kernel_rfl) (by simp) ?_
          refine (AllReadyH.cons (o := _) rfl (fun K hK => ?_) AllReadyH.nil)
          refine step_store_row (by rfl) 29 (.tmp 9) (.tmp 79) (by rfl) g72 #[.int .i64 r, .int .i64 m, .slice p' n2 c'] (by rfl) (by rfl) 29 _ ZX71.out infoRc (by rfl) (by simp [Value.oneCell']) ?_
          obtain ⟨Y80, hY80⟩ : ∃ Y, X71.setRow g72 #[.int .i64 r, .int .i64 m, .slice p' n2 c'] = Y := ⟨_, rfl⟩
          have KY80 := hid (show Kp (fun j => j = g72) X71 Y80 from by rw [← hY80]; exact setRow_kp _ _ _)
          have AY80 := hid (show Y80.heap[g72]? = some (.cells #[.int .i64 r, .int .i64 m, .slice p' n2 c'] 29 (0, 0)) from by rw [← hY80]; exact setRow_heap X71 g72 _ _ 29 (0, 0) ZX71.out)
          have DY80 := hid (show Below Y.heap.size Y Y80 from by rw [← hY80]; exact setRow_below DX71.out yg72)
          have r81 := hid (KY80.out.row r73.out (fun e => n77.symm e))
          have r82 := hid (KY80.out.row r74.out (fun e => n78.symm e))
          have r83 := hid (KY80.out.row r75.out (fun e => n79.symm e))
          have e84 := hid (e76.out.kept KY80.out (fun g hg e => by obtain ⟨cu, hc⟩ := e76.out.ty hg; exact row_ne hc ZX71.out (by decide) e))
          rw [hY80]
          refine hK.out _ _ ?_ (fun hHeld => ?_)
          · (try dsimp only); exact ⟨row_cell r81.out 1, row_cell r81.out 2, row_cell r81.out 3, row_cell r82.out 8⟩
          clear hK K hY80
          try simp only [List.getElem_toArray, List.getElem_cons_succ, List.getElem_cons_zero, Act.put, List.setIfInBounds_toArray, List.set_cons_zero, List.set_cons_succ]
          refine wpAnyH_ready (rs := [14]) (by kernel_rfl) (by simp) ?_
          refine (AllReadyH.cons (o := _) rfl (fun K hK => ?_) AllReadyH.nil)
          refine step_store_row (by rfl) 35 (.tmp 10) (.tmp 80) (by rfl) g65 #[.int .u64 z.id, .int .u32 z.mb, .int .i64 z.sd, .int .i64 z.ty, .int .i64 z.pr, .int .u64 z.qt] (by rfl) (by rfl) 35 _ r83.out infoI6 (by rfl) (by simp [Value.oneCell']) ?_
          obtain ⟨Y85, hY85⟩ : ∃ Y, Y80.setRow g65 #[.int .u64 z.id, .int .u32 z.mb, .int .i64 z.sd, .int .i64 z.ty, .int .i64 z.pr, .int .u64 z.qt] = Y := ⟨_, rfl⟩
          have KY85 := hid (show Kp (fun j => j = g65) Y80 Y85 from by rw [← hY85]; exact setRow_kp _ _ _)
          have AY85 := hid (show Y85.heap[g65]? = some (.cells #[.int .u64 z.id, .int .u32 z.mb, .int .i64 z.sd, .int .i64 z.ty, .int .i64 z.pr, .int .u64 z.qt] 35 (0, 0)) from by rw [← hY85]; exact setRow_heap Y80 g65 _ _ 35 (0, 0) r83.out)
          have DY85 := hid (show Below Y.heap.size Y Y85 from by rw [← hY85]; exact setRow_below DY80.out yg65)
          have r86 := hid (KY85.out.row r81.out (fun e => n69.symm e))
          have r87 := hid (KY85.out.row r82.out (fun e => n70.symm e))
          have r88 := hid (KY85.out.row AY80.out (fun e => n79 e))
          have e89 := hid (e84.out.kept KY85.out (fun g hg e => NLD g hg e))
          rw [hY85]
          refine hK.out _ _ ?_ (fun hHeld => ?_)
          · (try dsimp only); exact ⟨row_cell r86.out 1, row_cell r86.out 2, row_cell r86.out 3, row_cell r87.out 8⟩
          clear hK K hY85
          try simp only [List.getElem_toArray, List.getElem_cons_succ, List.getElem_cons_zero, Act.put, List.setIfInBounds_toArray, List.set_cons_zero, List.set_cons_succ]
          refine' wpAnyH_take (i := 15) (oi := _) (v := _) rfl (by kernel_rfl) (by kernel_rfl) (by kernel_rfl) (fun _ _ _ h => h) (Or.inl ⟨by kernel_rfl, ?_⟩) (by assumption) ?_
          rotate_left
          · (intro w hSw; (try dsimp only at hSw); go_simp; try (with_reducible rfl))
          try simp only [List.getElem_toArray, List.getElem_cons_succ, List.getElem_cons_zero, Act.put, List.setIfInBounds_toArray, List.set_cons_zero, List.set_cons_succ]
          refine wpAnyH_done (by kernel_rfl) ?_ _
          exact ⟨(g72, g65, p', c'), by rfl, DY85, r88, AY85, e89, FRW⟩
      · go_simp
        obtain ⟨X90, hX90⟩ : ∃ X, V32.alloc (.cells #[.int .i64 0, .int .i64 0, .slice none 0 0] 29) = X := ⟨_, rfl⟩
        have bX90 : Below V32.heap.size V32 X90 := by rw [← hX90]; exact ball _ _
        have r92 := hid (row_on r33.out bX90)
        have r93 := hid (row_on r34.out bX90)
        have DX90 := hid (btr BV32.out bX90)
        have zX90 : X90.heap[V32.heap.size]? = some (.cells #[.int .i64 0, .int .i64 0, .slice none 0 0] 29 (0, 0)) := by rw [← hX90]; exact World.alloc_heap_new _ _
        have yg91 := BV32.out.size
        obtain ⟨g91, hg91⟩ : ∃ g, V32.heap.size = g := ⟨_, rfl⟩
        have n94 : g91 ≠ X := by have := row_lt r33.out; omega
        have n95 : g91 ≠ R := by have := row_lt r34.out; omega
        rw [hg91] at zX90 yg91
        have ZX90 := hid zX90
        rw [hX90, hg91]
        clear hX90 hg91 zX90 bX90
        refine hK.out _ _ ?_ (fun hHeld => ?_)
        · (try dsimp only); exact ⟨row_cell r92.out 1, row_cell r92.out 2, row_cell r92.out 3, row_cell r93.out 8⟩
        clear hK K
        try simp only [List.getElem_toArray, List.getElem_cons_succ, List.getElem_cons_zero, Act.put, List.setIfInBounds_toArray, List.set_cons_zero, List.set_cons_succ]
        refine wpAnyH_ready (rs := [6, 12]) (by kernel_rfl) (by simp) ?_
        refine (AllReadyH.cons (o := _) rfl (fun K hK => ?_) (AllReadyH.cons (o := _) rfl (fun K hK => ?_) AllReadyH.nil))
        · go_simp
          go_at_call 13
          with_reducible refine (CB.out X90 (HLY.out.on DX90.out)).mono ?_
          rintro e X96 ⟨p', c', rfl, LIn, DbX96, FRE⟩
          have FRW := hid (show ∀ g, OfP p' g → OfP pL g ∨ Y.heap.size ≤ g from fun g hg => (FRE.out g hg).imp _root_.id (fun e => Nat.le_trans DX90.out.size e))
          have r97 := hid (row_on r92.out DbX96.out)
          have r98 := hid (row_on r93.out DbX96.out)
          have r99 := hid (row_on ZX90.out DbX96.out)
          have DX96 := hid (btr DX90.out DbX96.out)
          have UX96 := hid (DX90.out.size)
          (try go_wp2_with fail)
          refine hK.out _ _ ?_ (fun hHeld => ?_)
          · (try dsimp only); exact ⟨row_cell r97.out 1, row_cell r97.out 2, row_cell r97.out 3, row_cell r98.out 8⟩
          clear hK K
          try simp only [List.getElem_toArray, List.getElem_cons_succ, List.getElem_cons_zero, Act.put, List.setIfInBounds_toArray, List.set_cons_zero, List.set_cons_succ]
          refine' wpAnyH_take (i := 7) (oi := _) (v := _) rfl (by kernel_rfl) (by kernel_rfl) (by kernel_rfl) (fun _ _ _ h => h) (Or.inl ⟨by kernel_rfl, ?_⟩) (by assumption) ?_
          rotate_left
          · (intro w hSw; (try dsimp only at hSw); go_simp; try (with_reducible rfl))
          try simp only [List.getElem_toArray, List.getElem_cons_succ, List.getElem_cons_zero, Act.put, List.setIfInBounds_toArray, List.set_cons_zero, List.set_cons_succ]
          refine' wpAnyH_take (i := 8) (oi := _) (v := _) rfl (by kernel_rfl) (by kernel_rfl) (by kernel_rfl) (fun _ _ _ h => h) (Or.inl ⟨by kernel_rfl, ?_⟩) (by assumption) ?_
          rotate_left
          · (intro w hSw; (try dsimp only at hSw); go_simp; try (with_reducible rfl))
          try simp only [List.getElem_toArray, List.getElem_cons_succ, List.getElem_cons_zero, Act.put, List.setIfInBounds_toArray, List.set_cons_zero, List.set_cons_succ]
          refine' wpAnyH_take (i := 9) (oi := _) (v := _) rfl (by kernel_rfl) (by kernel_rfl) (by kernel_rfl) (fun _ _ _ h => h) (Or.inl ⟨by kernel_rfl, ?_⟩) (by assumption) ?_
          rotate_left
          · (intro w hSw; (try dsimp only at hSw); go_simp; try (with_reducible rfl))
          try simp only [List.getElem_toArray, List.getElem_cons_succ, List.getElem_cons_zero, Act.put, List.setIfInBounds_toArray, List.set_cons_zero, List.set_cons_succ]
          refine' wpAnyH_take (i := 10) (oi := _) (v := _) rfl (by kernel_rfl) (by kernel_rfl) (by kernel_rfl) (fun _ _ _ h => h) (Or.inl ⟨by kernel_rfl, ?_⟩) (by assumption) ?_
          rotate_left
          · (intro w hSw; (try dsimp only at hSw); go_simp; try (with_reducible rfl))
          try simp only [List.getElem_toArray, List.getElem_cons_succ, List.getElem_cons_zero, Act.put, List.setIfInBounds_toArray, List.set_cons_zero, List.set_cons_succ]
          refine wpAnyH_ready (rs := [12]) (by kernel_rfl) (by simp) ?_
          refine (AllReadyH.cons (o := _) rfl (fun K hK => ?_) AllReadyH.nil)
          go_simp
          obtain ⟨X100, hX100⟩ : ∃ X, X96.alloc (.cells #[.int .u64 0, .int .u32 0, .int .i64 0, .int .i64 0, .int .i64 0, .int .u64 0] 35) = X := ⟨_, rfl⟩
          have bX100 : Below X96.heap.size X96 X100 := by rw [← hX100]; exact ball _ _
          have r102 := hid (row_on r97.out bX100)
          have r103 := hid (row_on r98.out bX100)
          have r104 := hid (row_on r99.out bX100)
          have e105 := hid (LIn.out.on bX100)
          have DX100 := hid (btr DX96.out bX100)
          have zX100 : X100.heap[X96.heap.size]? = some (.cells #[.int .u64 0, .int .u32 0, .int .i64 0, .int .i64 0, .int .i64 0, .int .u64 0] 35 (0, 0)) := by rw [← hX100]; exact World.alloc_heap_new _ _
          have yg101 := DX96.out.size
          obtain ⟨g101, hg101⟩ : ∃ g, X96.heap.size = g := ⟨_, rfl⟩
          have n106 : g101 ≠ X := by have := row_lt r97.out; omega
          have n107 : g101 ≠ R := by have := row_lt r98.out; omega
          have n108 : g101 ≠ g91 := by have := row_lt r99.out; omega
          have NLD : ∀ q, OfP p' q → q ≠ g101 := fun q hq e => by obtain ⟨cu, hc⟩ := LIn.out.ty hq; have := row_lt hc; omega
          rw [hg101] at zX100 yg101
          have ZX100 := hid zX100
          rw [hX100, hg101]
          clear hX100 hg101 zX100 bX100
          refine hK.out _ _ ?_ (fun hHeld => ?_)
          · (try dsimp only); exact ⟨row_cell r102.out 1, row_cell r102.out 2, row_cell r102.out 3, row_cell r103.out 8⟩
          clear hK K
          try simp only [List.getElem_toArray, List.getElem_cons_succ, List.getElem_cons_zero, Act.put, List.setIfInBounds_toArray, List.set_cons_zero, List.set_cons_succ]
          refine wpAnyH_ready (rs := [13]) (by kernel_rfl) (by simp) ?_
          refine (AllReadyH.cons (o := _) rfl (fun K hK => ?_) AllReadyH.nil)
          refine step_store_row (by rfl) 29 (.tmp 9) (.tmp 79) (by rfl) g91 #[.int .i64 r, .int .i64 m, .slice p' n2 c'] (by rfl) (by rfl) 29 _ r104.out infoRc (by rfl) (by simp [Value.oneCell']) ?_
          obtain ⟨Y109, hY109⟩ : ∃ Y, X100.setRow g91 #[.int .i64 r, .int .i64 m, .slice p' n2 c'] = Y := ⟨_, rfl⟩
          have KY109 := hid (show Kp (fun j => j = g91) X100 Y109 from by rw [← hY109]; exact setRow_kp _ _ _)
          have AY109 := hid (show Y109.heap[g91]? = some (.cells #[.int .i64 r, .int .i64 m, .slice p' n2 c'] 29 (0, 0)) from by rw [← hY109]; exact setRow_heap X100 g91 _ _ 29 (0, 0) r104.out)
          have DY109 := hid (show Below Y.heap.size Y Y109 from by rw [← hY109]; exact setRow_below DX100.out yg91)
          have r110 := hid (KY109.out.row r102.out (fun e => n94.symm e))
          have r111 := hid (KY109.out.row r103.out (fun e => n95.symm e))
          have r112 := hid (KY109.out.row ZX100.out (fun e => n108 e))
          have e113 := hid (e105.out.kept KY109.out (fun g hg e => by obtain ⟨cu, hc⟩ := e105.out.ty hg; exact row_ne hc r104.out (by decide) e))
          rw [hY109]
          refine hK.out _ _ ?_ (fun hHeld => ?_)
          · (try dsimp only); exact ⟨row_cell r110.out 1, row_cell r110.out 2, row_cell r110.out 3, row_cell r111.out 8⟩
          clear hK K hY109
          try simp only [List.getElem_toArray, List.getElem_cons_succ, List.getElem_cons_zero, Act.put, List.setIfInBounds_toArray, List.set_cons_zero, List.set_cons_succ]
          refine wpAnyH_ready (rs := [14]) (by kernel_rfl) (by simp) ?_
          refine (AllReadyH.cons (o := _) rfl (fun K hK => ?_) AllReadyH.nil)
          refine step_store_row (by rfl) 35 (.tmp 10) (.tmp 80) (by rfl) g101 #[.int .u64 z.id, .int .u32 z.mb, .int .i64 z.sd, .int .i64 z.ty, .int .i64 z.pr, .int .u64 z.qt] (by rfl) (by rfl) 35 _ r112.out infoI6 (by rfl) (by simp [Value.oneCell']) ?_
          obtain ⟨Y114, hY114⟩ : ∃ Y, Y109.setRow g101 #[.int .u64 z.id, .int .u32 z.mb, .int .i64 z.sd, .int .i64 z.ty, .int .i64 z.pr, .int .u64 z.qt] = Y := ⟨_, rfl⟩
          have KY114 := hid (show Kp (fun j => j = g101) Y109 Y114 from by rw [← hY114]; exact setRow_kp _ _ _)
          have AY114 := hid (show Y114.heap[g101]? = some (.cells #[.int .u64 z.id, .int .u32 z.mb, .int .i64 z.sd, .int .i64 z.ty, .int .i64 z.pr, .int .u64 z.qt] 35 (0, 0)) from by rw [← hY114]; exact setRow_heap Y109 g101 _ _ 35 (0, 0) r112.out)
          have DY114 := hid (show Below Y.heap.size Y Y114 from by rw [← hY114]; exact setRow_below DY109.out yg101)
          have r115 := hid (KY114.out.row r110.out (fun e => n106.symm e))
          have r116 := hid (KY114.out.row r111.out (fun e => n107.symm e))
          have r117 := hid (KY114.out.row AY109.out (fun e => n108.symm e))
          have e118 := hid (e113.out.kept KY114.out (fun g hg e => NLD g hg e))
          rw [hY114]
          refine hK.out _ _ ?_ (fun hHeld => ?_)
          · (try dsimp only); exact ⟨row_cell r115.out 1, row_cell r115.out 2, row_cell r115.out 3, row_cell r116.out 8⟩
          clear hK K hY114
          try simp only [List.getElem_toArray, List.getElem_cons_succ, List.getElem_cons_zero, Act.put, List.setIfInBounds_toArray, List.set_cons_zero, List.set_cons_succ]
          refine' wpAnyH_take (i := 15) (oi := _) (v := _) rfl (by kernel_rfl) (by kernel_rfl) (by kernel_rfl) (fun _ _ _ h => h) (Or.inl ⟨by kernel_rfl, ?_⟩) (by assumption) ?_
          rotate_left
          · (intro w hSw; (try dsimp only at hSw); go_simp; try (with_reducible rfl))
          try simp only [List.getElem_toArray, List.getElem_cons_succ, List.getElem_cons_zero, Act.put, List.setIfInBounds_toArray, List.set_cons_zero, List.set_cons_succ]
          refine wpAnyH_done (by kernel_rfl) ?_ _
          exact ⟨(g91, g101, p', c'), by rfl, DY114, r117, AY114, e118, FRW⟩
        · go_simp
          obtain ⟨X119, hX119⟩ : ∃ X, X90.alloc (.cells #[.int .u64 0, .int .u32 0, .int .i64 0, .int .i64 0, .int .i64 0, .int .u64 0] 35) = X := ⟨_, rfl⟩
          have bX119 : Below X90.heap.size X90 X119 := by rw [← hX119]; exact ball _ _
          have r121 := hid (row_on r92.out bX119)
          have r122 := hid (row_on r93.out bX119)
          have r123 := hid (row_on ZX90.out bX119)
          have DX119 := hid (btr DX90.out bX119)
          have zX119 : X119.heap[X90.heap.size]? = some (.cells #[.int .u64 0, .int .u32 0, .int .i64 0, .int .i64 0, .int .i64 0, .int .u64 0] 35 (0, 0)) := by rw [← hX119]; exact World.alloc_heap_new _ _
          have yg120 := DX90.out.size
          obtain ⟨g120, hg120⟩ : ∃ g, X90.heap.size = g := ⟨_, rfl⟩
          have n124 : g120 ≠ X := by have := row_lt r92.out; omega
          have n125 : g120 ≠ R := by have := row_lt r93.out; omega
          have n126 : g120 ≠ g91 := by have := row_lt ZX90.out; omega
          rw [hg120] at zX119 yg120
          have ZX119 := hid zX119
          rw [hX119, hg120]
          clear hX119 hg120 zX119 bX119
          refine hK.out _ _ ?_ (fun hHeld => ?_)
          · (try dsimp only); exact ⟨row_cell r121.out 1, row_cell r121.out 2, row_cell r121.out 3, row_cell r122.out 8⟩
          clear hK K
          try simp only [List.getElem_toArray, List.getElem_cons_succ, List.getElem_cons_zero, Act.put, List.setIfInBounds_toArray, List.set_cons_zero, List.set_cons_succ]
          refine wpAnyH_ready (rs := [6]) (by kernel_rfl) (by simp) ?_
          refine (AllReadyH.cons (o := _) rfl (fun K hK => ?_) AllReadyH.nil)
          go_simp
          go_at_call 13
          with_reducible refine (CB.out X119 (HLY.out.on DX119.out)).mono ?_
          rintro e X127 ⟨p', c', rfl, LIn, DbX127, FRE⟩
          have FRW := hid (show ∀ g, OfP p' g → OfP pL g ∨ Y.heap.size ≤ g from fun g hg => (FRE.out g hg).imp _root_.id (fun e => Nat.le_trans DX119.out.size e))
          have NLD : ∀ g, OfP p' g → g ≠ g120 := fun g hg e => by
            rcases FRE.out g hg with h1 | h1
            · have h2 := (HP0.out.og g (HP0.out.oL g h1)).2; have h3 := yg120; have h4 := KY.out.size; omega
            · have h2 := row_lt ZX119.out; omega
          have r128 := hid (row_on r121.out DbX127.out)
          have r129 := hid (row_on r122.out DbX127.out)
          have r130 := hid (row_on r123.out DbX127.out)
          have r131 := hid (row_on ZX119.out DbX127.out)
          have DX127 := hid (btr DX119.out DbX127.out)
          have UX127 := hid (DX119.out.size)
          (try go_wp2_with fail)
          refine hK.out _ _ ?_ (fun hHeld => ?_)
          · (try dsimp only); exact ⟨row_cell r128.out 1, row_cell r128.out 2, row_cell r128.out 3, row_cell r129.out 8⟩
          clear hK K
          try simp only [List.getElem_toArray, List.getElem_cons_succ, List.getElem_cons_zero, Act.put, List.setIfInBounds_toArray, List.set_cons_zero, List.set_cons_succ]
          refine' wpAnyH_take (i := 7) (oi := _) (v := _) rfl (by kernel_rfl) (by kernel_rfl) (by kernel_rfl) (fun _ _ _ h => h) (Or.inl ⟨by kernel_rfl, ?_⟩) (by assumption) ?_
          rotate_left
          · (intro w hSw; (try dsimp only at hSw); go_simp; try (with_reducible rfl))
          try simp only [List.getElem_toArray, List.getElem_cons_succ, List.getElem_cons_zero, Act.put, List.setIfInBounds_toArray, List.set_cons_zero, List.set_cons_succ]
          refine' wpAnyH_take (i := 8) (oi := _) (v := _) rfl (by kernel_rfl) (by kernel_rfl) (by kernel_rfl) (fun _ _ _ h => h) (Or.inl ⟨by kernel_rfl, ?_⟩) (by assumption) ?_
          rotate_left
          · (intro w hSw; (try dsimp only at hSw); go_simp; try (with_reducible rfl))
          try simp only [List.getElem_toArray, List.getElem_cons_succ, List.getElem_cons_zero, Act.put, List.setIfInBounds_toArray, List.set_cons_zero, List.set_cons_succ]
          refine' wpAnyH_take (i := 9) (oi := _) (v := _) rfl (by kernel_rfl) (by kernel_rfl) (by kernel_rfl) (fun _ _ _ h => h) (Or.inl ⟨by kernel_rfl, ?_⟩) (by assumption) ?_
          rotate_left
          · (intro w hSw; (try dsimp only at hSw); go_simp; try (with_reducible rfl))
          try simp only [List.getElem_toArray, List.getElem_cons_succ, List.getElem_cons_zero, Act.put, List.setIfInBounds_toArray, List.set_cons_zero, List.set_cons_succ]
          refine' wpAnyH_take (i := 10) (oi := _) (v := _) rfl (by kernel_rfl) (by kernel_rfl) (by kernel_rfl) (fun _ _ _ h => h) (Or.inl ⟨by kernel_rfl, ?_⟩) (by assumption) ?_
          rotate_left
          · (intro w hSw; (try dsimp only at hSw); go_simp; try (with_reducible rfl))
          try simp only [List.getElem_toArray, List.getElem_cons_succ, List.getElem_cons_zero, Act.put, List.setIfInBounds_toArray, List.set_cons_zero, List.set_cons_succ]
          refine wpAnyH_ready (rs := [13]) (by kernel_rfl) (by simp) ?_
          refine (AllReadyH.cons (o := _) rfl (fun K hK => ?_) AllReadyH.nil)
          refine step_store_row (by rfl) 29 (.tmp 9) (.tmp 79) (by rfl) g91 #[.int .i64 r, .int .i64 m, .slice p' n2 c'] (by rfl) (by rfl) 29 _ r130.out infoRc (by rfl) (by simp [Value.oneCell']) ?_
          obtain ⟨Y132, hY132⟩ : ∃ Y, X127.setRow g91 #[.int .i64 r, .int .i64 m, .slice p' n2 c'] = Y := ⟨_, rfl⟩
          have KY132 := hid (show Kp (fun j => j = g91) X127 Y132 from by rw [← hY132]; exact setRow_kp _ _ _)
          have AY132 := hid (show Y132.heap[g91]? = some (.cells #[.int .i64 r, .int .i64 m, .slice p' n2 c'] 29 (0, 0)) from by rw [← hY132]; exact setRow_heap X127 g91 _ _ 29 (0, 0) r130.out)
          have DY132 := hid (show Below Y.heap.size Y Y132 from by rw [← hY132]; exact setRow_below DX127.out yg91)
          have r133 := hid (KY132.out.row r128.out (fun e => n94.symm e))
          have r134 := hid (KY132.out.row r129.out (fun e => n95.symm e))
          have r135 := hid (KY132.out.row r131.out (fun e => n126 e))
          have e136 := hid (LIn.out.kept KY132.out (fun g hg e => by obtain ⟨cu, hc⟩ := LIn.out.ty hg; exact row_ne hc r130.out (by decide) e))
          rw [hY132]
          refine hK.out _ _ ?_ (fun hHeld => ?_)
          · (try dsimp only); exact ⟨row_cell r133.out 1, row_cell r133.out 2, row_cell r133.out 3, row_cell r134.out 8⟩
          clear hK K hY132
          try simp only [List.getElem_toArray, List.getElem_cons_succ, List.getElem_cons_zero, Act.put, List.setIfInBounds_toArray, List.set_cons_zero, List.set_cons_succ]
          refine wpAnyH_ready (rs := [14]) (by kernel_rfl) (by simp) ?_
          refine (AllReadyH.cons (o := _) rfl (fun K hK => ?_) AllReadyH.nil)
          refine step_store_row (by rfl) 35 (.tmp 10) (.tmp 80) (by rfl) g120 #[.int .u64 z.id, .int .u32 z.mb, .int .i64 z.sd, .int .i64 z.ty, .int .i64 z.pr, .int .u64 z.qt] (by rfl) (by rfl) 35 _ r135.out infoI6 (by rfl) (by simp [Value.oneCell']) ?_
          obtain ⟨Y137, hY137⟩ : ∃ Y, Y132.setRow g120 #[.int .u64 z.id, .int .u32 z.mb, .int .i64 z.sd, .int .i64 z.ty, .int .i64 z.pr, .int .u64 z.qt] = Y := ⟨_, rfl⟩
          have KY137 := hid (show Kp (fun j => j = g120) Y132 Y137 from by rw [← hY137]; exact setRow_kp _ _ _)
          have AY137 := hid (show Y137.heap[g120]? = some (.cells #[.int .u64 z.id, .int .u32 z.mb, .int .i64 z.sd, .int .i64 z.ty, .int .i64 z.pr, .int .u64 z.qt] 35 (0, 0)) from by rw [← hY137]; exact setRow_heap Y132 g120 _ _ 35 (0, 0) r135.out)
          have DY137 := hid (show Below Y.heap.size Y Y137 from by rw [← hY137]; exact setRow_below DY132.out yg120)
          have r138 := hid (KY137.out.row r133.out (fun e => n124.symm e))
          have r139 := hid (KY137.out.row r134.out (fun e => n125.symm e))
          have r140 := hid (KY137.out.row AY132.out (fun e => n126.symm e))
          have e141 := hid (e136.out.kept KY137.out (fun g hg e => NLD g hg e))
          rw [hY137]
          refine hK.out _ _ ?_ (fun hHeld => ?_)
          · (try dsimp only); exact ⟨row_cell r138.out 1, row_cell r138.out 2, row_cell r138.out 3, row_cell r139.out 8⟩
          clear hK K hY137
          try simp only [List.getElem_toArray, List.getElem_cons_succ, List.getElem_cons_zero, Act.put, List.setIfInBounds_toArray, List.set_cons_zero, List.set_cons_succ]
          refine' wpAnyH_take (i := 15) (oi := _) (v := _) rfl (by kernel_rfl) (by kernel_rfl) (by kernel_rfl) (fun _ _ _ h => h) (Or.inl ⟨by kernel_rfl, ?_⟩) (by assumption) ?_
          rotate_left
          · (intro w hSw; (try dsimp only at hSw); go_simp; try (with_reducible rfl))
          try simp only [List.getElem_toArray, List.getElem_cons_succ, List.getElem_cons_zero, Act.put, List.setIfInBounds_toArray, List.set_cons_zero, List.set_cons_succ]
          refine wpAnyH_done (by kernel_rfl) ?_ _
          exact ⟨(g91, g120, p', c'), by rfl, DY137, r140, AY137, e141, FRW⟩
      · go_simp
        obtain ⟨X142, hX142⟩ : ∃ X, V32.alloc (.cells #[.int .u64 0, .int .u32 0, .int .i64 0, .int .i64 0, .int .i64 0, .int .u64 0] 35) = X := ⟨_, rfl⟩
        have bX142 : Below V32.heap.size V32 X142 := by rw [← hX142]; exact ball _ _
        have r144 := hid (row_on r33.out bX142)
        have r145 := hid (row_on r34.out bX142)
        have DX142 := hid (btr BV32.out bX142)
        have zX142 : X142.heap[V32.heap.size]? = some (.cells #[.int .u64 0, .int .u32 0, .int .i64 0, .int .i64 0, .int .i64 0, .int .u64 0] 35 (0, 0)) := by rw [← hX142]; exact World.alloc_heap_new _ _
        have yg143 := BV32.out.size
        obtain ⟨g143, hg143⟩ : ∃ g, V32.heap.size = g := ⟨_, rfl⟩
        have n146 : g143 ≠ X := by have := row_lt r33.out; omega
        have n147 : g143 ≠ R := by have := row_lt r34.out; omega
        rw [hg143] at zX142 yg143
        have ZX142 := hid zX142
        rw [hX142, hg143]
        clear hX142 hg143 zX142 bX142
        refine hK.out _ _ ?_ (fun hHeld => ?_)
        · (try dsimp only); exact ⟨row_cell r144.out 1, row_cell r144.out 2, row_cell r144.out 3, row_cell r145.out 8⟩
        clear hK K
        try simp only [List.getElem_toArray, List.getElem_cons_succ, List.getElem_cons_zero, Act.put, List.setIfInBounds_toArray, List.set_cons_zero, List.set_cons_succ]
        refine wpAnyH_ready (rs := [6, 11]) (by kernel_rfl) (by simp) ?_
        refine (AllReadyH.cons (o := _) rfl (fun K hK => ?_) (AllReadyH.cons (o := _) rfl (fun K hK => ?_) AllReadyH.nil))
        · go_simp
          go_at_call 13
          with_reducible refine (CB.out X142 (HLY.out.on DX142.out)).mono ?_
          rintro e X148 ⟨p', c', rfl, LIn, DbX148, FRE⟩
          have FRW := hid (show ∀ g, OfP p' g → OfP pL g ∨ Y.heap.size ≤ g from fun g hg => (FRE.out g hg).imp _root_.id (fun e => Nat.le_trans DX142.out.size e))
          have NLD : ∀ g, OfP p' g → g ≠ g143 := fun g hg e => by
            rcases FRE.out g hg with h1 | h1
            · have h2 := (HP0.out.og g (HP0.out.oL g h1)).2; have h3 := yg143; have h4 := KY.out.size; omega
            · have h2 := row_lt ZX142.out; omega
          have r149 := hid (row_on r144.out DbX148.out)
          have r150 := hid (row_on r145.out DbX148.out)
          have r151 := hid (row_on ZX142.out DbX148.out)
          have DX148 := hid (btr DX142.out DbX148.out)
          have UX148 := hid (DX142.out.size)
          (try go_wp2_with fail)
          refine hK.out _ _ ?_ (fun hHeld => ?_)
          · (try dsimp only); exact ⟨row_cell r149.out 1, row_cell r149.out 2, row_cell r149.out 3, row_cell r150.out 8⟩
          clear hK K
          try simp only [List.getElem_toArray, List.getElem_cons_succ, List.getElem_cons_zero, Act.put, List.setIfInBounds_toArray, List.set_cons_zero, List.set_cons_succ]
          refine' wpAnyH_take (i := 7) (oi := _) (v := _) rfl (by kernel_rfl) (by kernel_rfl) (by kernel_rfl) (fun _ _ _ h => h) (Or.inl ⟨by kernel_rfl, ?_⟩) (by assumption) ?_
          rotate_left
          · (intro w hSw; (try dsimp only at hSw); go_simp; try (with_reducible rfl))
          try simp only [List.getElem_toArray, List.getElem_cons_succ, List.getElem_cons_zero, Act.put, List.setIfInBounds_toArray, List.set_cons_zero, List.set_cons_succ]
          refine' wpAnyH_take (i := 8) (oi := _) (v := _) rfl (by kernel_rfl) (by kernel_rfl) (by kernel_rfl) (fun _ _ _ h => h) (Or.inl ⟨by kernel_rfl, ?_⟩) (by assumption) ?_
          rotate_left
          · (intro w hSw; (try dsimp only at hSw); go_simp; try (with_reducible rfl))
          try simp only [List.getElem_toArray, List.getElem_cons_succ, List.getElem_cons_zero, Act.put, List.setIfInBounds_toArray, List.set_cons_zero, List.set_cons_succ]
          refine' wpAnyH_take (i := 9) (oi := _) (v := _) rfl (by kernel_rfl) (by kernel_rfl) (by kernel_rfl) (fun _ _ _ h => h) (Or.inl ⟨by kernel_rfl, ?_⟩) (by assumption) ?_
          rotate_left
          · (intro w hSw; (try dsimp only at hSw); go_simp; try (with_reducible rfl))
          try simp only [List.getElem_toArray, List.getElem_cons_succ, List.getElem_cons_zero, Act.put, List.setIfInBounds_toArray, List.set_cons_zero, List.set_cons_succ]
          refine' wpAnyH_take (i := 10) (oi := _) (v := _) rfl (by kernel_rfl) (by kernel_rfl) (by kernel_rfl) (fun _ _ _ h => h) (Or.inl ⟨by kernel_rfl, ?_⟩) (by assumption) ?_
          rotate_left
          · (intro w hSw; (try dsimp only at hSw); go_simp; try (with_reducible rfl))
          try simp only [List.getElem_toArray, List.getElem_cons_succ, List.getElem_cons_zero, Act.put, List.setIfInBounds_toArray, List.set_cons_zero, List.set_cons_succ]
          refine wpAnyH_ready (rs := [11]) (by kernel_rfl) (by simp) ?_
          refine (AllReadyH.cons (o := _) rfl (fun K hK => ?_) AllReadyH.nil)
          go_simp
          obtain ⟨X152, hX152⟩ : ∃ X, X148.alloc (.cells #[.int .i64 0, .int .i64 0, .slice none 0 0] 29) = X := ⟨_, rfl⟩
          have bX152 : Below X148.heap.size X148 X152 := by rw [← hX152]; exact ball _ _
          have r154 := hid (row_on r149.out bX152)
          have r155 := hid (row_on r150.out bX152)
          have r156 := hid (row_on r151.out bX152)
          have e157 := hid (LIn.out.on bX152)
          have DX152 := hid (btr DX148.out bX152)
          have zX152 : X152.heap[X148.heap.size]? = some (.cells #[.int .i64 0, .int .i64 0, .slice none 0 0] 29 (0, 0)) := by rw [← hX152]; exact World.alloc_heap_new _ _
          have yg153 := DX148.out.size
          obtain ⟨g153, hg153⟩ : ∃ g, X148.heap.size = g := ⟨_, rfl⟩
          have n158 : g153 ≠ X := by have := row_lt r149.out; omega
          have n159 : g153 ≠ R := by have := row_lt r150.out; omega
          have n160 : g153 ≠ g143 := by have := row_lt r151.out; omega
          rw [hg153] at zX152 yg153
          have ZX152 := hid zX152
          rw [hX152, hg153]
          clear hX152 hg153 zX152 bX152
          refine hK.out _ _ ?_ (fun hHeld => ?_)
          · (try dsimp only); exact ⟨row_cell r154.out 1, row_cell r154.out 2, row_cell r154.out 3, row_cell r155.out 8⟩
          clear hK K
          try simp only [List.getElem_toArray, List.getElem_cons_succ, List.getElem_cons_zero, Act.put, List.setIfInBounds_toArray, List.set_cons_zero, List.set_cons_succ]
          refine wpAnyH_ready (rs := [13]) (by kernel_rfl) (by simp) ?_
          refine (AllReadyH.cons (o := _) rfl (fun K hK => ?_) AllReadyH.nil)
          refine step_store_row (by rfl) 29 (.tmp 9) (.tmp 79) (by rfl) g153 #[.int .i64 r, .int .i64 m, .slice p' n2 c'] (by rfl) (by rfl) 29 _ ZX152.out infoRc (by rfl) (by simp [Value.oneCell']) ?_
          obtain ⟨Y161, hY161⟩ : ∃ Y, X152.setRow g153 #[.int .i64 r, .int .i64 m, .slice p' n2 c'] = Y := ⟨_, rfl⟩
          have KY161 := hid (show Kp (fun j => j = g153) X152 Y161 from by rw [← hY161]; exact setRow_kp _ _ _)
          have AY161 := hid (show Y161.heap[g153]? = some (.cells #[.int .i64 r, .int .i64 m, .slice p' n2 c'] 29 (0, 0)) from by rw [← hY161]; exact setRow_heap X152 g153 _ _ 29 (0, 0) ZX152.out)
          have DY161 := hid (show Below Y.heap.size Y Y161 from by rw [← hY161]; exact setRow_below DX152.out yg153)
          have r162 := hid (KY161.out.row r154.out (fun e => n158.symm e))
          have r163 := hid (KY161.out.row r155.out (fun e => n159.symm e))
          have r164 := hid (KY161.out.row r156.out (fun e => n160.symm e))
          have e165 := hid (e157.out.kept KY161.out (fun g hg e => by obtain ⟨cu, hc⟩ := e157.out.ty hg; exact row_ne hc ZX152.out (by decide) e))
          rw [hY161]
          refine hK.out _ _ ?_ (fun hHeld => ?_)
          · (try dsimp only); exact ⟨row_cell r162.out 1, row_cell r162.out 2, row_cell r162.out 3, row_cell r163.out 8⟩
          clear hK K hY161
          try simp only [List.getElem_toArray, List.getElem_cons_succ, List.getElem_cons_zero, Act.put, List.setIfInBounds_toArray, List.set_cons_zero, List.set_cons_succ]
          refine wpAnyH_ready (rs := [14]) (by kernel_rfl) (by simp) ?_
          refine (AllReadyH.cons (o := _) rfl (fun K hK => ?_) AllReadyH.nil)
          refine step_store_row (by rfl) 35 (.tmp 10) (.tmp 80) (by rfl) g143 #[.int .u64 z.id, .int .u32 z.mb, .int .i64 z.sd, .int .i64 z.ty, .int .i64 z.pr, .int .u64 z.qt] (by rfl) (by rfl) 35 _ r164.out infoI6 (by rfl) (by simp [Value.oneCell']) ?_
          obtain ⟨Y166, hY166⟩ : ∃ Y, Y161.setRow g143 #[.int .u64 z.id, .int .u32 z.mb, .int .i64 z.sd, .int .i64 z.ty, .int .i64 z.pr, .int .u64 z.qt] = Y := ⟨_, rfl⟩
          have KY166 := hid (show Kp (fun j => j = g143) Y161 Y166 from by rw [← hY166]; exact setRow_kp _ _ _)
          have AY166 := hid (show Y166.heap[g143]? = some (.cells #[.int .u64 z.id, .int .u32 z.mb, .int .i64 z.sd, .int .i64 z.ty, .int .i64 z.pr, .int .u64 z.qt] 35 (0, 0)) from by rw [← hY166]; exact setRow_heap Y161 g143 _ _ 35 (0, 0) r164.out)
          have DY166 := hid (show Below Y.heap.size Y Y166 from by rw [← hY166]; exact setRow_below DY161.out yg143)
          have r167 := hid (KY166.out.row r162.out (fun e => n146.symm e))
          have r168 := hid (KY166.out.row r163.out (fun e => n147.symm e))
          have r169 := hid (KY166.out.row AY161.out (fun e => n160 e))
          have e170 := hid (e165.out.kept KY166.out (fun g hg e => NLD g hg e))
          rw [hY166]
          refine hK.out _ _ ?_ (fun hHeld => ?_)
          · (try dsimp only); exact ⟨row_cell r167.out 1, row_cell r167.out 2, row_cell r167.out 3, row_cell r168.out 8⟩
          clear hK K hY166
          try simp only [List.getElem_toArray, List.getElem_cons_succ, List.getElem_cons_zero, Act.put, List.setIfInBounds_toArray, List.set_cons_zero, List.set_cons_succ]
          refine' wpAnyH_take (i := 15) (oi := _) (v := _) rfl (by kernel_rfl) (by kernel_rfl) (by kernel_rfl) (fun _ _ _ h => h) (Or.inl ⟨by kernel_rfl, ?_⟩) (by assumption) ?_
          rotate_left
          · (intro w hSw; (try dsimp only at hSw); go_simp; try (with_reducible rfl))
          try simp only [List.getElem_toArray, List.getElem_cons_succ, List.getElem_cons_zero, Act.put, List.setIfInBounds_toArray, List.set_cons_zero, List.set_cons_succ]
          refine wpAnyH_done (by kernel_rfl) ?_ _
          exact ⟨(g153, g143, p', c'), by rfl, DY166, r169, AY166, e170, FRW⟩
        · go_simp
          obtain ⟨X171, hX171⟩ : ∃ X, X142.alloc (.cells #[.int .i64 0, .int .i64 0, .slice none 0 0] 29) = X := ⟨_, rfl⟩
          have bX171 : Below X142.heap.size X142 X171 := by rw [← hX171]; exact ball _ _
          have r173 := hid (row_on r144.out bX171)
          have r174 := hid (row_on r145.out bX171)
          have r175 := hid (row_on ZX142.out bX171)
          have DX171 := hid (btr DX142.out bX171)
          have zX171 : X171.heap[X142.heap.size]? = some (.cells #[.int .i64 0, .int .i64 0, .slice none 0 0] 29 (0, 0)) := by rw [← hX171]; exact World.alloc_heap_new _ _
          have yg172 := DX142.out.size
          obtain ⟨g172, hg172⟩ : ∃ g, X142.heap.size = g := ⟨_, rfl⟩
          have n176 : g172 ≠ X := by have := row_lt r144.out; omega
          have n177 : g172 ≠ R := by have := row_lt r145.out; omega
          have n178 : g172 ≠ g143 := by have := row_lt ZX142.out; omega
          rw [hg172] at zX171 yg172
          have ZX171 := hid zX171
          rw [hX171, hg172]
          clear hX171 hg172 zX171 bX171
          refine hK.out _ _ ?_ (fun hHeld => ?_)
          · (try dsimp only); exact ⟨row_cell r173.out 1, row_cell r173.out 2, row_cell r173.out 3, row_cell r174.out 8⟩
          clear hK K
          try simp only [List.getElem_toArray, List.getElem_cons_succ, List.getElem_cons_zero, Act.put, List.setIfInBounds_toArray, List.set_cons_zero, List.set_cons_succ]
          refine wpAnyH_ready (rs := [6]) (by kernel_rfl) (by simp) ?_
          refine (AllReadyH.cons (o := _) rfl (fun K hK => ?_) AllReadyH.nil)
          go_simp
          go_at_call 13
          with_reducible refine (CB.out X171 (HLY.out.on DX171.out)).mono ?_
          rintro e X179 ⟨p', c', rfl, LIn, DbX179, FRE⟩
          have FRW := hid (show ∀ g, OfP p' g → OfP pL g ∨ Y.heap.size ≤ g from fun g hg => (FRE.out g hg).imp _root_.id (fun e => Nat.le_trans DX171.out.size e))
          have NLD : ∀ g, OfP p' g → g ≠ g143 := fun g hg e => by
            rcases FRE.out g hg with h1 | h1
            · have h2 := (HP0.out.og g (HP0.out.oL g h1)).2; have h3 := yg143; have h4 := KY.out.size; omega
            · have h2 := row_lt r175.out; omega
          have r180 := hid (row_on r173.out DbX179.out)
          have r181 := hid (row_on r174.out DbX179.out)
          have r182 := hid (row_on r175.out DbX179.out)
          have r183 := hid (row_on ZX171.out DbX179.out)
          have DX179 := hid (btr DX171.out DbX179.out)
          have UX179 := hid (DX171.out.size)
          (try go_wp2_with fail)
          refine hK.out _ _ ?_ (fun hHeld => ?_)
          · (try dsimp only); exact ⟨row_cell r180.out 1, row_cell r180.out 2, row_cell r180.out 3, row_cell r181.out 8⟩
          clear hK K
          try simp only [List.getElem_toArray, List.getElem_cons_succ, List.getElem_cons_zero, Act.put, List.setIfInBounds_toArray, List.set_cons_zero, List.set_cons_succ]
          refine' wpAnyH_take (i := 7) (oi := _) (v := _) rfl (by kernel_rfl) (by kernel_rfl) (by kernel_rfl) (fun _ _ _ h => h) (Or.inl ⟨by kernel_rfl, ?_⟩) (by assumption) ?_
          rotate_left
          · (intro w hSw; (try dsimp only at hSw); go_simp; try (with_reducible rfl))
          try simp only [List.getElem_toArray, List.getElem_cons_succ, List.getElem_cons_zero, Act.put, List.setIfInBounds_toArray, List.set_cons_zero, List.set_cons_succ]
          refine' wpAnyH_take (i := 8) (oi := _) (v := _) rfl (by kernel_rfl) (by kernel_rfl) (by kernel_rfl) (fun _ _ _ h => h) (Or.inl ⟨by kernel_rfl, ?_⟩) (by assumption) ?_
          rotate_left
          · (intro w hSw; (try dsimp only at hSw); go_simp; try (with_reducible rfl))
          try simp only [List.getElem_toArray, List.getElem_cons_succ, List.getElem_cons_zero, Act.put, List.setIfInBounds_toArray, List.set_cons_zero, List.set_cons_succ]
          refine' wpAnyH_take (i := 9) (oi := _) (v := _) rfl (by kernel_rfl) (by kernel_rfl) (by kernel_rfl) (fun _ _ _ h => h) (Or.inl ⟨by kernel_rfl, ?_⟩) (by assumption) ?_
          rotate_left
          · (intro w hSw; (try dsimp only at hSw); go_simp; try (with_reducible rfl))
          try simp only [List.getElem_toArray, List.getElem_cons_succ, List.getElem_cons_zero, Act.put, List.setIfInBounds_toArray, List.set_cons_zero, List.set_cons_succ]
          refine' wpAnyH_take (i := 10) (oi := _) (v := _) rfl (by kernel_rfl) (by kernel_rfl) (by kernel_rfl) (fun _ _ _ h => h) (Or.inl ⟨by kernel_rfl, ?_⟩) (by assumption) ?_
          rotate_left
          · (intro w hSw; (try dsimp only at hSw); go_simp; try (with_reducible rfl))
          try simp only [List.getElem_toArray, List.getElem_cons_succ, List.getElem_cons_zero, Act.put, List.setIfInBounds_toArray, List.set_cons_zero, List.set_cons_succ]
          refine wpAnyH_ready (rs := [13]) (by kernel_rfl) (by simp) ?_
          refine (AllReadyH.cons (o := _) rfl (fun K hK => ?_) AllReadyH.nil)
          refine step_store_row (by rfl) 29 (.tmp 9) (.tmp 79) (by rfl) g172 #[.int .i64 r, .int .i64 m, .slice p' n2 c'] (by rfl) (by rfl) 29 _ r183.out infoRc (by rfl) (by simp [Value.oneCell']) ?_
          obtain ⟨Y184, hY184⟩ : ∃ Y, X179.setRow g172 #[.int .i64 r, .int .i64 m, .slice p' n2 c'] = Y := ⟨_, rfl⟩
          have KY184 := hid (show Kp (fun j => j = g172) X179 Y184 from by rw [← hY184]; exact setRow_kp _ _ _)
          have AY184 := hid (show Y184.heap[g172]? = some (.cells #[.int .i64 r, .int .i64 m, .slice p' n2 c'] 29 (0, 0)) from by rw [← hY184]; exact setRow_heap X179 g172 _ _ 29 (0, 0) r183.out)
          have DY184 := hid (show Below Y.heap.size Y Y184 from by rw [← hY184]; exact setRow_below DX179.out yg172)
          have r185 := hid (KY184.out.row r180.out (fun e => n176.symm e))
          have r186 := hid (KY184.out.row r181.out (fun e => n177.symm e))
          have r187 := hid (KY184.out.row r182.out (fun e => n178.symm e))
          have e188 := hid (LIn.out.kept KY184.out (fun g hg e => by obtain ⟨cu, hc⟩ := LIn.out.ty hg; exact row_ne hc r183.out (by decide) e))
          rw [hY184]
          refine hK.out _ _ ?_ (fun hHeld => ?_)
          · (try dsimp only); exact ⟨row_cell r185.out 1, row_cell r185.out 2, row_cell r185.out 3, row_cell r186.out 8⟩
          clear hK K hY184
          try simp only [List.getElem_toArray, List.getElem_cons_succ, List.getElem_cons_zero, Act.put, List.setIfInBounds_toArray, List.set_cons_zero, List.set_cons_succ]
          refine wpAnyH_ready (rs := [14]) (by kernel_rfl) (by simp) ?_
          refine (AllReadyH.cons (o := _) rfl (fun K hK => ?_) AllReadyH.nil)
          refine step_store_row (by rfl) 35 (.tmp 10) (.tmp 80) (by rfl) g143 #[.int .u64 z.id, .int .u32 z.mb, .int .i64 z.sd, .int .i64 z.ty, .int .i64 z.pr, .int .u64 z.qt] (by rfl) (by rfl) 35 _ r187.out infoI6 (by rfl) (by simp [Value.oneCell']) ?_
          obtain ⟨Y189, hY189⟩ : ∃ Y, Y184.setRow g143 #[.int .u64 z.id, .int .u32 z.mb, .int .i64 z.sd, .int .i64 z.ty, .int .i64 z.pr, .int .u64 z.qt] = Y := ⟨_, rfl⟩
          have KY189 := hid (show Kp (fun j => j = g143) Y184 Y189 from by rw [← hY189]; exact setRow_kp _ _ _)
          have AY189 := hid (show Y189.heap[g143]? = some (.cells #[.int .u64 z.id, .int .u32 z.mb, .int .i64 z.sd, .int .i64 z.ty, .int .i64 z.pr, .int .u64 z.qt] 35 (0, 0)) from by rw [← hY189]; exact setRow_heap Y184 g143 _ _ 35 (0, 0) r187.out)
          have DY189 := hid (show Below Y.heap.size Y Y189 from by rw [← hY189]; exact setRow_below DY184.out yg143)
          have r190 := hid (KY189.out.row r185.out (fun e => n146.symm e))
          have r191 := hid (KY189.out.row r186.out (fun e => n147.symm e))
          have r192 := hid (KY189.out.row AY184.out (fun e => n178 e))
          have e193 := hid (e188.out.kept KY189.out (fun g hg e => NLD g hg e))
          rw [hY189]
          refine hK.out _ _ ?_ (fun hHeld => ?_)
          · (try dsimp only); exact ⟨row_cell r190.out 1, row_cell r190.out 2, row_cell r190.out 3, row_cell r191.out 8⟩
          clear hK K hY189
          try simp only [List.getElem_toArray, List.getElem_cons_succ, List.getElem_cons_zero, Act.put, List.setIfInBounds_toArray, List.set_cons_zero, List.set_cons_succ]
          refine' wpAnyH_take (i := 15) (oi := _) (v := _) rfl (by kernel_rfl) (by kernel_rfl) (by kernel_rfl) (fun _ _ _ h => h) (Or.inl ⟨by kernel_rfl, ?_⟩) (by assumption) ?_
          rotate_left
          · (intro w hSw; (try dsimp only at hSw); go_simp; try (with_reducible rfl))
          try simp only [List.getElem_toArray, List.getElem_cons_succ, List.getElem_cons_zero, Act.put, List.setIfInBounds_toArray, List.set_cons_zero, List.set_cons_succ]
          refine wpAnyH_done (by kernel_rfl) ?_ _
          exact ⟨(g172, g143, p', c'), by rfl, DY189, r192, AY189, e193, FRW⟩
    · rintro ⟨γ, ε, p', c'⟩ Z ⟨BZ, HG, HE, HLI, FRE⟩
      dsimp only at HG HE HLI FRE
      try simp only [List.getElem_toArray, List.getElem_cons_succ, List.getElem_cons_zero, Act.put, List.setIfInBounds_toArray, List.set_cons_zero, List.set_cons_succ]
      have HXZ := hid (row_on HXY.out BZ.out)
      obtain ⟨k0, k1, k2, k3⟩ := row4 HXZ.out
      obtain ⟨g0, g1, g2⟩ := row3 HG.out
      have f1 := row_frz HXZ.out 1
      have f2 := row_frz HXZ.out 2
      have f3 := row_frz HXZ.out 3
      go_upto_region 10 with fail
      obtain ⟨q1, q2⟩ := x_set HXZ.out (.int .i64 r) (.int .i64 m) (.slice p' n2 c')
      obtain ⟨Q, hQ⟩ : ∃ Q, ((Z.setCell ⟨X, 1, none⟩ (.int .i64 r)).setCell ⟨X, 2, none⟩ (.int .i64 m)).setCell ⟨X, 3, none⟩ (.slice p' n2 c') = Q := ⟨_, rfl⟩
      rw [hQ] at q1 q2 ⊢
      have HQ1 := hid q1
      have HQ2 := hid q2
      obtain ⟨d0, d1, d2, d3, d4, d5⟩ := row6 (q2.row (row_on HD.out BZ.out) (row_ne (row_on HD.out BZ.out) HXZ.out (by decide)))
      obtain ⟨e0, e1, e2, e3, e4, e5⟩ := row6 (q2.row HE.out (row_ne HE.out HXZ.out (by decide)))
      clear hQ k0 k1 k2 k3 g0 g1 g2 f1 f2 f3 q1 q2
      go_wp2
      go_ret
      refine ⟨rfl, ?_⟩
      have hr := HQ1.out
      rw [← HN2.out] at hr
      refine HP0.out.dropped ((Kp.of (fun j => j = B ∨ OfP p1 j ∨ OfP p2 j) HBW.out).trans KY.out (fun _ _ e => e)) HCL.out BZ.out HLI.out HLK.out (fun g hg => (FRE.out g hg).imp _root_.id (fun e => ?_)) ⟨_, HXZ.out⟩ HQ2.out hr
      have h1 := HBW.out.size
      have h2 := KY.out.size
      omega
theorem step7 {w0 w : World} {O : Nat → Prop} {X B : Nat} {r m : Int} {L : List It} {p1 : Option Addr} {c1 : Nat} {p2 : Option Addr} {c2 : Nat} {pL : Option Addr} {cL : Nat} (h : Pp w0 w O X B r m L p1 c1 p2 c2 pL cL) (ot : Bool) (x : It) (id n : Int) :
    Calls Tryz.prog 6 #[.pointer (some ⟨X, 0, none⟩), .agg #[.int .i64 7, .bool ot, .int .u64 x.id, .int .u32 x.mb, .int .i64 x.sd, .int .i64 x.ty, .int .i64 x.pr, .int .u64 x.qt, .int .u64 id, .int .i64 n]] w fun e w' => e = .returned (.bool true) ∧ Nx w0 w w' O X := by
  obtain ⟨R, hR⟩ : ∃ R, w.heap.size = R := ⟨_, rfl⟩
  obtain ⟨W, hW⟩ : ∃ W, w.alloc (.cells #[.int .i64 7, .bool ot, .int .u64 x.id, .int .u32 x.mb, .int .i64 x.sd, .int .i64 x.ty, .int .i64 x.pr, .int .u64 x.qt, .int .u64 id, .int .i64 n] 37) = W := ⟨_, rfl⟩
  have HBW := hid (show Below w.heap.size w W from by rw [← hW]; exact ball _ _)
  have HO := hid (show W.heap[R]? = some (.cells #[.int .i64 7, .bool ot, .int .u64 x.id, .int .u32 x.mb, .int .i64 x.sd, .int .i64 x.ty, .int .i64 x.pr, .int .u64 x.qt, .int .u64 id, .int .i64 n] 37 (0, 0)) from by rw [← hW, ← hR]; exact World.alloc_heap_new _ _)
  have HP0 := hid h
  have HP := hid (h.on HBW.out)
  obtain ⟨nL, hnL⟩ : ∃ k, L.length = k := ⟨_, rfl⟩
  have HNL := hid hnL
  have HXR := hid (show W.heap[X]? = some (.cells #[.pointer (some ⟨B, 0, none⟩), .int .i64 r, .int .i64 m, .slice pL nL cL] 31 (0, 0)) from by have := HP.out.row; rw [hnL] at this; exact this)
  have HW := hid hW
  have HRR := hid hR
  obtain ⟨E, hE⟩ : ∃ E : Int, (if isP n = true then 0 else 1) = E := ⟨_, rfl⟩
  obtain ⟨r2, hr2⟩ : ∃ E : Int, (if isP n = true then n else r) = E := ⟨_, rfl⟩
  have CA := hid (fun (U : World) (hU : Cl U B r m p1 c1 (iso 1 L) p2 c2 (iso 2 L)) => (show Calls Tryz.prog 22 #[.pointer (some ⟨B, 0, none⟩), .int .i64 n] U fun e w' => e = .returned (.int .i64 E) ∧ Hid (Cl w' B r2 m p1 c1 (iso 1 L) p2 c2 (iso 2 L)) ∧ Hid (Kp (fun j => j = B) U w') from by
    have := anchor_any B r m n p1 c1 L p2 c2 U hU
    rw [hE, hr2] at this
    exact this))
  have HOC := hid (show ∀ U, (U : World).heap[R]? = some (.cells #[.int .i64 7, .bool ot, .int .u64 x.id, .int .u32 x.mb, .int .i64 x.sd, .int .i64 x.ty, .int .i64 x.pr, .int .u64 x.qt, .int .u64 id, .int .i64 n] 37 (0, 0)) → U.cell? ⟨R, 0, none⟩ = some (.int .i64 7) ∧ U.cell? ⟨R, 9, none⟩ = some (.int .i64 n) from fun U hU => ⟨row_cell hU 0, row_cell hU 9⟩)
  have HXC := hid (show ∀ U, (U : World).heap[X]? = some (.cells #[.pointer (some ⟨B, 0, none⟩), .int .i64 r, .int .i64 m, .slice pL nL cL] 31 (0, 0)) → U.cell? ⟨X, 0, none⟩ = some (.pointer (some ⟨B, 0, none⟩)) from fun U hU => row_cell hU 0)
  have HXB := hid (show X ≠ B from row_ne HXR.out HP.out.cl.row (by decide))
  have HRB := hid (show R ≠ B from row_ne HO.out HP.out.cl.row (by decide))
  have CR : Hid (∀ U, Calls Tryz.prog 9 #[.int .i64 n, .int .i64 1] U fun e w' => ∃ v : Array Value, e = .returned (.tuple #[.agg v, .int .i64 E]) ∧ Hid (∃ a b, v = #[.int .i64 a, .int .i64 b, .slice none 0 0]) ∧ Hid (Below U.heap.size U w')) := hid (fun U => by
    cases hp : isP n with
    | true =>
      have hw : nwk n 1 = true := by simp [nwk, hp]
      rw [hp] at hE
      rw [← hE]
      exact (rnew_ok n 1 U hw).mono (fun e w' hh => ⟨_, hh.1, hid ⟨_, _, rfl⟩, hid hh.2⟩)
    | false =>
      have hw : nwk n 1 = false := by simp [nwk, hp]
      rw [hp] at hE
      rw [← hE]
      exact (rnew_bad n 1 U hw).mono (fun e w' hh => ⟨_, hh.1, hid ⟨_, _, rfl⟩, hid hh.2⟩))
  have HE := hid (show (E = 0 ∧ r2 = n) ∨ (E = 1 ∧ r2 = r) from by
    cases hp : isP n with
    | true => rw [hp] at hE hr2; exact .inl ⟨by rw [← hE]; rfl, by rw [← hr2]; rfl⟩
    | false => rw [hp] at hE hr2; exact .inr ⟨by rw [← hE]; rfl, by rw [← hr2]; rfl⟩)
  clear hE hr2
  clear h hW hR hnL
  go_enter Tryz.func6, Tryz.ntmps6
  go_upto_region 1 with fail
  rw [HW.out, HRR.out]
  have o0 : W.cell? ⟨R, 0, none⟩ = some (.int .i64 7) := row_cell HO.out 0
  go_upto_region 34 with fail
  have k0 := HXC.out W HXR.out
  obtain ⟨_, o9⟩ := HOC.out W HO.out
  go_region_held3 (fun U => U.cell? ⟨X, 0, none⟩ = some (.pointer (some ⟨B, 0, none⟩)) ∧ U.cell? ⟨R, 0, none⟩ = some (.int .i64 7) ∧ U.cell? ⟨R, 9, none⟩ = some (.int .i64 n)) (go_keep) (first | (go_at_call 22; with_reducible refine (CA.out _ (HP.out.cl.on (bdrew1 W))).mono ?_; rintro e v1 ⟨rfl, HC1, K1⟩; have HX1 := hid (K1.out.row (row_on HXR.out (bdrew1 W)) HXB.out); have HR1 := hid (K1.out.row (row_on HO.out (bdrew1 W)) HRB.out); have k0 := HXC.out v1 HX1.out; obtain ⟨o0, o9⟩ := HOC.out v1 HR1.out))
  go_upto_region 35 with fail
  go_upto_region 36 with (go_at_call 9; with_reducible refine (CR.out _).mono ?_; rintro e v2 ⟨v, rfl, HV, V2⟩; obtain ⟨va, vb, hv⟩ := HV.out; subst hv)
  obtain ⟨Y, hY⟩ : ∃ Y, v2.alloc (.cells #[.int .i64 va, .int .i64 vb, .slice none 0 0] 29) = Y := ⟨_, rfl⟩
  have BY := hid (show Below v2.heap.size v2 Y from by rw [← hY]; exact ball _ _)
  have HXY := hid (row_on (row_on HX1.out V2.out) BY.out)
  have HRY := hid (row_on (row_on HR1.out V2.out) BY.out)
  have HCY := hid ((HC1.out.on V2.out).on BY.out)
  rw [hY]
  clear hY k0 o9
  have KWY := hid (show Kp (fun j => j = B ∨ OfP p1 j ∨ OfP p2 j) w Y from (((Kp.of _ (btr HBW.out (bdrew1 W))).trans (K1.out.mono (C := fun j => j = B ∨ OfP p1 j ∨ OfP p2 j) (fun _ _ e => .inl e)) (fun _ _ e => e)).trans (Kp.of (fun j => j = B ∨ OfP p1 j ∨ OfP p2 j) (btr V2.out BY.out)) (fun _ _ e => e)))
  have HLY := hid (show Li Y pL cL L from HP0.out.li.kept KWY.out (fun g hg e => by
    rcases e with e | e
    · obtain ⟨cu, hc⟩ := HP0.out.li.ty hg; subst e; exact row_ne hc HP0.out.cl.row (by decide) rfl
    · exact HP0.out.ap g e hg))
  obtain ⟨rfl, rfl⟩ | ⟨rfl, rfl⟩ := HE.out
  · obtain ⟨k0, k1, k2, k3⟩ := row4 HXY.out
    obtain ⟨o0, o9⟩ := HOC.out Y HRY.out
    have f1 := row_frz HXY.out 1
    go_wp2
    go_ret
    refine ⟨rfl, ?_⟩
    have hrow := heap_setCell_same Y X 1 _ _ (.int .i64 r2) HXY.out
    refine HP0.out.dropped KWY.out HCY.out (Below.refl _ _) HLY.out HP0.out.lk (fun g hg => .inl hg) ⟨_, HXY.out⟩ (Kp.set Y X 1 _) ?_
    rw [HNL.out]
    exact hrow
  · go_wp2
    go_ret
    refine ⟨rfl, ?_⟩
    have hrow := HXY.out
    rw [← HNL.out] at hrow
    exact HP0.out.dropped KWY.out HCY.out (Below.refl _ _) HLY.out HP0.out.lk (fun g hg => .inl hg) ⟨_, HXY.out⟩ (Kp.refl _ _) hrow
end Go.Proofs.YtnmkfdndfhefiaaGreat
