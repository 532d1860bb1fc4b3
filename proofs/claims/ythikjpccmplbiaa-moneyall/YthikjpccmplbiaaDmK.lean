/-
  The document's Portion.
-/
import Derived.Test.YthikjpccmplbiaaDmI
import Derived.Test.YthikjpccmplbiaaPoP
namespace Go.Proofs.Ythikjpccmplbiaa.Dm
open Go.RowKit Go.Deep BigM MonM TexM ParM
set_option linter.unusedVariables false
set_option linter.unusedSimpArgs false
set_option maxHeartbeats 8000000
set_option maxRecDepth 100000
attribute [local go_sem ↓] Go.wp_at_zero Go.wp_at_succ
theorem rportion_any (v : Value) (m x y round : Int) (w : World) (hv : Am w v m) (hm : Amt m) (hx0 : 0 ≤ x) (hx1 : x < 4294967296) (hy0 : 0 ≤ y) (hy1 : y < 4294967296) :
    Calls Try.prog 29 #[v, .int .u32 x, .int .u32 y, .int .i64 round] w fun e w' => Ans w' e (pV m x y round) (pE m x y round) ∧ Below w.heap.size w w' := by
  obtain ⟨v, rfl, hv⟩ := hv
  obtain ⟨a, n, c, rfl, hn⟩ := bn_form hv
  have l1 := abs_lim hm
  have p9 := pw4
  obtain ⟨b, hb⟩ : ∃ b, decide (m < 0) = b := ⟨_, rfl⟩
  rw [hb]
  obtain ⟨Wa, hWa⟩ : ∃ W, w.alloc (.cells #[.bool b, .slice a n c] 31) = W := ⟨_, rfl⟩
  obtain ⟨Wb, hWb⟩ : ∃ W, Wa.alloc (.cells #[.bool false, .slice none 0 0] 31) = W := ⟨_, rfl⟩
  have ba : Below w.heap.size w Wa := by rw [← hWa]; exact ball _ _
  have bb : Below Wa.heap.size Wa Wb := by rw [← hWb]; exact ball _ _
  have ra : Wa.heap[w.heap.size]? = some (.cells #[.bool b, .slice a n c] 31 (0, 0)) := by rw [← hWa]; exact World.alloc_heap_new _ _
  have RB := hid (show Wb.heap[Wa.heap.size]? = some (.cells #[.bool false, .slice none 0 0] 31 (0, 0)) from by rw [← hWb]; exact World.alloc_heap_new _ _)
  have BB := hid ba
  have BC := hid bb
  obtain ⟨g2, hg2⟩ : ∃ g, w.heap.size = g := ⟨_, rfl⟩
  obtain ⟨gr, hgr⟩ : ∃ g, Wa.heap.size = g := ⟨_, rfl⟩
  have HG := hid (Nat.le_of_eq hgr)
  rw [hg2] at ra
  rw [hgr] at RB
  have K0 := hid (show ∀ U, Below Wa.heap.size Wa U → U.cell? ⟨g2, 0, none⟩ = some (.bool b) from fun U h => row_cell (row_on ra h) 0)
  have K1 := hid (show ∀ U, Below Wa.heap.size Wa U → U.cell? ⟨g2, 1, none⟩ = some (.slice a n c) from fun U h => row_cell (row_on ra h) 1)
  have NV := hid (show ∀ U, Below Wa.heap.size Wa U → Bn U (.slice a n c) (absI m) from fun U h => (hv.to BB.out).to h)
  have HB := hid hb
  have HL := hid l1
  have P9 := hid p9
  clear hv ba bb ra l1 p9 hm hb
  by_cases ho : round = 0 ∨ round = 1 ∨ round = 2
  · have c1 : decide (round < 0) = false := by rw [decide_eq_false_iff_not]; omega
    have c2 : decide (2 < round) = false := by rw [decide_eq_false_iff_not]; omega
    by_cases hy : y = 0
    · have e1 : pE m x y round = 11 := by unfold pE; rw [if_neg (fun h => h ho), if_pos hy]
      have e2 : pV m x y round = 0 := by unfold pV; rw [if_neg (fun h => h ho), if_pos hy]
      rw [e1, e2]
      clear e1 e2 ho
      subst hy
      go_enter Try.func29, Try.ntmps29
      go_wp2_with (refine wpList_store_row (by rfl) 31 (.tmp 8) (.tmp 19) (by rfl) gr #[.bool false, .slice none 0 0] (by rfl) (by rfl) 31 _ RB.out (am_info _ _) (am_size _ _ _ _) (am_all _ _ _ _) ?_)
      refine bodyPost_ret (res_ct Try.results29 _ _ gr 31 #[.bool false, .slice none 0 0] (0, 0) _ (.int .i64 11) (by rfl) (by rfl) (setRow_heap _ _ _ _ 31 (0, 0) RB.out) Try.underlying31 rfl info32) rfl ⟨?_, setRow_below (btr BB.out BC.out) (by have := HG.out; have := BB.out.size; omega)⟩
      exact ⟨_, _, _, _, rfl, am_zero _⟩
    · have hyp : 0 < y := by omega
      have hX := pX_nonneg m x y round hx0 hyp
      have hxx0 : 0 ≤ absI m * x := Int.mul_nonneg HL.out.2 hx0
      have hxx1 : absI m * x ≤ 170141183460469231731687303715884105727 * 4294967295 := Int.mul_le_mul HL.out.1 (by omega) hx0 (by decide)
      have p3 := pw3
      have hq : absI m * x / y ≤ absI m * x := Int.ediv_le_self y hxx0
      have hb2 := b2i_bounds (upB (absI m * x / y) (absI m * x % y) y round)
      have CA := hid (amount_form b (pX m x y round) (pV m x y round) (pE m x y round) (by unfold pX; have := P9.out; omega) (by
        have h1 := HB.out
        unfold pV pE
        have ho' : ¬ ¬ (round = 0 ∨ round = 1 ∨ round = 2) := fun h => h ho
        rw [if_neg ho', if_neg hy, if_neg ho', if_neg hy]
        by_cases hl : pX m x y round ≤ 170141183460469231731687303715884105727
        · refine .inl ⟨hl, ?_, ?_⟩
          · rw [if_pos hl, ← h1]
            by_cases hs : m < 0
            · rw [if_pos hs, if_pos (decide_eq_true hs)]
            · rw [if_neg hs, if_neg (by simp [hs])]
          · rw [if_pos hl]
        · exact .inr ⟨hl, by rw [if_neg hl], by rw [if_neg hl]⟩))
      have CO := hid (show ∀ z : Int, 0 ≤ z → z < 4294967296 → ∀ U : World, Calls Try.prog 35 #[.int .u64 z] U fun e w' => (∃ a1 n1 c1, e = .returned (.slice a1 n1 c1) ∧ Bn w' (.slice a1 n1 c1) z) ∧ Below U.heap.size U w' from fun z h0 h1 U =>
        (of_any z U ⟨h0, by omega⟩).mono (fun e w' ⟨⟨r, e1, e2⟩, h2⟩ => ⟨by
          obtain ⟨a1, n1, c1, rfl, _⟩ := bn_form e2
          exact ⟨a1, n1, c1, e1, e2⟩, h2⟩))
      have COX := hid (CO.out x hx0 hx1)
      have COY := hid (CO.out y hy0 hy1)
      have CT := hid (show ∀ U, Below Wa.heap.size Wa U → ∀ z, Bn U z x → Calls Try.prog 37 #[.slice a n c, z] U fun e w' => (∃ a1 n1 c1, e = .returned (.slice a1 n1 c1) ∧ Bn w' (.slice a1 n1 c1) (absI m * x)) ∧ Below U.heap.size U w' from fun U h z hz =>
        (times_any U _ _ _ _ (NV.out U h) hz (by have := HL.out; have := P9.out; omega) (by have := P9.out; omega)).mono (fun e w' ⟨⟨r, e1, e2⟩, h2⟩ => ⟨by
          obtain ⟨a1, n1, c1, rfl, _⟩ := bn_form e2
          exact ⟨a1, n1, c1, e1, e2⟩, h2⟩))
      have CR := hid (show ∀ U z t, Bn U z (absI m * x) → Bn U t y → Calls Try.prog 50 #[z, t, .int .i64 round] U fun e w' => (∃ a1 n1 c1, e = .returned (.slice a1 n1 c1) ∧ Bn w' (.slice a1 n1 c1) (pX m x y round)) ∧ Below U.heap.size U w' from fun U z t hz ht =>
        (rounded_any U z t (absI m * x) y round ho hz ht (by omega) hyp (by omega)).mono (fun e w' ⟨⟨r, e1, e2⟩, h2⟩ => ⟨by
          obtain ⟨a1, n1, c1, rfl, _⟩ := bn_form e2
          exact ⟨a1, n1, c1, e1, e2⟩, h2⟩))
      have w1 : IntKind.u64.wrap x = x := by rw [IntKind.wrap_u64]; omega
      have w2 : IntKind.u64.wrap y = y := by rw [IntKind.wrap_u64]; omega
      have cy : (y == 0) = false := by simp [hy]
      obtain ⟨V, hV⟩ : ∃ V, pV m x y round = V := ⟨_, rfl⟩
      obtain ⟨E, hE⟩ : ∃ E, pE m x y round = E := ⟨_, rfl⟩
      rw [hV, hE] at CA ⊢
      clear hV hE hX hxx0 hxx1 p3 hq hb2 CO NV HB HL P9 hyp hy hy0 hy1 hx0 hx1 ho
      go_enter Try.func29, Try.ntmps29
      go_upto_region 5 with fail
      obtain ⟨V1, hV1⟩ : ∃ U, Wb.drew = U := ⟨_, rfl⟩
      have DV1 := hid (show Below Wb.heap.size Wb V1 from by rw [← hV1]; exact bdrew1 _)
      have BV1 := hid (btr (BC.out) DV1.out)
      have Rw2 := hid (row_on RB.out DV1.out)
      refine wp_region_held_drew (S := fun U => U.cell? ⟨g2, 0, none⟩ = some (.bool b) ∧ U.cell? ⟨g2, 1, none⟩ = some (.slice a n c)) (by kernel_rfl) ?_ (fun hHeld => ?_)
      · (try dsimp only); rw [hV1]; exact ⟨K0.out _ BV1.out, K1.out _ BV1.out⟩
      rw [hV1] at hHeld ⊢
      clear hV1
      refine' wpAnyH_take (i := 0) (oi := _) (v := _) rfl (by kernel_rfl) (by kernel_rfl) (by kernel_rfl) (fun _ _ _ h => h) (Or.inl ⟨by kernel_rfl, ?_⟩) (by assumption) ?_
      rotate_left
      · (intro w hSw; (try dsimp only at hSw); go_simp; try (with_reducible rfl))
      try simp only [List.getElem_toArray, List.getElem_cons_succ, List.getElem_cons_zero, Act.put, List.setIfInBounds_toArray, List.set_cons_zero, List.set_cons_succ]
      refine' wpAnyH_take (i := 1) (oi := _) (v := _) rfl (by kernel_rfl) (by kernel_rfl) (by kernel_rfl) (fun _ _ _ h => h) (Or.inl ⟨by kernel_rfl, ?_⟩) (by assumption) ?_
      rotate_left
      · (intro w hSw; (try dsimp only at hSw); go_simp; try (with_reducible rfl))
      try simp only [List.getElem_toArray, List.getElem_cons_succ, List.getElem_cons_zero, Act.put, List.setIfInBounds_toArray, List.set_cons_zero, List.set_cons_succ]
      refine' wpAnyH_take (i := 2) (oi := _) (v := _) rfl (by kernel_rfl) (by kernel_rfl) (by kernel_rfl) (fun _ _ _ h => h) (Or.inl ⟨by kernel_rfl, ?_⟩) (by assumption) ?_
      rotate_left
      · (intro w hSw; (try dsimp only at hSw); go_simp; try (with_reducible rfl))
      try simp only [List.getElem_toArray, List.getElem_cons_succ, List.getElem_cons_zero, Act.put, List.setIfInBounds_toArray, List.set_cons_zero, List.set_cons_succ]
      refine' wpAnyH_take (i := 3) (oi := _) (v := _) rfl (by kernel_rfl) (by kernel_rfl) (by kernel_rfl) (fun _ _ _ h => h) (Or.inl ⟨by kernel_rfl, ?_⟩) (by assumption) ?_
      rotate_left
      · (intro w hSw; (try dsimp only at hSw); go_simp; try (with_reducible rfl))
      try simp only [List.getElem_toArray, List.getElem_cons_succ, List.getElem_cons_zero, Act.put, List.setIfInBounds_toArray, List.set_cons_zero, List.set_cons_succ]
      refine' wpAnyH_take (i := 4) (oi := _) (v := _) rfl (by kernel_rfl) (by kernel_rfl) (by kernel_rfl) (fun _ _ _ h => h) (Or.inl ⟨by kernel_rfl, ?_⟩) (by assumption) ?_
      rotate_left
      · (intro w hSw; (try dsimp only at hSw); go_simp; try (with_reducible rfl))
      try simp only [List.getElem_toArray, List.getElem_cons_succ, List.getElem_cons_zero, Act.put, List.setIfInBounds_toArray, List.set_cons_zero, List.set_cons_succ]
      refine' wpAnyH_take (i := 5) (oi := _) (v := _) rfl (by kernel_rfl) (by kernel_rfl) (by kernel_rfl) (fun _ _ _ h => h) (Or.inl ⟨by kernel_rfl, ?_⟩) (by assumption) ?_
      rotate_left
      · (intro w hSw; (try dsimp only at hSw); go_simp; try (with_reducible rfl))
      try simp only [List.getElem_toArray, List.getElem_cons_succ, List.getElem_cons_zero, Act.put, List.setIfInBounds_toArray, List.set_cons_zero, List.set_cons_succ]
      refine' wpAnyH_take (i := 8) (oi := _) (v := _) rfl (by kernel_rfl) (by kernel_rfl) (by kernel_rfl) (fun _ _ _ h => h) (Or.inl ⟨by kernel_rfl, ?_⟩) (by assumption) ?_
      rotate_left
      · (intro w hSw; (try dsimp only at hSw); go_simp; try (with_reducible rfl))
      try simp only [List.getElem_toArray, List.getElem_cons_succ, List.getElem_cons_zero, Act.put, List.setIfInBounds_toArray, List.set_cons_zero, List.set_cons_succ]
      refine' wpAnyH_take (i := 9) (oi := _) (v := _) rfl (by kernel_rfl) (by kernel_rfl) (by kernel_rfl) (fun _ _ _ h => h) (Or.inl ⟨by kernel_rfl, ?_⟩) (by assumption) ?_
      rotate_left
      · (intro w hSw; (try dsimp only at hSw); go_simp; try (with_reducible rfl))
      try simp only [List.getElem_toArray, List.getElem_cons_succ, List.getElem_cons_zero, Act.put, List.setIfInBounds_toArray, List.set_cons_zero, List.set_cons_succ]
      refine' wpAnyH_take (i := 11) (oi := _) (v := _) rfl (by kernel_rfl) (by kernel_rfl) (by kernel_rfl) (fun _ _ _ h => h) (Or.inl ⟨by kernel_rfl, ?_⟩) (by assumption) ?_
      rotate_left
      · (intro w hSw; (try dsimp only at hSw); go_simp; try (with_reducible rfl))
      try simp only [List.getElem_toArray, List.getElem_cons_succ, List.getElem_cons_zero, Act.put, List.setIfInBounds_toArray, List.set_cons_zero, List.set_cons_succ]
      refine wpAnyH_ready (rs := [6]) (by kernel_rfl) (by simp) ?_
      refine (AllReadyH.cons (o := _) rfl (fun K hK => ?_) AllReadyH.nil)
      go_simp
      go_at_call 35
      with_reducible refine (COX.out V1).mono ?_
      rintro e X3 ⟨⟨a5, n5, c5, rfl, h5⟩, DbX3⟩
      have DX3 := hid (btr DV1.out DbX3)
      have BX3 := hid (btr BV1.out DbX3)
      have Rw4 := hid (row_on Rw2.out DbX3)
      have N5 := hid h5
      clear h5
      (try go_wp2_with fail)
      refine hK.out _ _ ?_ (fun hHeld => ?_)
      · (try dsimp only); exact ⟨K0.out _ BX3.out, K1.out _ BX3.out⟩
      clear hK K
      try simp only [List.getElem_toArray, List.getElem_cons_succ, List.getElem_cons_zero, Act.put, List.setIfInBounds_toArray, List.set_cons_zero, List.set_cons_succ]
      refine wpAnyH_ready (rs := [7]) (by kernel_rfl) (by simp) ?_
      refine (AllReadyH.cons (o := _) rfl (fun K hK => ?_) AllReadyH.nil)
      go_simp
      go_at_call 37
      with_reducible refine (CT.out X3 BX3.out _ N5.out).mono ?_
      rintro e X5 ⟨⟨a6, n6, c6, rfl, h6⟩, DbX5⟩
      have DX5 := hid (btr DX3.out DbX5)
      have BX5 := hid (btr BX3.out DbX5)
      have Rw6 := hid (row_on Rw4.out DbX5)
      have N6 := hid h6
      clear h6
      (try go_wp2_with fail)
      refine hK.out _ _ ?_ (fun hHeld => ?_)
      · (try dsimp only); exact ⟨K0.out _ BX5.out, K1.out _ BX5.out⟩
      clear hK K
      try simp only [List.getElem_toArray, List.getElem_cons_succ, List.getElem_cons_zero, Act.put, List.setIfInBounds_toArray, List.set_cons_zero, List.set_cons_succ]
      refine wpAnyH_ready (rs := [10]) (by kernel_rfl) (by simp) ?_
      refine (AllReadyH.cons (o := _) rfl (fun K hK => ?_) AllReadyH.nil)
      go_simp
      go_at_call 35
      with_reducible refine (COY.out X5).mono ?_
      rintro e X7 ⟨⟨a7, n7, c7, rfl, h7⟩, DbX7⟩
      have DX7 := hid (btr DX5.out DbX7)
      have BX7 := hid (btr BX5.out DbX7)
      have Rw8 := hid (row_on Rw6.out DbX7)
      have N7 := hid h7
      have M6 := hid (N6.out.to DbX7)
      clear h7
      (try go_wp2_with fail)
      refine hK.out _ _ ?_ (fun hHeld => ?_)
      · (try dsimp only); exact ⟨K0.out _ BX7.out, K1.out _ BX7.out⟩
      clear hK K
      try simp only [List.getElem_toArray, List.getElem_cons_succ, List.getElem_cons_zero, Act.put, List.setIfInBounds_toArray, List.set_cons_zero, List.set_cons_succ]
      refine wpAnyH_ready (rs := [12]) (by kernel_rfl) (by simp) ?_
      refine (AllReadyH.cons (o := _) rfl (fun K hK => ?_) AllReadyH.nil)
      go_simp
      go_at_call 50
      with_reducible refine (CR.out X7 _ _ M6.out N7.out).mono ?_
      rintro e X9 ⟨⟨a8, n8, c8, rfl, h8⟩, DbX9⟩
      have DX9 := hid (btr DX7.out DbX9)
      have BX9 := hid (btr BX7.out DbX9)
      have Rw10 := hid (row_on Rw8.out DbX9)
      have N8 := hid h8
      clear h8
      (try go_wp2_with fail)
      refine hK.out _ _ ?_ (fun hHeld => ?_)
      · (try dsimp only); exact ⟨K0.out _ BX9.out, K1.out _ BX9.out⟩
      clear hK K
      try simp only [List.getElem_toArray, List.getElem_cons_succ, List.getElem_cons_zero, Act.put, List.setIfInBounds_toArray, List.set_cons_zero, List.set_cons_succ]
      refine wpAnyH_ready (rs := [13]) (by kernel_rfl) (by simp) ?_
      refine (AllReadyH.cons (o := _) rfl (fun K hK => ?_) AllReadyH.nil)
      go_simp
      go_at_call 41
      with_reducible refine (CA.out _ X9 N8.out).mono ?_
      rintro e X11 ⟨⟨r9, a9, n9, c9, rfl, h9⟩, DbX11⟩
      have DX11 := hid (btr DX9.out DbX11)
      have BX11 := hid (btr BX9.out DbX11)
      have Rw12 := hid (row_on Rw10.out DbX11)
      have N9 := hid h9
      clear h9
      (try go_wp2_with fail)
      refine hK.out _ _ ?_ (fun hHeld => ?_)
      · (try dsimp only); exact ⟨K0.out _ BX11.out, K1.out _ BX11.out⟩
      clear hK K
      try simp only [List.getElem_toArray, List.getElem_cons_succ, List.getElem_cons_zero, Act.put, List.setIfInBounds_toArray, List.set_cons_zero, List.set_cons_succ]
      refine' wpAnyH_take (i := 14) (oi := _) (v := _) rfl (by kernel_rfl) (by kernel_rfl) (by kernel_rfl) (fun _ _ _ h => h) (Or.inl ⟨by kernel_rfl, ?_⟩) (by assumption) ?_
      rotate_left
      · (intro w hSw; (try dsimp only at hSw); go_simp; try (with_reducible rfl))
      try simp only [List.getElem_toArray, List.getElem_cons_succ, List.getElem_cons_zero, Act.put, List.setIfInBounds_toArray, List.set_cons_zero, List.set_cons_succ]
      refine' wpAnyH_take (i := 15) (oi := _) (v := _) rfl (by kernel_rfl) (by kernel_rfl) (by kernel_rfl) (fun _ _ _ h => h) (Or.inl ⟨by kernel_rfl, ?_⟩) (by assumption) ?_
      rotate_left
      · (intro w hSw; (try dsimp only at hSw); go_simp; try (with_reducible rfl))
      try simp only [List.getElem_toArray, List.getElem_cons_succ, List.getElem_cons_zero, Act.put, List.setIfInBounds_toArray, List.set_cons_zero, List.set_cons_succ]
      refine wpAnyH_ready (rs := [16]) (by kernel_rfl) (by simp) ?_
      refine (AllReadyH.cons (o := _) rfl (fun K hK => ?_) AllReadyH.nil)
      refine step_store_row (by rfl) 31 (.tmp 8) (.tmp 34) (by rfl) gr #[.bool r9, .slice a9 n9 c9] (by rfl) (by rfl) 31 _ Rw12.out (am_info _ _) (am_size _ _ _ _) (am_all _ _ _ _) ?_
      have AY13 := hid (setRow_heap X11 gr _ #[.bool r9, .slice a9 n9 c9] 31 (0, 0) Rw12.out)
      have BY13 := hid (setRow_below (cs := #[.bool r9, .slice a9 n9 c9]) BX11.out HG.out)
      have NY13 := hid (am_row (cs := #[.bool r9, .slice a9 n9 c9]) N9.out Rw12.out)
      obtain ⟨Y13, hY13⟩ : ∃ Y, X11.setRow gr #[.bool r9, .slice a9 n9 c9] = Y := ⟨_, rfl⟩
      rw [hY13] at AY13 BY13 NY13 ⊢
      clear hY13
      refine hK.out _ _ ?_ (fun hHeld => ?_)
      · (try dsimp only); exact ⟨K0.out _ BY13.out, K1.out _ BY13.out⟩
      clear hK K
      try simp only [List.getElem_toArray, List.getElem_cons_succ, List.getElem_cons_zero, Act.put, List.setIfInBounds_toArray, List.set_cons_zero, List.set_cons_succ]
      refine' wpAnyH_take (i := 17) (oi := _) (v := _) rfl (by kernel_rfl) (by kernel_rfl) (by kernel_rfl) (fun _ _ _ h => h) (Or.inl ⟨by kernel_rfl, ?_⟩) (by assumption) ?_
      rotate_left
      · (intro w hSw; (try dsimp only at hSw); go_simp; try (with_reducible rfl))
      try simp only [List.getElem_toArray, List.getElem_cons_succ, List.getElem_cons_zero, Act.put, List.setIfInBounds_toArray, List.set_cons_zero, List.set_cons_succ]
      refine wpAnyH_done (by kernel_rfl) ?_ _
      go_wp2
      refine bodyPost_ret (res_ct Try.results29 _ _ gr 31 #[.bool r9, .slice a9 n9 c9] (0, 0) _ (.int .i64 E) (by rfl) (by rfl) AY13.out Try.underlying31 rfl info32) rfl ⟨?_, btr BB.out BY13.out⟩
      exact ⟨r9, a9, n9, c9, rfl, NY13.out⟩
  · have e1 : pE m x y round = 1 := by unfold pE; rw [if_pos ho]
    have e2 : pV m x y round = 0 := by unfold pV; rw [if_pos ho]
    rw [e1, e2]
    clear e1 e2
    by_cases hr : round < 0
    · have c1 : decide (round < 0) = true := decide_eq_true hr
      clear ho hr
      go_enter Try.func29, Try.ntmps29
      go_wp2_with (refine wpList_store_row (by rfl) 31 (.tmp 8) (.tmp 16) (by rfl) gr #[.bool false, .slice none 0 0] (by rfl) (by rfl) 31 _ RB.out (am_info _ _) (am_size _ _ _ _) (am_all _ _ _ _) ?_)
      refine bodyPost_ret (res_ct Try.results29 _ _ gr 31 #[.bool false, .slice none 0 0] (0, 0) _ (.int .i64 1) (by rfl) (by rfl) (setRow_heap _ _ _ _ 31 (0, 0) RB.out) Try.underlying31 rfl info32) rfl ⟨?_, setRow_below (btr BB.out BC.out) (by have := HG.out; have := BB.out.size; omega)⟩
      exact ⟨_, _, _, _, rfl, am_zero _⟩
    · have c1 : decide (round < 0) = false := decide_eq_false hr
      have c2 : decide (2 < round) = true := by rw [decide_eq_true_iff]; omega
      clear ho hr
      go_enter Try.func29, Try.ntmps29
      go_wp2_with (refine wpList_store_row (by rfl) 31 (.tmp 8) (.tmp 16) (by rfl) gr #[.bool false, .slice none 0 0] (by rfl) (by rfl) 31 _ RB.out (am_info _ _) (am_size _ _ _ _) (am_all _ _ _ _) ?_)
      refine bodyPost_ret (res_ct Try.results29 _ _ gr 31 #[.bool false, .slice none 0 0] (0, 0) _ (.int .i64 1) (by rfl) (by rfl) (setRow_heap _ _ _ _ 31 (0, 0) RB.out) Try.underlying31 rfl info32) rfl ⟨?_, setRow_below (btr BB.out BC.out) (by have := HG.out; have := BB.out.size; omega)⟩
      exact ⟨_, _, _, _, rfl, am_zero _⟩
end Go.Proofs.Ythikjpccmplbiaa.Dm
