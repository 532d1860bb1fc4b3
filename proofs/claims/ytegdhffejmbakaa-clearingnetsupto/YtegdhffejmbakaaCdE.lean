/-
  CdE
-/
import Derived.Test.YtegdhffejmbakaaCdD
namespace Go.Proofs.Ytegdhffejmbakaa.Ac
open Go.RowKit Go.Deep Go.Maps BigM MonM TexM ParM Go.Proofs.Ytegdhffejmbakaa
set_option linter.unusedVariables false
set_option linter.unusedSimpArgs false
set_option maxHeartbeats 8000000
set_option maxRecDepth 100000
attribute [local go_sem ↓] Go.wp_at_zero Go.wp_at_succ
/-- what is made of two words, by both. -/
theorem makes (H L : Int) (hH : 0 ≤ H ∧ H < 18446744073709551616) (hL : 0 ≤ L ∧ L < 18446744073709551616) : ∃ m er, Amt m ∧ ((er = 0 ∧ hiW m = H ∧ loW m = L) ∨ (er = 3 ∧ m = 0)) ∧
    (∀ U : World, Calls Try.prog 10 #[.agg #[.int .u64 H, .int .u64 L]] U fun e w' => e = .returned (.tuple #[.agg #[.int .u64 (hiW m), .int .u64 (loW m)], .int .i64 er]) ∧ Below U.heap.size U w') ∧
    (∀ U : World, Calls Try.prog 11 #[.agg #[.int .u64 H, .int .u64 L]] U fun e w' => (∃ b a n c, e = .returned (.tuple #[.agg #[.bool b, .slice a n c], .int .i64 er]) ∧ Dm.Am w' (.agg #[.bool b, .slice a n c]) m) ∧ Below U.heap.size U w') := by
  have am : ∀ (w' : World) v m, Dm.Am w' v m → ∃ b a n c, v = .agg #[.bool b, .slice a n c] := fun w' v m h => by
    obtain ⟨u, e, hb⟩ := h
    obtain ⟨a, n, c, rfl, _⟩ := Dm.bn_form hb
    exact ⟨_, a, n, c, e⟩
  by_cases h : H = 9223372036854775808 ∧ L = 0
  · refine ⟨0, 3, by unfold Amt; omega, .inr ⟨rfl, rfl⟩, fun U => ?_, fun U => (Dm.reffrom_any H L U hH hL).mono (fun e w' ⟨h1, h2⟩ => ⟨?_, h2⟩)⟩
    · obtain ⟨rfl, rfl⟩ := h
      exact fromWords_no U
    · obtain ⟨v, m', er, e', av, ⟨_, _, rfl, rfl⟩ | ⟨no, _, _⟩⟩ := h1
      · obtain ⟨b, a, n, c, rfl⟩ := am _ _ _ av
        exact ⟨b, a, n, c, e', av⟩
      · exact absurd h no
  · have hw : hiW (Dm.sgn H L) = H ∧ loW (Dm.sgn H L) = L := by unfold Dm.sgn hiW loW; split <;> omega
    refine ⟨Dm.sgn H L, 0, by unfold Amt Dm.sgn; split <;> omega, .inl ⟨rfl, hw.1, hw.2⟩, fun U => ?_, fun U => (Dm.reffrom_any H L U hH hL).mono (fun e w' ⟨h1, h2⟩ => ⟨?_, h2⟩)⟩
    · rw [hw.1, hw.2]
      exact fromWords_yes H L U h
    · obtain ⟨v, m', er, e', av, ⟨q1, q2, _, _⟩ | ⟨_, rfl, rfl⟩⟩ := h1
      · exact absurd ⟨q1, q2⟩ h
      · obtain ⟨b, a, n, c, rfl⟩ := am _ _ _ av
        exact ⟨b, a, n, c, e', av⟩
theorem sorted_eq : ∀ (r r' : List (Int × Int)), (r.map (·.1)).Pairwise (· < ·) → (r'.map (·.1)).Pairwise (· < ·) → (∀ x, x ∈ r ↔ x ∈ r') → r = r'
  | [], [], _, _, _ => rfl
  | [], a' :: r', _, _, h => by have := (h a').2 (by simp); cases this
  | a :: r, [], _, _, h => by have := (h a).1 (by simp); cases this
  | a :: r, a' :: r', h1, h2, h => by
    rw [List.map_cons, List.pairwise_cons] at h1 h2
    have e : a = a' := by
      rcases List.mem_cons.1 ((h a).1 (by simp)) with e | e
      · exact e
      · have k1 := h2.1 a.1 (List.mem_map.2 ⟨a, e, rfl⟩)
        rcases List.mem_cons.1 ((h a').2 (by simp)) with e' | e'
        · exact e'.symm
        · have k2 := h1.1 a'.1 (List.mem_map.2 ⟨a', e', rfl⟩)
          omega
    subst e
    rw [sorted_eq r r' h1.2 h2.2 (fun x => by
      constructor
      · intro hx
        rcases List.mem_cons.1 ((h x).1 (List.mem_cons_of_mem _ hx)) with e | e
        · subst e
          have := h1.1 x.1 (List.mem_map.2 ⟨x, hx, rfl⟩)
          omega
        · exact e
      · intro hx
        rcases List.mem_cons.1 ((h x).2 (List.mem_cons_of_mem _ hx)) with e | e
        · subst e
          have := h2.1 x.1 (List.mem_map.2 ⟨x, hx, rfl⟩)
          omega
        · exact e)]
theorem Rel.uniq {f : Int → Option Int} {r r' : List (Int × Int)} (h : Rel f r) (h' : Rel f r') : r = r' :=
  sorted_eq r r' h.up h'.up (fun x => ⟨fun hx => (h'.iff x.1 x.2 (h.ok x hx).1).1 ((h.iff x.1 x.2 (h.ok x hx).1).2 hx), fun hx => (h.iff x.1 x.2 (h'.ok x hx).1).1 ((h'.iff x.1 x.2 (h'.ok x hx).1).2 hx)⟩)
/-- texts compared. -/
theorem same_any (m : Int) (b : Bool) (p : Option Addr) (n c : Nat) (w : World) (hm : Amt m) (ha : Dm.Am w (.agg #[.bool b, .slice p n c]) m) :
    Calls Try.prog 7 #[.agg #[.int .u64 (hiW m), .int .u64 (loW m)], .agg #[.bool b, .slice p n c]] w fun e w' => e = .returned (.bool true) ∧ Below w.heap.size w w' := by
  obtain ⟨mh, hmh⟩ : ∃ x, hiW m = x := ⟨_, rfl⟩
  obtain ⟨ml, hml⟩ : ∃ x, loW m = x := ⟨_, rfl⟩
  have CT := hid (show ∀ U : World, Calls Try.prog 13 #[.agg #[.int .u64 mh, .int .u64 ml]] U fun e w' => (∃ xs, IsText m xs ∧ e = .returned (.string (strOfNums xs))) ∧ Below U.heap.size U w' from fun U => by
    have := text_walk m U hm
    unfold mv at this
    rw [hmh, hml] at this
    exact this)
  obtain ⟨Wa, hWa⟩ : ∃ W, w.alloc (.cells #[.int .u64 mh, .int .u64 ml] 35) = W := ⟨_, rfl⟩
  obtain ⟨Wb, hWb⟩ : ∃ W, Wa.alloc (.cells #[.bool b, .slice p n c] 41) = W := ⟨_, rfl⟩
  obtain ⟨g1, hg1⟩ : ∃ g, w.heap.size = g := ⟨_, rfl⟩
  have sa : Wa.heap.size = g1 + 1 := by rw [← hWa, ← hg1]; exact Array.size_push _
  have ba : Below w.heap.size w Wa := by rw [← hWa]; exact ball _ _
  have bb : Below Wa.heap.size Wa Wb := by rw [← hWb]; exact ball _ _
  have RA := hid (show Wb.heap[g1]? = some (.cells #[.int .u64 mh, .int .u64 ml] 35 (0, 0)) from row_on (by rw [← hWa, ← hg1]; exact World.alloc_heap_new _ _) bb)
  have RB := hid (show Wb.heap[g1 + 1]? = some (.cells #[.bool b, .slice p n c] 41 (0, 0)) from by rw [← hWb, ← sa]; exact World.alloc_heap_new _ _)
  have BB := hid (btr ba bb)
  have N0 := hid (show ∀ U, Below Wb.heap.size Wb U → U.cell? ⟨g1, 0, none⟩ = some (.int .u64 mh) from fun U h => row_cell (row_on RA.out h) 0)
  have N1 := hid (show ∀ U, Below Wb.heap.size Wb U → U.cell? ⟨g1, 1, none⟩ = some (.int .u64 ml) from fun U h => row_cell (row_on RA.out h) 1)
  have N2 := hid (show ∀ U, Below Wb.heap.size Wb U → U.cell? ⟨g1 + 1, 0, none⟩ = some (.bool b) from fun U h => row_cell (row_on RB.out h) 0)
  have N3 := hid (show ∀ U, Below Wb.heap.size Wb U → U.cell? ⟨g1 + 1, 1, none⟩ = some (.slice p n c) from fun U h => row_cell (row_on RB.out h) 1)
  have CU := hid (show ∀ U : World, Below Wb.heap.size Wb U → Calls Try.prog 24 #[.agg #[.bool b, .slice p n c]] U fun e w' => (∃ xs, IsText m xs ∧ e = .returned (.string (strOfNums xs))) ∧ Below U.heap.size U w' from fun U h => Dm.reftext_any _ m U ((ha.on BB.out).on h) hm)
  have HWa := hid hWa
  have HWb := hid hWb
  have Hg1 := hid hg1
  rw [hmh, hml]
  clear hWa hWb ba bb hg1 sa ha hm hmh hml
  go_enter Try.func7, Try.ntmps7
  go_upto_region 1 with fail
  rw [HWa.out, HWb.out, Hg1.out]
  obtain ⟨V1, hV1⟩ : ∃ U, Wb.drew = U := ⟨_, rfl⟩
  have DV1 := hid (show Below Wb.heap.size Wb V1 from by rw [← hV1]; exact bdrew1 _)
  have BV1 := hid (btr (Below.refl Wb.heap.size Wb) DV1.out)
  refine wp_region_held_drew (S := fun U => U.cell? ⟨g1, 0, none⟩ = some (.int .u64 mh) ∧ U.cell? ⟨g1, 1, none⟩ = some (.int .u64 ml) ∧ U.cell? ⟨g1 + 1, 0, none⟩ = some (.bool b) ∧ U.cell? ⟨g1 + 1, 1, none⟩ = some (.slice p n c)) (by kernel_rfl) ?_ (fun hHeld => ?_)
  · (try dsimp only); rw [hV1]; exact ⟨N0.out _ BV1.out, N1.out _ BV1.out, N2.out _ BV1.out, N3.out _ BV1.out⟩
  rw [hV1] at hHeld ⊢
  clear hV1
  refine' wpAnyH_take (i := 0) (oi := _) (v := _) rfl (by kernel_rfl) (by kernel_rfl) (by kernel_rfl) (fun _ _ _ h => h) (Or.inl ⟨by kernel_rfl, ?_⟩) (by assumption) ?_
  rotate_left
  · (intro w hSw; (try dsimp only at hSw); go_simp; try (with_reducible rfl))
  try simp only [List.getElem_toArray, List.getElem_cons_succ, List.getElem_cons_zero, Act.put, List.setIfInBounds_toArray, List.set_cons_zero, List.set_cons_succ]
  refine' wpAnyH_take (i := 2) (oi := _) (v := _) rfl (by kernel_rfl) (by kernel_rfl) (by kernel_rfl) (fun _ _ _ h => h) (Or.inl ⟨by kernel_rfl, ?_⟩) (by assumption) ?_
  rotate_left
  · (intro w hSw; (try dsimp only at hSw); go_simp; try (with_reducible rfl))
  try simp only [List.getElem_toArray, List.getElem_cons_succ, List.getElem_cons_zero, Act.put, List.setIfInBounds_toArray, List.set_cons_zero, List.set_cons_succ]
  refine wpAnyH_ready (rs := [1]) (by kernel_rfl) (by simp) ?_
  refine (AllReadyH.cons (o := _) rfl (fun K hK => ?_) AllReadyH.nil)
  go_simp
  go_at_call 13
  with_reducible refine (CT.out V1).mono ?_
  rintro e X2 ⟨⟨xs, hxs, rfl⟩, DbX2⟩
  have DX2 := hid (btr DV1.out DbX2)
  have BX2 := hid (btr BV1.out DbX2)
  (try go_wp2_with fail)
  refine hK.out _ _ ?_ (fun hHeld => ?_)
  · (try dsimp only); exact ⟨N0.out _ BX2.out, N1.out _ BX2.out, N2.out _ BX2.out, N3.out _ BX2.out⟩
  clear hK K
  try simp only [List.getElem_toArray, List.getElem_cons_succ, List.getElem_cons_zero, Act.put, List.setIfInBounds_toArray, List.set_cons_zero, List.set_cons_succ]
  refine wpAnyH_ready (rs := [3]) (by kernel_rfl) (by simp) ?_
  refine (AllReadyH.cons (o := _) rfl (fun K hK => ?_) AllReadyH.nil)
  go_simp
  go_at_call 24
  with_reducible refine (CU.out X2 BX2.out).mono ?_
  rintro e X3 ⟨⟨ys, hys, rfl⟩, DbX3⟩
  have DX3 := hid (btr DX2.out DbX3)
  have BX3 := hid (btr BX2.out DbX3)
  obtain rfl := isText_unique m _ _ hxs hys
  obtain ⟨TT, hT⟩ : ∃ T, strOfNums xs = T := ⟨_, rfl⟩
  rw [hT]
  clear hT hxs hys
  (try go_wp2_with fail)
  refine hK.out _ _ ?_ (fun hHeld => ?_)
  · (try dsimp only); exact ⟨N0.out _ BX3.out, N1.out _ BX3.out, N2.out _ BX3.out, N3.out _ BX3.out⟩
  clear hK K
  try simp only [List.getElem_toArray, List.getElem_cons_succ, List.getElem_cons_zero, Act.put, List.setIfInBounds_toArray, List.set_cons_zero, List.set_cons_succ]
  refine' wpAnyH_take (i := 4) (oi := _) (v := _) rfl (by kernel_rfl) (by kernel_rfl) (by kernel_rfl) (fun _ _ _ h => h) (Or.inl ⟨by kernel_rfl, ?_⟩) (by assumption) ?_
  rotate_left
  · (intro w hSw; (try dsimp only at hSw); go_simp; try (with_reducible rfl))
  try simp only [List.getElem_toArray, List.getElem_cons_succ, List.getElem_cons_zero, Act.put, List.setIfInBounds_toArray, List.set_cons_zero, List.set_cons_succ]
  refine' wpAnyH_take (i := 5) (oi := _) (v := _) rfl (by kernel_rfl) (by kernel_rfl) (by kernel_rfl) (fun _ _ _ h => h) (Or.inl ⟨by kernel_rfl, ?_⟩) (by assumption) ?_
  rotate_left
  · (intro w hSw; (try dsimp only at hSw); go_simp; try (with_reducible rfl))
  try simp only [List.getElem_toArray, List.getElem_cons_succ, List.getElem_cons_zero, Act.put, List.setIfInBounds_toArray, List.set_cons_zero, List.set_cons_succ]
  refine wpAnyH_done (by kernel_rfl) ?_ _
  go_wp2
  go_ret
  exact ⟨by simp, btr BB.out BX3.out⟩
end Go.Proofs.Ytegdhffejmbakaa.Ac
