/-
  DmI
-/
import Derived.Test.YtegdhffejmbakaaDmH
import Derived.Test.YtegdhffejmbakaaGb
import Derived.Test.YtegdhffejmbakaaGc
namespace Go.Proofs.Ytegdhffejmbakaa.Dm
open Go.RowKit Go.Deep BigM MonM TexM ParM
set_option linter.unusedVariables false
set_option linter.unusedSimpArgs false
set_option maxHeartbeats 8000000
set_option maxRecDepth 100000
attribute [local go_sem ↓] Go.wp_at_zero Go.wp_at_succ
theorem bdrew1 (w : World) : Below w.heap.size w w.drew := ⟨rfl, rfl, rfl, Nat.le_refl _, fun _ _ => rfl⟩
theorem step_store_row {P : Program} {w : World} {ops : Array Oper} {o : Oper} {a : Act} {K : Act → World → Prop} {Q : Exit → Act → World → Prop} {E : Prop} (hgd : o.guard = none) (ty : TypeId) (x y : Operand) (ho : o.op = .store ty x y)
    (g : Nat) (cells : Array Value) (hx : a.eval x = .pointer (some ⟨g, 0, none⟩)) (hy : a.eval y = .agg cells)
    (t : TypeId) (old : Array Value) (hg : w.heap[g]? = some (.cells old t (0, 0))) (hi : (P.info? ty).map (·.size) = some cells.size)
    (hold : old.size = cells.size) (h1 : cells.all (·.oneCell') = true)
    (h : K (a.put o.dst undef) (w.setRow g cells)) : if Region.wanted o (yielded ops a.tmps) = true then Oper.wp P o a w K Q else E := by
  have hw : Region.wanted o (yielded ops a.tmps) = true := by simp [Region.wanted, hgd]
  rw [if_pos hw]
  exact wp_store_row ty x y ho g cells hx hy t old hg hi hold h1 h
/-- an answer: an amount, and an error. -/
def Ans (w' : World) (e : Ending) (V E : Int) : Prop := ∃ r a n c, e = .returned (.tuple #[.agg #[.bool r, .slice a n c], .int .i64 E]) ∧ Am w' (.agg #[.bool r, .slice a n c]) V
theorem am_form {w : World} {v : Value} {m : Int} (h : Am w v m) : ∃ r a n c, v = .agg #[.bool r, .slice a n c] := by
  obtain ⟨u, e, b⟩ := h
  obtain ⟨a, n, c, rfl, _⟩ := bn_form b
  exact ⟨_, a, n, c, e⟩
theorem amount_form (below : Bool) (x V E : Int) (hp : x < pw 1000) (h : (x ≤ 170141183460469231731687303715884105727 ∧ V = (if below then -x else x) ∧ E = 0) ∨ (¬ x ≤ 170141183460469231731687303715884105727 ∧ V = 0 ∧ E = 10))
    (u : Value) (U : World) (hu : Bn U u x) : Calls Try.prog 31 #[.bool below, u] U fun e w' => Ans w' e V E ∧ Below U.heap.size U w' :=
  (amount_any below u x U hu hp).mono (fun e w' ⟨h1, h2⟩ => ⟨by
    rcases h1 with ⟨k1, v, rfl, k2⟩ | ⟨k1, rfl⟩
    · rcases h with ⟨_, rfl, rfl⟩ | ⟨k3, _⟩
      · obtain ⟨r, a, n, c, rfl⟩ := am_form k2
        exact ⟨r, a, n, c, rfl, k2⟩
      · exact absurd k1 k3
    · rcases h with ⟨k3, _⟩ | ⟨_, rfl, rfl⟩
      · exact absurd k3 k1
      · exact ⟨false, none, 0, 0, rfl, am_zero _⟩, h2⟩)
/-- a sum, of the document's. -/
theorem radd_any (v u : Value) (m k : Int) (w : World) (hv : Am w v m) (hu : Am w u k) (hm : Amt m) (hk : Amt k) :
    Calls Try.prog 22 #[v, u] w fun e w' => Ans w' e (maddV m k) (maddE m k) ∧ Below w.heap.size w w' := by
  obtain ⟨v, rfl, hv⟩ := hv
  obtain ⟨u, rfl, hu⟩ := hu
  obtain ⟨a, n, c, rfl, hn⟩ := bn_form hv
  obtain ⟨a', n', c', rfl, hn'⟩ := bn_form hu
  have l1 := abs_lim hm
  have l2 := abs_lim hk
  have p9 := pw4
  obtain ⟨b, hb⟩ : ∃ b, decide (m < 0) = b := ⟨_, rfl⟩
  obtain ⟨d, hd⟩ : ∃ d, decide (k < 0) = d := ⟨_, rfl⟩
  rw [hb, hd]
  obtain ⟨Wa, hWa⟩ : ∃ W, w.alloc (.cells #[.bool b, .slice a n c] 41) = W := ⟨_, rfl⟩
  obtain ⟨Wb, hWb⟩ : ∃ W, Wa.alloc (.cells #[.bool d, .slice a' n' c'] 41) = W := ⟨_, rfl⟩
  obtain ⟨Wc, hWc⟩ : ∃ W, Wb.alloc (.cells #[.bool false, .slice none 0 0] 41) = W := ⟨_, rfl⟩
  have ba : Below w.heap.size w Wa := by rw [← hWa]; exact ball _ _
  have bb : Below Wa.heap.size Wa Wb := by rw [← hWb]; exact ball _ _
  have bc : Below Wb.heap.size Wb Wc := by rw [← hWc]; exact ball _ _
  have ra := row_on (show Wa.heap[w.heap.size]? = some (.cells #[.bool b, .slice a n c] 41 (0, 0)) from by rw [← hWa]; exact World.alloc_heap_new _ _) bb
  have rb : Wb.heap[Wa.heap.size]? = some (.cells #[.bool d, .slice a' n' c'] 41 (0, 0)) := by rw [← hWb]; exact World.alloc_heap_new _ _
  have RC := hid (show Wc.heap[Wb.heap.size]? = some (.cells #[.bool false, .slice none 0 0] 41 (0, 0)) from by rw [← hWc]; exact World.alloc_heap_new _ _)
  have BB := hid (btr ba bb)
  have BC := hid bc
  obtain ⟨g2, hg2⟩ : ∃ g, w.heap.size = g := ⟨_, rfl⟩
  obtain ⟨g3, hg3⟩ : ∃ g, Wa.heap.size = g := ⟨_, rfl⟩
  obtain ⟨gr, hgr⟩ : ∃ g, Wb.heap.size = g := ⟨_, rfl⟩
  have HG := hid (Nat.le_of_eq hgr)
  rw [hg2] at ra
  rw [hg3] at rb
  rw [hgr] at RC
  have K0 := hid (show ∀ U, Below Wb.heap.size Wb U → U.cell? ⟨g2, 0, none⟩ = some (.bool b) from fun U h => row_cell (row_on ra h) 0)
  have K1 := hid (show ∀ U, Below Wb.heap.size Wb U → U.cell? ⟨g2, 1, none⟩ = some (.slice a n c) from fun U h => row_cell (row_on ra h) 1)
  have K2 := hid (show ∀ U, Below Wb.heap.size Wb U → U.cell? ⟨g3, 0, none⟩ = some (.bool d) from fun U h => row_cell (row_on rb h) 0)
  have K3 := hid (show ∀ U, Below Wb.heap.size Wb U → U.cell? ⟨g3, 1, none⟩ = some (.slice a' n' c') from fun U h => row_cell (row_on rb h) 1)
  have a0 := K0.out _ BC.out
  have a1 := K1.out _ BC.out
  have e0 := K2.out _ BC.out
  have e1 := K3.out _ BC.out
  have NV := hid (show ∀ U, Below Wb.heap.size Wb U → Bn U (.slice a n c) (absI m) from fun U h => (hv.to BB.out).to h)
  have NU := hid (show ∀ U, Below Wb.heap.size Wb U → Bn U (.slice a' n' c') (absI k) from fun U h => (hu.to BB.out).to h)
  have CC := hid (compare_any Wc (.slice a n c) (.slice a' n' c') (absI m) (absI k) (NV.out _ BC.out) (NU.out _ BC.out) (by omega) (by omega))
  have HB := hid hb
  have HD := hid hd
  have HL := hid (And.intro l1 l2)
  have P9 := hid p9
  clear hv hu ba bb bc ra rb l1 l2 p9 hm hk hb hd
  by_cases hbd : b = d
  · subst hbd
    have CP := hid (show ∀ U, Below Wb.heap.size Wb U → Calls Try.prog 46 #[.slice a n c, .slice a' n' c'] U fun e w' => (∃ a1 n1 c1, e = .returned (.slice a1 n1 c1) ∧ Bn w' (.slice a1 n1 c1) (absI m + absI k)) ∧ Below U.heap.size U w' from fun U h =>
      (plus_any U _ _ _ _ (NV.out U h) (NU.out U h) (by have := HL.out; have := P9.out; omega) (by have := HL.out; have := P9.out; omega)).mono (fun e w' ⟨⟨r, e1, e2⟩, h2⟩ => ⟨by
        obtain ⟨a1, n1, c1, rfl, _⟩ := bn_form e2
        exact ⟨a1, n1, c1, e1, e2⟩, h2⟩))
    have CA := hid (amount_form b (absI m + absI k) (maddV m k) (maddE m k) (by have := HL.out; have := P9.out; omega) (by
      have h1 := HB.out
      have h2 := HD.out
      unfold maddV maddE absI
      by_cases hs : m < 0
      · have e1 : b = true := by rw [← h1]; exact decide_eq_true hs
        rw [e1] at h2
        have hs2 := of_decide_eq_true h2
        rw [if_pos hs, if_pos hs2, e1]
        by_cases hl : -m + -k ≤ 170141183460469231731687303715884105727
        · refine .inl ⟨hl, ?_, ?_⟩
          · rw [if_pos (by omega)]; simp; omega
          · rw [if_pos (by omega)]
        · refine .inr ⟨hl, ?_, ?_⟩
          · rw [if_neg (by omega)]
          · rw [if_neg (by omega)]
      · have e1 : b = false := by rw [← h1]; exact decide_eq_false hs
        rw [e1] at h2
        have hs2 := of_decide_eq_false h2
        rw [if_neg hs, if_neg hs2, e1]
        by_cases hl : m + k ≤ 170141183460469231731687303715884105727
        · refine .inl ⟨hl, ?_, ?_⟩
          · rw [if_pos (by omega)]; simp
          · rw [if_pos (by omega)]
        · refine .inr ⟨hl, ?_, ?_⟩
          · rw [if_neg (by omega)]
          · rw [if_neg (by omega)]))
    clear CC NV NU HL P9 HB HD
    obtain ⟨V, hV⟩ : ∃ V, maddV m k = V := ⟨_, rfl⟩
    obtain ⟨E, hE⟩ : ∃ E, maddE m k = E := ⟨_, rfl⟩
    rw [hV, hE] at CA ⊢
    clear hV hE
    go_enter Try.func22, Try.ntmps22
    go_upto_region 2 with fail
    obtain ⟨V1, hV1⟩ : ∃ U, Wc.drew = U := ⟨_, rfl⟩
    have DV1 := hid (show Below Wc.heap.size Wc V1 from by rw [← hV1]; exact bdrew1 _)
    have BV1 := hid (btr (BC.out) DV1.out)
    have Rw2 := hid (row_on RC.out DV1.out)
    refine wp_region_held_drew (S := fun U => U.cell? ⟨g2, 0, none⟩ = some (.bool b) ∧ U.cell? ⟨g2, 1, none⟩ = some (.slice a n c) ∧ U.cell? ⟨g3, 1, none⟩ = some (Value.slice a' n' c')) (by kernel_rfl) ?_ (fun hHeld => ?_)
    · (try dsimp only); rw [hV1]; exact ⟨K0.out _ BV1.out, K1.out _ BV1.out, K3.out _ BV1.out⟩
    rw [hV1] at hHeld ⊢
    clear hV1
    refine' wpAnyH_take (i := 0) (oi := _) (v := _) rfl (by kernel_rfl) (by kernel_rfl) (by kernel_rfl) (fun _ _ _ h => h) (Or.inl ⟨by kernel_rfl, ?_⟩) (by assumption) ?_
    rotate_left
    · (intro w hSw; (try dsimp only at hSw); go_simp; try (with_reducible rfl))
    try simp only [List.getElem_toArray, List.getElem_cons_succ, List.getElem_cons_zero, Act.put, List.setIfInBounds_toArray, List.set_cons_zero, List.set_cons_succ]
    refine' wpAnyH_take (i := 1) (oi := _) (v := _) rfl (by kernel_rfl) (by kernel_rfl) (by kernel_rfl) (fun _ _ _ h => h) (Or.inl ⟨by kernel_rfl, ?_⟩) (by assumption) ?_
    rotate_left
    · (intro w hSw; (try dsimp only at hSw); go_simp; try (with_reducible rfl))
    try simp only [List.getElem_toArray, List.getElem_cons_succ, List.getElem_cons_zero, Act.put, List.setIfInBounds_toArray, List.set_cons_zero, List.set_cons_succ]
    refine' wpAnyH_take (i := 2) (oi := _) (v := _) rfl (by kernel_rfl) (by kernel_rfl) (by kernel_rfl) (fun _ _ _ h => h) (Or.inl ⟨by kernel_rfl, ?_⟩) (by assumption) ?_
    rotate_left
    · (intro w hSw; (try dsimp only at hSw); go_simp; try (with_reducible rfl))
    try simp only [List.getElem_toArray, List.getElem_cons_succ, List.getElem_cons_zero, Act.put, List.setIfInBounds_toArray, List.set_cons_zero, List.set_cons_succ]
    refine' wpAnyH_take (i := 3) (oi := _) (v := _) rfl (by kernel_rfl) (by kernel_rfl) (by kernel_rfl) (fun _ _ _ h => h) (Or.inl ⟨by kernel_rfl, ?_⟩) (by assumption) ?_
    rotate_left
    · (intro w hSw; (try dsimp only at hSw); go_simp; try (with_reducible rfl))
    try simp only [List.getElem_toArray, List.getElem_cons_succ, List.getElem_cons_zero, Act.put, List.setIfInBounds_toArray, List.set_cons_zero, List.set_cons_succ]
    refine' wpAnyH_take (i := 4) (oi := _) (v := _) rfl (by kernel_rfl) (by kernel_rfl) (by kernel_rfl) (fun _ _ _ h => h) (Or.inl ⟨by kernel_rfl, ?_⟩) (by assumption) ?_
    rotate_left
    · (intro w hSw; (try dsimp only at hSw); go_simp; try (with_reducible rfl))
    try simp only [List.getElem_toArray, List.getElem_cons_succ, List.getElem_cons_zero, Act.put, List.setIfInBounds_toArray, List.set_cons_zero, List.set_cons_succ]
    refine' wpAnyH_take (i := 5) (oi := _) (v := _) rfl (by kernel_rfl) (by kernel_rfl) (by kernel_rfl) (fun _ _ _ h => h) (Or.inl ⟨by kernel_rfl, ?_⟩) (by assumption) ?_
    rotate_left
    · (intro w hSw; (try dsimp only at hSw); go_simp; try (with_reducible rfl))
    try simp only [List.getElem_toArray, List.getElem_cons_succ, List.getElem_cons_zero, Act.put, List.setIfInBounds_toArray, List.set_cons_zero, List.set_cons_succ]
    refine wpAnyH_ready (rs := [6]) (by kernel_rfl) (by simp) ?_
    refine (AllReadyH.cons (o := _) rfl (fun K hK => ?_) AllReadyH.nil)
    go_simp
    go_at_call 46
    with_reducible refine (CP.out V1 BV1.out).mono ?_
    rintro e X3 ⟨⟨a5, n5, c5, rfl, h5⟩, DbX3⟩
    have DX3 := hid (btr DV1.out DbX3)
    have BX3 := hid (btr BV1.out DbX3)
    have Rw4 := hid (row_on Rw2.out DbX3)
    have N5 := hid h5
    clear h5
    (try go_wp2_with fail)
    refine hK.out _ _ ?_ (fun hHeld => ?_)
    · (try dsimp only); exact ⟨K0.out _ BX3.out, K1.out _ BX3.out, K3.out _ BX3.out⟩
    clear hK K
    try simp only [List.getElem_toArray, List.getElem_cons_succ, List.getElem_cons_zero, Act.put, List.setIfInBounds_toArray, List.set_cons_zero, List.set_cons_succ]
    refine wpAnyH_ready (rs := [7]) (by kernel_rfl) (by simp) ?_
    refine (AllReadyH.cons (o := _) rfl (fun K hK => ?_) AllReadyH.nil)
    go_simp
    go_at_call 31
    with_reducible refine (CA.out _ X3 N5.out).mono ?_
    rintro e X5 ⟨⟨r6, a6, n6, c6, rfl, h6⟩, DbX5⟩
    have DX5 := hid (btr DX3.out DbX5)
    have BX5 := hid (btr BX3.out DbX5)
    have Rw6 := hid (row_on Rw4.out DbX5)
    have N6 := hid h6
    clear h6
    (try go_wp2_with fail)
    refine hK.out _ _ ?_ (fun hHeld => ?_)
    · (try dsimp only); exact ⟨K0.out _ BX5.out, K1.out _ BX5.out, K3.out _ BX5.out⟩
    clear hK K
    try simp only [List.getElem_toArray, List.getElem_cons_succ, List.getElem_cons_zero, Act.put, List.setIfInBounds_toArray, List.set_cons_zero, List.set_cons_succ]
    refine' wpAnyH_take (i := 8) (oi := _) (v := _) rfl (by kernel_rfl) (by kernel_rfl) (by kernel_rfl) (fun _ _ _ h => h) (Or.inl ⟨by kernel_rfl, ?_⟩) (by assumption) ?_
    rotate_left
    · (intro w hSw; (try dsimp only at hSw); go_simp; try (with_reducible rfl))
    try simp only [List.getElem_toArray, List.getElem_cons_succ, List.getElem_cons_zero, Act.put, List.setIfInBounds_toArray, List.set_cons_zero, List.set_cons_succ]
    refine' wpAnyH_take (i := 9) (oi := _) (v := _) rfl (by kernel_rfl) (by kernel_rfl) (by kernel_rfl) (fun _ _ _ h => h) (Or.inl ⟨by kernel_rfl, ?_⟩) (by assumption) ?_
    rotate_left
    · (intro w hSw; (try dsimp only at hSw); go_simp; try (with_reducible rfl))
    try simp only [List.getElem_toArray, List.getElem_cons_succ, List.getElem_cons_zero, Act.put, List.setIfInBounds_toArray, List.set_cons_zero, List.set_cons_succ]
    refine wpAnyH_ready (rs := [10]) (by kernel_rfl) (by simp) ?_
    refine (AllReadyH.cons (o := _) rfl (fun K hK => ?_) AllReadyH.nil)
    refine step_store_row (by rfl) 41 (.tmp 4) (.tmp 19) (by rfl) gr #[.bool r6, .slice a6 n6 c6] (by rfl) (by rfl) 41 _ Rw6.out (am_info _ _) (am_size _ _ _ _) (am_all _ _ _ _) ?_
    have AY7 := hid (setRow_heap X5 gr _ #[.bool r6, .slice a6 n6 c6] 41 (0, 0) Rw6.out)
    have BY7 := hid (setRow_below (cs := #[.bool r6, .slice a6 n6 c6]) BX5.out HG.out)
    have NY7 := hid (am_row (cs := #[.bool r6, .slice a6 n6 c6]) N6.out Rw6.out)
    obtain ⟨Y7, hY7⟩ : ∃ Y, X5.setRow gr #[.bool r6, .slice a6 n6 c6] = Y := ⟨_, rfl⟩
    rw [hY7] at AY7 BY7 NY7 ⊢
    clear hY7
    refine hK.out _ _ ?_ (fun hHeld => ?_)
    · (try dsimp only); exact ⟨K0.out _ BY7.out, K1.out _ BY7.out, K3.out _ BY7.out⟩
    clear hK K
    try simp only [List.getElem_toArray, List.getElem_cons_succ, List.getElem_cons_zero, Act.put, List.setIfInBounds_toArray, List.set_cons_zero, List.set_cons_succ]
    refine' wpAnyH_take (i := 11) (oi := _) (v := _) rfl (by kernel_rfl) (by kernel_rfl) (by kernel_rfl) (fun _ _ _ h => h) (Or.inl ⟨by kernel_rfl, ?_⟩) (by assumption) ?_
    rotate_left
    · (intro w hSw; (try dsimp only at hSw); go_simp; try (with_reducible rfl))
    try simp only [List.getElem_toArray, List.getElem_cons_succ, List.getElem_cons_zero, Act.put, List.setIfInBounds_toArray, List.set_cons_zero, List.set_cons_succ]
    refine wpAnyH_done (by kernel_rfl) ?_ _
    go_wp2
    refine bodyPost_ret (res_ct Try.results22 _ _ gr 41 #[.bool r6, .slice a6 n6 c6] (0, 0) _ (.int .i64 E) (by rfl) (by rfl) AY7.out Try.underlying41 rfl info32) rfl ⟨?_, btr BB.out BY7.out⟩
    exact ⟨r6, a6, n6, c6, rfl, NY7.out⟩
  · have c0 : (b == d) = false := by simp [hbd]
    obtain ⟨t, ht⟩ : ∃ t, cmpI (absI m) (absI k) = t := ⟨_, rfl⟩
    rw [ht] at CC
    have hsum : (b = true ∧ d = false ∧ m < 0 ∧ ¬ k < 0) ∨ (b = false ∧ d = true ∧ ¬ m < 0 ∧ k < 0) := by
      have h1 := HB.out
      have h2 := HD.out
      cases b <;> cases d
      · exact absurd rfl hbd
      · exact .inr ⟨rfl, rfl, of_decide_eq_false h1, of_decide_eq_true h2⟩
      · exact .inl ⟨rfl, rfl, of_decide_eq_true h1, of_decide_eq_false h2⟩
      · exact absurd rfl hbd
    by_cases hle : absI k ≤ absI m
    · have ct : decide (0 ≤ t) = true := by rw [decide_eq_true_iff, ← ht]; unfold cmpI; split <;> (try split) <;> omega
      have CP := hid (show ∀ U, Below Wb.heap.size Wb U → Calls Try.prog 48 #[.slice a n c, .slice a' n' c'] U fun e w' => (∃ a1 n1 c1, e = .returned (.slice a1 n1 c1) ∧ Bn w' (.slice a1 n1 c1) (absI m - absI k)) ∧ Below U.heap.size U w' from fun U h =>
        (minus_any U _ _ _ _ (NV.out U h) (NU.out U h) (by have := HL.out; have := P9.out; omega) hle).mono (fun e w' ⟨⟨r, e1, e2⟩, h2⟩ => ⟨by
          obtain ⟨a1, n1, c1, rfl, _⟩ := bn_form e2
          exact ⟨a1, n1, c1, e1, e2⟩, h2⟩))
      have CA := hid (amount_form b (absI m - absI k) (maddV m k) (maddE m k) (by have := HL.out; have := P9.out; omega) (.inl ⟨by have := HL.out; omega, by
        have := HL.out
        unfold maddV absI at *
        rcases hsum with ⟨rfl, _, k1, k2⟩ | ⟨rfl, _, k1, k2⟩
        · rw [if_pos k1, if_neg k2] at *
          rw [if_pos (by omega)]; simp <;> omega
        · rw [if_neg k1, if_pos k2] at *
          rw [if_pos (by omega)]; simp <;> omega, by
        have := HL.out
        unfold maddE absI at *
        rcases hsum with ⟨rfl, _, k1, k2⟩ | ⟨rfl, _, k1, k2⟩
        · rw [if_pos k1, if_neg k2] at *
          rw [if_pos (by omega)]
        · rw [if_neg k1, if_pos k2] at *
          rw [if_pos (by omega)]⟩))
      clear NV NU HL P9 HB HD hsum hle ht
      obtain ⟨V, hV⟩ : ∃ V, maddV m k = V := ⟨_, rfl⟩
      obtain ⟨E, hE⟩ : ∃ E, maddE m k = E := ⟨_, rfl⟩
      rw [hV, hE] at CA ⊢
      clear hV hE
      go_enter Try.func22, Try.ntmps22
      go_upto_region 4 with (go_at_call 47; with_reducible refine CC.out.mono ?_; rintro e w4 ⟨rfl, z4, h4⟩; have B4 := hid (btr BC.out (show Below Wc.heap.size Wc w4 from by rw [h4]; exact bdrewN _ _)); have R4 := hid (row_on RC.out (show Below Wc.heap.size Wc w4 from by rw [h4]; exact bdrewN _ _)); clear h4)
      obtain ⟨V8, hV8⟩ : ∃ U, w4.drew = U := ⟨_, rfl⟩
      have DV8 := hid (show Below w4.heap.size w4 V8 from by rw [← hV8]; exact bdrew1 _)
      have BV8 := hid (btr (B4.out) DV8.out)
      have Rw9 := hid (row_on R4.out DV8.out)
      refine wp_region_held_drew (S := fun U => U.cell? ⟨g2, 0, none⟩ = some (.bool b) ∧ U.cell? ⟨g2, 1, none⟩ = some (.slice a n c) ∧ U.cell? ⟨g3, 1, none⟩ = some (Value.slice a' n' c')) (by kernel_rfl) ?_ (fun hHeld => ?_)
      · (try dsimp only); rw [hV8]; exact ⟨K0.out _ BV8.out, K1.out _ BV8.out, K3.out _ BV8.out⟩
      rw [hV8] at hHeld ⊢
      clear hV8
      refine' wpAnyH_take (i := 0) (oi := _) (v := _) rfl (by kernel_rfl) (by kernel_rfl) (by kernel_rfl) (fun _ _ _ h => h) (Or.inl ⟨by kernel_rfl, ?_⟩) (by assumption) ?_
      rotate_left
      · (intro w hSw; (try dsimp only at hSw); go_simp; try (with_reducible rfl))
      try simp only [List.getElem_toArray, List.getElem_cons_succ, List.getElem_cons_zero, Act.put, List.setIfInBounds_toArray, List.set_cons_zero, List.set_cons_succ]
      refine' wpAnyH_take (i := 1) (oi := _) (v := _) rfl (by kernel_rfl) (by kernel_rfl) (by kernel_rfl) (fun _ _ _ h => h) (Or.inl ⟨by kernel_rfl, ?_⟩) (by assumption) ?_
      rotate_left
      · (intro w hSw; (try dsimp only at hSw); go_simp; try (with_reducible rfl))
      try simp only [List.getElem_toArray, List.getElem_cons_succ, List.getElem_cons_zero, Act.put, List.setIfInBounds_toArray, List.set_cons_zero, List.set_cons_succ]
      refine' wpAnyH_take (i := 2) (oi := _) (v := _) rfl (by kernel_rfl) (by kernel_rfl) (by kernel_rfl) (fun _ _ _ h => h) (Or.inl ⟨by kernel_rfl, ?_⟩) (by assumption) ?_
      rotate_left
      · (intro w hSw; (try dsimp only at hSw); go_simp; try (with_reducible rfl))
      try simp only [List.getElem_toArray, List.getElem_cons_succ, List.getElem_cons_zero, Act.put, List.setIfInBounds_toArray, List.set_cons_zero, List.set_cons_succ]
      refine' wpAnyH_take (i := 3) (oi := _) (v := _) rfl (by kernel_rfl) (by kernel_rfl) (by kernel_rfl) (fun _ _ _ h => h) (Or.inl ⟨by kernel_rfl, ?_⟩) (by assumption) ?_
      rotate_left
      · (intro w hSw; (try dsimp only at hSw); go_simp; try (with_reducible rfl))
      try simp only [List.getElem_toArray, List.getElem_cons_succ, List.getElem_cons_zero, Act.put, List.setIfInBounds_toArray, List.set_cons_zero, List.set_cons_succ]
      refine' wpAnyH_take (i := 4) (oi := _) (v := _) rfl (by kernel_rfl) (by kernel_rfl) (by kernel_rfl) (fun _ _ _ h => h) (Or.inl ⟨by kernel_rfl, ?_⟩) (by assumption) ?_
      rotate_left
      · (intro w hSw; (try dsimp only at hSw); go_simp; try (with_reducible rfl))
      try simp only [List.getElem_toArray, List.getElem_cons_succ, List.getElem_cons_zero, Act.put, List.setIfInBounds_toArray, List.set_cons_zero, List.set_cons_succ]
      refine' wpAnyH_take (i := 5) (oi := _) (v := _) rfl (by kernel_rfl) (by kernel_rfl) (by kernel_rfl) (fun _ _ _ h => h) (Or.inl ⟨by kernel_rfl, ?_⟩) (by assumption) ?_
      rotate_left
      · (intro w hSw; (try dsimp only at hSw); go_simp; try (with_reducible rfl))
      try simp only [List.getElem_toArray, List.getElem_cons_succ, List.getElem_cons_zero, Act.put, List.setIfInBounds_toArray, List.set_cons_zero, List.set_cons_succ]
      refine wpAnyH_ready (rs := [6]) (by kernel_rfl) (by simp) ?_
      refine (AllReadyH.cons (o := _) rfl (fun K hK => ?_) AllReadyH.nil)
      go_simp
      go_at_call 48
      with_reducible refine (CP.out V8 BV8.out).mono ?_
      rintro e X10 ⟨⟨a5, n5, c5, rfl, h5⟩, DbX10⟩
      have DX10 := hid (btr DV8.out DbX10)
      have BX10 := hid (btr BV8.out DbX10)
      have Rw11 := hid (row_on Rw9.out DbX10)
      have N5 := hid h5
      clear h5
      (try go_wp2_with fail)
      refine hK.out _ _ ?_ (fun hHeld => ?_)
      · (try dsimp only); exact ⟨K0.out _ BX10.out, K1.out _ BX10.out, K3.out _ BX10.out⟩
      clear hK K
      try simp only [List.getElem_toArray, List.getElem_cons_succ, List.getElem_cons_zero, Act.put, List.setIfInBounds_toArray, List.set_cons_zero, List.set_cons_succ]
      refine wpAnyH_ready (rs := [7]) (by kernel_rfl) (by simp) ?_
      refine (AllReadyH.cons (o := _) rfl (fun K hK => ?_) AllReadyH.nil)
      go_simp
      go_at_call 31
      with_reducible refine (CA.out _ X10 N5.out).mono ?_
      rintro e X12 ⟨⟨r6, a6, n6, c6, rfl, h6⟩, DbX12⟩
      have DX12 := hid (btr DX10.out DbX12)
      have BX12 := hid (btr BX10.out DbX12)
      have Rw13 := hid (row_on Rw11.out DbX12)
      have N6 := hid h6
      clear h6
      (try go_wp2_with fail)
      refine hK.out _ _ ?_ (fun hHeld => ?_)
      · (try dsimp only); exact ⟨K0.out _ BX12.out, K1.out _ BX12.out, K3.out _ BX12.out⟩
      clear hK K
      try simp only [List.getElem_toArray, List.getElem_cons_succ, List.getElem_cons_zero, Act.put, List.setIfInBounds_toArray, List.set_cons_zero, List.set_cons_succ]
      refine' wpAnyH_take (i := 8) (oi := _) (v := _) rfl (by kernel_rfl) (by kernel_rfl) (by kernel_rfl) (fun _ _ _ h => h) (Or.inl ⟨by kernel_rfl, ?_⟩) (by assumption) ?_
      rotate_left
      · (intro w hSw; (try dsimp only at hSw); go_simp; try (with_reducible rfl))
      try simp only [List.getElem_toArray, List.getElem_cons_succ, List.getElem_cons_zero, Act.put, List.setIfInBounds_toArray, List.set_cons_zero, List.set_cons_succ]
      refine' wpAnyH_take (i := 9) (oi := _) (v := _) rfl (by kernel_rfl) (by kernel_rfl) (by kernel_rfl) (fun _ _ _ h => h) (Or.inl ⟨by kernel_rfl, ?_⟩) (by assumption) ?_
      rotate_left
      · (intro w hSw; (try dsimp only at hSw); go_simp; try (with_reducible rfl))
      try simp only [List.getElem_toArray, List.getElem_cons_succ, List.getElem_cons_zero, Act.put, List.setIfInBounds_toArray, List.set_cons_zero, List.set_cons_succ]
      refine wpAnyH_ready (rs := [10]) (by kernel_rfl) (by simp) ?_
      refine (AllReadyH.cons (o := _) rfl (fun K hK => ?_) AllReadyH.nil)
      refine step_store_row (by rfl) 41 (.tmp 4) (.tmp 35) (by rfl) gr #[.bool r6, .slice a6 n6 c6] (by rfl) (by rfl) 41 _ Rw13.out (am_info _ _) (am_size _ _ _ _) (am_all _ _ _ _) ?_
      have AY14 := hid (setRow_heap X12 gr _ #[.bool r6, .slice a6 n6 c6] 41 (0, 0) Rw13.out)
      have BY14 := hid (setRow_below (cs := #[.bool r6, .slice a6 n6 c6]) BX12.out HG.out)
      have NY14 := hid (am_row (cs := #[.bool r6, .slice a6 n6 c6]) N6.out Rw13.out)
      obtain ⟨Y14, hY14⟩ : ∃ Y, X12.setRow gr #[.bool r6, .slice a6 n6 c6] = Y := ⟨_, rfl⟩
      rw [hY14] at AY14 BY14 NY14 ⊢
      clear hY14
      refine hK.out _ _ ?_ (fun hHeld => ?_)
      · (try dsimp only); exact ⟨K0.out _ BY14.out, K1.out _ BY14.out, K3.out _ BY14.out⟩
      clear hK K
      try simp only [List.getElem_toArray, List.getElem_cons_succ, List.getElem_cons_zero, Act.put, List.setIfInBounds_toArray, List.set_cons_zero, List.set_cons_succ]
      refine' wpAnyH_take (i := 11) (oi := _) (v := _) rfl (by kernel_rfl) (by kernel_rfl) (by kernel_rfl) (fun _ _ _ h => h) (Or.inl ⟨by kernel_rfl, ?_⟩) (by assumption) ?_
      rotate_left
      · (intro w hSw; (try dsimp only at hSw); go_simp; try (with_reducible rfl))
      try simp only [List.getElem_toArray, List.getElem_cons_succ, List.getElem_cons_zero, Act.put, List.setIfInBounds_toArray, List.set_cons_zero, List.set_cons_succ]
      refine wpAnyH_done (by kernel_rfl) ?_ _
      go_wp2
      refine bodyPost_ret (res_ct Try.results22 _ _ gr 41 #[.bool r6, .slice a6 n6 c6] (0, 0) _ (.int .i64 E) (by rfl) (by rfl) AY14.out Try.underlying41 rfl info32) rfl ⟨?_, btr BB.out BY14.out⟩
      exact ⟨r6, a6, n6, c6, rfl, NY14.out⟩
    · have ct : decide (0 ≤ t) = false := by rw [decide_eq_false_iff_not, ← ht]; unfold cmpI; split <;> (try split) <;> omega
      have CP := hid (show ∀ U, Below Wb.heap.size Wb U → Calls Try.prog 48 #[.slice a' n' c', .slice a n c] U fun e w' => (∃ a1 n1 c1, e = .returned (.slice a1 n1 c1) ∧ Bn w' (.slice a1 n1 c1) (absI k - absI m)) ∧ Below U.heap.size U w' from fun U h =>
        (minus_any U _ _ _ _ (NU.out U h) (NV.out U h) (by have := HL.out; have := P9.out; omega) (by omega)).mono (fun e w' ⟨⟨r, e1, e2⟩, h2⟩ => ⟨by
          obtain ⟨a1, n1, c1, rfl, _⟩ := bn_form e2
          exact ⟨a1, n1, c1, e1, e2⟩, h2⟩))
      have CA := hid (amount_form d (absI k - absI m) (maddV m k) (maddE m k) (by have := HL.out; have := P9.out; omega) (.inl ⟨by have := HL.out; omega, by
        have := HL.out
        unfold maddV absI at *
        rcases hsum with ⟨_, rfl, k1, k2⟩ | ⟨_, rfl, k1, k2⟩
        · rw [if_pos k1, if_neg k2] at *
          rw [if_pos (by omega)]; simp <;> omega
        · rw [if_neg k1, if_pos k2] at *
          rw [if_pos (by omega)]; simp <;> omega, by
        have := HL.out
        unfold maddE absI at *
        rcases hsum with ⟨_, rfl, k1, k2⟩ | ⟨_, rfl, k1, k2⟩
        · rw [if_pos k1, if_neg k2] at *
          rw [if_pos (by omega)]
        · rw [if_neg k1, if_pos k2] at *
          rw [if_pos (by omega)]⟩))
      clear NV NU HL P9 HB HD hsum hle ht
      obtain ⟨V, hV⟩ : ∃ V, maddV m k = V := ⟨_, rfl⟩
      obtain ⟨E, hE⟩ : ∃ E, maddE m k = E := ⟨_, rfl⟩
      rw [hV, hE] at CA ⊢
      clear hV hE
      go_enter Try.func22, Try.ntmps22
      go_upto_region 5 with (go_at_call 47; with_reducible refine CC.out.mono ?_; rintro e w4 ⟨rfl, z4, h4⟩; have B4 := hid (btr BC.out (show Below Wc.heap.size Wc w4 from by rw [h4]; exact bdrewN _ _)); have R4 := hid (row_on RC.out (show Below Wc.heap.size Wc w4 from by rw [h4]; exact bdrewN _ _)); have a2 := K0.out _ B4.out; have a3 := K1.out _ B4.out; have e2 := K2.out _ B4.out; have e3 := K3.out _ B4.out; clear h4)
      obtain ⟨V15, hV15⟩ : ∃ U, w4.drew = U := ⟨_, rfl⟩
      have DV15 := hid (show Below w4.heap.size w4 V15 from by rw [← hV15]; exact bdrew1 _)
      have BV15 := hid (btr (B4.out) DV15.out)
      have Rw16 := hid (row_on R4.out DV15.out)
      refine wp_region_held_drew (S := fun U => U.cell? ⟨g3, 0, none⟩ = some (.bool d) ∧ U.cell? ⟨g3, 1, none⟩ = some (Value.slice a' n' c') ∧ U.cell? ⟨g2, 1, none⟩ = some (.slice a n c)) (by kernel_rfl) ?_ (fun hHeld => ?_)
      · (try dsimp only); rw [hV15]; exact ⟨K2.out _ BV15.out, K3.out _ BV15.out, K1.out _ BV15.out⟩
      rw [hV15] at hHeld ⊢
      clear hV15
      refine' wpAnyH_take (i := 0) (oi := _) (v := _) rfl (by kernel_rfl) (by kernel_rfl) (by kernel_rfl) (fun _ _ _ h => h) (Or.inl ⟨by kernel_rfl, ?_⟩) (by assumption) ?_
      rotate_left
      · (intro w hSw; (try dsimp only at hSw); go_simp; try (with_reducible rfl))
      try simp only [List.getElem_toArray, List.getElem_cons_succ, List.getElem_cons_zero, Act.put, List.setIfInBounds_toArray, List.set_cons_zero, List.set_cons_succ]
      refine' wpAnyH_take (i := 1) (oi := _) (v := _) rfl (by kernel_rfl) (by kernel_rfl) (by kernel_rfl) (fun _ _ _ h => h) (Or.inl ⟨by kernel_rfl, ?_⟩) (by assumption) ?_
      rotate_left
      · (intro w hSw; (try dsimp only at hSw); go_simp; try (with_reducible rfl))
      try simp only [List.getElem_toArray, List.getElem_cons_succ, List.getElem_cons_zero, Act.put, List.setIfInBounds_toArray, List.set_cons_zero, List.set_cons_succ]
      refine' wpAnyH_take (i := 2) (oi := _) (v := _) rfl (by kernel_rfl) (by kernel_rfl) (by kernel_rfl) (fun _ _ _ h => h) (Or.inl ⟨by kernel_rfl, ?_⟩) (by assumption) ?_
      rotate_left
      · (intro w hSw; (try dsimp only at hSw); go_simp; try (with_reducible rfl))
      try simp only [List.getElem_toArray, List.getElem_cons_succ, List.getElem_cons_zero, Act.put, List.setIfInBounds_toArray, List.set_cons_zero, List.set_cons_succ]
      refine' wpAnyH_take (i := 3) (oi := _) (v := _) rfl (by kernel_rfl) (by kernel_rfl) (by kernel_rfl) (fun _ _ _ h => h) (Or.inl ⟨by kernel_rfl, ?_⟩) (by assumption) ?_
      rotate_left
      · (intro w hSw; (try dsimp only at hSw); go_simp; try (with_reducible rfl))
      try simp only [List.getElem_toArray, List.getElem_cons_succ, List.getElem_cons_zero, Act.put, List.setIfInBounds_toArray, List.set_cons_zero, List.set_cons_succ]
      refine' wpAnyH_take (i := 4) (oi := _) (v := _) rfl (by kernel_rfl) (by kernel_rfl) (by kernel_rfl) (fun _ _ _ h => h) (Or.inl ⟨by kernel_rfl, ?_⟩) (by assumption) ?_
      rotate_left
      · (intro w hSw; (try dsimp only at hSw); go_simp; try (with_reducible rfl))
      try simp only [List.getElem_toArray, List.getElem_cons_succ, List.getElem_cons_zero, Act.put, List.setIfInBounds_toArray, List.set_cons_zero, List.set_cons_succ]
      refine' wpAnyH_take (i := 5) (oi := _) (v := _) rfl (by kernel_rfl) (by kernel_rfl) (by kernel_rfl) (fun _ _ _ h => h) (Or.inl ⟨by kernel_rfl, ?_⟩) (by assumption) ?_
      rotate_left
      · (intro w hSw; (try dsimp only at hSw); go_simp; try (with_reducible rfl))
      try simp only [List.getElem_toArray, List.getElem_cons_succ, List.getElem_cons_zero, Act.put, List.setIfInBounds_toArray, List.set_cons_zero, List.set_cons_succ]
      refine wpAnyH_ready (rs := [6]) (by kernel_rfl) (by simp) ?_
      refine (AllReadyH.cons (o := _) rfl (fun K hK => ?_) AllReadyH.nil)
      go_simp
      go_at_call 48
      with_reducible refine (CP.out V15 BV15.out).mono ?_
      rintro e X17 ⟨⟨a5, n5, c5, rfl, h5⟩, DbX17⟩
      have DX17 := hid (btr DV15.out DbX17)
      have BX17 := hid (btr BV15.out DbX17)
      have Rw18 := hid (row_on Rw16.out DbX17)
      have N5 := hid h5
      clear h5
      (try go_wp2_with fail)
      refine hK.out _ _ ?_ (fun hHeld => ?_)
      · (try dsimp only); exact ⟨K2.out _ BX17.out, K3.out _ BX17.out, K1.out _ BX17.out⟩
      clear hK K
      try simp only [List.getElem_toArray, List.getElem_cons_succ, List.getElem_cons_zero, Act.put, List.setIfInBounds_toArray, List.set_cons_zero, List.set_cons_succ]
      refine wpAnyH_ready (rs := [7]) (by kernel_rfl) (by simp) ?_
      refine (AllReadyH.cons (o := _) rfl (fun K hK => ?_) AllReadyH.nil)
      go_simp
      go_at_call 31
      with_reducible refine (CA.out _ X17 N5.out).mono ?_
      rintro e X19 ⟨⟨r6, a6, n6, c6, rfl, h6⟩, DbX19⟩
      have DX19 := hid (btr DX17.out DbX19)
      have BX19 := hid (btr BX17.out DbX19)
      have Rw20 := hid (row_on Rw18.out DbX19)
      have N6 := hid h6
      clear h6
      (try go_wp2_with fail)
      refine hK.out _ _ ?_ (fun hHeld => ?_)
      · (try dsimp only); exact ⟨K2.out _ BX19.out, K3.out _ BX19.out, K1.out _ BX19.out⟩
      clear hK K
      try simp only [List.getElem_toArray, List.getElem_cons_succ, List.getElem_cons_zero, Act.put, List.setIfInBounds_toArray, List.set_cons_zero, List.set_cons_succ]
      refine' wpAnyH_take (i := 8) (oi := _) (v := _) rfl (by kernel_rfl) (by kernel_rfl) (by kernel_rfl) (fun _ _ _ h => h) (Or.inl ⟨by kernel_rfl, ?_⟩) (by assumption) ?_
      rotate_left
      · (intro w hSw; (try dsimp only at hSw); go_simp; try (with_reducible rfl))
      try simp only [List.getElem_toArray, List.getElem_cons_succ, List.getElem_cons_zero, Act.put, List.setIfInBounds_toArray, List.set_cons_zero, List.set_cons_succ]
      refine' wpAnyH_take (i := 9) (oi := _) (v := _) rfl (by kernel_rfl) (by kernel_rfl) (by kernel_rfl) (fun _ _ _ h => h) (Or.inl ⟨by kernel_rfl, ?_⟩) (by assumption) ?_
      rotate_left
      · (intro w hSw; (try dsimp only at hSw); go_simp; try (with_reducible rfl))
      try simp only [List.getElem_toArray, List.getElem_cons_succ, List.getElem_cons_zero, Act.put, List.setIfInBounds_toArray, List.set_cons_zero, List.set_cons_succ]
      refine wpAnyH_ready (rs := [10]) (by kernel_rfl) (by simp) ?_
      refine (AllReadyH.cons (o := _) rfl (fun K hK => ?_) AllReadyH.nil)
      refine step_store_row (by rfl) 41 (.tmp 4) (.tmp 45) (by rfl) gr #[.bool r6, .slice a6 n6 c6] (by rfl) (by rfl) 41 _ Rw20.out (am_info _ _) (am_size _ _ _ _) (am_all _ _ _ _) ?_
      have AY21 := hid (setRow_heap X19 gr _ #[.bool r6, .slice a6 n6 c6] 41 (0, 0) Rw20.out)
      have BY21 := hid (setRow_below (cs := #[.bool r6, .slice a6 n6 c6]) BX19.out HG.out)
      have NY21 := hid (am_row (cs := #[.bool r6, .slice a6 n6 c6]) N6.out Rw20.out)
      obtain ⟨Y21, hY21⟩ : ∃ Y, X19.setRow gr #[.bool r6, .slice a6 n6 c6] = Y := ⟨_, rfl⟩
      rw [hY21] at AY21 BY21 NY21 ⊢
      clear hY21
      refine hK.out _ _ ?_ (fun hHeld => ?_)
      · (try dsimp only); exact ⟨K2.out _ BY21.out, K3.out _ BY21.out, K1.out _ BY21.out⟩
      clear hK K
      try simp only [List.getElem_toArray, List.getElem_cons_succ, List.getElem_cons_zero, Act.put, List.setIfInBounds_toArray, List.set_cons_zero, List.set_cons_succ]
      refine' wpAnyH_take (i := 11) (oi := _) (v := _) rfl (by kernel_rfl) (by kernel_rfl) (by kernel_rfl) (fun _ _ _ h => h) (Or.inl ⟨by kernel_rfl, ?_⟩) (by assumption) ?_
      rotate_left
      · (intro w hSw; (try dsimp only at hSw); go_simp; try (with_reducible rfl))
      try simp only [List.getElem_toArray, List.getElem_cons_succ, List.getElem_cons_zero, Act.put, List.setIfInBounds_toArray, List.set_cons_zero, List.set_cons_succ]
      refine wpAnyH_done (by kernel_rfl) ?_ _
      go_wp2
      refine bodyPost_ret (res_ct Try.results22 _ _ gr 41 #[.bool r6, .slice a6 n6 c6] (0, 0) _ (.int .i64 E) (by rfl) (by rfl) AY21.out Try.underlying41 rfl info32) rfl ⟨?_, btr BB.out BY21.out⟩
      exact ⟨r6, a6, n6, c6, rfl, NY21.out⟩
end Go.Proofs.Ytegdhffejmbakaa.Dm
