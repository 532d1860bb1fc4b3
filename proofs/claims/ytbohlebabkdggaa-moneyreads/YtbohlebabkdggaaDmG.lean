/-
  MoneyReads, walked.
-/
import Derived.Test.YtbohlebabkdggaaDmF
namespace Go.Proofs.Ytbohlebabkdggaa.Dm
open Go.RowKit Go.Deep BigM MonM TexM ParM
set_option linter.unusedVariables false
set_option linter.unusedSimpArgs false
set_option maxHeartbeats 20000000
set_option maxRecDepth 100000
attribute [local go_sem ↓] Go.wp_at_zero Go.wp_at_succ
theorem bdrew1 (w : World) : Below w.heap.size w w.drew := ⟨rfl, rfl, rfl, Nat.le_refl _, fun _ _ => rfl⟩
theorem eq_word (d : Nat) (a b : Int) (w : World) : (Op.equalIn (d + 1) 22 (.int .u64 a) (.int .u64 b)).run Try.prog w = .ok (a == b) w := run_equalIn_int w d 22 .u64 .u64 a b Try.underlying22
theorem eq2 (x y : Int) (w : World) : (Op.equalIn 10000 23 (.agg #[.int .u64 x, .int .u64 y]) (.agg #[.int .u64 x, .int .u64 y])).run Try.prog w = .ok true w := by
  have a3' := Try.isAgg22
  have z3 := Try.sizeOf22
  rw [show (10000 : Nat) = 9998 + 2 from rfl, Op.equalIn]
  simp only [Sem.run_bind, run_underlying Try.underlying23, Result.andThen_ok]
  simp only [Std.Legacy.Range.forIn_eq_forIn_range', Std.Legacy.Range.size, Nat.sub_zero, Nat.add_sub_cancel, Nat.div_one, List.range'_succ, List.range'_zero, List.forIn_cons, List.forIn_nil]
  simp [part, z3, a3', Sem.run_bind, eq_word]
/-- what is read of a text, by both. -/
theorem reads (s : ByteArray) (hs : s.size ≤ maxLen) : ∃ m er, Amt m ∧ ((er = 0 ∧ IsText m (nums s)) ∨ (er = 3 ∧ m = 0)) ∧
    (∀ U : World, Calls Try.prog 4 #[.string s] U fun e w' => e = .returned (.tuple #[.agg #[.int .u64 (hiW m), .int .u64 (loW m)], .int .i64 er]) ∧ Below U.heap.size U w') ∧
    (∀ U : World, Calls Try.prog 5 #[.string s] U fun e w' => (∃ b a n c, e = .returned (.tuple #[.agg #[.bool b, .slice a n c], .int .i64 er]) ∧ Am w' (.agg #[.bool b, .slice a n c]) m) ∧ Below U.heap.size U w') := by
  have am : ∀ (w' : World) v m, Am w' v m → ∃ b a n c, v = .agg #[.bool b, .slice a n c] := fun w' v m h => by
    obtain ⟨u, e, hb⟩ := h
    obtain ⟨a, n, c, rfl, _⟩ := bn_form hb
    exact ⟨_, a, n, c, e⟩
  by_cases h : ∃ m, Amt m ∧ IsText m (nums s)
  · obtain ⟨m, ha, ht⟩ := h
    refine ⟨m, 0, ha, .inl ⟨rfl, ht⟩, fun U => (parse_any s U hs).mono (fun e w' ⟨h1, h2⟩ => ⟨?_, h2⟩), fun U => (refparse_any s U hs).mono (fun e w' ⟨h1, h2⟩ => ⟨?_, h2⟩)⟩
    · rcases h1 with ⟨m', ha', ht', e'⟩ | ⟨no, _⟩
      · rw [text_inj m m' ha ha' _ ht ht']; exact e'
      · exact absurd ht (no m ha)
    · obtain ⟨v, m', er, e', av, ⟨ha', ht', rfl⟩ | ⟨no, _, _⟩⟩ := h1
      · rw [← text_inj m m' ha ha' _ ht ht'] at av
        obtain ⟨b, a, n, c, rfl⟩ := am _ _ _ av
        exact ⟨b, a, n, c, e', av⟩
      · exact absurd ht (no m ha)
  · have no : ∀ m, Amt m → ¬ IsText m (nums s) := fun m ha ht => h ⟨m, ha, ht⟩
    refine ⟨0, 3, by unfold Amt; omega, .inr ⟨rfl, rfl⟩, fun U => (parse_any s U hs).mono (fun e w' ⟨h1, h2⟩ => ⟨?_, h2⟩), fun U => (refparse_any s U hs).mono (fun e w' ⟨h1, h2⟩ => ⟨?_, h2⟩)⟩
    · rcases h1 with ⟨m', ha', ht', e'⟩ | ⟨_, e'⟩
      · exact absurd ht' (no m' ha')
      · exact e'
    · obtain ⟨v, m', er, e', av, ⟨ha', ht', rfl⟩ | ⟨_, rfl, rfl⟩⟩ := h1
      · exact absurd ht' (no m' ha')
      · obtain ⟨b, a, n, c, rfl⟩ := am _ _ _ av
        exact ⟨b, a, n, c, e', av⟩
/-- what is made of two words, by both. -/
theorem makes (H L : Int) (hH : 0 ≤ H ∧ H < 18446744073709551616) (hL : 0 ≤ L ∧ L < 18446744073709551616) : ∃ m er, Amt m ∧ ((er = 0 ∧ hiW m = H ∧ loW m = L) ∨ (er = 3 ∧ m = 0)) ∧
    (∀ U : World, Calls Try.prog 9 #[.agg #[.int .u64 H, .int .u64 L]] U fun e w' => e = .returned (.tuple #[.agg #[.int .u64 (hiW m), .int .u64 (loW m)], .int .i64 er]) ∧ Below U.heap.size U w') ∧
    (∀ U : World, Calls Try.prog 10 #[.agg #[.int .u64 H, .int .u64 L]] U fun e w' => (∃ b a n c, e = .returned (.tuple #[.agg #[.bool b, .slice a n c], .int .i64 er]) ∧ Am w' (.agg #[.bool b, .slice a n c]) m) ∧ Below U.heap.size U w') := by
  have am : ∀ (w' : World) v m, Am w' v m → ∃ b a n c, v = .agg #[.bool b, .slice a n c] := fun w' v m h => by
    obtain ⟨u, e, hb⟩ := h
    obtain ⟨a, n, c, rfl, _⟩ := bn_form hb
    exact ⟨_, a, n, c, e⟩
  by_cases h : H = 9223372036854775808 ∧ L = 0
  · refine ⟨0, 3, by unfold Amt; omega, .inr ⟨rfl, rfl⟩, fun U => ?_, fun U => (reffrom_any H L U hH hL).mono (fun e w' ⟨h1, h2⟩ => ⟨?_, h2⟩)⟩
    · obtain ⟨rfl, rfl⟩ := h
      exact fromWords_no U
    · obtain ⟨v, m', er, e', av, ⟨_, _, rfl, rfl⟩ | ⟨no, _, _⟩⟩ := h1
      · obtain ⟨b, a, n, c, rfl⟩ := am _ _ _ av
        exact ⟨b, a, n, c, e', av⟩
      · exact absurd h no
  · have hw : hiW (sgn H L) = H ∧ loW (sgn H L) = L := by unfold sgn hiW loW; split <;> omega
    refine ⟨sgn H L, 0, by unfold Amt sgn; split <;> omega, .inl ⟨rfl, hw.1, hw.2⟩, fun U => ?_, fun U => (reffrom_any H L U hH hL).mono (fun e w' ⟨h1, h2⟩ => ⟨?_, h2⟩)⟩
    · rw [hw.1, hw.2]
      exact fromWords_yes H L U h
    · obtain ⟨v, m', er, e', av, ⟨q1, q2, _, _⟩ | ⟨_, rfl, rfl⟩⟩ := h1
      · exact absurd ⟨q1, q2⟩ h
      · obtain ⟨b, a, n, c, rfl⟩ := am _ _ _ av
        exact ⟨b, a, n, c, e', av⟩
theorem hundred : IsText 100 (nums ⟨#[49, 46, 48, 48]⟩) := ⟨3, ⟨by decide, by decide, .inl rfl⟩, by decide⟩
theorem parse_hundred (U : World) : Calls Try.prog 4 #[.string ⟨#[49, 46, 48, 48]⟩] U fun e w' => e = .returned (.tuple #[.agg #[.int .u64 0, .int .u64 100], .int .i64 0]) ∧ Below U.heap.size U w' :=
  (parse_any ⟨#[49, 46, 48, 48]⟩ U (by decide)).mono (fun e w' ⟨h1, h2⟩ => ⟨by
    have h100 : Amt 100 := by unfold Amt; omega
    rcases h1 with ⟨m', ha', ht', e'⟩ | ⟨no, _⟩
    · obtain rfl := text_inj 100 m' h100 ha' _ hundred ht'
      exact e'
    · exact absurd hundred (no 100 h100), h2⟩)
theorem row_set1 {w : World} {g : Nat} {t : TypeId} {a b u : Value} (h : w.heap[g]? = some (.cells #[a, b] t (0, 0))) : (w.setCell ⟨g, 0, none⟩ u).heap[g]? = some (.cells #[u, b] t (0, 0)) := heap_setCell_same w g 0 _ t u h
theorem row_set2 {w : World} {g : Nat} {t : TypeId} {a b u : Value} (h : w.heap[g]? = some (.cells #[a, b] t (0, 0))) : (w.setCell ⟨g, 1, none⟩ u).heap[g]? = some (.cells #[a, u] t (0, 0)) := heap_setCell_same w g 1 _ t u h
theorem am_set {w : World} {v u : Value} {m : Int} {g i : Nat} {old : Array Value} (h : Am w v m) (hg : w.heap[g]? = some (.cells old 32 (0, 0))) : Am (w.setCell ⟨g, i, none⟩ u) v m := by
  obtain ⟨z, e, ds, h1, h2⟩ := h
  refine ⟨z, e, ds, ?_, h2⟩
  rcases h1 with h1 | ⟨b, o, cap, e1, l1, l2, ⟨cur, hc⟩, h3⟩
  · exact .inl h1
  · have hne : b ≠ g := fun e => by
      rw [e, hg] at hc
      injection hc with hc
      injection hc with _ hc
      cases hc
    have hh : (w.setCell ⟨g, i, none⟩ u).heap[b]? = w.heap[b]? := heap_setCell_other _ _ _ _ (by show b ≠ g; exact hne)
    refine .inr ⟨b, o, cap, e1, l1, l2, ⟨cur, by rw [hh]; exact hc⟩, fun j hj => ?_⟩
    rw [← h3 j hj]
    simp only [World.cell?, hh]
theorem moneyreads_any (s : ByteArray) (H L : Int) (w : World) (hs : s.size ≤ maxLen) (hH : 0 ≤ H ∧ H < 18446744073709551616) (hL : 0 ≤ L ∧ L < 18446744073709551616) :
    Calls Try.prog 3 #[.string s, .agg #[.int .u64 H, .int .u64 L]] w fun e w' => e = .returned (.bool true) ∧ Below w.heap.size w w' := by
  obtain ⟨m, er, hma, hor, c4, c5⟩ := reads s hs
  obtain ⟨k, fr, hka, hok, c9, c10⟩ := makes H L hH hL
  have C4 := hid c4
  have C5 := hid c5
  have C9 := hid c9
  have C10 := hid c10
  have D4 := hid parse_hundred
  have HOR := hid hor
  have HOK := hid hok
  have HMA := hid hma
  have HKA := hid hka
  clear c4 c5 c9 c10 hor hok hma hka
  obtain ⟨W1, hW1⟩ : ∃ W, w.alloc (.cells #[.int .u64 H, .int .u64 L] 23) = W := ⟨_, rfl⟩
  have B1 := hid (show Below w.heap.size w W1 from by rw [← hW1]; exact ball _ _)
  have R1 := hid (show W1.heap[w.heap.size]? = some (.cells #[.int .u64 H, .int .u64 L] 23 (0, 0)) from by rw [← hW1]; exact World.alloc_heap_new _ _)
  obtain ⟨g3, hg3⟩ : ∃ g, w.heap.size = g := ⟨_, rfl⟩
  have HG3 := hid hg3
  rw [hg3] at R1
  obtain ⟨mh, hmh⟩ : ∃ x, hiW m = x := ⟨_, rfl⟩
  obtain ⟨ml, hml⟩ : ∃ x, loW m = x := ⟨_, rfl⟩
  have HMW := hid (And.intro hmh hml)
  rw [hmh, hml] at C4
  clear hmh hml
  obtain ⟨kh, hkh⟩ : ∃ x, hiW k = x := ⟨_, rfl⟩
  obtain ⟨kl, hkl⟩ : ∃ x, loW k = x := ⟨_, rfl⟩
  have HKW := hid (And.intro hkh hkl)
  rw [hkh, hkl] at C9
  clear hkh hkl
  go_enter Try.func3, Try.ntmps3
  go_upto_region 2 with (go_at_call 4; with_reducible refine (C4.out _).mono ?_; rintro e w2 ⟨rfl, h1⟩; have R2 := hid (row_on R1.out h1); have B2 := hid (btr B1.out h1); clear h1)
  obtain ⟨W3, hW3⟩ : ∃ W, w2.alloc (.cells #[.int .u64 mh, .int .u64 ml] 25) = W := ⟨_, rfl⟩
  have b3 : Below w2.heap.size w2 W3 := by rw [← hW3]; exact ball _ _
  have z3 := hid (show W3.heap[w2.heap.size]? = some (.cells #[.int .u64 mh, .int .u64 ml] 25 (0, 0)) from by rw [← hW3]; exact World.alloc_heap_new _ _)
  have R3 := hid (row_on R2.out b3)
  have B3 := hid (btr B2.out b3)
  obtain ⟨g5, hg5⟩ : ∃ g, w2.heap.size = g := ⟨_, rfl⟩
  have HG5 := hid (show g3 < g5 ∧ g5 < W3.heap.size from ⟨by have := row_lt R2.out; omega, by have := row_lt z3.out; omega⟩)
  rw [hg5] at z3
  rw [hW3, hg5]
  clear hW3 b3 hg5 R1 B1 R2 B2
  go_upto_region 3 with (go_at_call 5; with_reducible refine (C5.out _).mono ?_; rintro e w4 ⟨⟨b, a, n, c, rfl, h0⟩, h1⟩; have A4 := hid h0; have R4 := hid (row_on R3.out h1); have z4 := hid (row_on z3.out h1); have B4 := hid (btr B3.out h1); have S4 := hid h1.size; clear h0 h1)
  obtain ⟨X, hX⟩ : ∃ W, w4.alloc (.cells #[.bool b, .slice a n c] 32) = W := ⟨_, rfl⟩
  have bX : Below w4.heap.size w4 X := by rw [← hX]; exact ball _ _
  have yX := hid (show X.heap[w4.heap.size]? = some (.cells #[.bool b, .slice a n c] 32 (0, 0)) from by rw [← hX]; exact World.alloc_heap_new _ _)
  have RX := hid (row_on R4.out bX)
  have zX := hid (row_on z4.out bX)
  have BX := hid (btr B4.out bX)
  have AX := hid (A4.out.on bX)
  obtain ⟨g7, hg7⟩ : ∃ g, w4.heap.size = g := ⟨_, rfl⟩
  have HG7 := hid (show g5 < g7 from by have := HG5.out; have := S4.out; omega)
  rw [hg7] at yX
  rw [hX, hg7]
  clear hX bX hg7 R4 z4 B4 A4 R3 z3 B3 S4
  have K0 := hid (show ∀ U, Below X.heap.size X U → U.cell? ⟨g5, 0, none⟩ = some (.int .u64 mh) from fun U h => row_cell (row_on zX.out h) 0)
  have K1 := hid (show ∀ U, Below X.heap.size X U → U.cell? ⟨g5, 1, none⟩ = some (.int .u64 ml) from fun U h => row_cell (row_on zX.out h) 1)
  have K2 := hid (show ∀ U, Below X.heap.size X U → U.cell? ⟨g7, 0, none⟩ = some (.bool b) from fun U h => row_cell (row_on yX.out h) 0)
  have K3 := hid (show ∀ U, Below X.heap.size X U → U.cell? ⟨g7, 1, none⟩ = some (.slice a n c) from fun U h => row_cell (row_on yX.out h) 1)
  have CW := hid (fun U => words_any mh ml U)
  have CV := hid (show ∀ U, Below X.heap.size X U → Calls Try.prog 7 #[.agg #[.bool b, .slice a n c]] U fun e w' => e = .returned (.agg #[.int .u64 mh, .int .u64 ml]) ∧ Below U.heap.size U w' from fun U h => by
    have := refwords_any _ m U (AX.out.on h) HMA.out
    rw [HMW.out.1, HMW.out.2] at this
    exact this)
  have CX := hid (fun U => text_walk m U HMA.out)
  unfold mv at CX
  rw [HMW.out.1, HMW.out.2] at CX
  have ee := eq2 mh ml
  rcases HOR.out with ⟨h0, ht⟩ | ⟨h0, h9⟩
  · subst h0
    have HTX := hid ht
    clear ht
    obtain ⟨V1, hV1⟩ : ∃ U, X.drew = U := ⟨_, rfl⟩
    have DV1 := hid (show Below X.heap.size X V1 from by rw [← hV1]; exact bdrew1 _)
    have BV1 := hid (btr (Below.refl X.heap.size X) DV1.out)
    refine wp_region_held_drew (S := fun U => U.cell? ⟨g5, 0, none⟩ = some (.int .u64 mh) ∧ U.cell? ⟨g5, 1, none⟩ = some (.int .u64 ml) ∧ U.cell? ⟨g7, 0, none⟩ = some (.bool b) ∧ U.cell? ⟨g7, 1, none⟩ = some (.slice a n c)) (by kernel_rfl) ?_ (fun hHeld => ?_)
    · (try dsimp only); rw [hV1]; exact ⟨K0.out _ BV1.out, K1.out _ BV1.out, K2.out _ BV1.out, K3.out _ BV1.out⟩
    rw [hV1] at hHeld ⊢
    clear hV1
    refine' wpAnyH_take (i := 0) (oi := _) (v := _) rfl (by kernel_rfl) (by kernel_rfl) (by kernel_rfl) (fun _ _ _ h => h) (Or.inl ⟨by kernel_rfl, ?_⟩) (by assumption) ?_
    rotate_left
    · (intro w hSw; (try dsimp only at hSw); go_simp; try (with_reducible rfl))
    try simp only [List.getElem_toArray, List.getElem_cons_succ, List.getElem_cons_zero, Act.put, List.setIfInBounds_toArray, List.set_cons_zero, List.set_cons_succ]
    refine' wpAnyH_take (i := 1) (oi := _) (v := _) rfl (by kernel_rfl) (by kernel_rfl) (by kernel_rfl) (fun _ _ _ h => h) (Or.inl ⟨by kernel_rfl, ?_⟩) (by assumption) ?_
    rotate_left
    · (intro w hSw; (try dsimp only at hSw); go_simp; try (with_reducible rfl))
    try simp only [List.getElem_toArray, List.getElem_cons_succ, List.getElem_cons_zero, Act.put, List.setIfInBounds_toArray, List.set_cons_zero, List.set_cons_succ]
    refine' wpAnyH_take (i := 2) (oi := _) (v := _) rfl (by kernel_rfl) (by kernel_rfl) (by kernel_rfl) (fun _ _ _ h => h) (Or.inl ⟨by kernel_rfl, ?_⟩) (by assumption) ?_
    rotate_left
    · (intro w hSw; (try dsimp only at hSw); go_simp; try (with_reducible rfl))
    try simp only [List.getElem_toArray, List.getElem_cons_succ, List.getElem_cons_zero, Act.put, List.setIfInBounds_toArray, List.set_cons_zero, List.set_cons_succ]
    refine' wpAnyH_take (i := 3) (oi := _) (v := _) rfl (by kernel_rfl) (by kernel_rfl) (by kernel_rfl) (fun _ _ _ h => h) (Or.inl ⟨by kernel_rfl, ?_⟩) (by assumption) ?_
    rotate_left
    · (intro w hSw; (try dsimp only at hSw); go_simp; try (with_reducible rfl))
    try simp only [List.getElem_toArray, List.getElem_cons_succ, List.getElem_cons_zero, Act.put, List.setIfInBounds_toArray, List.set_cons_zero, List.set_cons_succ]
    refine' wpAnyH_take (i := 4) (oi := _) (v := _) rfl (by kernel_rfl) (by kernel_rfl) (by kernel_rfl) (fun _ _ _ h => h) (Or.inl ⟨by kernel_rfl, ?_⟩) (by assumption) ?_
    rotate_left
    · (intro w hSw; (try dsimp only at hSw); go_simp; try (with_reducible rfl))
    try simp only [List.getElem_toArray, List.getElem_cons_succ, List.getElem_cons_zero, Act.put, List.setIfInBounds_toArray, List.set_cons_zero, List.set_cons_succ]
    refine' wpAnyH_take (i := 6) (oi := _) (v := _) rfl (by kernel_rfl) (by kernel_rfl) (by kernel_rfl) (fun _ _ _ h => h) (Or.inl ⟨by kernel_rfl, ?_⟩) (by assumption) ?_
    rotate_left
    · (intro w hSw; (try dsimp only at hSw); go_simp; try (with_reducible rfl))
    try simp only [List.getElem_toArray, List.getElem_cons_succ, List.getElem_cons_zero, Act.put, List.setIfInBounds_toArray, List.set_cons_zero, List.set_cons_succ]
    refine wpAnyH_ready (rs := [5]) (by kernel_rfl) (by simp) ?_
    refine (AllReadyH.cons (o := _) rfl (fun K hK => ?_) AllReadyH.nil)
    go_simp
    go_at_call 6
    with_reducible refine (CW.out V1).mono ?_
    rintro e X2 ⟨rfl, DbX2⟩
    have DX2 := hid (btr DV1.out DbX2)
    have BX2 := hid (btr BV1.out DbX2)
    (try go_wp2_with fail)
    refine hK.out _ _ ?_ (fun hHeld => ?_)
    · (try dsimp only); exact ⟨K0.out _ BX2.out, K1.out _ BX2.out, K2.out _ BX2.out, K3.out _ BX2.out⟩
    clear hK K
    try simp only [List.getElem_toArray, List.getElem_cons_succ, List.getElem_cons_zero, Act.put, List.setIfInBounds_toArray, List.set_cons_zero, List.set_cons_succ]
    refine wpAnyH_ready (rs := [7]) (by kernel_rfl) (by simp) ?_
    refine (AllReadyH.cons (o := _) rfl (fun K hK => ?_) AllReadyH.nil)
    go_simp
    go_at_call 7
    with_reducible refine (CV.out X2 BX2.out).mono ?_
    rintro e X3 ⟨rfl, DbX3⟩
    have DX3 := hid (btr DX2.out DbX3)
    have BX3 := hid (btr BX2.out DbX3)
    (try go_wp2_with fail)
    refine hK.out _ _ ?_ (fun hHeld => ?_)
    · (try dsimp only); exact ⟨K0.out _ BX3.out, K1.out _ BX3.out, K2.out _ BX3.out, K3.out _ BX3.out⟩
    clear hK K
    try simp only [List.getElem_toArray, List.getElem_cons_succ, List.getElem_cons_zero, Act.put, List.setIfInBounds_toArray, List.set_cons_zero, List.set_cons_succ]
    refine' wpAnyH_take (i := 8) (oi := _) (v := _) rfl (by kernel_rfl) (by kernel_rfl) (by kernel_rfl) (fun _ _ _ h => h) (Or.inl ⟨by kernel_rfl, ?_⟩) (by assumption) ?_
    rotate_left
    · (intro w hSw; (try dsimp only at hSw); go_simp; try (with_reducible rfl))
    try simp only [List.getElem_toArray, List.getElem_cons_succ, List.getElem_cons_zero, Act.put, List.setIfInBounds_toArray, List.set_cons_zero, List.set_cons_succ]
    refine' wpAnyH_take (i := 9) (oi := _) (v := _) rfl (by kernel_rfl) (by kernel_rfl) (by kernel_rfl) (fun _ _ _ h => h) (Or.inl ⟨by kernel_rfl, ?_⟩) (by assumption) ?_
    rotate_left
    · (intro w hSw; (try dsimp only at hSw); go_simp; try (with_reducible rfl))
    try simp only [List.getElem_toArray, List.getElem_cons_succ, List.getElem_cons_zero, Act.put, List.setIfInBounds_toArray, List.set_cons_zero, List.set_cons_succ]
    refine' wpAnyH_take (i := 10) (oi := _) (v := _) rfl (by kernel_rfl) (by kernel_rfl) (by kernel_rfl) (fun _ _ _ h => h) (Or.inl ⟨by kernel_rfl, ?_⟩) (by assumption) ?_
    rotate_left
    · (intro w hSw; (try dsimp only at hSw); go_simp; try (with_reducible rfl))
    try simp only [List.getElem_toArray, List.getElem_cons_succ, List.getElem_cons_zero, Act.put, List.setIfInBounds_toArray, List.set_cons_zero, List.set_cons_succ]
    refine' wpAnyH_take (i := 11) (oi := _) (v := _) rfl (by kernel_rfl) (by kernel_rfl) (by kernel_rfl) (fun _ _ _ h => h) (Or.inl ⟨by kernel_rfl, ?_⟩) (by assumption) ?_
    rotate_left
    · (intro w hSw; (try dsimp only at hSw); go_simp; try (with_reducible rfl))
    try simp only [List.getElem_toArray, List.getElem_cons_succ, List.getElem_cons_zero, Act.put, List.setIfInBounds_toArray, List.set_cons_zero, List.set_cons_succ]
    refine' wpAnyH_take (i := 12) (oi := _) (v := _) rfl (by kernel_rfl) (by kernel_rfl) (by kernel_rfl) (fun _ _ _ h => h) (Or.inl ⟨by kernel_rfl, ?_⟩) (by assumption) ?_
    rotate_left
    · (intro w hSw; (try dsimp only at hSw); go_simp; try (with_reducible rfl))
    try simp only [List.getElem_toArray, List.getElem_cons_succ, List.getElem_cons_zero, Act.put, List.setIfInBounds_toArray, List.set_cons_zero, List.set_cons_succ]
    refine' wpAnyH_take (i := 13) (oi := _) (v := _) rfl (by kernel_rfl) (by kernel_rfl) (by kernel_rfl) (fun _ _ _ h => h) (Or.inl ⟨by kernel_rfl, ?_⟩) (by assumption) ?_
    rotate_left
    · (intro w hSw; (try dsimp only at hSw); go_simp; try (with_reducible rfl))
    try simp only [List.getElem_toArray, List.getElem_cons_succ, List.getElem_cons_zero, Act.put, List.setIfInBounds_toArray, List.set_cons_zero, List.set_cons_succ]
    refine' wpAnyH_take (i := 14) (oi := _) (v := _) rfl (by kernel_rfl) (by kernel_rfl) (by kernel_rfl) (fun _ _ _ h => h) (Or.inl ⟨by kernel_rfl, ?_⟩) (by assumption) ?_
    rotate_left
    · (intro w hSw; (try dsimp only at hSw); go_simp; try (with_reducible rfl))
    try simp only [List.getElem_toArray, List.getElem_cons_succ, List.getElem_cons_zero, Act.put, List.setIfInBounds_toArray, List.set_cons_zero, List.set_cons_succ]
    refine' wpAnyH_take (i := 16) (oi := _) (v := _) rfl (by kernel_rfl) (by kernel_rfl) (by kernel_rfl) (fun _ _ _ h => h) (Or.inl ⟨by kernel_rfl, ?_⟩) (by assumption) ?_
    rotate_left
    · (intro w hSw; (try dsimp only at hSw); go_simp; try (with_reducible rfl))
    try simp only [List.getElem_toArray, List.getElem_cons_succ, List.getElem_cons_zero, Act.put, List.setIfInBounds_toArray, List.set_cons_zero, List.set_cons_succ]
    refine wpAnyH_ready (rs := [15]) (by kernel_rfl) (by simp) ?_
    refine (AllReadyH.cons (o := _) rfl (fun K hK => ?_) AllReadyH.nil)
    go_simp
    go_at_call 8
    with_reducible refine (CX.out X3).mono ?_
    rintro e X4 ⟨⟨xs, hxs, rfl⟩, DbX4⟩
    have DX4 := hid (btr DX3.out DbX4)
    have BX4 := hid (btr BX3.out DbX4)
    obtain rfl := isText_unique m _ _ HTX.out hxs
    rw [strOfNums_nums]
    (try go_wp2_with fail)
    refine hK.out _ _ ?_ (fun hHeld => ?_)
    · (try dsimp only); exact ⟨K0.out _ BX4.out, K1.out _ BX4.out, K2.out _ BX4.out, K3.out _ BX4.out⟩
    clear hK K
    try simp only [List.getElem_toArray, List.getElem_cons_succ, List.getElem_cons_zero, Act.put, List.setIfInBounds_toArray, List.set_cons_zero, List.set_cons_succ]
    refine' wpAnyH_take (i := 17) (oi := _) (v := _) rfl (by kernel_rfl) (by kernel_rfl) (by kernel_rfl) (fun _ _ _ h => h) (Or.inl ⟨by kernel_rfl, ?_⟩) (by assumption) ?_
    rotate_left
    · (intro w hSw; (try dsimp only at hSw); go_simp; try (with_reducible rfl))
    try simp only [List.getElem_toArray, List.getElem_cons_succ, List.getElem_cons_zero, Act.put, List.setIfInBounds_toArray, List.set_cons_zero, List.set_cons_succ]
    refine' wpAnyH_take (i := 18) (oi := _) (v := _) rfl (by kernel_rfl) (by kernel_rfl) (by kernel_rfl) (fun _ _ _ h => h) (Or.inl ⟨by kernel_rfl, ?_⟩) (by assumption) ?_
    rotate_left
    · (intro w hSw; (try dsimp only at hSw); go_simp; try (with_reducible rfl))
    try simp only [List.getElem_toArray, List.getElem_cons_succ, List.getElem_cons_zero, Act.put, List.setIfInBounds_toArray, List.set_cons_zero, List.set_cons_succ]
    refine' wpAnyH_take (i := 19) (oi := _) (v := _) rfl (by kernel_rfl) (by kernel_rfl) (by kernel_rfl) (fun _ _ _ h => h) (Or.inl ⟨by kernel_rfl, ?_⟩) (by assumption) ?_
    rotate_left
    · (intro w hSw; (try dsimp only at hSw); go_simp; try (with_reducible rfl))
    try simp only [List.getElem_toArray, List.getElem_cons_succ, List.getElem_cons_zero, Act.put, List.setIfInBounds_toArray, List.set_cons_zero, List.set_cons_succ]
    refine wpAnyH_done (by kernel_rfl) ?_ _
    have zU := hid (row_on zX.out BX4.out)
    have yU := hid (row_on yX.out BX4.out)
    have rU := hid (row_on RX.out BX4.out)
    have BU := hid (btr BX.out BX4.out)
    have a0 : X4.cell? ⟨g3, 0, none⟩ = some (.int .u64 H) := row_cell rU.out 0
    have a1 : X4.cell? ⟨g3, 1, none⟩ = some (.int .u64 L) := row_cell rU.out 1
    clear K0 K1 K2 K3 CW CV CX ee zX yX RX BX AX C4 C5
    go_upto_region 6 with (go_at_call 9; with_reducible refine (C9.out _).mono ?_; rintro e w5 ⟨rfl, h1⟩; have z5 := hid (row_on zU.out h1); have y5 := hid (row_on yU.out h1); have r5 := hid (row_on rU.out h1); have B5 := hid (btr BU.out h1); have q0 := row_cell z5.out 0; have q1 := row_cell z5.out 1; have f0 := row_frz z5.out 0; have f1 := row_frz z5.out 1; clear h1)
    have zY := hid (row_set2 (u := .int .u64 kl) (row_set1 (u := .int .u64 kh) z5.out))
    have n37 := HG3.out
    have n35 := HG5.out
    have n57 := HG7.out
    have yY := hid (show ((w5.setCell ⟨g5, 0, none⟩ (.int .u64 kh)).setCell ⟨g5, 1, none⟩ (.int .u64 kl)).heap[g7]? = some (.cells #[.bool b, .slice a n c] 32 (0, 0)) from (heap_setCell_other _ _ _ _ (by show g7 ≠ g5; omega)).trans ((heap_setCell_other _ _ _ _ (by show g7 ≠ g5; omega)).trans y5.out))
    have rY := hid (show ((w5.setCell ⟨g5, 0, none⟩ (.int .u64 kh)).setCell ⟨g5, 1, none⟩ (.int .u64 kl)).heap[g3]? = some (.cells #[.int .u64 H, .int .u64 L] 23 (0, 0)) from (heap_setCell_other _ _ _ _ (by show g3 ≠ g5; omega)).trans ((heap_setCell_other _ _ _ _ (by show g3 ≠ g5; omega)).trans r5.out))
    have BY := hid (show Below w.heap.size w ((w5.setCell ⟨g5, 0, none⟩ (.int .u64 kh)).setCell ⟨g5, 1, none⟩ (.int .u64 kl)) from (B5.out.setCell (by dsimp only; omega) _).setCell (by dsimp only; omega) _)
    obtain ⟨Y, hY⟩ : ∃ Y, (w5.setCell ⟨g5, 0, none⟩ (.int .u64 kh)).setCell ⟨g5, 1, none⟩ (.int .u64 kl) = Y := ⟨_, rfl⟩
    rw [hY] at zY yY rY BY ⊢
    clear hY q0 q1 f0 f1 a0 a1 z5 y5 r5 B5 zU yU rU BU n37 n35 n57
    have a0 : Y.cell? ⟨g3, 0, none⟩ = some (.int .u64 H) := row_cell rY.out 0
    have a1 : Y.cell? ⟨g3, 1, none⟩ = some (.int .u64 L) := row_cell rY.out 1
    go_upto_region 7 with (go_at_call 10; with_reducible refine (C10.out _).mono ?_; rintro e w6 ⟨⟨b6, a6, n6, c6, rfl, h0⟩, h1⟩; have A6 := hid h0; have z6 := hid (row_on zY.out h1); have y6 := hid (row_on yY.out h1); have r6 := hid (row_on rY.out h1); have B6 := hid (btr BY.out h1); have q0 := row_cell y6.out 0; have q1 := row_cell y6.out 1; have f0 := row_frz y6.out 0; have f1 := row_frz y6.out 1; clear h0 h1)
    have n37 := HG3.out
    have n35 := HG5.out
    have n57 := HG7.out
    have yZ := hid (row_set2 (u := .slice a6 n6 c6) (row_set1 (u := .bool b6) y6.out))
    have zZ := hid (show ((w6.setCell ⟨g7, 0, none⟩ (.bool b6)).setCell ⟨g7, 1, none⟩ (.slice a6 n6 c6)).heap[g5]? = some (.cells #[.int .u64 kh, .int .u64 kl] 25 (0, 0)) from (heap_setCell_other _ _ _ _ (by show g5 ≠ g7; omega)).trans ((heap_setCell_other _ _ _ _ (by show g5 ≠ g7; omega)).trans z6.out))
    have rZ := hid (show ((w6.setCell ⟨g7, 0, none⟩ (.bool b6)).setCell ⟨g7, 1, none⟩ (.slice a6 n6 c6)).heap[g3]? = some (.cells #[.int .u64 H, .int .u64 L] 23 (0, 0)) from (heap_setCell_other _ _ _ _ (by show g3 ≠ g7; omega)).trans ((heap_setCell_other _ _ _ _ (by show g3 ≠ g7; omega)).trans r6.out))
    have BZ := hid (show Below w.heap.size w ((w6.setCell ⟨g7, 0, none⟩ (.bool b6)).setCell ⟨g7, 1, none⟩ (.slice a6 n6 c6)) from (B6.out.setCell (by dsimp only; omega) _).setCell (by dsimp only; omega) _)
    have AZ := hid (am_set (i := 1) (u := .slice a6 n6 c6) (am_set (i := 0) (u := .bool b6) A6.out y6.out) (row_set1 (u := .bool b6) y6.out))
    obtain ⟨Z, hZ⟩ : ∃ Y, (w6.setCell ⟨g7, 0, none⟩ (.bool b6)).setCell ⟨g7, 1, none⟩ (.slice a6 n6 c6) = Y := ⟨_, rfl⟩
    rw [hZ] at yZ zZ rZ BZ AZ ⊢
    clear hZ q0 q1 f0 f1 a0 a1 z6 y6 r6 B6 zY yY rY BY n37 n35 n57 A6 C9 C10
    have K0 := hid (show ∀ U, Below Z.heap.size Z U → U.cell? ⟨g5, 0, none⟩ = some (.int .u64 kh) from fun U h => row_cell (row_on zZ.out h) 0)
    have K1 := hid (show ∀ U, Below Z.heap.size Z U → U.cell? ⟨g5, 1, none⟩ = some (.int .u64 kl) from fun U h => row_cell (row_on zZ.out h) 1)
    have K2 := hid (show ∀ U, Below Z.heap.size Z U → U.cell? ⟨g7, 0, none⟩ = some (.bool b6) from fun U h => row_cell (row_on yZ.out h) 0)
    have K3 := hid (show ∀ U, Below Z.heap.size Z U → U.cell? ⟨g7, 1, none⟩ = some (.slice a6 n6 c6) from fun U h => row_cell (row_on yZ.out h) 1)
    have K4 := hid (show ∀ U, Below Z.heap.size Z U → U.cell? ⟨g3, 0, none⟩ = some (.int .u64 H) from fun U h => row_cell (row_on rZ.out h) 0)
    have K5 := hid (show ∀ U, Below Z.heap.size Z U → U.cell? ⟨g3, 1, none⟩ = some (.int .u64 L) from fun U h => row_cell (row_on rZ.out h) 1)
    have CW := hid (fun U => words_any kh kl U)
    have CV := hid (show ∀ U, Below Z.heap.size Z U → Calls Try.prog 11 #[.agg #[.bool b6, .slice a6 n6 c6]] U fun e w' => (∃ xs, IsText k xs ∧ e = .returned (.string (strOfNums xs))) ∧ Below U.heap.size U w' from fun U h => reftext_any _ k U (AZ.out.on h) HKA.out)
    have CX := hid (fun U => text_walk k U HKA.out)
    unfold mv at CX
    rw [HKW.out.1, HKW.out.2] at CX
    have ee := eq2 kh kl
    rcases HOK.out with ⟨h0, hw1, hw2⟩ | ⟨h0, h9⟩
    · subst h0
      rw [HKW.out.1] at hw1
      rw [HKW.out.2] at hw2
      subst hw1 hw2
      obtain ⟨V5, hV5⟩ : ∃ U, Z.drew = U := ⟨_, rfl⟩
      have DV5 := hid (show Below Z.heap.size Z V5 from by rw [← hV5]; exact bdrew1 _)
      have BV5 := hid (btr (Below.refl Z.heap.size Z) DV5.out)
      refine wp_region_held_drew (S := fun U => U.cell? ⟨g5, 0, none⟩ = some (.int .u64 kh) ∧ U.cell? ⟨g5, 1, none⟩ = some (.int .u64 kl) ∧ U.cell? ⟨g7, 0, none⟩ = some (.bool b6) ∧ U.cell? ⟨g7, 1, none⟩ = some (.slice a6 n6 c6) ∧ U.cell? ⟨g3, 0, none⟩ = some (.int .u64 kh) ∧ U.cell? ⟨g3, 1, none⟩ = some (.int .u64 kl)) (by kernel_rfl) ?_ (fun hHeld => ?_)
      · (try dsimp only); rw [hV5]; exact ⟨K0.out _ BV5.out, K1.out _ BV5.out, K2.out _ BV5.out, K3.out _ BV5.out, K4.out _ BV5.out, K5.out _ BV5.out⟩
      rw [hV5] at hHeld ⊢
      clear hV5
      refine' wpAnyH_take (i := 0) (oi := _) (v := _) rfl (by kernel_rfl) (by kernel_rfl) (by kernel_rfl) (fun _ _ _ h => h) (Or.inl ⟨by kernel_rfl, ?_⟩) (by assumption) ?_
      rotate_left
      · (intro w hSw; (try dsimp only at hSw); go_simp; try (with_reducible rfl))
      try simp only [List.getElem_toArray, List.getElem_cons_succ, List.getElem_cons_zero, Act.put, List.setIfInBounds_toArray, List.set_cons_zero, List.set_cons_succ]
      refine' wpAnyH_take (i := 1) (oi := _) (v := _) rfl (by kernel_rfl) (by kernel_rfl) (by kernel_rfl) (fun _ _ _ h => h) (Or.inl ⟨by kernel_rfl, ?_⟩) (by assumption) ?_
      rotate_left
      · (intro w hSw; (try dsimp only at hSw); go_simp; try (with_reducible rfl))
      try simp only [List.getElem_toArray, List.getElem_cons_succ, List.getElem_cons_zero, Act.put, List.setIfInBounds_toArray, List.set_cons_zero, List.set_cons_succ]
      refine' wpAnyH_take (i := 2) (oi := _) (v := _) rfl (by kernel_rfl) (by kernel_rfl) (by kernel_rfl) (fun _ _ _ h => h) (Or.inl ⟨by kernel_rfl, ?_⟩) (by assumption) ?_
      rotate_left
      · (intro w hSw; (try dsimp only at hSw); go_simp; try (with_reducible rfl))
      try simp only [List.getElem_toArray, List.getElem_cons_succ, List.getElem_cons_zero, Act.put, List.setIfInBounds_toArray, List.set_cons_zero, List.set_cons_succ]
      refine' wpAnyH_take (i := 3) (oi := _) (v := _) rfl (by kernel_rfl) (by kernel_rfl) (by kernel_rfl) (fun _ _ _ h => h) (Or.inl ⟨by kernel_rfl, ?_⟩) (by assumption) ?_
      rotate_left
      · (intro w hSw; (try dsimp only at hSw); go_simp; try (with_reducible rfl))
      try simp only [List.getElem_toArray, List.getElem_cons_succ, List.getElem_cons_zero, Act.put, List.setIfInBounds_toArray, List.set_cons_zero, List.set_cons_succ]
      refine' wpAnyH_take (i := 4) (oi := _) (v := _) rfl (by kernel_rfl) (by kernel_rfl) (by kernel_rfl) (fun _ _ _ h => h) (Or.inl ⟨by kernel_rfl, ?_⟩) (by assumption) ?_
      rotate_left
      · (intro w hSw; (try dsimp only at hSw); go_simp; try (with_reducible rfl))
      try simp only [List.getElem_toArray, List.getElem_cons_succ, List.getElem_cons_zero, Act.put, List.setIfInBounds_toArray, List.set_cons_zero, List.set_cons_succ]
      refine' wpAnyH_take (i := 6) (oi := _) (v := _) rfl (by kernel_rfl) (by kernel_rfl) (by kernel_rfl) (fun _ _ _ h => h) (Or.inl ⟨by kernel_rfl, ?_⟩) (by assumption) ?_
      rotate_left
      · (intro w hSw; (try dsimp only at hSw); go_simp; try (with_reducible rfl))
      try simp only [List.getElem_toArray, List.getElem_cons_succ, List.getElem_cons_zero, Act.put, List.setIfInBounds_toArray, List.set_cons_zero, List.set_cons_succ]
      refine wpAnyH_ready (rs := [5]) (by kernel_rfl) (by simp) ?_
      refine (AllReadyH.cons (o := _) rfl (fun K hK => ?_) AllReadyH.nil)
      go_simp
      go_at_call 8
      with_reducible refine (CX.out V5).mono ?_
      rintro e X6 ⟨⟨xs, hxs, rfl⟩, DbX6⟩
      have DX6 := hid (btr DV5.out DbX6)
      have BX6 := hid (btr BV5.out DbX6)
      (try go_wp2_with fail)
      refine hK.out _ _ ?_ (fun hHeld => ?_)
      · (try dsimp only); exact ⟨K0.out _ BX6.out, K1.out _ BX6.out, K2.out _ BX6.out, K3.out _ BX6.out, K4.out _ BX6.out, K5.out _ BX6.out⟩
      clear hK K
      try simp only [List.getElem_toArray, List.getElem_cons_succ, List.getElem_cons_zero, Act.put, List.setIfInBounds_toArray, List.set_cons_zero, List.set_cons_succ]
      refine wpAnyH_ready (rs := [7]) (by kernel_rfl) (by simp) ?_
      refine (AllReadyH.cons (o := _) rfl (fun K hK => ?_) AllReadyH.nil)
      go_simp
      go_at_call 11
      with_reducible refine (CV.out X6 BX6.out).mono ?_
      rintro e X7 ⟨⟨ys, hys, rfl⟩, DbX7⟩
      have DX7 := hid (btr DX6.out DbX7)
      have BX7 := hid (btr BX6.out DbX7)
      obtain rfl := isText_unique k _ _ hxs hys
      obtain ⟨T, hT⟩ : ∃ T, strOfNums xs = T := ⟨_, rfl⟩
      rw [hT]
      clear hT hxs hys
      (try go_wp2_with fail)
      refine hK.out _ _ ?_ (fun hHeld => ?_)
      · (try dsimp only); exact ⟨K0.out _ BX7.out, K1.out _ BX7.out, K2.out _ BX7.out, K3.out _ BX7.out, K4.out _ BX7.out, K5.out _ BX7.out⟩
      clear hK K
      try simp only [List.getElem_toArray, List.getElem_cons_succ, List.getElem_cons_zero, Act.put, List.setIfInBounds_toArray, List.set_cons_zero, List.set_cons_succ]
      refine' wpAnyH_take (i := 8) (oi := _) (v := _) rfl (by kernel_rfl) (by kernel_rfl) (by kernel_rfl) (fun _ _ _ h => h) (Or.inl ⟨by kernel_rfl, ?_⟩) (by assumption) ?_
      rotate_left
      · (intro w hSw; (try dsimp only at hSw); go_simp; try (with_reducible rfl))
      try simp only [List.getElem_toArray, List.getElem_cons_succ, List.getElem_cons_zero, Act.put, List.setIfInBounds_toArray, List.set_cons_zero, List.set_cons_succ]
      refine' wpAnyH_take (i := 9) (oi := _) (v := _) rfl (by kernel_rfl) (by kernel_rfl) (by kernel_rfl) (fun _ _ _ h => h) (Or.inl ⟨by kernel_rfl, ?_⟩) (by assumption) ?_
      rotate_left
      · (intro w hSw; (try dsimp only at hSw); go_simp; try (with_reducible rfl))
      try simp only [List.getElem_toArray, List.getElem_cons_succ, List.getElem_cons_zero, Act.put, List.setIfInBounds_toArray, List.set_cons_zero, List.set_cons_succ]
      refine' wpAnyH_take (i := 10) (oi := _) (v := _) rfl (by kernel_rfl) (by kernel_rfl) (by kernel_rfl) (fun _ _ _ h => h) (Or.inl ⟨by kernel_rfl, ?_⟩) (by assumption) ?_
      rotate_left
      · (intro w hSw; (try dsimp only at hSw); go_simp; try (with_reducible rfl))
      try simp only [List.getElem_toArray, List.getElem_cons_succ, List.getElem_cons_zero, Act.put, List.setIfInBounds_toArray, List.set_cons_zero, List.set_cons_succ]
      refine' wpAnyH_take (i := 11) (oi := _) (v := _) rfl (by kernel_rfl) (by kernel_rfl) (by kernel_rfl) (fun _ _ _ h => h) (Or.inl ⟨by kernel_rfl, ?_⟩) (by assumption) ?_
      rotate_left
      · (intro w hSw; (try dsimp only at hSw); go_simp; try (with_reducible rfl))
      try simp only [List.getElem_toArray, List.getElem_cons_succ, List.getElem_cons_zero, Act.put, List.setIfInBounds_toArray, List.set_cons_zero, List.set_cons_succ]
      refine' wpAnyH_take (i := 12) (oi := _) (v := _) rfl (by kernel_rfl) (by kernel_rfl) (by kernel_rfl) (fun _ _ _ h => h) (Or.inl ⟨by kernel_rfl, ?_⟩) (by assumption) ?_
      rotate_left
      · (intro w hSw; (try dsimp only at hSw); go_simp; try (with_reducible rfl))
      try simp only [List.getElem_toArray, List.getElem_cons_succ, List.getElem_cons_zero, Act.put, List.setIfInBounds_toArray, List.set_cons_zero, List.set_cons_succ]
      refine' wpAnyH_take (i := 13) (oi := _) (v := _) rfl (by kernel_rfl) (by kernel_rfl) (by kernel_rfl) (fun _ _ _ h => h) (Or.inl ⟨by kernel_rfl, ?_⟩) (by assumption) ?_
      rotate_left
      · (intro w hSw; (try dsimp only at hSw); go_simp; try (with_reducible rfl))
      try simp only [List.getElem_toArray, List.getElem_cons_succ, List.getElem_cons_zero, Act.put, List.setIfInBounds_toArray, List.set_cons_zero, List.set_cons_succ]
      refine' wpAnyH_take (i := 14) (oi := _) (v := _) rfl (by kernel_rfl) (by kernel_rfl) (by kernel_rfl) (fun _ _ _ h => h) (Or.inl ⟨by kernel_rfl, ?_⟩) (by assumption) ?_
      rotate_left
      · (intro w hSw; (try dsimp only at hSw); go_simp; try (with_reducible rfl))
      try simp only [List.getElem_toArray, List.getElem_cons_succ, List.getElem_cons_zero, Act.put, List.setIfInBounds_toArray, List.set_cons_zero, List.set_cons_succ]
      refine' wpAnyH_take (i := 16) (oi := _) (v := _) rfl (by kernel_rfl) (by kernel_rfl) (by kernel_rfl) (fun _ _ _ h => h) (Or.inl ⟨by kernel_rfl, ?_⟩) (by assumption) ?_
      rotate_left
      · (intro w hSw; (try dsimp only at hSw); go_simp; try (with_reducible rfl))
      try simp only [List.getElem_toArray, List.getElem_cons_succ, List.getElem_cons_zero, Act.put, List.setIfInBounds_toArray, List.set_cons_zero, List.set_cons_succ]
      refine wpAnyH_ready (rs := [15]) (by kernel_rfl) (by simp) ?_
      refine (AllReadyH.cons (o := _) rfl (fun K hK => ?_) AllReadyH.nil)
      go_simp
      go_at_call 6
      with_reducible refine (CW.out X7).mono ?_
      rintro e X8 ⟨rfl, DbX8⟩
      have DX8 := hid (btr DX7.out DbX8)
      have BX8 := hid (btr BX7.out DbX8)
      (try go_wp2_with fail)
      refine hK.out _ _ ?_ (fun hHeld => ?_)
      · (try dsimp only); exact ⟨K0.out _ BX8.out, K1.out _ BX8.out, K2.out _ BX8.out, K3.out _ BX8.out, K4.out _ BX8.out, K5.out _ BX8.out⟩
      clear hK K
      try simp only [List.getElem_toArray, List.getElem_cons_succ, List.getElem_cons_zero, Act.put, List.setIfInBounds_toArray, List.set_cons_zero, List.set_cons_succ]
      refine' wpAnyH_take (i := 17) (oi := _) (v := _) rfl (by kernel_rfl) (by kernel_rfl) (by kernel_rfl) (fun _ _ _ h => h) (Or.inl ⟨by kernel_rfl, ?_⟩) (by assumption) ?_
      rotate_left
      · (intro w hSw; (try dsimp only at hSw); go_simp; try (with_reducible rfl))
      try simp only [List.getElem_toArray, List.getElem_cons_succ, List.getElem_cons_zero, Act.put, List.setIfInBounds_toArray, List.set_cons_zero, List.set_cons_succ]
      refine' wpAnyH_take (i := 18) (oi := _) (v := _) rfl (by kernel_rfl) (by kernel_rfl) (by kernel_rfl) (fun _ _ _ h => h) (Or.inl ⟨by kernel_rfl, ?_⟩) (by assumption) ?_
      rotate_left
      · (intro w hSw; (try dsimp only at hSw); go_simp; try (with_reducible rfl))
      try simp only [List.getElem_toArray, List.getElem_cons_succ, List.getElem_cons_zero, Act.put, List.setIfInBounds_toArray, List.set_cons_zero, List.set_cons_succ]
      refine' wpAnyH_take (i := 19) (oi := _) (v := _) rfl (by kernel_rfl) (by kernel_rfl) (by kernel_rfl) (fun _ _ _ h => h) (Or.inl ⟨by kernel_rfl, ?_⟩) (by assumption) ?_
      rotate_left
      · (intro w hSw; (try dsimp only at hSw); go_simp; try (with_reducible rfl))
      try simp only [List.getElem_toArray, List.getElem_cons_succ, List.getElem_cons_zero, Act.put, List.setIfInBounds_toArray, List.set_cons_zero, List.set_cons_succ]
      refine wpAnyH_done (by kernel_rfl) ?_ _
      have BV := hid (btr BZ.out BX8.out)
      clear K0 K1 K2 K3 K4 K5 CW CV CX ee zZ yZ rZ AZ
      go_upto_region 10 with (go_at_call 4; with_reducible refine (D4.out _).mono ?_; rintro e w7 ⟨rfl, h1⟩; have B7 := hid (btr BV.out h1); clear h1)
      obtain ⟨P, hP⟩ : ∃ P, w7.alloc (.cells #[.int .u64 0, .int .u64 100] 25) = P := ⟨_, rfl⟩
      have p9 := hid (show P.heap[w7.heap.size]? = some (.cells #[.int .u64 0, .int .u64 100] 25 (0, 0)) from by rw [← hP]; exact World.alloc_heap_new _ _)
      have BP := hid (btr B7.out (show Below w7.heap.size w7 P from by rw [← hP]; exact ball _ _))
      obtain ⟨g9, hg9⟩ : ∃ g, w7.heap.size = g := ⟨_, rfl⟩
      rw [hg9] at p9
      rw [hP, hg9]
      clear hP hg9 B7
      have K0 := hid (show ∀ U, Below P.heap.size P U → U.cell? ⟨g9, 0, none⟩ = some (.int .u64 0) from fun U h => row_cell (row_on p9.out h) 0)
      have K1 := hid (show ∀ U, Below P.heap.size P U → U.cell? ⟨g9, 1, none⟩ = some (.int .u64 100) from fun U h => row_cell (row_on p9.out h) 1)
      have CC := hid (show ∀ U : World, Calls Try.prog 13 #[.int .i64 100] U fun e w' => e = .returned (.agg #[.int .u64 0, .int .u64 100]) ∧ Below U.heap.size U w' from fun U => cents_any 100 U (by decide) (by decide))
      have CM := hid (show ∀ U : World, Calls Try.prog 12 #[.agg #[.int .u64 0, .int .u64 100], .agg #[.int .u64 0, .int .u64 100]] U fun e w' => e = .returned (.int .i64 0) ∧ Below U.heap.size U w' from fun U => mcompare_any 100 100 U (by unfold Amt; omega) (by unfold Amt; omega))
      obtain ⟨V9, hV9⟩ : ∃ U, P.drew = U := ⟨_, rfl⟩
      have DV9 := hid (show Below P.heap.size P V9 from by rw [← hV9]; exact bdrew1 _)
      have BV9 := hid (btr (Below.refl P.heap.size P) DV9.out)
      refine wp_region_held_drew (S := fun U => U.cell? ⟨g9, 0, none⟩ = some (.int .u64 0) ∧ U.cell? ⟨g9, 1, none⟩ = some (.int .u64 100)) (by kernel_rfl) ?_ (fun hHeld => ?_)
      · (try dsimp only); rw [hV9]; exact ⟨K0.out _ BV9.out, K1.out _ BV9.out⟩
      rw [hV9] at hHeld ⊢
      clear hV9
      refine' wpAnyH_take (i := 0) (oi := _) (v := _) rfl (by kernel_rfl) (by kernel_rfl) (by kernel_rfl) (fun _ _ _ h => h) (Or.inl ⟨by kernel_rfl, ?_⟩) (by assumption) ?_
      rotate_left
      · (intro w hSw; (try dsimp only at hSw); go_simp; try (with_reducible rfl))
      try simp only [List.getElem_toArray, List.getElem_cons_succ, List.getElem_cons_zero, Act.put, List.setIfInBounds_toArray, List.set_cons_zero, List.set_cons_succ]
      refine' wpAnyH_take (i := 1) (oi := _) (v := _) rfl (by kernel_rfl) (by kernel_rfl) (by kernel_rfl) (fun _ _ _ h => h) (Or.inl ⟨by kernel_rfl, ?_⟩) (by assumption) ?_
      rotate_left
      · (intro w hSw; (try dsimp only at hSw); go_simp; try (with_reducible rfl))
      try simp only [List.getElem_toArray, List.getElem_cons_succ, List.getElem_cons_zero, Act.put, List.setIfInBounds_toArray, List.set_cons_zero, List.set_cons_succ]
      refine' wpAnyH_take (i := 2) (oi := _) (v := _) rfl (by kernel_rfl) (by kernel_rfl) (by kernel_rfl) (fun _ _ _ h => h) (Or.inl ⟨by kernel_rfl, ?_⟩) (by assumption) ?_
      rotate_left
      · (intro w hSw; (try dsimp only at hSw); go_simp; try (with_reducible rfl))
      try simp only [List.getElem_toArray, List.getElem_cons_succ, List.getElem_cons_zero, Act.put, List.setIfInBounds_toArray, List.set_cons_zero, List.set_cons_succ]
      refine' wpAnyH_take (i := 3) (oi := _) (v := _) rfl (by kernel_rfl) (by kernel_rfl) (by kernel_rfl) (fun _ _ _ h => h) (Or.inl ⟨by kernel_rfl, ?_⟩) (by assumption) ?_
      rotate_left
      · (intro w hSw; (try dsimp only at hSw); go_simp; try (with_reducible rfl))
      try simp only [List.getElem_toArray, List.getElem_cons_succ, List.getElem_cons_zero, Act.put, List.setIfInBounds_toArray, List.set_cons_zero, List.set_cons_succ]
      refine wpAnyH_ready (rs := [4]) (by kernel_rfl) (by simp) ?_
      refine (AllReadyH.cons (o := _) rfl (fun K hK => ?_) AllReadyH.nil)
      go_simp
      go_at_call 13
      with_reducible refine (CC.out V9).mono ?_
      rintro e X10 ⟨rfl, DbX10⟩
      have DX10 := hid (btr DV9.out DbX10)
      have BX10 := hid (btr BV9.out DbX10)
      (try go_wp2_with fail)
      refine hK.out _ _ ?_ (fun hHeld => ?_)
      · (try dsimp only); exact ⟨K0.out _ BX10.out, K1.out _ BX10.out⟩
      clear hK K
      try simp only [List.getElem_toArray, List.getElem_cons_succ, List.getElem_cons_zero, Act.put, List.setIfInBounds_toArray, List.set_cons_zero, List.set_cons_succ]
      refine wpAnyH_ready (rs := [5]) (by kernel_rfl) (by simp) ?_
      refine (AllReadyH.cons (o := _) rfl (fun K hK => ?_) AllReadyH.nil)
      go_simp
      go_at_call 12
      with_reducible refine (CM.out X10).mono ?_
      rintro e X11 ⟨rfl, DbX11⟩
      have DX11 := hid (btr DX10.out DbX11)
      have BX11 := hid (btr BX10.out DbX11)
      (try go_wp2_with fail)
      refine hK.out _ _ ?_ (fun hHeld => ?_)
      · (try dsimp only); exact ⟨K0.out _ BX11.out, K1.out _ BX11.out⟩
      clear hK K
      try simp only [List.getElem_toArray, List.getElem_cons_succ, List.getElem_cons_zero, Act.put, List.setIfInBounds_toArray, List.set_cons_zero, List.set_cons_succ]
      refine' wpAnyH_take (i := 6) (oi := _) (v := _) rfl (by kernel_rfl) (by kernel_rfl) (by kernel_rfl) (fun _ _ _ h => h) (Or.inl ⟨by kernel_rfl, ?_⟩) (by assumption) ?_
      rotate_left
      · (intro w hSw; (try dsimp only at hSw); go_simp; try (with_reducible rfl))
      try simp only [List.getElem_toArray, List.getElem_cons_succ, List.getElem_cons_zero, Act.put, List.setIfInBounds_toArray, List.set_cons_zero, List.set_cons_succ]
      refine' wpAnyH_take (i := 7) (oi := _) (v := _) rfl (by kernel_rfl) (by kernel_rfl) (by kernel_rfl) (fun _ _ _ h => h) (Or.inl ⟨by kernel_rfl, ?_⟩) (by assumption) ?_
      rotate_left
      · (intro w hSw; (try dsimp only at hSw); go_simp; try (with_reducible rfl))
      try simp only [List.getElem_toArray, List.getElem_cons_succ, List.getElem_cons_zero, Act.put, List.setIfInBounds_toArray, List.set_cons_zero, List.set_cons_succ]
      refine' wpAnyH_take (i := 8) (oi := _) (v := _) rfl (by kernel_rfl) (by kernel_rfl) (by kernel_rfl) (fun _ _ _ h => h) (Or.inl ⟨by kernel_rfl, ?_⟩) (by assumption) ?_
      rotate_left
      · (intro w hSw; (try dsimp only at hSw); go_simp; try (with_reducible rfl))
      try simp only [List.getElem_toArray, List.getElem_cons_succ, List.getElem_cons_zero, Act.put, List.setIfInBounds_toArray, List.set_cons_zero, List.set_cons_succ]
      refine wpAnyH_done (by kernel_rfl) ?_ _
      go_wp2
      go_ret
      exact ⟨rfl, btr BP.out BX11.out⟩
    · subst h0
      obtain ⟨V12, hV12⟩ : ∃ U, Z.drew = U := ⟨_, rfl⟩
      have DV12 := hid (show Below Z.heap.size Z V12 from by rw [← hV12]; exact bdrew1 _)
      have BV12 := hid (btr (Below.refl Z.heap.size Z) DV12.out)
      refine wp_region_held_drew (S := fun U => U.cell? ⟨g5, 0, none⟩ = some (.int .u64 kh) ∧ U.cell? ⟨g5, 1, none⟩ = some (.int .u64 kl) ∧ U.cell? ⟨g7, 0, none⟩ = some (.bool b6) ∧ U.cell? ⟨g7, 1, none⟩ = some (.slice a6 n6 c6) ∧ U.cell? ⟨g3, 0, none⟩ = some (.int .u64 H) ∧ U.cell? ⟨g3, 1, none⟩ = some (.int .u64 L)) (by kernel_rfl) ?_ (fun hHeld => ?_)
      · (try dsimp only); rw [hV12]; exact ⟨K0.out _ BV12.out, K1.out _ BV12.out, K2.out _ BV12.out, K3.out _ BV12.out, K4.out _ BV12.out, K5.out _ BV12.out⟩
      rw [hV12] at hHeld ⊢
      clear hV12
      refine' wpAnyH_take (i := 0) (oi := _) (v := _) rfl (by kernel_rfl) (by kernel_rfl) (by kernel_rfl) (fun _ _ _ h => h) (Or.inl ⟨by kernel_rfl, ?_⟩) (by assumption) ?_
      rotate_left
      · (intro w hSw; (try dsimp only at hSw); go_simp; try (with_reducible rfl))
      try simp only [List.getElem_toArray, List.getElem_cons_succ, List.getElem_cons_zero, Act.put, List.setIfInBounds_toArray, List.set_cons_zero, List.set_cons_succ]
      refine' wpAnyH_take (i := 1) (oi := _) (v := _) rfl (by kernel_rfl) (by kernel_rfl) (by kernel_rfl) (fun _ _ _ h => h) (Or.inl ⟨by kernel_rfl, ?_⟩) (by assumption) ?_
      rotate_left
      · (intro w hSw; (try dsimp only at hSw); go_simp; try (with_reducible rfl))
      try simp only [List.getElem_toArray, List.getElem_cons_succ, List.getElem_cons_zero, Act.put, List.setIfInBounds_toArray, List.set_cons_zero, List.set_cons_succ]
      refine' wpAnyH_take (i := 2) (oi := _) (v := _) rfl (by kernel_rfl) (by kernel_rfl) (by kernel_rfl) (fun _ _ _ h => h) (Or.inl ⟨by kernel_rfl, ?_⟩) (by assumption) ?_
      rotate_left
      · (intro w hSw; (try dsimp only at hSw); go_simp; try (with_reducible rfl))
      try simp only [List.getElem_toArray, List.getElem_cons_succ, List.getElem_cons_zero, Act.put, List.setIfInBounds_toArray, List.set_cons_zero, List.set_cons_succ]
      refine' wpAnyH_take (i := 3) (oi := _) (v := _) rfl (by kernel_rfl) (by kernel_rfl) (by kernel_rfl) (fun _ _ _ h => h) (Or.inl ⟨by kernel_rfl, ?_⟩) (by assumption) ?_
      rotate_left
      · (intro w hSw; (try dsimp only at hSw); go_simp; try (with_reducible rfl))
      try simp only [List.getElem_toArray, List.getElem_cons_succ, List.getElem_cons_zero, Act.put, List.setIfInBounds_toArray, List.set_cons_zero, List.set_cons_succ]
      refine' wpAnyH_take (i := 4) (oi := _) (v := _) rfl (by kernel_rfl) (by kernel_rfl) (by kernel_rfl) (fun _ _ _ h => h) (Or.inl ⟨by kernel_rfl, ?_⟩) (by assumption) ?_
      rotate_left
      · (intro w hSw; (try dsimp only at hSw); go_simp; try (with_reducible rfl))
      try simp only [List.getElem_toArray, List.getElem_cons_succ, List.getElem_cons_zero, Act.put, List.setIfInBounds_toArray, List.set_cons_zero, List.set_cons_succ]
      refine' wpAnyH_take (i := 6) (oi := _) (v := _) rfl (by kernel_rfl) (by kernel_rfl) (by kernel_rfl) (fun _ _ _ h => h) (Or.inl ⟨by kernel_rfl, ?_⟩) (by assumption) ?_
      rotate_left
      · (intro w hSw; (try dsimp only at hSw); go_simp; try (with_reducible rfl))
      try simp only [List.getElem_toArray, List.getElem_cons_succ, List.getElem_cons_zero, Act.put, List.setIfInBounds_toArray, List.set_cons_zero, List.set_cons_succ]
      refine wpAnyH_ready (rs := [5]) (by kernel_rfl) (by simp) ?_
      refine (AllReadyH.cons (o := _) rfl (fun K hK => ?_) AllReadyH.nil)
      go_simp
      go_at_call 8
      with_reducible refine (CX.out V12).mono ?_
      rintro e X13 ⟨⟨xs, hxs, rfl⟩, DbX13⟩
      have DX13 := hid (btr DV12.out DbX13)
      have BX13 := hid (btr BV12.out DbX13)
      (try go_wp2_with fail)
      refine hK.out _ _ ?_ (fun hHeld => ?_)
      · (try dsimp only); exact ⟨K0.out _ BX13.out, K1.out _ BX13.out, K2.out _ BX13.out, K3.out _ BX13.out, K4.out _ BX13.out, K5.out _ BX13.out⟩
      clear hK K
      try simp only [List.getElem_toArray, List.getElem_cons_succ, List.getElem_cons_zero, Act.put, List.setIfInBounds_toArray, List.set_cons_zero, List.set_cons_succ]
      refine wpAnyH_ready (rs := [7]) (by kernel_rfl) (by simp) ?_
      refine (AllReadyH.cons (o := _) rfl (fun K hK => ?_) AllReadyH.nil)
      go_simp
      go_at_call 11
      with_reducible refine (CV.out X13 BX13.out).mono ?_
      rintro e X14 ⟨⟨ys, hys, rfl⟩, DbX14⟩
      have DX14 := hid (btr DX13.out DbX14)
      have BX14 := hid (btr BX13.out DbX14)
      obtain rfl := isText_unique k _ _ hxs hys
      obtain ⟨T, hT⟩ : ∃ T, strOfNums xs = T := ⟨_, rfl⟩
      rw [hT]
      clear hT hxs hys
      (try go_wp2_with fail)
      refine hK.out _ _ ?_ (fun hHeld => ?_)
      · (try dsimp only); exact ⟨K0.out _ BX14.out, K1.out _ BX14.out, K2.out _ BX14.out, K3.out _ BX14.out, K4.out _ BX14.out, K5.out _ BX14.out⟩
      clear hK K
      try simp only [List.getElem_toArray, List.getElem_cons_succ, List.getElem_cons_zero, Act.put, List.setIfInBounds_toArray, List.set_cons_zero, List.set_cons_succ]
      refine' wpAnyH_take (i := 8) (oi := _) (v := _) rfl (by kernel_rfl) (by kernel_rfl) (by kernel_rfl) (fun _ _ _ h => h) (Or.inl ⟨by kernel_rfl, ?_⟩) (by assumption) ?_
      rotate_left
      · (intro w hSw; (try dsimp only at hSw); go_simp; try (with_reducible rfl))
      try simp only [List.getElem_toArray, List.getElem_cons_succ, List.getElem_cons_zero, Act.put, List.setIfInBounds_toArray, List.set_cons_zero, List.set_cons_succ]
      refine' wpAnyH_take (i := 9) (oi := _) (v := _) rfl (by kernel_rfl) (by kernel_rfl) (by kernel_rfl) (fun _ _ _ h => h) (Or.inl ⟨by kernel_rfl, ?_⟩) (by assumption) ?_
      rotate_left
      · (intro w hSw; (try dsimp only at hSw); go_simp; try (with_reducible rfl))
      try simp only [List.getElem_toArray, List.getElem_cons_succ, List.getElem_cons_zero, Act.put, List.setIfInBounds_toArray, List.set_cons_zero, List.set_cons_succ]
      refine' wpAnyH_take (i := 10) (oi := _) (v := _) rfl (by kernel_rfl) (by kernel_rfl) (by kernel_rfl) (fun _ _ _ h => h) (Or.inl ⟨by kernel_rfl, ?_⟩) (by assumption) ?_
      rotate_left
      · (intro w hSw; (try dsimp only at hSw); go_simp; try (with_reducible rfl))
      try simp only [List.getElem_toArray, List.getElem_cons_succ, List.getElem_cons_zero, Act.put, List.setIfInBounds_toArray, List.set_cons_zero, List.set_cons_succ]
      refine' wpAnyH_take (i := 11) (oi := _) (v := _) rfl (by kernel_rfl) (by kernel_rfl) (by kernel_rfl) (fun _ _ _ h => h) (Or.inl ⟨by kernel_rfl, ?_⟩) (by assumption) ?_
      rotate_left
      · (intro w hSw; (try dsimp only at hSw); go_simp; try (with_reducible rfl))
      try simp only [List.getElem_toArray, List.getElem_cons_succ, List.getElem_cons_zero, Act.put, List.setIfInBounds_toArray, List.set_cons_zero, List.set_cons_succ]
      refine' wpAnyH_take (i := 12) (oi := _) (v := _) rfl (by kernel_rfl) (by kernel_rfl) (by kernel_rfl) (fun _ _ _ h => h) (Or.inl ⟨by kernel_rfl, ?_⟩) (by assumption) ?_
      rotate_left
      · (intro w hSw; (try dsimp only at hSw); go_simp; try (with_reducible rfl))
      try simp only [List.getElem_toArray, List.getElem_cons_succ, List.getElem_cons_zero, Act.put, List.setIfInBounds_toArray, List.set_cons_zero, List.set_cons_succ]
      refine' wpAnyH_take (i := 13) (oi := _) (v := _) rfl (by kernel_rfl) (by kernel_rfl) (by kernel_rfl) (fun _ _ _ h => h) (Or.inl ⟨by kernel_rfl, ?_⟩) (by assumption) ?_
      rotate_left
      · (intro w hSw; (try dsimp only at hSw); go_simp; try (with_reducible rfl))
      try simp only [List.getElem_toArray, List.getElem_cons_succ, List.getElem_cons_zero, Act.put, List.setIfInBounds_toArray, List.set_cons_zero, List.set_cons_succ]
      refine' wpAnyH_take (i := 14) (oi := _) (v := undef) rfl (by kernel_rfl) (by kernel_rfl) (by kernel_rfl) (fun _ _ _ h => h) (Or.inr ⟨by kernel_rfl, rfl⟩) (by assumption) ?_
      try simp only [List.getElem_toArray, List.getElem_cons_succ, List.getElem_cons_zero, Act.put, List.setIfInBounds_toArray, List.set_cons_zero, List.set_cons_succ]
      refine' wpAnyH_take (i := 15) (oi := _) (v := undef) rfl (by kernel_rfl) (by kernel_rfl) (by kernel_rfl) (fun _ _ _ h => h) (Or.inr ⟨by kernel_rfl, rfl⟩) (by assumption) ?_
      try simp only [List.getElem_toArray, List.getElem_cons_succ, List.getElem_cons_zero, Act.put, List.setIfInBounds_toArray, List.set_cons_zero, List.set_cons_succ]
      refine' wpAnyH_take (i := 16) (oi := _) (v := undef) rfl (by kernel_rfl) (by kernel_rfl) (by kernel_rfl) (fun _ _ _ h => h) (Or.inr ⟨by kernel_rfl, rfl⟩) (by assumption) ?_
      try simp only [List.getElem_toArray, List.getElem_cons_succ, List.getElem_cons_zero, Act.put, List.setIfInBounds_toArray, List.set_cons_zero, List.set_cons_succ]
      refine' wpAnyH_take (i := 17) (oi := _) (v := undef) rfl (by kernel_rfl) (by kernel_rfl) (by kernel_rfl) (fun _ _ _ h => h) (Or.inr ⟨by kernel_rfl, rfl⟩) (by assumption) ?_
      try simp only [List.getElem_toArray, List.getElem_cons_succ, List.getElem_cons_zero, Act.put, List.setIfInBounds_toArray, List.set_cons_zero, List.set_cons_succ]
      refine' wpAnyH_take (i := 18) (oi := _) (v := _) rfl (by kernel_rfl) (by kernel_rfl) (by kernel_rfl) (fun _ _ _ h => h) (Or.inl ⟨by kernel_rfl, ?_⟩) (by assumption) ?_
      rotate_left
      · (intro w hSw; (try dsimp only at hSw); go_simp; try (with_reducible rfl))
      try simp only [List.getElem_toArray, List.getElem_cons_succ, List.getElem_cons_zero, Act.put, List.setIfInBounds_toArray, List.set_cons_zero, List.set_cons_succ]
      refine' wpAnyH_take (i := 19) (oi := _) (v := _) rfl (by kernel_rfl) (by kernel_rfl) (by kernel_rfl) (fun _ _ _ h => h) (Or.inl ⟨by kernel_rfl, ?_⟩) (by assumption) ?_
      rotate_left
      · (intro w hSw; (try dsimp only at hSw); go_simp; try (with_reducible rfl))
      try simp only [List.getElem_toArray, List.getElem_cons_succ, List.getElem_cons_zero, Act.put, List.setIfInBounds_toArray, List.set_cons_zero, List.set_cons_succ]
      refine wpAnyH_done (by kernel_rfl) ?_ _
      have BV := hid (btr BZ.out BX14.out)
      clear K0 K1 K2 K3 K4 K5 CW CV CX ee zZ yZ rZ AZ
      go_upto_region 10 with (go_at_call 4; with_reducible refine (D4.out _).mono ?_; rintro e w7 ⟨rfl, h1⟩; have B7 := hid (btr BV.out h1); clear h1)
      obtain ⟨P, hP⟩ : ∃ P, w7.alloc (.cells #[.int .u64 0, .int .u64 100] 25) = P := ⟨_, rfl⟩
      have p9 := hid (show P.heap[w7.heap.size]? = some (.cells #[.int .u64 0, .int .u64 100] 25 (0, 0)) from by rw [← hP]; exact World.alloc_heap_new _ _)
      have BP := hid (btr B7.out (show Below w7.heap.size w7 P from by rw [← hP]; exact ball _ _))
      obtain ⟨g9, hg9⟩ : ∃ g, w7.heap.size = g := ⟨_, rfl⟩
      rw [hg9] at p9
      rw [hP, hg9]
      clear hP hg9 B7
      have K0 := hid (show ∀ U, Below P.heap.size P U → U.cell? ⟨g9, 0, none⟩ = some (.int .u64 0) from fun U h => row_cell (row_on p9.out h) 0)
      have K1 := hid (show ∀ U, Below P.heap.size P U → U.cell? ⟨g9, 1, none⟩ = some (.int .u64 100) from fun U h => row_cell (row_on p9.out h) 1)
      have CC := hid (show ∀ U : World, Calls Try.prog 13 #[.int .i64 100] U fun e w' => e = .returned (.agg #[.int .u64 0, .int .u64 100]) ∧ Below U.heap.size U w' from fun U => cents_any 100 U (by decide) (by decide))
      have CM := hid (show ∀ U : World, Calls Try.prog 12 #[.agg #[.int .u64 0, .int .u64 100], .agg #[.int .u64 0, .int .u64 100]] U fun e w' => e = .returned (.int .i64 0) ∧ Below U.heap.size U w' from fun U => mcompare_any 100 100 U (by unfold Amt; omega) (by unfold Amt; omega))
      obtain ⟨V15, hV15⟩ : ∃ U, P.drew = U := ⟨_, rfl⟩
      have DV15 := hid (show Below P.heap.size P V15 from by rw [← hV15]; exact bdrew1 _)
      have BV15 := hid (btr (Below.refl P.heap.size P) DV15.out)
      refine wp_region_held_drew (S := fun U => U.cell? ⟨g9, 0, none⟩ = some (.int .u64 0) ∧ U.cell? ⟨g9, 1, none⟩ = some (.int .u64 100)) (by kernel_rfl) ?_ (fun hHeld => ?_)
      · (try dsimp only); rw [hV15]; exact ⟨K0.out _ BV15.out, K1.out _ BV15.out⟩
      rw [hV15] at hHeld ⊢
      clear hV15
      refine' wpAnyH_take (i := 0) (oi := _) (v := _) rfl (by kernel_rfl) (by kernel_rfl) (by kernel_rfl) (fun _ _ _ h => h) (Or.inl ⟨by kernel_rfl, ?_⟩) (by assumption) ?_
      rotate_left
      · (intro w hSw; (try dsimp only at hSw); go_simp; try (with_reducible rfl))
      try simp only [List.getElem_toArray, List.getElem_cons_succ, List.getElem_cons_zero, Act.put, List.setIfInBounds_toArray, List.set_cons_zero, List.set_cons_succ]
      refine' wpAnyH_take (i := 1) (oi := _) (v := _) rfl (by kernel_rfl) (by kernel_rfl) (by kernel_rfl) (fun _ _ _ h => h) (Or.inl ⟨by kernel_rfl, ?_⟩) (by assumption) ?_
      rotate_left
      · (intro w hSw; (try dsimp only at hSw); go_simp; try (with_reducible rfl))
      try simp only [List.getElem_toArray, List.getElem_cons_succ, List.getElem_cons_zero, Act.put, List.setIfInBounds_toArray, List.set_cons_zero, List.set_cons_succ]
      refine' wpAnyH_take (i := 2) (oi := _) (v := _) rfl (by kernel_rfl) (by kernel_rfl) (by kernel_rfl) (fun _ _ _ h => h) (Or.inl ⟨by kernel_rfl, ?_⟩) (by assumption) ?_
      rotate_left
      · (intro w hSw; (try dsimp only at hSw); go_simp; try (with_reducible rfl))
      try simp only [List.getElem_toArray, List.getElem_cons_succ, List.getElem_cons_zero, Act.put, List.setIfInBounds_toArray, List.set_cons_zero, List.set_cons_succ]
      refine' wpAnyH_take (i := 3) (oi := _) (v := _) rfl (by kernel_rfl) (by kernel_rfl) (by kernel_rfl) (fun _ _ _ h => h) (Or.inl ⟨by kernel_rfl, ?_⟩) (by assumption) ?_
      rotate_left
      · (intro w hSw; (try dsimp only at hSw); go_simp; try (with_reducible rfl))
      try simp only [List.getElem_toArray, List.getElem_cons_succ, List.getElem_cons_zero, Act.put, List.setIfInBounds_toArray, List.set_cons_zero, List.set_cons_succ]
      refine wpAnyH_ready (rs := [4]) (by kernel_rfl) (by simp) ?_
      refine (AllReadyH.cons (o := _) rfl (fun K hK => ?_) AllReadyH.nil)
      go_simp
      go_at_call 13
      with_reducible refine (CC.out V15).mono ?_
      rintro e X16 ⟨rfl, DbX16⟩
      have DX16 := hid (btr DV15.out DbX16)
      have BX16 := hid (btr BV15.out DbX16)
      (try go_wp2_with fail)
      refine hK.out _ _ ?_ (fun hHeld => ?_)
      · (try dsimp only); exact ⟨K0.out _ BX16.out, K1.out _ BX16.out⟩
      clear hK K
      try simp only [List.getElem_toArray, List.getElem_cons_succ, List.getElem_cons_zero, Act.put, List.setIfInBounds_toArray, List.set_cons_zero, List.set_cons_succ]
      refine wpAnyH_ready (rs := [5]) (by kernel_rfl) (by simp) ?_
      refine (AllReadyH.cons (o := _) rfl (fun K hK => ?_) AllReadyH.nil)
      go_simp
      go_at_call 12
      with_reducible refine (CM.out X16).mono ?_
      rintro e X17 ⟨rfl, DbX17⟩
      have DX17 := hid (btr DX16.out DbX17)
      have BX17 := hid (btr BX16.out DbX17)
      (try go_wp2_with fail)
      refine hK.out _ _ ?_ (fun hHeld => ?_)
      · (try dsimp only); exact ⟨K0.out _ BX17.out, K1.out _ BX17.out⟩
      clear hK K
      try simp only [List.getElem_toArray, List.getElem_cons_succ, List.getElem_cons_zero, Act.put, List.setIfInBounds_toArray, List.set_cons_zero, List.set_cons_succ]
      refine' wpAnyH_take (i := 6) (oi := _) (v := _) rfl (by kernel_rfl) (by kernel_rfl) (by kernel_rfl) (fun _ _ _ h => h) (Or.inl ⟨by kernel_rfl, ?_⟩) (by assumption) ?_
      rotate_left
      · (intro w hSw; (try dsimp only at hSw); go_simp; try (with_reducible rfl))
      try simp only [List.getElem_toArray, List.getElem_cons_succ, List.getElem_cons_zero, Act.put, List.setIfInBounds_toArray, List.set_cons_zero, List.set_cons_succ]
      refine' wpAnyH_take (i := 7) (oi := _) (v := _) rfl (by kernel_rfl) (by kernel_rfl) (by kernel_rfl) (fun _ _ _ h => h) (Or.inl ⟨by kernel_rfl, ?_⟩) (by assumption) ?_
      rotate_left
      · (intro w hSw; (try dsimp only at hSw); go_simp; try (with_reducible rfl))
      try simp only [List.getElem_toArray, List.getElem_cons_succ, List.getElem_cons_zero, Act.put, List.setIfInBounds_toArray, List.set_cons_zero, List.set_cons_succ]
      refine' wpAnyH_take (i := 8) (oi := _) (v := _) rfl (by kernel_rfl) (by kernel_rfl) (by kernel_rfl) (fun _ _ _ h => h) (Or.inl ⟨by kernel_rfl, ?_⟩) (by assumption) ?_
      rotate_left
      · (intro w hSw; (try dsimp only at hSw); go_simp; try (with_reducible rfl))
      try simp only [List.getElem_toArray, List.getElem_cons_succ, List.getElem_cons_zero, Act.put, List.setIfInBounds_toArray, List.set_cons_zero, List.set_cons_succ]
      refine wpAnyH_done (by kernel_rfl) ?_ _
      go_wp2
      go_ret
      exact ⟨rfl, btr BP.out BX17.out⟩
  · subst h0
    obtain ⟨V18, hV18⟩ : ∃ U, X.drew = U := ⟨_, rfl⟩
    have DV18 := hid (show Below X.heap.size X V18 from by rw [← hV18]; exact bdrew1 _)
    have BV18 := hid (btr (Below.refl X.heap.size X) DV18.out)
    refine wp_region_held_drew (S := fun U => U.cell? ⟨g5, 0, none⟩ = some (.int .u64 mh) ∧ U.cell? ⟨g5, 1, none⟩ = some (.int .u64 ml) ∧ U.cell? ⟨g7, 0, none⟩ = some (.bool b) ∧ U.cell? ⟨g7, 1, none⟩ = some (.slice a n c)) (by kernel_rfl) ?_ (fun hHeld => ?_)
    · (try dsimp only); rw [hV18]; exact ⟨K0.out _ BV18.out, K1.out _ BV18.out, K2.out _ BV18.out, K3.out _ BV18.out⟩
    rw [hV18] at hHeld ⊢
    clear hV18
    refine' wpAnyH_take (i := 0) (oi := _) (v := _) rfl (by kernel_rfl) (by kernel_rfl) (by kernel_rfl) (fun _ _ _ h => h) (Or.inl ⟨by kernel_rfl, ?_⟩) (by assumption) ?_
    rotate_left
    · (intro w hSw; (try dsimp only at hSw); go_simp; try (with_reducible rfl))
    try simp only [List.getElem_toArray, List.getElem_cons_succ, List.getElem_cons_zero, Act.put, List.setIfInBounds_toArray, List.set_cons_zero, List.set_cons_succ]
    refine' wpAnyH_take (i := 1) (oi := _) (v := _) rfl (by kernel_rfl) (by kernel_rfl) (by kernel_rfl) (fun _ _ _ h => h) (Or.inl ⟨by kernel_rfl, ?_⟩) (by assumption) ?_
    rotate_left
    · (intro w hSw; (try dsimp only at hSw); go_simp; try (with_reducible rfl))
    try simp only [List.getElem_toArray, List.getElem_cons_succ, List.getElem_cons_zero, Act.put, List.setIfInBounds_toArray, List.set_cons_zero, List.set_cons_succ]
    refine' wpAnyH_take (i := 2) (oi := _) (v := _) rfl (by kernel_rfl) (by kernel_rfl) (by kernel_rfl) (fun _ _ _ h => h) (Or.inl ⟨by kernel_rfl, ?_⟩) (by assumption) ?_
    rotate_left
    · (intro w hSw; (try dsimp only at hSw); go_simp; try (with_reducible rfl))
    try simp only [List.getElem_toArray, List.getElem_cons_succ, List.getElem_cons_zero, Act.put, List.setIfInBounds_toArray, List.set_cons_zero, List.set_cons_succ]
    refine' wpAnyH_take (i := 3) (oi := _) (v := _) rfl (by kernel_rfl) (by kernel_rfl) (by kernel_rfl) (fun _ _ _ h => h) (Or.inl ⟨by kernel_rfl, ?_⟩) (by assumption) ?_
    rotate_left
    · (intro w hSw; (try dsimp only at hSw); go_simp; try (with_reducible rfl))
    try simp only [List.getElem_toArray, List.getElem_cons_succ, List.getElem_cons_zero, Act.put, List.setIfInBounds_toArray, List.set_cons_zero, List.set_cons_succ]
    refine' wpAnyH_take (i := 4) (oi := _) (v := _) rfl (by kernel_rfl) (by kernel_rfl) (by kernel_rfl) (fun _ _ _ h => h) (Or.inl ⟨by kernel_rfl, ?_⟩) (by assumption) ?_
    rotate_left
    · (intro w hSw; (try dsimp only at hSw); go_simp; try (with_reducible rfl))
    try simp only [List.getElem_toArray, List.getElem_cons_succ, List.getElem_cons_zero, Act.put, List.setIfInBounds_toArray, List.set_cons_zero, List.set_cons_succ]
    refine' wpAnyH_take (i := 6) (oi := _) (v := _) rfl (by kernel_rfl) (by kernel_rfl) (by kernel_rfl) (fun _ _ _ h => h) (Or.inl ⟨by kernel_rfl, ?_⟩) (by assumption) ?_
    rotate_left
    · (intro w hSw; (try dsimp only at hSw); go_simp; try (with_reducible rfl))
    try simp only [List.getElem_toArray, List.getElem_cons_succ, List.getElem_cons_zero, Act.put, List.setIfInBounds_toArray, List.set_cons_zero, List.set_cons_succ]
    refine wpAnyH_ready (rs := [5]) (by kernel_rfl) (by simp) ?_
    refine (AllReadyH.cons (o := _) rfl (fun K hK => ?_) AllReadyH.nil)
    go_simp
    go_at_call 6
    with_reducible refine (CW.out V18).mono ?_
    rintro e X19 ⟨rfl, DbX19⟩
    have DX19 := hid (btr DV18.out DbX19)
    have BX19 := hid (btr BV18.out DbX19)
    (try go_wp2_with fail)
    refine hK.out _ _ ?_ (fun hHeld => ?_)
    · (try dsimp only); exact ⟨K0.out _ BX19.out, K1.out _ BX19.out, K2.out _ BX19.out, K3.out _ BX19.out⟩
    clear hK K
    try simp only [List.getElem_toArray, List.getElem_cons_succ, List.getElem_cons_zero, Act.put, List.setIfInBounds_toArray, List.set_cons_zero, List.set_cons_succ]
    refine wpAnyH_ready (rs := [7]) (by kernel_rfl) (by simp) ?_
    refine (AllReadyH.cons (o := _) rfl (fun K hK => ?_) AllReadyH.nil)
    go_simp
    go_at_call 7
    with_reducible refine (CV.out X19 BX19.out).mono ?_
    rintro e X20 ⟨rfl, DbX20⟩
    have DX20 := hid (btr DX19.out DbX20)
    have BX20 := hid (btr BX19.out DbX20)
    (try go_wp2_with fail)
    refine hK.out _ _ ?_ (fun hHeld => ?_)
    · (try dsimp only); exact ⟨K0.out _ BX20.out, K1.out _ BX20.out, K2.out _ BX20.out, K3.out _ BX20.out⟩
    clear hK K
    try simp only [List.getElem_toArray, List.getElem_cons_succ, List.getElem_cons_zero, Act.put, List.setIfInBounds_toArray, List.set_cons_zero, List.set_cons_succ]
    refine' wpAnyH_take (i := 8) (oi := _) (v := _) rfl (by kernel_rfl) (by kernel_rfl) (by kernel_rfl) (fun _ _ _ h => h) (Or.inl ⟨by kernel_rfl, ?_⟩) (by assumption) ?_
    rotate_left
    · (intro w hSw; (try dsimp only at hSw); go_simp; try (with_reducible rfl))
    try simp only [List.getElem_toArray, List.getElem_cons_succ, List.getElem_cons_zero, Act.put, List.setIfInBounds_toArray, List.set_cons_zero, List.set_cons_succ]
    refine' wpAnyH_take (i := 9) (oi := _) (v := _) rfl (by kernel_rfl) (by kernel_rfl) (by kernel_rfl) (fun _ _ _ h => h) (Or.inl ⟨by kernel_rfl, ?_⟩) (by assumption) ?_
    rotate_left
    · (intro w hSw; (try dsimp only at hSw); go_simp; try (with_reducible rfl))
    try simp only [List.getElem_toArray, List.getElem_cons_succ, List.getElem_cons_zero, Act.put, List.setIfInBounds_toArray, List.set_cons_zero, List.set_cons_succ]
    refine' wpAnyH_take (i := 10) (oi := _) (v := _) rfl (by kernel_rfl) (by kernel_rfl) (by kernel_rfl) (fun _ _ _ h => h) (Or.inl ⟨by kernel_rfl, ?_⟩) (by assumption) ?_
    rotate_left
    · (intro w hSw; (try dsimp only at hSw); go_simp; try (with_reducible rfl))
    try simp only [List.getElem_toArray, List.getElem_cons_succ, List.getElem_cons_zero, Act.put, List.setIfInBounds_toArray, List.set_cons_zero, List.set_cons_succ]
    refine' wpAnyH_take (i := 11) (oi := _) (v := _) rfl (by kernel_rfl) (by kernel_rfl) (by kernel_rfl) (fun _ _ _ h => h) (Or.inl ⟨by kernel_rfl, ?_⟩) (by assumption) ?_
    rotate_left
    · (intro w hSw; (try dsimp only at hSw); go_simp; try (with_reducible rfl))
    try simp only [List.getElem_toArray, List.getElem_cons_succ, List.getElem_cons_zero, Act.put, List.setIfInBounds_toArray, List.set_cons_zero, List.set_cons_succ]
    refine' wpAnyH_take (i := 12) (oi := _) (v := _) rfl (by kernel_rfl) (by kernel_rfl) (by kernel_rfl) (fun _ _ _ h => h) (Or.inl ⟨by kernel_rfl, ?_⟩) (by assumption) ?_
    rotate_left
    · (intro w hSw; (try dsimp only at hSw); go_simp; try (with_reducible rfl))
    try simp only [List.getElem_toArray, List.getElem_cons_succ, List.getElem_cons_zero, Act.put, List.setIfInBounds_toArray, List.set_cons_zero, List.set_cons_succ]
    refine' wpAnyH_take (i := 13) (oi := _) (v := _) rfl (by kernel_rfl) (by kernel_rfl) (by kernel_rfl) (fun _ _ _ h => h) (Or.inl ⟨by kernel_rfl, ?_⟩) (by assumption) ?_
    rotate_left
    · (intro w hSw; (try dsimp only at hSw); go_simp; try (with_reducible rfl))
    try simp only [List.getElem_toArray, List.getElem_cons_succ, List.getElem_cons_zero, Act.put, List.setIfInBounds_toArray, List.set_cons_zero, List.set_cons_succ]
    refine' wpAnyH_take (i := 14) (oi := _) (v := undef) rfl (by kernel_rfl) (by kernel_rfl) (by kernel_rfl) (fun _ _ _ h => h) (Or.inr ⟨by kernel_rfl, rfl⟩) (by assumption) ?_
    try simp only [List.getElem_toArray, List.getElem_cons_succ, List.getElem_cons_zero, Act.put, List.setIfInBounds_toArray, List.set_cons_zero, List.set_cons_succ]
    refine' wpAnyH_take (i := 15) (oi := _) (v := undef) rfl (by kernel_rfl) (by kernel_rfl) (by kernel_rfl) (fun _ _ _ h => h) (Or.inr ⟨by kernel_rfl, rfl⟩) (by assumption) ?_
    try simp only [List.getElem_toArray, List.getElem_cons_succ, List.getElem_cons_zero, Act.put, List.setIfInBounds_toArray, List.set_cons_zero, List.set_cons_succ]
    refine' wpAnyH_take (i := 16) (oi := _) (v := undef) rfl (by kernel_rfl) (by kernel_rfl) (by kernel_rfl) (fun _ _ _ h => h) (Or.inr ⟨by kernel_rfl, rfl⟩) (by assumption) ?_
    try simp only [List.getElem_toArray, List.getElem_cons_succ, List.getElem_cons_zero, Act.put, List.setIfInBounds_toArray, List.set_cons_zero, List.set_cons_succ]
    refine' wpAnyH_take (i := 17) (oi := _) (v := undef) rfl (by kernel_rfl) (by kernel_rfl) (by kernel_rfl) (fun _ _ _ h => h) (Or.inr ⟨by kernel_rfl, rfl⟩) (by assumption) ?_
    try simp only [List.getElem_toArray, List.getElem_cons_succ, List.getElem_cons_zero, Act.put, List.setIfInBounds_toArray, List.set_cons_zero, List.set_cons_succ]
    refine' wpAnyH_take (i := 18) (oi := _) (v := _) rfl (by kernel_rfl) (by kernel_rfl) (by kernel_rfl) (fun _ _ _ h => h) (Or.inl ⟨by kernel_rfl, ?_⟩) (by assumption) ?_
    rotate_left
    · (intro w hSw; (try dsimp only at hSw); go_simp; try (with_reducible rfl))
    try simp only [List.getElem_toArray, List.getElem_cons_succ, List.getElem_cons_zero, Act.put, List.setIfInBounds_toArray, List.set_cons_zero, List.set_cons_succ]
    refine' wpAnyH_take (i := 19) (oi := _) (v := _) rfl (by kernel_rfl) (by kernel_rfl) (by kernel_rfl) (fun _ _ _ h => h) (Or.inl ⟨by kernel_rfl, ?_⟩) (by assumption) ?_
    rotate_left
    · (intro w hSw; (try dsimp only at hSw); go_simp; try (with_reducible rfl))
    try simp only [List.getElem_toArray, List.getElem_cons_succ, List.getElem_cons_zero, Act.put, List.setIfInBounds_toArray, List.set_cons_zero, List.set_cons_succ]
    refine wpAnyH_done (by kernel_rfl) ?_ _
    have zU := hid (row_on zX.out BX20.out)
    have yU := hid (row_on yX.out BX20.out)
    have rU := hid (row_on RX.out BX20.out)
    have BU := hid (btr BX.out BX20.out)
    have a0 : X20.cell? ⟨g3, 0, none⟩ = some (.int .u64 H) := row_cell rU.out 0
    have a1 : X20.cell? ⟨g3, 1, none⟩ = some (.int .u64 L) := row_cell rU.out 1
    clear K0 K1 K2 K3 CW CV CX ee zX yX RX BX AX C4 C5
    go_upto_region 6 with (go_at_call 9; with_reducible refine (C9.out _).mono ?_; rintro e w5 ⟨rfl, h1⟩; have z5 := hid (row_on zU.out h1); have y5 := hid (row_on yU.out h1); have r5 := hid (row_on rU.out h1); have B5 := hid (btr BU.out h1); have q0 := row_cell z5.out 0; have q1 := row_cell z5.out 1; have f0 := row_frz z5.out 0; have f1 := row_frz z5.out 1; clear h1)
    have zY := hid (row_set2 (u := .int .u64 kl) (row_set1 (u := .int .u64 kh) z5.out))
    have n37 := HG3.out
    have n35 := HG5.out
    have n57 := HG7.out
    have yY := hid (show ((w5.setCell ⟨g5, 0, none⟩ (.int .u64 kh)).setCell ⟨g5, 1, none⟩ (.int .u64 kl)).heap[g7]? = some (.cells #[.bool b, .slice a n c] 32 (0, 0)) from (heap_setCell_other _ _ _ _ (by show g7 ≠ g5; omega)).trans ((heap_setCell_other _ _ _ _ (by show g7 ≠ g5; omega)).trans y5.out))
    have rY := hid (show ((w5.setCell ⟨g5, 0, none⟩ (.int .u64 kh)).setCell ⟨g5, 1, none⟩ (.int .u64 kl)).heap[g3]? = some (.cells #[.int .u64 H, .int .u64 L] 23 (0, 0)) from (heap_setCell_other _ _ _ _ (by show g3 ≠ g5; omega)).trans ((heap_setCell_other _ _ _ _ (by show g3 ≠ g5; omega)).trans r5.out))
    have BY := hid (show Below w.heap.size w ((w5.setCell ⟨g5, 0, none⟩ (.int .u64 kh)).setCell ⟨g5, 1, none⟩ (.int .u64 kl)) from (B5.out.setCell (by dsimp only; omega) _).setCell (by dsimp only; omega) _)
    obtain ⟨Y, hY⟩ : ∃ Y, (w5.setCell ⟨g5, 0, none⟩ (.int .u64 kh)).setCell ⟨g5, 1, none⟩ (.int .u64 kl) = Y := ⟨_, rfl⟩
    rw [hY] at zY yY rY BY ⊢
    clear hY q0 q1 f0 f1 a0 a1 z5 y5 r5 B5 zU yU rU BU n37 n35 n57
    have a0 : Y.cell? ⟨g3, 0, none⟩ = some (.int .u64 H) := row_cell rY.out 0
    have a1 : Y.cell? ⟨g3, 1, none⟩ = some (.int .u64 L) := row_cell rY.out 1
    go_upto_region 7 with (go_at_call 10; with_reducible refine (C10.out _).mono ?_; rintro e w6 ⟨⟨b6, a6, n6, c6, rfl, h0⟩, h1⟩; have A6 := hid h0; have z6 := hid (row_on zY.out h1); have y6 := hid (row_on yY.out h1); have r6 := hid (row_on rY.out h1); have B6 := hid (btr BY.out h1); have q0 := row_cell y6.out 0; have q1 := row_cell y6.out 1; have f0 := row_frz y6.out 0; have f1 := row_frz y6.out 1; clear h0 h1)
    have n37 := HG3.out
    have n35 := HG5.out
    have n57 := HG7.out
    have yZ := hid (row_set2 (u := .slice a6 n6 c6) (row_set1 (u := .bool b6) y6.out))
    have zZ := hid (show ((w6.setCell ⟨g7, 0, none⟩ (.bool b6)).setCell ⟨g7, 1, none⟩ (.slice a6 n6 c6)).heap[g5]? = some (.cells #[.int .u64 kh, .int .u64 kl] 25 (0, 0)) from (heap_setCell_other _ _ _ _ (by show g5 ≠ g7; omega)).trans ((heap_setCell_other _ _ _ _ (by show g5 ≠ g7; omega)).trans z6.out))
    have rZ := hid (show ((w6.setCell ⟨g7, 0, none⟩ (.bool b6)).setCell ⟨g7, 1, none⟩ (.slice a6 n6 c6)).heap[g3]? = some (.cells #[.int .u64 H, .int .u64 L] 23 (0, 0)) from (heap_setCell_other _ _ _ _ (by show g3 ≠ g7; omega)).trans ((heap_setCell_other _ _ _ _ (by show g3 ≠ g7; omega)).trans r6.out))
    have BZ := hid (show Below w.heap.size w ((w6.setCell ⟨g7, 0, none⟩ (.bool b6)).setCell ⟨g7, 1, none⟩ (.slice a6 n6 c6)) from (B6.out.setCell (by dsimp only; omega) _).setCell (by dsimp only; omega) _)
    have AZ := hid (am_set (i := 1) (u := .slice a6 n6 c6) (am_set (i := 0) (u := .bool b6) A6.out y6.out) (row_set1 (u := .bool b6) y6.out))
    obtain ⟨Z, hZ⟩ : ∃ Y, (w6.setCell ⟨g7, 0, none⟩ (.bool b6)).setCell ⟨g7, 1, none⟩ (.slice a6 n6 c6) = Y := ⟨_, rfl⟩
    rw [hZ] at yZ zZ rZ BZ AZ ⊢
    clear hZ q0 q1 f0 f1 a0 a1 z6 y6 r6 B6 zY yY rY BY n37 n35 n57 A6 C9 C10
    have K0 := hid (show ∀ U, Below Z.heap.size Z U → U.cell? ⟨g5, 0, none⟩ = some (.int .u64 kh) from fun U h => row_cell (row_on zZ.out h) 0)
    have K1 := hid (show ∀ U, Below Z.heap.size Z U → U.cell? ⟨g5, 1, none⟩ = some (.int .u64 kl) from fun U h => row_cell (row_on zZ.out h) 1)
    have K2 := hid (show ∀ U, Below Z.heap.size Z U → U.cell? ⟨g7, 0, none⟩ = some (.bool b6) from fun U h => row_cell (row_on yZ.out h) 0)
    have K3 := hid (show ∀ U, Below Z.heap.size Z U → U.cell? ⟨g7, 1, none⟩ = some (.slice a6 n6 c6) from fun U h => row_cell (row_on yZ.out h) 1)
    have K4 := hid (show ∀ U, Below Z.heap.size Z U → U.cell? ⟨g3, 0, none⟩ = some (.int .u64 H) from fun U h => row_cell (row_on rZ.out h) 0)
    have K5 := hid (show ∀ U, Below Z.heap.size Z U → U.cell? ⟨g3, 1, none⟩ = some (.int .u64 L) from fun U h => row_cell (row_on rZ.out h) 1)
    have CW := hid (fun U => words_any kh kl U)
    have CV := hid (show ∀ U, Below Z.heap.size Z U → Calls Try.prog 11 #[.agg #[.bool b6, .slice a6 n6 c6]] U fun e w' => (∃ xs, IsText k xs ∧ e = .returned (.string (strOfNums xs))) ∧ Below U.heap.size U w' from fun U h => reftext_any _ k U (AZ.out.on h) HKA.out)
    have CX := hid (fun U => text_walk k U HKA.out)
    unfold mv at CX
    rw [HKW.out.1, HKW.out.2] at CX
    have ee := eq2 kh kl
    rcases HOK.out with ⟨h0, hw1, hw2⟩ | ⟨h0, h9⟩
    · subst h0
      rw [HKW.out.1] at hw1
      rw [HKW.out.2] at hw2
      subst hw1 hw2
      obtain ⟨V21, hV21⟩ : ∃ U, Z.drew = U := ⟨_, rfl⟩
      have DV21 := hid (show Below Z.heap.size Z V21 from by rw [← hV21]; exact bdrew1 _)
      have BV21 := hid (btr (Below.refl Z.heap.size Z) DV21.out)
      refine wp_region_held_drew (S := fun U => U.cell? ⟨g5, 0, none⟩ = some (.int .u64 kh) ∧ U.cell? ⟨g5, 1, none⟩ = some (.int .u64 kl) ∧ U.cell? ⟨g7, 0, none⟩ = some (.bool b6) ∧ U.cell? ⟨g7, 1, none⟩ = some (.slice a6 n6 c6) ∧ U.cell? ⟨g3, 0, none⟩ = some (.int .u64 kh) ∧ U.cell? ⟨g3, 1, none⟩ = some (.int .u64 kl)) (by kernel_rfl) ?_ (fun hHeld => ?_)
      · (try dsimp only); rw [hV21]; exact ⟨K0.out _ BV21.out, K1.out _ BV21.out, K2.out _ BV21.out, K3.out _ BV21.out, K4.out _ BV21.out, K5.out _ BV21.out⟩
      rw [hV21] at hHeld ⊢
      clear hV21
      refine' wpAnyH_take (i := 0) (oi := _) (v := _) rfl (by kernel_rfl) (by kernel_rfl) (by kernel_rfl) (fun _ _ _ h => h) (Or.inl ⟨by kernel_rfl, ?_⟩) (by assumption) ?_
      rotate_left
      · (intro w hSw; (try dsimp only at hSw); go_simp; try (with_reducible rfl))
      try simp only [List.getElem_toArray, List.getElem_cons_succ, List.getElem_cons_zero, Act.put, List.setIfInBounds_toArray, List.set_cons_zero, List.set_cons_succ]
      refine' wpAnyH_take (i := 1) (oi := _) (v := _) rfl (by kernel_rfl) (by kernel_rfl) (by kernel_rfl) (fun _ _ _ h => h) (Or.inl ⟨by kernel_rfl, ?_⟩) (by assumption) ?_
      rotate_left
      · (intro w hSw; (try dsimp only at hSw); go_simp; try (with_reducible rfl))
      try simp only [List.getElem_toArray, List.getElem_cons_succ, List.getElem_cons_zero, Act.put, List.setIfInBounds_toArray, List.set_cons_zero, List.set_cons_succ]
      refine' wpAnyH_take (i := 2) (oi := _) (v := _) rfl (by kernel_rfl) (by kernel_rfl) (by kernel_rfl) (fun _ _ _ h => h) (Or.inl ⟨by kernel_rfl, ?_⟩) (by assumption) ?_
      rotate_left
      · (intro w hSw; (try dsimp only at hSw); go_simp; try (with_reducible rfl))
      try simp only [List.getElem_toArray, List.getElem_cons_succ, List.getElem_cons_zero, Act.put, List.setIfInBounds_toArray, List.set_cons_zero, List.set_cons_succ]
      refine' wpAnyH_take (i := 3) (oi := _) (v := _) rfl (by kernel_rfl) (by kernel_rfl) (by kernel_rfl) (fun _ _ _ h => h) (Or.inl ⟨by kernel_rfl, ?_⟩) (by assumption) ?_
      rotate_left
      · (intro w hSw; (try dsimp only at hSw); go_simp; try (with_reducible rfl))
      try simp only [List.getElem_toArray, List.getElem_cons_succ, List.getElem_cons_zero, Act.put, List.setIfInBounds_toArray, List.set_cons_zero, List.set_cons_succ]
      refine' wpAnyH_take (i := 4) (oi := _) (v := _) rfl (by kernel_rfl) (by kernel_rfl) (by kernel_rfl) (fun _ _ _ h => h) (Or.inl ⟨by kernel_rfl, ?_⟩) (by assumption) ?_
      rotate_left
      · (intro w hSw; (try dsimp only at hSw); go_simp; try (with_reducible rfl))
      try simp only [List.getElem_toArray, List.getElem_cons_succ, List.getElem_cons_zero, Act.put, List.setIfInBounds_toArray, List.set_cons_zero, List.set_cons_succ]
      refine' wpAnyH_take (i := 6) (oi := _) (v := _) rfl (by kernel_rfl) (by kernel_rfl) (by kernel_rfl) (fun _ _ _ h => h) (Or.inl ⟨by kernel_rfl, ?_⟩) (by assumption) ?_
      rotate_left
      · (intro w hSw; (try dsimp only at hSw); go_simp; try (with_reducible rfl))
      try simp only [List.getElem_toArray, List.getElem_cons_succ, List.getElem_cons_zero, Act.put, List.setIfInBounds_toArray, List.set_cons_zero, List.set_cons_succ]
      refine wpAnyH_ready (rs := [5]) (by kernel_rfl) (by simp) ?_
      refine (AllReadyH.cons (o := _) rfl (fun K hK => ?_) AllReadyH.nil)
      go_simp
      go_at_call 8
      with_reducible refine (CX.out V21).mono ?_
      rintro e X22 ⟨⟨xs, hxs, rfl⟩, DbX22⟩
      have DX22 := hid (btr DV21.out DbX22)
      have BX22 := hid (btr BV21.out DbX22)
      (try go_wp2_with fail)
      refine hK.out _ _ ?_ (fun hHeld => ?_)
      · (try dsimp only); exact ⟨K0.out _ BX22.out, K1.out _ BX22.out, K2.out _ BX22.out, K3.out _ BX22.out, K4.out _ BX22.out, K5.out _ BX22.out⟩
      clear hK K
      try simp only [List.getElem_toArray, List.getElem_cons_succ, List.getElem_cons_zero, Act.put, List.setIfInBounds_toArray, List.set_cons_zero, List.set_cons_succ]
      refine wpAnyH_ready (rs := [7]) (by kernel_rfl) (by simp) ?_
      refine (AllReadyH.cons (o := _) rfl (fun K hK => ?_) AllReadyH.nil)
      go_simp
      go_at_call 11
      with_reducible refine (CV.out X22 BX22.out).mono ?_
      rintro e X23 ⟨⟨ys, hys, rfl⟩, DbX23⟩
      have DX23 := hid (btr DX22.out DbX23)
      have BX23 := hid (btr BX22.out DbX23)
      obtain rfl := isText_unique k _ _ hxs hys
      obtain ⟨T, hT⟩ : ∃ T, strOfNums xs = T := ⟨_, rfl⟩
      rw [hT]
      clear hT hxs hys
      (try go_wp2_with fail)
      refine hK.out _ _ ?_ (fun hHeld => ?_)
      · (try dsimp only); exact ⟨K0.out _ BX23.out, K1.out _ BX23.out, K2.out _ BX23.out, K3.out _ BX23.out, K4.out _ BX23.out, K5.out _ BX23.out⟩
      clear hK K
      try simp only [List.getElem_toArray, List.getElem_cons_succ, List.getElem_cons_zero, Act.put, List.setIfInBounds_toArray, List.set_cons_zero, List.set_cons_succ]
      refine' wpAnyH_take (i := 8) (oi := _) (v := _) rfl (by kernel_rfl) (by kernel_rfl) (by kernel_rfl) (fun _ _ _ h => h) (Or.inl ⟨by kernel_rfl, ?_⟩) (by assumption) ?_
      rotate_left
      · (intro w hSw; (try dsimp only at hSw); go_simp; try (with_reducible rfl))
      try simp only [List.getElem_toArray, List.getElem_cons_succ, List.getElem_cons_zero, Act.put, List.setIfInBounds_toArray, List.set_cons_zero, List.set_cons_succ]
      refine' wpAnyH_take (i := 9) (oi := _) (v := _) rfl (by kernel_rfl) (by kernel_rfl) (by kernel_rfl) (fun _ _ _ h => h) (Or.inl ⟨by kernel_rfl, ?_⟩) (by assumption) ?_
      rotate_left
      · (intro w hSw; (try dsimp only at hSw); go_simp; try (with_reducible rfl))
      try simp only [List.getElem_toArray, List.getElem_cons_succ, List.getElem_cons_zero, Act.put, List.setIfInBounds_toArray, List.set_cons_zero, List.set_cons_succ]
      refine' wpAnyH_take (i := 10) (oi := _) (v := _) rfl (by kernel_rfl) (by kernel_rfl) (by kernel_rfl) (fun _ _ _ h => h) (Or.inl ⟨by kernel_rfl, ?_⟩) (by assumption) ?_
      rotate_left
      · (intro w hSw; (try dsimp only at hSw); go_simp; try (with_reducible rfl))
      try simp only [List.getElem_toArray, List.getElem_cons_succ, List.getElem_cons_zero, Act.put, List.setIfInBounds_toArray, List.set_cons_zero, List.set_cons_succ]
      refine' wpAnyH_take (i := 11) (oi := _) (v := _) rfl (by kernel_rfl) (by kernel_rfl) (by kernel_rfl) (fun _ _ _ h => h) (Or.inl ⟨by kernel_rfl, ?_⟩) (by assumption) ?_
      rotate_left
      · (intro w hSw; (try dsimp only at hSw); go_simp; try (with_reducible rfl))
      try simp only [List.getElem_toArray, List.getElem_cons_succ, List.getElem_cons_zero, Act.put, List.setIfInBounds_toArray, List.set_cons_zero, List.set_cons_succ]
      refine' wpAnyH_take (i := 12) (oi := _) (v := _) rfl (by kernel_rfl) (by kernel_rfl) (by kernel_rfl) (fun _ _ _ h => h) (Or.inl ⟨by kernel_rfl, ?_⟩) (by assumption) ?_
      rotate_left
      · (intro w hSw; (try dsimp only at hSw); go_simp; try (with_reducible rfl))
      try simp only [List.getElem_toArray, List.getElem_cons_succ, List.getElem_cons_zero, Act.put, List.setIfInBounds_toArray, List.set_cons_zero, List.set_cons_succ]
      refine' wpAnyH_take (i := 13) (oi := _) (v := _) rfl (by kernel_rfl) (by kernel_rfl) (by kernel_rfl) (fun _ _ _ h => h) (Or.inl ⟨by kernel_rfl, ?_⟩) (by assumption) ?_
      rotate_left
      · (intro w hSw; (try dsimp only at hSw); go_simp; try (with_reducible rfl))
      try simp only [List.getElem_toArray, List.getElem_cons_succ, List.getElem_cons_zero, Act.put, List.setIfInBounds_toArray, List.set_cons_zero, List.set_cons_succ]
      refine' wpAnyH_take (i := 14) (oi := _) (v := _) rfl (by kernel_rfl) (by kernel_rfl) (by kernel_rfl) (fun _ _ _ h => h) (Or.inl ⟨by kernel_rfl, ?_⟩) (by assumption) ?_
      rotate_left
      · (intro w hSw; (try dsimp only at hSw); go_simp; try (with_reducible rfl))
      try simp only [List.getElem_toArray, List.getElem_cons_succ, List.getElem_cons_zero, Act.put, List.setIfInBounds_toArray, List.set_cons_zero, List.set_cons_succ]
      refine' wpAnyH_take (i := 16) (oi := _) (v := _) rfl (by kernel_rfl) (by kernel_rfl) (by kernel_rfl) (fun _ _ _ h => h) (Or.inl ⟨by kernel_rfl, ?_⟩) (by assumption) ?_
      rotate_left
      · (intro w hSw; (try dsimp only at hSw); go_simp; try (with_reducible rfl))
      try simp only [List.getElem_toArray, List.getElem_cons_succ, List.getElem_cons_zero, Act.put, List.setIfInBounds_toArray, List.set_cons_zero, List.set_cons_succ]
      refine wpAnyH_ready (rs := [15]) (by kernel_rfl) (by simp) ?_
      refine (AllReadyH.cons (o := _) rfl (fun K hK => ?_) AllReadyH.nil)
      go_simp
      go_at_call 6
      with_reducible refine (CW.out X23).mono ?_
      rintro e X24 ⟨rfl, DbX24⟩
      have DX24 := hid (btr DX23.out DbX24)
      have BX24 := hid (btr BX23.out DbX24)
      (try go_wp2_with fail)
      refine hK.out _ _ ?_ (fun hHeld => ?_)
      · (try dsimp only); exact ⟨K0.out _ BX24.out, K1.out _ BX24.out, K2.out _ BX24.out, K3.out _ BX24.out, K4.out _ BX24.out, K5.out _ BX24.out⟩
      clear hK K
      try simp only [List.getElem_toArray, List.getElem_cons_succ, List.getElem_cons_zero, Act.put, List.setIfInBounds_toArray, List.set_cons_zero, List.set_cons_succ]
      refine' wpAnyH_take (i := 17) (oi := _) (v := _) rfl (by kernel_rfl) (by kernel_rfl) (by kernel_rfl) (fun _ _ _ h => h) (Or.inl ⟨by kernel_rfl, ?_⟩) (by assumption) ?_
      rotate_left
      · (intro w hSw; (try dsimp only at hSw); go_simp; try (with_reducible rfl))
      try simp only [List.getElem_toArray, List.getElem_cons_succ, List.getElem_cons_zero, Act.put, List.setIfInBounds_toArray, List.set_cons_zero, List.set_cons_succ]
      refine' wpAnyH_take (i := 18) (oi := _) (v := _) rfl (by kernel_rfl) (by kernel_rfl) (by kernel_rfl) (fun _ _ _ h => h) (Or.inl ⟨by kernel_rfl, ?_⟩) (by assumption) ?_
      rotate_left
      · (intro w hSw; (try dsimp only at hSw); go_simp; try (with_reducible rfl))
      try simp only [List.getElem_toArray, List.getElem_cons_succ, List.getElem_cons_zero, Act.put, List.setIfInBounds_toArray, List.set_cons_zero, List.set_cons_succ]
      refine' wpAnyH_take (i := 19) (oi := _) (v := _) rfl (by kernel_rfl) (by kernel_rfl) (by kernel_rfl) (fun _ _ _ h => h) (Or.inl ⟨by kernel_rfl, ?_⟩) (by assumption) ?_
      rotate_left
      · (intro w hSw; (try dsimp only at hSw); go_simp; try (with_reducible rfl))
      try simp only [List.getElem_toArray, List.getElem_cons_succ, List.getElem_cons_zero, Act.put, List.setIfInBounds_toArray, List.set_cons_zero, List.set_cons_succ]
      refine wpAnyH_done (by kernel_rfl) ?_ _
      have BV := hid (btr BZ.out BX24.out)
      clear K0 K1 K2 K3 K4 K5 CW CV CX ee zZ yZ rZ AZ
      go_upto_region 10 with (go_at_call 4; with_reducible refine (D4.out _).mono ?_; rintro e w7 ⟨rfl, h1⟩; have B7 := hid (btr BV.out h1); clear h1)
      obtain ⟨P, hP⟩ : ∃ P, w7.alloc (.cells #[.int .u64 0, .int .u64 100] 25) = P := ⟨_, rfl⟩
      have p9 := hid (show P.heap[w7.heap.size]? = some (.cells #[.int .u64 0, .int .u64 100] 25 (0, 0)) from by rw [← hP]; exact World.alloc_heap_new _ _)
      have BP := hid (btr B7.out (show Below w7.heap.size w7 P from by rw [← hP]; exact ball _ _))
      obtain ⟨g9, hg9⟩ : ∃ g, w7.heap.size = g := ⟨_, rfl⟩
      rw [hg9] at p9
      rw [hP, hg9]
      clear hP hg9 B7
      have K0 := hid (show ∀ U, Below P.heap.size P U → U.cell? ⟨g9, 0, none⟩ = some (.int .u64 0) from fun U h => row_cell (row_on p9.out h) 0)
      have K1 := hid (show ∀ U, Below P.heap.size P U → U.cell? ⟨g9, 1, none⟩ = some (.int .u64 100) from fun U h => row_cell (row_on p9.out h) 1)
      have CC := hid (show ∀ U : World, Calls Try.prog 13 #[.int .i64 100] U fun e w' => e = .returned (.agg #[.int .u64 0, .int .u64 100]) ∧ Below U.heap.size U w' from fun U => cents_any 100 U (by decide) (by decide))
      have CM := hid (show ∀ U : World, Calls Try.prog 12 #[.agg #[.int .u64 0, .int .u64 100], .agg #[.int .u64 0, .int .u64 100]] U fun e w' => e = .returned (.int .i64 0) ∧ Below U.heap.size U w' from fun U => mcompare_any 100 100 U (by unfold Amt; omega) (by unfold Amt; omega))
      obtain ⟨V25, hV25⟩ : ∃ U, P.drew = U := ⟨_, rfl⟩
      have DV25 := hid (show Below P.heap.size P V25 from by rw [← hV25]; exact bdrew1 _)
      have BV25 := hid (btr (Below.refl P.heap.size P) DV25.out)
      refine wp_region_held_drew (S := fun U => U.cell? ⟨g9, 0, none⟩ = some (.int .u64 0) ∧ U.cell? ⟨g9, 1, none⟩ = some (.int .u64 100)) (by kernel_rfl) ?_ (fun hHeld => ?_)
      · (try dsimp only); rw [hV25]; exact ⟨K0.out _ BV25.out, K1.out _ BV25.out⟩
      rw [hV25] at hHeld ⊢
      clear hV25
      refine' wpAnyH_take (i := 0) (oi := _) (v := _) rfl (by kernel_rfl) (by kernel_rfl) (by kernel_rfl) (fun _ _ _ h => h) (Or.inl ⟨by kernel_rfl, ?_⟩) (by assumption) ?_
      rotate_left
      · (intro w hSw; (try dsimp only at hSw); go_simp; try (with_reducible rfl))
      try simp only [List.getElem_toArray, List.getElem_cons_succ, List.getElem_cons_zero, Act.put, List.setIfInBounds_toArray, List.set_cons_zero, List.set_cons_succ]
      refine' wpAnyH_take (i := 1) (oi := _) (v := _) rfl (by kernel_rfl) (by kernel_rfl) (by kernel_rfl) (fun _ _ _ h => h) (Or.inl ⟨by kernel_rfl, ?_⟩) (by assumption) ?_
      rotate_left
      · (intro w hSw; (try dsimp only at hSw); go_simp; try (with_reducible rfl))
      try simp only [List.getElem_toArray, List.getElem_cons_succ, List.getElem_cons_zero, Act.put, List.setIfInBounds_toArray, List.set_cons_zero, List.set_cons_succ]
      refine' wpAnyH_take (i := 2) (oi := _) (v := _) rfl (by kernel_rfl) (by kernel_rfl) (by kernel_rfl) (fun _ _ _ h => h) (Or.inl ⟨by kernel_rfl, ?_⟩) (by assumption) ?_
      rotate_left
      · (intro w hSw; (try dsimp only at hSw); go_simp; try (with_reducible rfl))
      try simp only [List.getElem_toArray, List.getElem_cons_succ, List.getElem_cons_zero, Act.put, List.setIfInBounds_toArray, List.set_cons_zero, List.set_cons_succ]
      refine' wpAnyH_take (i := 3) (oi := _) (v := _) rfl (by kernel_rfl) (by kernel_rfl) (by kernel_rfl) (fun _ _ _ h => h) (Or.inl ⟨by kernel_rfl, ?_⟩) (by assumption) ?_
      rotate_left
      · (intro w hSw; (try dsimp only at hSw); go_simp; try (with_reducible rfl))
      try simp only [List.getElem_toArray, List.getElem_cons_succ, List.getElem_cons_zero, Act.put, List.setIfInBounds_toArray, List.set_cons_zero, List.set_cons_succ]
      refine wpAnyH_ready (rs := [4]) (by kernel_rfl) (by simp) ?_
      refine (AllReadyH.cons (o := _) rfl (fun K hK => ?_) AllReadyH.nil)
      go_simp
      go_at_call 13
      with_reducible refine (CC.out V25).mono ?_
      rintro e X26 ⟨rfl, DbX26⟩
      have DX26 := hid (btr DV25.out DbX26)
      have BX26 := hid (btr BV25.out DbX26)
      (try go_wp2_with fail)
      refine hK.out _ _ ?_ (fun hHeld => ?_)
      · (try dsimp only); exact ⟨K0.out _ BX26.out, K1.out _ BX26.out⟩
      clear hK K
      try simp only [List.getElem_toArray, List.getElem_cons_succ, List.getElem_cons_zero, Act.put, List.setIfInBounds_toArray, List.set_cons_zero, List.set_cons_succ]
      refine wpAnyH_ready (rs := [5]) (by kernel_rfl) (by simp) ?_
      refine (AllReadyH.cons (o := _) rfl (fun K hK => ?_) AllReadyH.nil)
      go_simp
      go_at_call 12
      with_reducible refine (CM.out X26).mono ?_
      rintro e X27 ⟨rfl, DbX27⟩
      have DX27 := hid (btr DX26.out DbX27)
      have BX27 := hid (btr BX26.out DbX27)
      (try go_wp2_with fail)
      refine hK.out _ _ ?_ (fun hHeld => ?_)
      · (try dsimp only); exact ⟨K0.out _ BX27.out, K1.out _ BX27.out⟩
      clear hK K
      try simp only [List.getElem_toArray, List.getElem_cons_succ, List.getElem_cons_zero, Act.put, List.setIfInBounds_toArray, List.set_cons_zero, List.set_cons_succ]
      refine' wpAnyH_take (i := 6) (oi := _) (v := _) rfl (by kernel_rfl) (by kernel_rfl) (by kernel_rfl) (fun _ _ _ h => h) (Or.inl ⟨by kernel_rfl, ?_⟩) (by assumption) ?_
      rotate_left
      · (intro w hSw; (try dsimp only at hSw); go_simp; try (with_reducible rfl))
      try simp only [List.getElem_toArray, List.getElem_cons_succ, List.getElem_cons_zero, Act.put, List.setIfInBounds_toArray, List.set_cons_zero, List.set_cons_succ]
      refine' wpAnyH_take (i := 7) (oi := _) (v := _) rfl (by kernel_rfl) (by kernel_rfl) (by kernel_rfl) (fun _ _ _ h => h) (Or.inl ⟨by kernel_rfl, ?_⟩) (by assumption) ?_
      rotate_left
      · (intro w hSw; (try dsimp only at hSw); go_simp; try (with_reducible rfl))
      try simp only [List.getElem_toArray, List.getElem_cons_succ, List.getElem_cons_zero, Act.put, List.setIfInBounds_toArray, List.set_cons_zero, List.set_cons_succ]
      refine' wpAnyH_take (i := 8) (oi := _) (v := _) rfl (by kernel_rfl) (by kernel_rfl) (by kernel_rfl) (fun _ _ _ h => h) (Or.inl ⟨by kernel_rfl, ?_⟩) (by assumption) ?_
      rotate_left
      · (intro w hSw; (try dsimp only at hSw); go_simp; try (with_reducible rfl))
      try simp only [List.getElem_toArray, List.getElem_cons_succ, List.getElem_cons_zero, Act.put, List.setIfInBounds_toArray, List.set_cons_zero, List.set_cons_succ]
      refine wpAnyH_done (by kernel_rfl) ?_ _
      go_wp2
      go_ret
      exact ⟨rfl, btr BP.out BX27.out⟩
    · subst h0
      obtain ⟨V28, hV28⟩ : ∃ U, Z.drew = U := ⟨_, rfl⟩
      have DV28 := hid (show Below Z.heap.size Z V28 from by rw [← hV28]; exact bdrew1 _)
      have BV28 := hid (btr (Below.refl Z.heap.size Z) DV28.out)
      refine wp_region_held_drew (S := fun U => U.cell? ⟨g5, 0, none⟩ = some (.int .u64 kh) ∧ U.cell? ⟨g5, 1, none⟩ = some (.int .u64 kl) ∧ U.cell? ⟨g7, 0, none⟩ = some (.bool b6) ∧ U.cell? ⟨g7, 1, none⟩ = some (.slice a6 n6 c6) ∧ U.cell? ⟨g3, 0, none⟩ = some (.int .u64 H) ∧ U.cell? ⟨g3, 1, none⟩ = some (.int .u64 L)) (by kernel_rfl) ?_ (fun hHeld => ?_)
      · (try dsimp only); rw [hV28]; exact ⟨K0.out _ BV28.out, K1.out _ BV28.out, K2.out _ BV28.out, K3.out _ BV28.out, K4.out _ BV28.out, K5.out _ BV28.out⟩
      rw [hV28] at hHeld ⊢
      clear hV28
      refine' wpAnyH_take (i := 0) (oi := _) (v := _) rfl (by kernel_rfl) (by kernel_rfl) (by kernel_rfl) (fun _ _ _ h => h) (Or.inl ⟨by kernel_rfl, ?_⟩) (by assumption) ?_
      rotate_left
      · (intro w hSw; (try dsimp only at hSw); go_simp; try (with_reducible rfl))
      try simp only [List.getElem_toArray, List.getElem_cons_succ, List.getElem_cons_zero, Act.put, List.setIfInBounds_toArray, List.set_cons_zero, List.set_cons_succ]
      refine' wpAnyH_take (i := 1) (oi := _) (v := _) rfl (by kernel_rfl) (by kernel_rfl) (by kernel_rfl) (fun _ _ _ h => h) (Or.inl ⟨by kernel_rfl, ?_⟩) (by assumption) ?_
      rotate_left
      · (intro w hSw; (try dsimp only at hSw); go_simp; try (with_reducible rfl))
      try simp only [List.getElem_toArray, List.getElem_cons_succ, List.getElem_cons_zero, Act.put, List.setIfInBounds_toArray, List.set_cons_zero, List.set_cons_succ]
      refine' wpAnyH_take (i := 2) (oi := _) (v := _) rfl (by kernel_rfl) (by kernel_rfl) (by kernel_rfl) (fun _ _ _ h => h) (Or.inl ⟨by kernel_rfl, ?_⟩) (by assumption) ?_
      rotate_left
      · (intro w hSw; (try dsimp only at hSw); go_simp; try (with_reducible rfl))
      try simp only [List.getElem_toArray, List.getElem_cons_succ, List.getElem_cons_zero, Act.put, List.setIfInBounds_toArray, List.set_cons_zero, List.set_cons_succ]
      refine' wpAnyH_take (i := 3) (oi := _) (v := _) rfl (by kernel_rfl) (by kernel_rfl) (by kernel_rfl) (fun _ _ _ h => h) (Or.inl ⟨by kernel_rfl, ?_⟩) (by assumption) ?_
      rotate_left
      · (intro w hSw; (try dsimp only at hSw); go_simp; try (with_reducible rfl))
      try simp only [List.getElem_toArray, List.getElem_cons_succ, List.getElem_cons_zero, Act.put, List.setIfInBounds_toArray, List.set_cons_zero, List.set_cons_succ]
      refine' wpAnyH_take (i := 4) (oi := _) (v := _) rfl (by kernel_rfl) (by kernel_rfl) (by kernel_rfl) (fun _ _ _ h => h) (Or.inl ⟨by kernel_rfl, ?_⟩) (by assumption) ?_
      rotate_left
      · (intro w hSw; (try dsimp only at hSw); go_simp; try (with_reducible rfl))
      try simp only [List.getElem_toArray, List.getElem_cons_succ, List.getElem_cons_zero, Act.put, List.setIfInBounds_toArray, List.set_cons_zero, List.set_cons_succ]
      refine' wpAnyH_take (i := 6) (oi := _) (v := _) rfl (by kernel_rfl) (by kernel_rfl) (by kernel_rfl) (fun _ _ _ h => h) (Or.inl ⟨by kernel_rfl, ?_⟩) (by assumption) ?_
      rotate_left
      · (intro w hSw; (try dsimp only at hSw); go_simp; try (with_reducible rfl))
      try simp only [List.getElem_toArray, List.getElem_cons_succ, List.getElem_cons_zero, Act.put, List.setIfInBounds_toArray, List.set_cons_zero, List.set_cons_succ]
      refine wpAnyH_ready (rs := [5]) (by kernel_rfl) (by simp) ?_
      refine (AllReadyH.cons (o := _) rfl (fun K hK => ?_) AllReadyH.nil)
      go_simp
      go_at_call 8
      with_reducible refine (CX.out V28).mono ?_
      rintro e X29 ⟨⟨xs, hxs, rfl⟩, DbX29⟩
      have DX29 := hid (btr DV28.out DbX29)
      have BX29 := hid (btr BV28.out DbX29)
      (try go_wp2_with fail)
      refine hK.out _ _ ?_ (fun hHeld => ?_)
      · (try dsimp only); exact ⟨K0.out _ BX29.out, K1.out _ BX29.out, K2.out _ BX29.out, K3.out _ BX29.out, K4.out _ BX29.out, K5.out _ BX29.out⟩
      clear hK K
      try simp only [List.getElem_toArray, List.getElem_cons_succ, List.getElem_cons_zero, Act.put, List.setIfInBounds_toArray, List.set_cons_zero, List.set_cons_succ]
      refine wpAnyH_ready (rs := [7]) (by kernel_rfl) (by simp) ?_
      refine (AllReadyH.cons (o := _) rfl (fun K hK => ?_) AllReadyH.nil)
      go_simp
      go_at_call 11
      with_reducible refine (CV.out X29 BX29.out).mono ?_
      rintro e X30 ⟨⟨ys, hys, rfl⟩, DbX30⟩
      have DX30 := hid (btr DX29.out DbX30)
      have BX30 := hid (btr BX29.out DbX30)
      obtain rfl := isText_unique k _ _ hxs hys
      obtain ⟨T, hT⟩ : ∃ T, strOfNums xs = T := ⟨_, rfl⟩
      rw [hT]
      clear hT hxs hys
      (try go_wp2_with fail)
      refine hK.out _ _ ?_ (fun hHeld => ?_)
      · (try dsimp only); exact ⟨K0.out _ BX30.out, K1.out _ BX30.out, K2.out _ BX30.out, K3.out _ BX30.out, K4.out _ BX30.out, K5.out _ BX30.out⟩
      clear hK K
      try simp only [List.getElem_toArray, List.getElem_cons_succ, List.getElem_cons_zero, Act.put, List.setIfInBounds_toArray, List.set_cons_zero, List.set_cons_succ]
      refine' wpAnyH_take (i := 8) (oi := _) (v := _) rfl (by kernel_rfl) (by kernel_rfl) (by kernel_rfl) (fun _ _ _ h => h) (Or.inl ⟨by kernel_rfl, ?_⟩) (by assumption) ?_
      rotate_left
      · (intro w hSw; (try dsimp only at hSw); go_simp; try (with_reducible rfl))
      try simp only [List.getElem_toArray, List.getElem_cons_succ, List.getElem_cons_zero, Act.put, List.setIfInBounds_toArray, List.set_cons_zero, List.set_cons_succ]
      refine' wpAnyH_take (i := 9) (oi := _) (v := _) rfl (by kernel_rfl) (by kernel_rfl) (by kernel_rfl) (fun _ _ _ h => h) (Or.inl ⟨by kernel_rfl, ?_⟩) (by assumption) ?_
      rotate_left
      · (intro w hSw; (try dsimp only at hSw); go_simp; try (with_reducible rfl))
      try simp only [List.getElem_toArray, List.getElem_cons_succ, List.getElem_cons_zero, Act.put, List.setIfInBounds_toArray, List.set_cons_zero, List.set_cons_succ]
      refine' wpAnyH_take (i := 10) (oi := _) (v := _) rfl (by kernel_rfl) (by kernel_rfl) (by kernel_rfl) (fun _ _ _ h => h) (Or.inl ⟨by kernel_rfl, ?_⟩) (by assumption) ?_
      rotate_left
      · (intro w hSw; (try dsimp only at hSw); go_simp; try (with_reducible rfl))
      try simp only [List.getElem_toArray, List.getElem_cons_succ, List.getElem_cons_zero, Act.put, List.setIfInBounds_toArray, List.set_cons_zero, List.set_cons_succ]
      refine' wpAnyH_take (i := 11) (oi := _) (v := _) rfl (by kernel_rfl) (by kernel_rfl) (by kernel_rfl) (fun _ _ _ h => h) (Or.inl ⟨by kernel_rfl, ?_⟩) (by assumption) ?_
      rotate_left
      · (intro w hSw; (try dsimp only at hSw); go_simp; try (with_reducible rfl))
      try simp only [List.getElem_toArray, List.getElem_cons_succ, List.getElem_cons_zero, Act.put, List.setIfInBounds_toArray, List.set_cons_zero, List.set_cons_succ]
      refine' wpAnyH_take (i := 12) (oi := _) (v := _) rfl (by kernel_rfl) (by kernel_rfl) (by kernel_rfl) (fun _ _ _ h => h) (Or.inl ⟨by kernel_rfl, ?_⟩) (by assumption) ?_
      rotate_left
      · (intro w hSw; (try dsimp only at hSw); go_simp; try (with_reducible rfl))
      try simp only [List.getElem_toArray, List.getElem_cons_succ, List.getElem_cons_zero, Act.put, List.setIfInBounds_toArray, List.set_cons_zero, List.set_cons_succ]
      refine' wpAnyH_take (i := 13) (oi := _) (v := _) rfl (by kernel_rfl) (by kernel_rfl) (by kernel_rfl) (fun _ _ _ h => h) (Or.inl ⟨by kernel_rfl, ?_⟩) (by assumption) ?_
      rotate_left
      · (intro w hSw; (try dsimp only at hSw); go_simp; try (with_reducible rfl))
      try simp only [List.getElem_toArray, List.getElem_cons_succ, List.getElem_cons_zero, Act.put, List.setIfInBounds_toArray, List.set_cons_zero, List.set_cons_succ]
      refine' wpAnyH_take (i := 14) (oi := _) (v := undef) rfl (by kernel_rfl) (by kernel_rfl) (by kernel_rfl) (fun _ _ _ h => h) (Or.inr ⟨by kernel_rfl, rfl⟩) (by assumption) ?_
      try simp only [List.getElem_toArray, List.getElem_cons_succ, List.getElem_cons_zero, Act.put, List.setIfInBounds_toArray, List.set_cons_zero, List.set_cons_succ]
      refine' wpAnyH_take (i := 15) (oi := _) (v := undef) rfl (by kernel_rfl) (by kernel_rfl) (by kernel_rfl) (fun _ _ _ h => h) (Or.inr ⟨by kernel_rfl, rfl⟩) (by assumption) ?_
      try simp only [List.getElem_toArray, List.getElem_cons_succ, List.getElem_cons_zero, Act.put, List.setIfInBounds_toArray, List.set_cons_zero, List.set_cons_succ]
      refine' wpAnyH_take (i := 16) (oi := _) (v := undef) rfl (by kernel_rfl) (by kernel_rfl) (by kernel_rfl) (fun _ _ _ h => h) (Or.inr ⟨by kernel_rfl, rfl⟩) (by assumption) ?_
      try simp only [List.getElem_toArray, List.getElem_cons_succ, List.getElem_cons_zero, Act.put, List.setIfInBounds_toArray, List.set_cons_zero, List.set_cons_succ]
      refine' wpAnyH_take (i := 17) (oi := _) (v := undef) rfl (by kernel_rfl) (by kernel_rfl) (by kernel_rfl) (fun _ _ _ h => h) (Or.inr ⟨by kernel_rfl, rfl⟩) (by assumption) ?_
      try simp only [List.getElem_toArray, List.getElem_cons_succ, List.getElem_cons_zero, Act.put, List.setIfInBounds_toArray, List.set_cons_zero, List.set_cons_succ]
      refine' wpAnyH_take (i := 18) (oi := _) (v := _) rfl (by kernel_rfl) (by kernel_rfl) (by kernel_rfl) (fun _ _ _ h => h) (Or.inl ⟨by kernel_rfl, ?_⟩) (by assumption) ?_
      rotate_left
      · (intro w hSw; (try dsimp only at hSw); go_simp; try (with_reducible rfl))
      try simp only [List.getElem_toArray, List.getElem_cons_succ, List.getElem_cons_zero, Act.put, List.setIfInBounds_toArray, List.set_cons_zero, List.set_cons_succ]
      refine' wpAnyH_take (i := 19) (oi := _) (v := _) rfl (by kernel_rfl) (by kernel_rfl) (by kernel_rfl) (fun _ _ _ h => h) (Or.inl ⟨by kernel_rfl, ?_⟩) (by assumption) ?_
      rotate_left
      · (intro w hSw; (try dsimp only at hSw); go_simp; try (with_reducible rfl))
      try simp only [List.getElem_toArray, List.getElem_cons_succ, List.getElem_cons_zero, Act.put, List.setIfInBounds_toArray, List.set_cons_zero, List.set_cons_succ]
      refine wpAnyH_done (by kernel_rfl) ?_ _
      have BV := hid (btr BZ.out BX30.out)
      clear K0 K1 K2 K3 K4 K5 CW CV CX ee zZ yZ rZ AZ
      go_upto_region 10 with (go_at_call 4; with_reducible refine (D4.out _).mono ?_; rintro e w7 ⟨rfl, h1⟩; have B7 := hid (btr BV.out h1); clear h1)
      obtain ⟨P, hP⟩ : ∃ P, w7.alloc (.cells #[.int .u64 0, .int .u64 100] 25) = P := ⟨_, rfl⟩
      have p9 := hid (show P.heap[w7.heap.size]? = some (.cells #[.int .u64 0, .int .u64 100] 25 (0, 0)) from by rw [← hP]; exact World.alloc_heap_new _ _)
      have BP := hid (btr B7.out (show Below w7.heap.size w7 P from by rw [← hP]; exact ball _ _))
      obtain ⟨g9, hg9⟩ : ∃ g, w7.heap.size = g := ⟨_, rfl⟩
      rw [hg9] at p9
      rw [hP, hg9]
      clear hP hg9 B7
      have K0 := hid (show ∀ U, Below P.heap.size P U → U.cell? ⟨g9, 0, none⟩ = some (.int .u64 0) from fun U h => row_cell (row_on p9.out h) 0)
      have K1 := hid (show ∀ U, Below P.heap.size P U → U.cell? ⟨g9, 1, none⟩ = some (.int .u64 100) from fun U h => row_cell (row_on p9.out h) 1)
      have CC := hid (show ∀ U : World, Calls Try.prog 13 #[.int .i64 100] U fun e w' => e = .returned (.agg #[.int .u64 0, .int .u64 100]) ∧ Below U.heap.size U w' from fun U => cents_any 100 U (by decide) (by decide))
      have CM := hid (show ∀ U : World, Calls Try.prog 12 #[.agg #[.int .u64 0, .int .u64 100], .agg #[.int .u64 0, .int .u64 100]] U fun e w' => e = .returned (.int .i64 0) ∧ Below U.heap.size U w' from fun U => mcompare_any 100 100 U (by unfold Amt; omega) (by unfold Amt; omega))
      obtain ⟨V31, hV31⟩ : ∃ U, P.drew = U := ⟨_, rfl⟩
      have DV31 := hid (show Below P.heap.size P V31 from by rw [← hV31]; exact bdrew1 _)
      have BV31 := hid (btr (Below.refl P.heap.size P) DV31.out)
      refine wp_region_held_drew (S := fun U => U.cell? ⟨g9, 0, none⟩ = some (.int .u64 0) ∧ U.cell? ⟨g9, 1, none⟩ = some (.int .u64 100)) (by kernel_rfl) ?_ (fun hHeld => ?_)
      · (try dsimp only); rw [hV31]; exact ⟨K0.out _ BV31.out, K1.out _ BV31.out⟩
      rw [hV31] at hHeld ⊢
      clear hV31
      refine' wpAnyH_take (i := 0) (oi := _) (v := _) rfl (by kernel_rfl) (by kernel_rfl) (by kernel_rfl) (fun _ _ _ h => h) (Or.inl ⟨by kernel_rfl, ?_⟩) (by assumption) ?_
      rotate_left
      · (intro w hSw; (try dsimp only at hSw); go_simp; try (with_reducible rfl))
      try simp only [List.getElem_toArray, List.getElem_cons_succ, List.getElem_cons_zero, Act.put, List.setIfInBounds_toArray, List.set_cons_zero, List.set_cons_succ]
      refine' wpAnyH_take (i := 1) (oi := _) (v := _) rfl (by kernel_rfl) (by kernel_rfl) (by kernel_rfl) (fun _ _ _ h => h) (Or.inl ⟨by kernel_rfl, ?_⟩) (by assumption) ?_
      rotate_left
      · (intro w hSw; (try dsimp only at hSw); go_simp; try (with_reducible rfl))
      try simp only [List.getElem_toArray, List.getElem_cons_succ, List.getElem_cons_zero, Act.put, List.setIfInBounds_toArray, List.set_cons_zero, List.set_cons_succ]
      refine' wpAnyH_take (i := 2) (oi := _) (v := _) rfl (by kernel_rfl) (by kernel_rfl) (by kernel_rfl) (fun _ _ _ h => h) (Or.inl ⟨by kernel_rfl, ?_⟩) (by assumption) ?_
      rotate_left
      · (intro w hSw; (try dsimp only at hSw); go_simp; try (with_reducible rfl))
      try simp only [List.getElem_toArray, List.getElem_cons_succ, List.getElem_cons_zero, Act.put, List.setIfInBounds_toArray, List.set_cons_zero, List.set_cons_succ]
      refine' wpAnyH_take (i := 3) (oi := _) (v := _) rfl (by kernel_rfl) (by kernel_rfl) (by kernel_rfl) (fun _ _ _ h => h) (Or.inl ⟨by kernel_rfl, ?_⟩) (by assumption) ?_
      rotate_left
      · (intro w hSw; (try dsimp only at hSw); go_simp; try (with_reducible rfl))
      try simp only [List.getElem_toArray, List.getElem_cons_succ, List.getElem_cons_zero, Act.put, List.setIfInBounds_toArray, List.set_cons_zero, List.set_cons_succ]
      refine wpAnyH_ready (rs := [4]) (by kernel_rfl) (by simp) ?_
      refine (AllReadyH.cons (o := _) rfl (fun K hK => ?_) AllReadyH.nil)
      go_simp
      go_at_call 13
      with_reducible refine (CC.out V31).mono ?_
      rintro e X32 ⟨rfl, DbX32⟩
      have DX32 := hid (btr DV31.out DbX32)
      have BX32 := hid (btr BV31.out DbX32)
      (try go_wp2_with fail)
      refine hK.out _ _ ?_ (fun hHeld => ?_)
      · (try dsimp only); exact ⟨K0.out _ BX32.out, K1.out _ BX32.out⟩
      clear hK K
      try simp only [List.getElem_toArray, List.getElem_cons_succ, List.getElem_cons_zero, Act.put, List.setIfInBounds_toArray, List.set_cons_zero, List.set_cons_succ]
      refine wpAnyH_ready (rs := [5]) (by kernel_rfl) (by simp) ?_
      refine (AllReadyH.cons (o := _) rfl (fun K hK => ?_) AllReadyH.nil)
      go_simp
      go_at_call 12
      with_reducible refine (CM.out X32).mono ?_
      rintro e X33 ⟨rfl, DbX33⟩
      have DX33 := hid (btr DX32.out DbX33)
      have BX33 := hid (btr BX32.out DbX33)
      (try go_wp2_with fail)
      refine hK.out _ _ ?_ (fun hHeld => ?_)
      · (try dsimp only); exact ⟨K0.out _ BX33.out, K1.out _ BX33.out⟩
      clear hK K
      try simp only [List.getElem_toArray, List.getElem_cons_succ, List.getElem_cons_zero, Act.put, List.setIfInBounds_toArray, List.set_cons_zero, List.set_cons_succ]
      refine' wpAnyH_take (i := 6) (oi := _) (v := _) rfl (by kernel_rfl) (by kernel_rfl) (by kernel_rfl) (fun _ _ _ h => h) (Or.inl ⟨by kernel_rfl, ?_⟩) (by assumption) ?_
      rotate_left
      · (intro w hSw; (try dsimp only at hSw); go_simp; try (with_reducible rfl))
      try simp only [List.getElem_toArray, List.getElem_cons_succ, List.getElem_cons_zero, Act.put, List.setIfInBounds_toArray, List.set_cons_zero, List.set_cons_succ]
      refine' wpAnyH_take (i := 7) (oi := _) (v := _) rfl (by kernel_rfl) (by kernel_rfl) (by kernel_rfl) (fun _ _ _ h => h) (Or.inl ⟨by kernel_rfl, ?_⟩) (by assumption) ?_
      rotate_left
      · (intro w hSw; (try dsimp only at hSw); go_simp; try (with_reducible rfl))
      try simp only [List.getElem_toArray, List.getElem_cons_succ, List.getElem_cons_zero, Act.put, List.setIfInBounds_toArray, List.set_cons_zero, List.set_cons_succ]
      refine' wpAnyH_take (i := 8) (oi := _) (v := _) rfl (by kernel_rfl) (by kernel_rfl) (by kernel_rfl) (fun _ _ _ h => h) (Or.inl ⟨by kernel_rfl, ?_⟩) (by assumption) ?_
      rotate_left
      · (intro w hSw; (try dsimp only at hSw); go_simp; try (with_reducible rfl))
      try simp only [List.getElem_toArray, List.getElem_cons_succ, List.getElem_cons_zero, Act.put, List.setIfInBounds_toArray, List.set_cons_zero, List.set_cons_succ]
      refine wpAnyH_done (by kernel_rfl) ?_ _
      go_wp2
      go_ret
      exact ⟨rfl, btr BP.out BX33.out⟩
end Go.Proofs.Ytbohlebabkdggaa.Dm
