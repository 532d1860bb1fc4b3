/-
  Deposit and Withdraw, as far as the example goes.
-/
import Derived.Test.YtphhllppgelceaaAcS
namespace Go.Proofs.Ytphhllppgelceaa.Ac
open List renaming getElem_toArray → lgA, getElem_cons_succ → lgB, getElem_cons_zero → lgC, setIfInBounds_toArray → lsA, set_cons_zero → lsB, set_cons_succ → lsC
open Go.RowKit Go.Deep Go.Maps Go.Proofs.Ytphhllppgelceaa.MonM
set_option linter.unusedVariables false
set_option linter.unusedSimpArgs false
set_option maxHeartbeats 8000000
set_option maxRecDepth 100000
attribute [local go_sem ↓] Go.wp_at_zero Go.wp_at_succ
theorem times_big (p q : Int) (w : World) (hp0 : 0 ≤ p) (hp1 : p < 4294967296) (hq0 : 0 ≤ q) (hq1 : q < 18446744073709551616) :
    Calls Try.prog 28 #[.int .u32 p, .int .u64 q] w fun e w' => e = .returned (mv (p * q)) ∧ Below w.heap.size w w' := by
  have hp : Word p := ⟨hp0, by omega⟩
  have hq : Word q := ⟨hq0, by omega⟩
  have h0 : 0 ≤ p * q := Int.mul_nonneg hp0 hq0
  have h1 : p * q ≤ 4294967296 * 18446744073709551616 := Int.mul_le_mul (by omega) (by omega) hq0 (by omega)
  have e1 : mulH p q = hiW (p * q) := by unfold mulH hiW; omega
  have e2 : mulL p q = loW (p * q) := rfl
  have C := hid (fun w => mul64_any p q w hp hq)
  rw [e1, e2] at C
  clear e1 e2 hp hq h0 h1 hq0 hq1
  go_enter Try.func28, Try.ntmps28
  go_wp2_with fail
  refine (C.out _).mono ?_; rintro e w1 ⟨rfl, rfl⟩
  go_wp2
  exact bodyPost_ret (v := mv (p * q)) (by simp [results, Try.results28, go_sem]) rfl ⟨rfl, (Below.refl _ _).alloc (Nat.le_refl _) _⟩
theorem payable_ok {w : World} {G : Nat} {O : Nat → Prop} {k : Nat} {s : Ls} (h : Lg w G O k s) (m v : Int) (hm : U32 m) (hf : (s.f (m, 1)).isSome = true) (hv0 : 0 < v) (hv1 : v ≤ 1000000) :
    Calls Try.prog 36 #[.pointer (some ⟨G, 0, none⟩), .int .u32 m, mv v] w fun e w' => e = .returned (.int .i64 0) ∧ Below w.heap.size w w' := by
  have hA : Amt v := by unfold Amt; omega
  have hA2 : Amt (4294967295 * 18446744073709551615) := ⟨by decide, by decide⟩
  have CI := hid (show ∀ U, Below w.heap.size w U → Calls Try.prog 35 #[.pointer (some ⟨G, 0, none⟩), .int .u32 m] U fun e w' => e = .returned (.bool true) ∧ Below U.heap.size U w' from fun U hU => by rw [← hf]; exact isOpen_any (h.on hU) m hm)
  have CS := hid (show ∀ U, Calls Try.prog 16 #[mv v] U fun e w' => e = .returned (.int .i64 1) ∧ Hid (Below U.heap.size U w') from fun U => by have h1 := sign_any v U hA; rw [show sgn v = 1 from by unfold sgn; rw [if_neg (by omega), if_pos hv0]] at h1; exact h1)
  have CT := hid (show ∀ U, Calls Try.prog 28 #[.int .u32 4294967295, .int .u64 18446744073709551615] U fun e w' => e = .returned (mv (4294967295 * 18446744073709551615)) ∧ Hid (Below U.heap.size U w') from fun U => times_big _ _ U (by decide) (by decide) (by decide) (by decide))
  have CC := hid (show ∀ U, Calls Try.prog 15 #[mv v, mv (4294967295 * 18446744073709551615)] U fun e w' => e = .returned (.int .i64 (-1)) ∧ Hid (Below U.heap.size U w') from fun U => by have h1 := mcompare_any v (4294967295 * 18446744073709551615) U hA hA2; rw [show cmp3 v (4294967295 * 18446744073709551615) = -1 from by unfold cmp3; rw [if_pos (by omega)]] at h1; exact h1)
  obtain ⟨y, hy⟩ : ∃ y : Int, 4294967295 * 18446744073709551615 = y := ⟨_, rfl⟩
  rw [hy] at CT CC
  obtain ⟨Wa, hWa⟩ : ∃ W, w.alloc (.cells #[.int .u64 (hiW v), .int .u64 (loW v)] 40) = W := ⟨_, rfl⟩
  obtain ⟨R, hR⟩ : ∃ R, w.heap.size = R := ⟨_, rfl⟩
  have HBA := hid (show Below w.heap.size w Wa from by rw [← hWa]; exact ball _ _)
  have HRA := hid (show Wa.heap[R]? = some (.cells #[.int .u64 (hiW v), .int .u64 (loW v)] 40 (0, 0)) from by rw [← hWa, ← hR]; exact World.alloc_heap_new _ _)
  have HWa := hid hWa
  have HR := hid hR
  unfold mv at CS CT CC ⊢
  clear hWa hR h hm hf hv0 hv1 hA hA2 hy
  go_enter Try.func36, Try.ntmps36
  go_upto_region 1 with fail
  rw [HWa.out, HR.out]
  clear HWa
  go_upto_region 3 with (go_at_call 35; with_reducible refine (CI.out Wa HBA.out).mono ?_; rintro e w4 ⟨rfl, hb⟩; have HB4 := hid (btr HBA.out hb); have HR4 := hid (row_on HRA.out hb); clear hb)
  obtain ⟨V1, hV1⟩ : ∃ U, w4.drew = U := ⟨_, rfl⟩
  have BV1 := hid (show Below w4.heap.size w4 V1 from by rw [← hV1]; exact bdrew1 _)
  have r2 := hid (row_on HR4.out BV1.out)
  refine wp_region_held_drew (S := fun U => U.cell? ⟨R, 0, none⟩ = some (.int .u64 (hiW v)) ∧ U.cell? ⟨R, 1, none⟩ = some (.int .u64 (loW v))) (by kernel_rfl) ?_ (fun hHeld => ?_)
  · (try dsimp only); rw [hV1]; exact ⟨row_cell r2.out 0, row_cell r2.out 1⟩
  rw [hV1] at hHeld ⊢
  clear hV1
  refine' wpAnyH_take (i := 0) rfl (by kernel_rfl) (by kernel_rfl) (by kernel_rfl) (fun _ _ _ h => h) (Or.inl ⟨by kernel_rfl, ?_⟩) (by assumption) ?_
  rotate_left
  · (intro w hSw; (try dsimp only at hSw); go_simp; try (with_reducible rfl))
  try simp only [lgA, lgB, lgC, Act.put, lsA, lsB, lsC]
  refine wpAnyH_ready (rs := [1]) (by kernel_rfl) (by simp) ?_
  refine (AllReadyH.cons rfl (fun K hK => ?_) AllReadyH.nil)
  go_simp
  go_at_call 16
  with_reducible refine (CS.out V1).mono ?_
  rintro e X3 ⟨rfl, DbX3⟩
  have r4 := hid (row_on r2.out DbX3.out)
  have DX3 := hid (btr BV1.out DbX3.out)
  (try go_wp2_with fail)
  refine hK.out _ _ ?_ (fun hHeld => ?_)
  · (try dsimp only); exact ⟨row_cell r4.out 0, row_cell r4.out 1⟩
  clear hK K
  try simp only [lgA, lgB, lgC, Act.put, lsA, lsB, lsC]
  refine' wpAnyH_take (i := 2) rfl (by kernel_rfl) (by kernel_rfl) (by kernel_rfl) (fun _ _ _ h => h) (Or.inl ⟨by kernel_rfl, ?_⟩) (by assumption) ?_
  rotate_left
  · (intro w hSw; (try dsimp only at hSw); go_simp; try (with_reducible rfl))
  try simp only [lgA, lgB, lgC, Act.put, lsA, lsB, lsC]
  refine' wpAnyH_take (i := 3) rfl (by kernel_rfl) (by kernel_rfl) (by kernel_rfl) (fun _ _ _ h => h) (Or.inl ⟨by kernel_rfl, ?_⟩) (by assumption) ?_
  rotate_left
  · (intro w hSw; (try dsimp only at hSw); go_simp; try (with_reducible rfl))
  try simp only [lgA, lgB, lgC, Act.put, lsA, lsB, lsC]
  refine' wpAnyH_take (i := 4) rfl (by kernel_rfl) (by kernel_rfl) (by kernel_rfl) (fun _ _ _ h => h) (Or.inl ⟨by kernel_rfl, ?_⟩) (by assumption) ?_
  rotate_left
  · (intro w hSw; (try dsimp only at hSw); go_simp; try (with_reducible rfl))
  try simp only [lgA, lgB, lgC, Act.put, lsA, lsB, lsC]
  refine wpAnyH_ready (rs := [5]) (by kernel_rfl) (by simp) ?_
  refine (AllReadyH.cons rfl (fun K hK => ?_) AllReadyH.nil)
  go_simp
  go_at_call 28
  with_reducible refine (CT.out X3).mono ?_
  rintro e X5 ⟨rfl, DbX5⟩
  have r6 := hid (row_on r4.out DbX5.out)
  have DX5 := hid (btr DX3.out DbX5.out)
  (try go_wp2_with fail)
  refine hK.out _ _ ?_ (fun hHeld => ?_)
  · (try dsimp only); exact ⟨row_cell r6.out 0, row_cell r6.out 1⟩
  clear hK K
  try simp only [lgA, lgB, lgC, Act.put, lsA, lsB, lsC]
  refine wpAnyH_ready (rs := [6]) (by kernel_rfl) (by simp) ?_
  refine (AllReadyH.cons rfl (fun K hK => ?_) AllReadyH.nil)
  go_simp
  go_at_call 15
  with_reducible refine (CC.out X5).mono ?_
  rintro e X7 ⟨rfl, DbX7⟩
  have r8 := hid (row_on r6.out DbX7.out)
  have DX7 := hid (btr DX5.out DbX7.out)
  (try go_wp2_with fail)
  refine hK.out _ _ ?_ (fun hHeld => ?_)
  · (try dsimp only); exact ⟨row_cell r8.out 0, row_cell r8.out 1⟩
  clear hK K
  try simp only [lgA, lgB, lgC, Act.put, lsA, lsB, lsC]
  refine' wpAnyH_take (i := 7) rfl (by kernel_rfl) (by kernel_rfl) (by kernel_rfl) (fun _ _ _ h => h) (Or.inl ⟨by kernel_rfl, ?_⟩) (by assumption) ?_
  rotate_left
  · (intro w hSw; (try dsimp only at hSw); go_simp; try (with_reducible rfl))
  try simp only [lgA, lgB, lgC, Act.put, lsA, lsB, lsC]
  refine' wpAnyH_take (i := 8) rfl (by kernel_rfl) (by kernel_rfl) (by kernel_rfl) (fun _ _ _ h => h) (Or.inl ⟨by kernel_rfl, ?_⟩) (by assumption) ?_
  rotate_left
  · (intro w hSw; (try dsimp only at hSw); go_simp; try (with_reducible rfl))
  try simp only [lgA, lgB, lgC, Act.put, lsA, lsB, lsC]
  refine wpAnyH_done (by kernel_rfl) ?_ _
  go_wp2
  go_ret
  exact ⟨rfl, btr HB4.out DX7.out⟩
theorem wf3 : (Lit.int .i64 3).wf = true := by decide
theorem deposit_ok {w : World} {G : Nat} {O : Nat → Prop} {k : Nat} {s : Ls} (h : Lg w G O k s) (m v : Int) (hm : U32 m) (hf : (s.f (m, 1)).isSome = true) (hv0 : 0 < v) (hv1 : v ≤ 1000000) (hk : k ≤ 1000000000000) :
    Calls Try.prog 21 #[.pointer (some ⟨G, 0, none⟩), .int .u32 m, mv v] w fun e w' => e = .returned (.int .i64 0) ∧ ∃ O', Lg w' G O' (k + 3) (ent s (0, 3) (m, 1) v) ∧ Kp O w w' ∧ Ex w O O' := by
  have hA : Amt v := by unfold Amt; omega
  have CPy := hid (show ∀ U, Below w.heap.size w U → Calls Try.prog 36 #[.pointer (some ⟨G, 0, none⟩), .int .u32 m, mv v] U fun e w' => e = .returned (.int .i64 0) ∧ Below U.heap.size U w' from fun U hU => payable_ok (h.on hU) m v hm hf hv0 hv1)
  have CC := hid (show ∀ U, Calls Try.prog 32 #[.int .u32 m] U fun e w' => e = .returned (.agg #[.int .u32 m, .int .i64 1]) ∧ Hid (Below U.heap.size U w') from fun U => cash_any m U)
  have hB : ∃ x, s.f x ≠ none := ⟨(m, 1), fun e => by rw [e] at hf; cases hf⟩
  have CE := hid (show ∀ U, Below w.heap.size w U → Calls Try.prog 31 #[.pointer (some ⟨G, 0, none⟩), .agg #[.int .u32 0, .int .i64 3], .agg #[.int .u32 m, .int .i64 1], mv v] U fun e w' => e = .returned (.tuple #[]) ∧ Hid (∃ O', Lg w' G O' (k + 3) (ent s (0, 3) (m, 1) v) ∧ Kp O U w' ∧ Ex U O O') from fun U hU => enter_any (h.on hU) hB 0 3 m 1 _ u320 wf3 hm wf1 hA hk)
  have HLT := hid h.lt
  obtain ⟨Wa, hWa⟩ : ∃ W, w.alloc (.cells #[.int .u64 (hiW v), .int .u64 (loW v)] 40) = W := ⟨_, rfl⟩
  obtain ⟨R, hR⟩ : ∃ R, w.heap.size = R := ⟨_, rfl⟩
  have HBA := hid (show Below w.heap.size w Wa from by rw [← hWa]; exact ball _ _)
  have HRA := hid (show Wa.heap[R]? = some (.cells #[.int .u64 (hiW v), .int .u64 (loW v)] 40 (0, 0)) from by rw [← hWa, ← hR]; exact World.alloc_heap_new _ _)
  have HWa := hid hWa
  have HR := hid hR
  have c0 := row_cell HRA.out 0
  have c1 := row_cell HRA.out 1
  simp only [List.getElem?_toArray, List.getElem?_cons_succ, List.getElem?_cons_zero] at c0 c1
  unfold mv at CPy CE ⊢
  clear hWa hR h hm hf hv0 hv1 hA hB hk
  go_enter Try.func21, Try.ntmps21
  go_upto_region 1 with fail
  rw [HWa.out, HR.out]
  clear HWa
  go_upto_region 4 with (go_at_call 36; with_reducible refine (CPy.out Wa HBA.out).mono ?_; rintro e w4 ⟨rfl, hb⟩; have HB4 := hid (btr HBA.out hb); have HR4 := hid (row_on HRA.out hb); clear hb)
  clear c0 c1
  obtain ⟨V9, hV9⟩ : ∃ U, w4.drew = U := ⟨_, rfl⟩
  have BV9 := hid (show Below w4.heap.size w4 V9 from by rw [← hV9]; exact bdrew1 _)
  have r10 := hid (row_on HR4.out BV9.out)
  refine wp_region_held_drew (S := fun U => U.cell? ⟨R, 0, none⟩ = some (.int .u64 (hiW v)) ∧ U.cell? ⟨R, 1, none⟩ = some (.int .u64 (loW v))) (by kernel_rfl) ?_ (fun hHeld => ?_)
  · (try dsimp only); rw [hV9]; exact ⟨row_cell r10.out 0, row_cell r10.out 1⟩
  rw [hV9] at hHeld ⊢
  clear hV9
  refine' wpAnyH_take (i := 0) rfl (by kernel_rfl) (by kernel_rfl) (by kernel_rfl) (fun _ _ _ h => h) (Or.inl ⟨by kernel_rfl, ?_⟩) (by assumption) ?_
  rotate_left
  · (intro w hSw; (try dsimp only at hSw); go_simp; try (with_reducible rfl))
  try simp only [lgA, lgB, lgC, Act.put, lsA, lsB, lsC]
  refine' wpAnyH_take (i := 1) rfl (by kernel_rfl) (by kernel_rfl) (by kernel_rfl) (fun _ _ _ h => h) (Or.inl ⟨by kernel_rfl, ?_⟩) (by assumption) ?_
  rotate_left
  · (intro w hSw; (try dsimp only at hSw); go_simp; try (with_reducible rfl))
  try simp only [lgA, lgB, lgC, Act.put, lsA, lsB, lsC]
  refine' wpAnyH_take (i := 2) rfl (by kernel_rfl) (by kernel_rfl) (by kernel_rfl) (fun _ _ _ h => h) (Or.inl ⟨by kernel_rfl, ?_⟩) (by assumption) ?_
  rotate_left
  · (intro w hSw; (try dsimp only at hSw); go_simp; try (with_reducible rfl))
  try simp only [lgA, lgB, lgC, Act.put, lsA, lsB, lsC]
  refine' wpAnyH_take (i := 4) rfl (by kernel_rfl) (by kernel_rfl) (by kernel_rfl) (fun _ _ _ h => h) (Or.inl ⟨by kernel_rfl, ?_⟩) (by assumption) ?_
  rotate_left
  · (intro w hSw; (try dsimp only at hSw); go_simp; try (with_reducible rfl))
  try simp only [lgA, lgB, lgC, Act.put, lsA, lsB, lsC]
  refine wpAnyH_ready (rs := [3]) (by kernel_rfl) (by simp) ?_
  refine (AllReadyH.cons rfl (fun K hK => ?_) AllReadyH.nil)
  go_simp
  go_at_call 32
  with_reducible refine (CC.out V9).mono ?_
  rintro e X11 ⟨rfl, DbX11⟩
  have r12 := hid (row_on r10.out DbX11.out)
  have DX11 := hid (btr BV9.out DbX11.out)
  (try go_wp2_with fail)
  refine hK.out _ _ ?_ (fun hHeld => ?_)
  · (try dsimp only); exact ⟨row_cell r12.out 0, row_cell r12.out 1⟩
  clear hK K
  try simp only [lgA, lgB, lgC, Act.put, lsA, lsB, lsC]
  refine wpAnyH_ready (rs := [5]) (by kernel_rfl) (by simp) ?_
  refine (AllReadyH.cons rfl (fun K hK => ?_) AllReadyH.nil)
  have hbX := btr HB4.out DX11.out
  go_simp
  go_at_call 31
  with_reducible refine (CE.out X11 hbX).mono ?_
  rintro e Z ⟨rfl, hZ⟩
  have HBX := hid hbX
  clear hbX
  obtain ⟨O', z1, z2, z3⟩ := hZ.out
  have Z1 := hid z1
  have Z2 := hid z2
  have Z3 := hid z3
  clear z1 z2 z3 hZ
  have rT := hid (Z2.out.row r12.out (fun e => by have h1 := HLT.out R e; have h2 := HR.out; omega))
  (try go_wp2_with fail)
  refine hK.out _ _ ?_ (fun hHeld => ?_)
  · (try dsimp only); exact ⟨row_cell rT.out 0, row_cell rT.out 1⟩
  clear hK K
  try simp only [lgA, lgB, lgC, Act.put, lsA, lsB, lsC]
  refine wpAnyH_done (by kernel_rfl) ?_ _
  go_wp2
  go_ret
  exact ⟨rfl, O', Z1.out, (Kp.of O HBX.out).trans Z2.out (fun _ _ h => h), (Ex.refl w O).trans Z3.out HBX.out.size⟩
theorem withdraw_funds {w : World} {G : Nat} {O : Nat → Prop} {k : Nat} {s : Ls} (h : Lg w G O k s) (m v x : Int) (hm : U32 m) (hf : s.f (m, 1) = some x) (hx : Amt x) (hxv : x < v) (hv0 : 0 < v) (hv1 : v ≤ 1000000) :
    Calls Try.prog 22 #[.pointer (some ⟨G, 0, none⟩), .int .u32 m, mv v] w fun e w' => e = .returned (.int .i64 202) ∧ Below w.heap.size w w' := by
  have hA : Amt v := by unfold Amt; omega
  have CPy := hid (show ∀ U, Below w.heap.size w U → Calls Try.prog 36 #[.pointer (some ⟨G, 0, none⟩), .int .u32 m, mv v] U fun e w' => e = .returned (.int .i64 0) ∧ Below U.heap.size U w' from fun U hU => payable_ok (h.on hU) m v hm (by rw [hf]; rfl) hv0 hv1)
  have CC := hid (show ∀ U, Calls Try.prog 32 #[.int .u32 m] U fun e w' => e = .returned (.agg #[.int .u32 m, .int .i64 1]) ∧ Hid (Below U.heap.size U w') from fun U => cash_any m U)
  have CB := hid (show ∀ U, Below w.heap.size w U → Calls Try.prog 14 #[.pointer (some ⟨G, 0, none⟩), .agg #[.int .u32 m, .int .i64 1]] U fun e w' => e = .returned (mv x) ∧ Hid (Below U.heap.size U w') from fun U hU => by have h1 := balance_any (h.on hU) m 1 hm wf1; rw [hf] at h1; exact h1)
  have CM := hid (show ∀ U, Calls Try.prog 15 #[mv x, mv v] U fun e w' => e = .returned (.int .i64 (-1)) ∧ Hid (Below U.heap.size U w') from fun U => by have h1 := mcompare_any x v U hx hA; rw [show cmp3 x v = -1 from by unfold cmp3; rw [if_pos hxv]] at h1; exact h1)
  obtain ⟨Wa, hWa⟩ : ∃ W, w.alloc (.cells #[.int .u64 (hiW v), .int .u64 (loW v)] 40) = W := ⟨_, rfl⟩
  obtain ⟨R, hR⟩ : ∃ R, w.heap.size = R := ⟨_, rfl⟩
  have HBA := hid (show Below w.heap.size w Wa from by rw [← hWa]; exact ball _ _)
  have HRA := hid (show Wa.heap[R]? = some (.cells #[.int .u64 (hiW v), .int .u64 (loW v)] 40 (0, 0)) from by rw [← hWa, ← hR]; exact World.alloc_heap_new _ _)
  have HWa := hid hWa
  have HR := hid hR
  have c0 := row_cell HRA.out 0
  have c1 := row_cell HRA.out 1
  simp only [List.getElem?_toArray, List.getElem?_cons_succ, List.getElem?_cons_zero] at c0 c1
  unfold mv at CPy CB CM ⊢
  clear hWa hR h hm hf hv0 hv1 hA hx hxv
  go_enter Try.func22, Try.ntmps22
  go_upto_region 1 with fail
  rw [HWa.out, HR.out]
  clear HWa
  go_upto_region 4 with (go_at_call 36; with_reducible refine (CPy.out Wa HBA.out).mono ?_; rintro e w4 ⟨rfl, hb⟩; have HB4 := hid (btr HBA.out hb); have HR4 := hid (row_on HRA.out hb); clear hb)
  clear c0 c1
  obtain ⟨V13, hV13⟩ : ∃ U, w4.drew = U := ⟨_, rfl⟩
  have BV13 := hid (show Below w4.heap.size w4 V13 from by rw [← hV13]; exact bdrew1 _)
  have r14 := hid (row_on HR4.out BV13.out)
  refine wp_region_held_drew (S := fun U => U.cell? ⟨R, 0, none⟩ = some (.int .u64 (hiW v)) ∧ U.cell? ⟨R, 1, none⟩ = some (.int .u64 (loW v))) (by kernel_rfl) ?_ (fun hHeld => ?_)
  · (try dsimp only); rw [hV13]; exact ⟨row_cell r14.out 0, row_cell r14.out 1⟩
  rw [hV13] at hHeld ⊢
  clear hV13
  refine' wpAnyH_take (i := 0) rfl (by kernel_rfl) (by kernel_rfl) (by kernel_rfl) (fun _ _ _ h => h) (Or.inl ⟨by kernel_rfl, ?_⟩) (by assumption) ?_
  rotate_left
  · (intro w hSw; (try dsimp only at hSw); go_simp; try (with_reducible rfl))
  try simp only [lgA, lgB, lgC, Act.put, lsA, lsB, lsC]
  refine' wpAnyH_take (i := 1) rfl (by kernel_rfl) (by kernel_rfl) (by kernel_rfl) (fun _ _ _ h => h) (Or.inl ⟨by kernel_rfl, ?_⟩) (by assumption) ?_
  rotate_left
  · (intro w hSw; (try dsimp only at hSw); go_simp; try (with_reducible rfl))
  try simp only [lgA, lgB, lgC, Act.put, lsA, lsB, lsC]
  refine' wpAnyH_take (i := 4) rfl (by kernel_rfl) (by kernel_rfl) (by kernel_rfl) (fun _ _ _ h => h) (Or.inl ⟨by kernel_rfl, ?_⟩) (by assumption) ?_
  rotate_left
  · (intro w hSw; (try dsimp only at hSw); go_simp; try (with_reducible rfl))
  try simp only [lgA, lgB, lgC, Act.put, lsA, lsB, lsC]
  refine wpAnyH_ready (rs := [2]) (by kernel_rfl) (by simp) ?_
  refine (AllReadyH.cons rfl (fun K hK => ?_) AllReadyH.nil)
  go_simp
  go_at_call 32
  with_reducible refine (CC.out V13).mono ?_
  rintro e X15 ⟨rfl, DbX15⟩
  have r16 := hid (row_on r14.out DbX15.out)
  have DX15 := hid (btr BV13.out DbX15.out)
  (try go_wp2_with fail)
  refine hK.out _ _ ?_ (fun hHeld => ?_)
  · (try dsimp only); exact ⟨row_cell r16.out 0, row_cell r16.out 1⟩
  clear hK K
  try simp only [lgA, lgB, lgC, Act.put, lsA, lsB, lsC]
  refine wpAnyH_ready (rs := [3]) (by kernel_rfl) (by simp) ?_
  refine (AllReadyH.cons rfl (fun K hK => ?_) AllReadyH.nil)
  go_simp
  go_at_call 14
  with_reducible refine (CB.out X15 (btr HB4.out DX15.out)).mono ?_
  rintro e X17 ⟨rfl, DbX17⟩
  have r18 := hid (row_on r16.out DbX17.out)
  have DX17 := hid (btr DX15.out DbX17.out)
  (try go_wp2_with fail)
  refine hK.out _ _ ?_ (fun hHeld => ?_)
  · (try dsimp only); exact ⟨row_cell r18.out 0, row_cell r18.out 1⟩
  clear hK K
  try simp only [lgA, lgB, lgC, Act.put, lsA, lsB, lsC]
  refine wpAnyH_ready (rs := [5]) (by kernel_rfl) (by simp) ?_
  refine (AllReadyH.cons rfl (fun K hK => ?_) AllReadyH.nil)
  go_simp
  go_at_call 15
  with_reducible refine (CM.out X17).mono ?_
  rintro e X19 ⟨rfl, DbX19⟩
  have r20 := hid (row_on r18.out DbX19.out)
  have DX19 := hid (btr DX17.out DbX19.out)
  (try go_wp2_with fail)
  refine hK.out _ _ ?_ (fun hHeld => ?_)
  · (try dsimp only); exact ⟨row_cell r20.out 0, row_cell r20.out 1⟩
  clear hK K
  try simp only [lgA, lgB, lgC, Act.put, lsA, lsB, lsC]
  refine' wpAnyH_take (i := 6) rfl (by kernel_rfl) (by kernel_rfl) (by kernel_rfl) (fun _ _ _ h => h) (Or.inl ⟨by kernel_rfl, ?_⟩) (by assumption) ?_
  rotate_left
  · (intro w hSw; (try dsimp only at hSw); go_simp; try (with_reducible rfl))
  try simp only [lgA, lgB, lgC, Act.put, lsA, lsB, lsC]
  refine wpAnyH_done (by kernel_rfl) ?_ _
  go_wp2
  go_ret
  exact ⟨rfl, btr HB4.out DX19.out⟩
end Go.Proofs.Ytphhllppgelceaa.Ac
