/-
  Deposit and Withdraw of whatever.
-/
import Derived.Test.YtphhllppgelceaaAcT
namespace Go.Proofs.Ytphhllppgelceaa.Ac
open List renaming getElem?_toArray → lqA, getElem?_cons_succ → lqB, getElem?_cons_zero → lqC
open List renaming getElem_toArray → lgA, getElem_cons_succ → lgB, getElem_cons_zero → lgC, setIfInBounds_toArray → lsA, set_cons_zero → lsB, set_cons_succ → lsC
open Go.RowKit Go.Deep Go.Maps Go.Proofs.Ytphhllppgelceaa.MonM
set_option linter.unusedVariables false
set_option linter.unusedSimpArgs false
set_option maxHeartbeats 8000000
set_option maxRecDepth 100000
attribute [local go_sem ↓] Go.wp_at_zero Go.wp_at_succ
def mxV : Int := 4294967295 * 18446744073709551615
/-- why a member can't bring an amount in or out. -/
def pyc (s : Ls) (m v : Int) : Int := if (s.f (m, 1)).isSome = false then 200 else if v ≤ 0 ∨ mxV < v then 201 else 0
theorem payable_no {w : World} {G : Nat} {O : Nat → Prop} {k : Nat} {s : Ls} (h : Lg w G O k s) (m v : Int) (hm : U32 m) (hA : Amt v) (hf : (s.f (m, 1)).isSome = false) :
    Calls Try.prog 36 #[.pointer (some ⟨G, 0, none⟩), .int .u32 m, mv v] w fun e w' => e = .returned (.int .i64 200) ∧ Below w.heap.size w w' := by
  have CI := hid (show ∀ U, Below w.heap.size w U → Calls Try.prog 35 #[.pointer (some ⟨G, 0, none⟩), .int .u32 m] U fun e w' => e = .returned (.bool false) ∧ Below U.heap.size U w' from fun U hU => by rw [← hf]; exact isOpen_any (h.on hU) m hm)
  obtain ⟨Wa, hWa⟩ : ∃ W, w.alloc (.cells #[.int .u64 (hiW v), .int .u64 (loW v)] 40) = W := ⟨_, rfl⟩
  obtain ⟨R, hR⟩ : ∃ R, w.heap.size = R := ⟨_, rfl⟩
  have HBA := hid (show Below w.heap.size w Wa from by rw [← hWa]; exact ball _ _)
  have HRA := hid (show Wa.heap[R]? = some (.cells #[.int .u64 (hiW v), .int .u64 (loW v)] 40 (0, 0)) from by rw [← hWa, ← hR]; exact World.alloc_heap_new _ _)
  have HWa := hid hWa
  have HR := hid hR
  unfold mv
  clear hWa hR h hm hf hA
  go_enter Try.func36, Try.ntmps36
  go_upto_region 1 with fail
  rw [HWa.out, HR.out]
  clear HWa
  go_wp2_with (go_at_call 35; with_reducible refine (CI.out Wa HBA.out).mono ?_; rintro e w4 ⟨rfl, hb⟩; have HB4 := hid (btr HBA.out hb); clear hb)
  go_ret
  exact ⟨rfl, HB4.out⟩
theorem payable_low {w : World} {G : Nat} {O : Nat → Prop} {k : Nat} {s : Ls} (h : Lg w G O k s) (m v : Int) (hm : U32 m) (hA : Amt v) (hf : (s.f (m, 1)).isSome = true) (hv : v ≤ 0) :
    Calls Try.prog 36 #[.pointer (some ⟨G, 0, none⟩), .int .u32 m, mv v] w fun e w' => e = .returned (.int .i64 201) ∧ Below w.heap.size w w' := by
  have CI := hid (show ∀ U, Below w.heap.size w U → Calls Try.prog 35 #[.pointer (some ⟨G, 0, none⟩), .int .u32 m] U fun e w' => e = .returned (.bool true) ∧ Below U.heap.size U w' from fun U hU => by rw [← hf]; exact isOpen_any (h.on hU) m hm)
  have CS := hid (show ∀ U, Calls Try.prog 16 #[mv v] U fun e w' => e = .returned (.int .i64 (sgn v)) ∧ Hid (Below U.heap.size U w') from fun U => sign_any v U hA)
  have es : decide (sgn v ≤ 0) = true := by unfold sgn; simp; split <;> (try split) <;> omega
  obtain ⟨sg, hsg⟩ : ∃ x, sgn v = x := ⟨_, rfl⟩
  rw [hsg] at CS es
  obtain ⟨Wa, hWa⟩ : ∃ W, w.alloc (.cells #[.int .u64 (hiW v), .int .u64 (loW v)] 40) = W := ⟨_, rfl⟩
  obtain ⟨R, hR⟩ : ∃ R, w.heap.size = R := ⟨_, rfl⟩
  have HBA := hid (show Below w.heap.size w Wa from by rw [← hWa]; exact ball _ _)
  have HRA := hid (show Wa.heap[R]? = some (.cells #[.int .u64 (hiW v), .int .u64 (loW v)] 40 (0, 0)) from by rw [← hWa, ← hR]; exact World.alloc_heap_new _ _)
  have HWa := hid hWa
  have HR := hid hR
  unfold mv at CS ⊢
  clear hWa hR h hm hf hA hv hsg
  go_enter Try.func36, Try.ntmps36
  go_upto_region 1 with fail
  rw [HWa.out, HR.out]
  clear HWa
  go_upto_region 3 with (go_at_call 35; with_reducible refine (CI.out Wa HBA.out).mono ?_; rintro e w4 ⟨rfl, hb⟩; have HB4 := hid (btr HBA.out hb); have HR4 := hid (row_on HRA.out hb); clear hb)
  obtain ⟨V1, hV1⟩ : ∃ U, w4.drew = U := ⟨_, rfl⟩
  have BV1 := hid (show Below w4.heap.size w4 V1 from by rw [← hV1]; exact bdrew1 _)
  have r2 := hid (row_on HR4.out BV1.out)
  refine wp_region_held_drew (S := fun U => U.cell? ⟨R, 0, none⟩ = some (.int .u64 (hiW v)) ∧ U.cell? ⟨R, 1, none⟩ = some (.int .u64 (loW v))) (by kernel_rfl) ?_ (fun hHeld => ?_)
  · (try dsimp only); rw [hV1]; exact ⟨row_cell r2.out 0, row_cell r2.out 1⟩
  rw [hV1] at hHeld ⊢
  clear hV1
  refine' wpAnyH_take (i := 0) rfl (by kernel_rfl) (by kernel_rfl) (by kernel_rfl) (fun _ _ _ h => h) (Or.inl ⟨by kernel_rfl, ?_⟩) (by assumption) ?_
  rotate_left
  · (intro w hSw; (try dsimp only at hSw); go_simp; try (with_reducible rfl))
  try simp only [lgA, lgB, lgC, Act.put, lsA, lsB, lsC]
  refine wpAnyH_ready (rs := [1]) (by kernel_rfl) (by simp) ?_
  refine (AllReadyH.cons rfl (fun K hK => ?_) AllReadyH.nil)
  go_simp
  go_at_call 16
  with_reducible refine (CS.out V1).mono ?_
  rintro e X3 ⟨rfl, DbX3⟩
  have r4 := hid (row_on r2.out DbX3.out)
  have DX3 := hid (btr BV1.out DbX3.out)
  (try go_wp2_with fail)
  refine hK.out _ _ ?_ (fun hHeld => ?_)
  · (try dsimp only); exact ⟨row_cell r4.out 0, row_cell r4.out 1⟩
  clear hK K
  try simp only [lgA, lgB, lgC, Act.put, lsA, lsB, lsC]
  refine' wpAnyH_take (i := 2) rfl (by kernel_rfl) (by kernel_rfl) (by kernel_rfl) (fun _ _ _ h => h) (Or.inl ⟨by kernel_rfl, ?_⟩) (by assumption) ?_
  rotate_left
  · (intro w hSw; (try dsimp only at hSw); go_simp; try (with_reducible rfl))
  try simp only [lgA, lgB, lgC, Act.put, lsA, lsB, lsC]
  refine' wpAnyH_take (i := 3) rfl (by kernel_rfl) (by kernel_rfl) (by kernel_rfl) (fun _ _ _ h => h) (Or.inl ⟨by kernel_rfl, ?_⟩) (by assumption) ?_
  rotate_left
  · (intro w hSw; (try dsimp only at hSw); go_simp; try (with_reducible rfl))
  try simp only [lgA, lgB, lgC, Act.put, lsA, lsB, lsC]
  refine' wpAnyH_take (i := 4) (oi := _) (v := undef) rfl (by kernel_rfl) (by kernel_rfl) (by kernel_rfl) (fun _ _ _ h => h) (Or.inr ⟨by kernel_rfl, rfl⟩) (by assumption) ?_
  try simp only [lgA, lgB, lgC, Act.put, lsA, lsB, lsC]
  refine' wpAnyH_take (i := 5) (oi := _) (v := undef) rfl (by kernel_rfl) (by kernel_rfl) (by kernel_rfl) (fun _ _ _ h => h) (Or.inr ⟨by kernel_rfl, rfl⟩) (by assumption) ?_
  try simp only [lgA, lgB, lgC, Act.put, lsA, lsB, lsC]
  refine' wpAnyH_take (i := 6) (oi := _) (v := undef) rfl (by kernel_rfl) (by kernel_rfl) (by kernel_rfl) (fun _ _ _ h => h) (Or.inr ⟨by kernel_rfl, rfl⟩) (by assumption) ?_
  try simp only [lgA, lgB, lgC, Act.put, lsA, lsB, lsC]
  refine' wpAnyH_take (i := 7) (oi := _) (v := undef) rfl (by kernel_rfl) (by kernel_rfl) (by kernel_rfl) (fun _ _ _ h => h) (Or.inr ⟨by kernel_rfl, rfl⟩) (by assumption) ?_
  try simp only [lgA, lgB, lgC, Act.put, lsA, lsB, lsC]
  refine' wpAnyH_take (i := 8) rfl (by kernel_rfl) (by kernel_rfl) (by kernel_rfl) (fun _ _ _ h => h) (Or.inl ⟨by kernel_rfl, ?_⟩) (by assumption) ?_
  rotate_left
  · (intro w hSw; (try dsimp only at hSw); go_simp; try (with_reducible rfl))
  try simp only [lgA, lgB, lgC, Act.put, lsA, lsB, lsC]
  refine wpAnyH_done (by kernel_rfl) ?_ _
  go_wp2
  go_ret
  exact ⟨rfl, btr HB4.out DX3.out⟩
theorem payable_pos {w : World} {G : Nat} {O : Nat → Prop} {k : Nat} {s : Ls} (h : Lg w G O k s) (m v : Int) (hm : U32 m) (hA : Amt v) (hf : (s.f (m, 1)).isSome = true) (hv : 0 < v) :
    Calls Try.prog 36 #[.pointer (some ⟨G, 0, none⟩), .int .u32 m, mv v] w fun e w' => e = .returned (.int .i64 (if mxV < v then 201 else 0)) ∧ Below w.heap.size w w' := by
  have hA2 : Amt mxV := ⟨by decide, by decide⟩
  have CI := hid (show ∀ U, Below w.heap.size w U → Calls Try.prog 35 #[.pointer (some ⟨G, 0, none⟩), .int .u32 m] U fun e w' => e = .returned (.bool true) ∧ Below U.heap.size U w' from fun U hU => by rw [← hf]; exact isOpen_any (h.on hU) m hm)
  have CS := hid (show ∀ U, Calls Try.prog 16 #[mv v] U fun e w' => e = .returned (.int .i64 1) ∧ Hid (Below U.heap.size U w') from fun U => by have h1 := sign_any v U hA; rw [show sgn v = 1 from by unfold sgn; rw [if_neg (by omega), if_pos hv]] at h1; exact h1)
  have CT := hid (show ∀ U, Calls Try.prog 28 #[.int .u32 4294967295, .int .u64 18446744073709551615] U fun e w' => e = .returned (mv mxV) ∧ Hid (Below U.heap.size U w') from fun U => times_big _ _ U (by decide) (by decide) (by decide) (by decide))
  have CC := hid (show ∀ U, Calls Try.prog 15 #[mv v, mv mxV] U fun e w' => e = .returned (.int .i64 (cmp3 v mxV)) ∧ Hid (Below U.heap.size U w') from fun U => mcompare_any v mxV U hA hA2)
  have ec : decide (0 < cmp3 v mxV) = decide (mxV < v) := by
    unfold cmp3
    by_cases a : v < mxV
    · rw [if_pos a, decide_eq_false (by omega), decide_eq_false (by omega)]
    · rw [if_neg a]
      by_cases b : mxV < v
      · rw [if_pos b, decide_eq_true (by omega), decide_eq_true b]
      · rw [if_neg b, decide_eq_false (by omega), decide_eq_false b]
  obtain ⟨y, hy⟩ : ∃ y : Int, mxV = y := ⟨_, rfl⟩
  rw [hy] at CT CC ec ⊢
  obtain ⟨cc, hcc⟩ : ∃ x, cmp3 v y = x := ⟨_, rfl⟩
  rw [hcc] at CC ec
  obtain ⟨Wa, hWa⟩ : ∃ W, w.alloc (.cells #[.int .u64 (hiW v), .int .u64 (loW v)] 40) = W := ⟨_, rfl⟩
  obtain ⟨R, hR⟩ : ∃ R, w.heap.size = R := ⟨_, rfl⟩
  have HBA := hid (show Below w.heap.size w Wa from by rw [← hWa]; exact ball _ _)
  have HRA := hid (show Wa.heap[R]? = some (.cells #[.int .u64 (hiW v), .int .u64 (loW v)] 40 (0, 0)) from by rw [← hWa, ← hR]; exact World.alloc_heap_new _ _)
  have HWa := hid hWa
  have HR := hid hR
  unfold mv at CS CT CC ⊢
  clear hWa hR h hm hf hv hA hA2 hy hcc
  by_cases hq : y < v
  · rw [decide_eq_true hq] at ec
    rw [if_pos hq]
    clear hq
    go_enter Try.func36, Try.ntmps36
    go_upto_region 1 with fail
    rw [HWa.out, HR.out]
    clear HWa
    go_upto_region 3 with (go_at_call 35; with_reducible refine (CI.out Wa HBA.out).mono ?_; rintro e w4 ⟨rfl, hb⟩; have HB4 := hid (btr HBA.out hb); have HR4 := hid (row_on HRA.out hb); clear hb)
    obtain ⟨V5, hV5⟩ : ∃ U, w4.drew = U := ⟨_, rfl⟩
    have BV5 := hid (show Below w4.heap.size w4 V5 from by rw [← hV5]; exact bdrew1 _)
    have r6 := hid (row_on HR4.out BV5.out)
    refine wp_region_held_drew (S := fun U => U.cell? ⟨R, 0, none⟩ = some (.int .u64 (hiW v)) ∧ U.cell? ⟨R, 1, none⟩ = some (.int .u64 (loW v))) (by kernel_rfl) ?_ (fun hHeld => ?_)
    · (try dsimp only); rw [hV5]; exact ⟨row_cell r6.out 0, row_cell r6.out 1⟩
    rw [hV5] at hHeld ⊢
    clear hV5
    refine' wpAnyH_take (i := 0) rfl (by kernel_rfl) (by kernel_rfl) (by kernel_rfl) (fun _ _ _ h => h) (Or.inl ⟨by kernel_rfl, ?_⟩) (by assumption) ?_
    rotate_left
    · (intro w hSw; (try dsimp only at hSw); go_simp; try (with_reducible rfl))
    try simp only [lgA, lgB, lgC, Act.put, lsA, lsB, lsC]
    refine wpAnyH_ready (rs := [1]) (by kernel_rfl) (by simp) ?_
    refine (AllReadyH.cons rfl (fun K hK => ?_) AllReadyH.nil)
    go_simp
    go_at_call 16
    with_reducible refine (CS.out V5).mono ?_
    rintro e X7 ⟨rfl, DbX7⟩
    have r8 := hid (row_on r6.out DbX7.out)
    have DX7 := hid (btr BV5.out DbX7.out)
    (try go_wp2_with fail)
    refine hK.out _ _ ?_ (fun hHeld => ?_)
    · (try dsimp only); exact ⟨row_cell r8.out 0, row_cell r8.out 1⟩
    clear hK K
    try simp only [lgA, lgB, lgC, Act.put, lsA, lsB, lsC]
    refine' wpAnyH_take (i := 2) rfl (by kernel_rfl) (by kernel_rfl) (by kernel_rfl) (fun _ _ _ h => h) (Or.inl ⟨by kernel_rfl, ?_⟩) (by assumption) ?_
    rotate_left
    · (intro w hSw; (try dsimp only at hSw); go_simp; try (with_reducible rfl))
    try simp only [lgA, lgB, lgC, Act.put, lsA, lsB, lsC]
    refine' wpAnyH_take (i := 3) rfl (by kernel_rfl) (by kernel_rfl) (by kernel_rfl) (fun _ _ _ h => h) (Or.inl ⟨by kernel_rfl, ?_⟩) (by assumption) ?_
    rotate_left
    · (intro w hSw; (try dsimp only at hSw); go_simp; try (with_reducible rfl))
    try simp only [lgA, lgB, lgC, Act.put, lsA, lsB, lsC]
    refine' wpAnyH_take (i := 4) rfl (by kernel_rfl) (by kernel_rfl) (by kernel_rfl) (fun _ _ _ h => h) (Or.inl ⟨by kernel_rfl, ?_⟩) (by assumption) ?_
    rotate_left
    · (intro w hSw; (try dsimp only at hSw); go_simp; try (with_reducible rfl))
    try simp only [lgA, lgB, lgC, Act.put, lsA, lsB, lsC]
    refine wpAnyH_ready (rs := [5]) (by kernel_rfl) (by simp) ?_
    refine (AllReadyH.cons rfl (fun K hK => ?_) AllReadyH.nil)
    go_simp
    go_at_call 28
    with_reducible refine (CT.out X7).mono ?_
    rintro e X9 ⟨rfl, DbX9⟩
    have r10 := hid (row_on r8.out DbX9.out)
    have DX9 := hid (btr DX7.out DbX9.out)
    (try go_wp2_with fail)
    refine hK.out _ _ ?_ (fun hHeld => ?_)
    · (try dsimp only); exact ⟨row_cell r10.out 0, row_cell r10.out 1⟩
    clear hK K
    try simp only [lgA, lgB, lgC, Act.put, lsA, lsB, lsC]
    refine wpAnyH_ready (rs := [6]) (by kernel_rfl) (by simp) ?_
    refine (AllReadyH.cons rfl (fun K hK => ?_) AllReadyH.nil)
    go_simp
    go_at_call 15
    with_reducible refine (CC.out X9).mono ?_
    rintro e X11 ⟨rfl, DbX11⟩
    have r12 := hid (row_on r10.out DbX11.out)
    have DX11 := hid (btr DX9.out DbX11.out)
    (try go_wp2_with fail)
    refine hK.out _ _ ?_ (fun hHeld => ?_)
    · (try dsimp only); exact ⟨row_cell r12.out 0, row_cell r12.out 1⟩
    clear hK K
    try simp only [lgA, lgB, lgC, Act.put, lsA, lsB, lsC]
    refine' wpAnyH_take (i := 7) rfl (by kernel_rfl) (by kernel_rfl) (by kernel_rfl) (fun _ _ _ h => h) (Or.inl ⟨by kernel_rfl, ?_⟩) (by assumption) ?_
    rotate_left
    · (intro w hSw; (try dsimp only at hSw); go_simp; try (with_reducible rfl))
    try simp only [lgA, lgB, lgC, Act.put, lsA, lsB, lsC]
    refine' wpAnyH_take (i := 8) rfl (by kernel_rfl) (by kernel_rfl) (by kernel_rfl) (fun _ _ _ h => h) (Or.inl ⟨by kernel_rfl, ?_⟩) (by assumption) ?_
    rotate_left
    · (intro w hSw; (try dsimp only at hSw); go_simp; try (with_reducible rfl))
    try simp only [lgA, lgB, lgC, Act.put, lsA, lsB, lsC]
    refine wpAnyH_done (by kernel_rfl) ?_ _
    go_wp2
    go_ret
    exact ⟨rfl, btr HB4.out DX11.out⟩
  · rw [decide_eq_false hq] at ec
    rw [if_neg hq]
    clear hq
    go_enter Try.func36, Try.ntmps36
    go_upto_region 1 with fail
    rw [HWa.out, HR.out]
    clear HWa
    go_upto_region 3 with (go_at_call 35; with_reducible refine (CI.out Wa HBA.out).mono ?_; rintro e w4 ⟨rfl, hb⟩; have HB4 := hid (btr HBA.out hb); have HR4 := hid (row_on HRA.out hb); clear hb)
    obtain ⟨V5, hV5⟩ : ∃ U, w4.drew = U := ⟨_, rfl⟩
    have BV5 := hid (show Below w4.heap.size w4 V5 from by rw [← hV5]; exact bdrew1 _)
    have r6 := hid (row_on HR4.out BV5.out)
    refine wp_region_held_drew (S := fun U => U.cell? ⟨R, 0, none⟩ = some (.int .u64 (hiW v)) ∧ U.cell? ⟨R, 1, none⟩ = some (.int .u64 (loW v))) (by kernel_rfl) ?_ (fun hHeld => ?_)
    · (try dsimp only); rw [hV5]; exact ⟨row_cell r6.out 0, row_cell r6.out 1⟩
    rw [hV5] at hHeld ⊢
    clear hV5
    refine' wpAnyH_take (i := 0) rfl (by kernel_rfl) (by kernel_rfl) (by kernel_rfl) (fun _ _ _ h => h) (Or.inl ⟨by kernel_rfl, ?_⟩) (by assumption) ?_
    rotate_left
    · (intro w hSw; (try dsimp only at hSw); go_simp; try (with_reducible rfl))
    try simp only [lgA, lgB, lgC, Act.put, lsA, lsB, lsC]
    refine wpAnyH_ready (rs := [1]) (by kernel_rfl) (by simp) ?_
    refine (AllReadyH.cons rfl (fun K hK => ?_) AllReadyH.nil)
    go_simp
    go_at_call 16
    with_reducible refine (CS.out V5).mono ?_
    rintro e X7 ⟨rfl, DbX7⟩
    have r8 := hid (row_on r6.out DbX7.out)
    have DX7 := hid (btr BV5.out DbX7.out)
    (try go_wp2_with fail)
    refine hK.out _ _ ?_ (fun hHeld => ?_)
    · (try dsimp only); exact ⟨row_cell r8.out 0, row_cell r8.out 1⟩
    clear hK K
    try simp only [lgA, lgB, lgC, Act.put, lsA, lsB, lsC]
    refine' wpAnyH_take (i := 2) rfl (by kernel_rfl) (by kernel_rfl) (by kernel_rfl) (fun _ _ _ h => h) (Or.inl ⟨by kernel_rfl, ?_⟩) (by assumption) ?_
    rotate_left
    · (intro w hSw; (try dsimp only at hSw); go_simp; try (with_reducible rfl))
    try simp only [lgA, lgB, lgC, Act.put, lsA, lsB, lsC]
    refine' wpAnyH_take (i := 3) rfl (by kernel_rfl) (by kernel_rfl) (by kernel_rfl) (fun _ _ _ h => h) (Or.inl ⟨by kernel_rfl, ?_⟩) (by assumption) ?_
    rotate_left
    · (intro w hSw; (try dsimp only at hSw); go_simp; try (with_reducible rfl))
    try simp only [lgA, lgB, lgC, Act.put, lsA, lsB, lsC]
    refine' wpAnyH_take (i := 4) rfl (by kernel_rfl) (by kernel_rfl) (by kernel_rfl) (fun _ _ _ h => h) (Or.inl ⟨by kernel_rfl, ?_⟩) (by assumption) ?_
    rotate_left
    · (intro w hSw; (try dsimp only at hSw); go_simp; try (with_reducible rfl))
    try simp only [lgA, lgB, lgC, Act.put, lsA, lsB, lsC]
    refine wpAnyH_ready (rs := [5]) (by kernel_rfl) (by simp) ?_
    refine (AllReadyH.cons rfl (fun K hK => ?_) AllReadyH.nil)
    go_simp
    go_at_call 28
    with_reducible refine (CT.out X7).mono ?_
    rintro e X9 ⟨rfl, DbX9⟩
    have r10 := hid (row_on r8.out DbX9.out)
    have DX9 := hid (btr DX7.out DbX9.out)
    (try go_wp2_with fail)
    refine hK.out _ _ ?_ (fun hHeld => ?_)
    · (try dsimp only); exact ⟨row_cell r10.out 0, row_cell r10.out 1⟩
    clear hK K
    try simp only [lgA, lgB, lgC, Act.put, lsA, lsB, lsC]
    refine wpAnyH_ready (rs := [6]) (by kernel_rfl) (by simp) ?_
    refine (AllReadyH.cons rfl (fun K hK => ?_) AllReadyH.nil)
    go_simp
    go_at_call 15
    with_reducible refine (CC.out X9).mono ?_
    rintro e X11 ⟨rfl, DbX11⟩
    have r12 := hid (row_on r10.out DbX11.out)
    have DX11 := hid (btr DX9.out DbX11.out)
    (try go_wp2_with fail)
    refine hK.out _ _ ?_ (fun hHeld => ?_)
    · (try dsimp only); exact ⟨row_cell r12.out 0, row_cell r12.out 1⟩
    clear hK K
    try simp only [lgA, lgB, lgC, Act.put, lsA, lsB, lsC]
    refine' wpAnyH_take (i := 7) rfl (by kernel_rfl) (by kernel_rfl) (by kernel_rfl) (fun _ _ _ h => h) (Or.inl ⟨by kernel_rfl, ?_⟩) (by assumption) ?_
    rotate_left
    · (intro w hSw; (try dsimp only at hSw); go_simp; try (with_reducible rfl))
    try simp only [lgA, lgB, lgC, Act.put, lsA, lsB, lsC]
    refine' wpAnyH_take (i := 8) rfl (by kernel_rfl) (by kernel_rfl) (by kernel_rfl) (fun _ _ _ h => h) (Or.inl ⟨by kernel_rfl, ?_⟩) (by assumption) ?_
    rotate_left
    · (intro w hSw; (try dsimp only at hSw); go_simp; try (with_reducible rfl))
    try simp only [lgA, lgB, lgC, Act.put, lsA, lsB, lsC]
    refine wpAnyH_done (by kernel_rfl) ?_ _
    go_wp2
    go_ret
    exact ⟨rfl, btr HB4.out DX11.out⟩
theorem payable_any {w : World} {G : Nat} {O : Nat → Prop} {k : Nat} {s : Ls} (h : Lg w G O k s) (m v : Int) (hm : U32 m) (hA : Amt v) :
    Calls Try.prog 36 #[.pointer (some ⟨G, 0, none⟩), .int .u32 m, mv v] w fun e w' => e = .returned (.int .i64 (pyc s m v)) ∧ Below w.heap.size w w' := by
  unfold pyc
  by_cases hf : (s.f (m, 1)).isSome = false
  · rw [if_pos hf]
    exact payable_no h m v hm hA hf
  · rw [if_neg hf]
    have hf : (s.f (m, 1)).isSome = true := by
      cases e : (s.f (m, 1)).isSome with
      | true => rfl
      | false => exact absurd e hf
    by_cases hv : v ≤ 0
    · rw [if_pos (.inl hv)]
      exact payable_low h m v hm hA hf hv
    · have h1 := payable_pos h m v hm hA hf (by omega)
      by_cases hq : mxV < v
      · rw [if_pos hq] at h1
        rw [if_pos (.inr hq)]
        exact h1
      · rw [if_neg hq] at h1
        rw [if_neg (fun e => by rcases e with e | e; exact hv e; exact hq e)]
        exact h1
theorem deposit_ref {w : World} {G : Nat} {O : Nat → Prop} {k : Nat} {s : Ls} (h : Lg w G O k s) (m v : Int) (hm : U32 m) (hA : Amt v) (hp : pyc s m v ≠ 0) :
    Calls Try.prog 21 #[.pointer (some ⟨G, 0, none⟩), .int .u32 m, mv v] w fun e w' => e = .returned (.int .i64 (pyc s m v)) ∧ Below w.heap.size w w' := by
  have CPy := hid (show ∀ U, Below w.heap.size w U → Calls Try.prog 36 #[.pointer (some ⟨G, 0, none⟩), .int .u32 m, mv v] U fun e w' => e = .returned (.int .i64 (pyc s m v)) ∧ Below U.heap.size U w' from fun U hU => payable_any (h.on hU) m v hm hA)
  obtain ⟨r, hr⟩ : ∃ x, pyc s m v = x := ⟨_, rfl⟩
  rw [hr] at CPy hp ⊢
  have er : (r != 0) = true := by simpa using hp
  obtain ⟨Wa, hWa⟩ : ∃ W, w.alloc (.cells #[.int .u64 (hiW v), .int .u64 (loW v)] 40) = W := ⟨_, rfl⟩
  obtain ⟨R, hR⟩ : ∃ R, w.heap.size = R := ⟨_, rfl⟩
  have HBA := hid (show Below w.heap.size w Wa from by rw [← hWa]; exact ball _ _)
  have HRA := hid (show Wa.heap[R]? = some (.cells #[.int .u64 (hiW v), .int .u64 (loW v)] 40 (0, 0)) from by rw [← hWa, ← hR]; exact World.alloc_heap_new _ _)
  have HWa := hid hWa
  have HR := hid hR
  have c0 := row_cell HRA.out 0
  have c1 := row_cell HRA.out 1
  simp only [lqA, lqB, lqC] at c0 c1
  unfold mv at CPy ⊢
  clear hWa hR h hm hA hp hr
  go_enter Try.func21, Try.ntmps21
  go_upto_region 1 with fail
  rw [HWa.out, HR.out]
  clear HWa
  go_wp2_with (go_at_call 36; with_reducible refine (CPy.out Wa HBA.out).mono ?_; rintro e w4 ⟨rfl, hb⟩; have HB4 := hid (btr HBA.out hb); clear hb)
  go_ret
  exact ⟨rfl, HB4.out⟩
theorem withdraw_ref {w : World} {G : Nat} {O : Nat → Prop} {k : Nat} {s : Ls} (h : Lg w G O k s) (m v : Int) (hm : U32 m) (hA : Amt v) (hp : pyc s m v ≠ 0) :
    Calls Try.prog 22 #[.pointer (some ⟨G, 0, none⟩), .int .u32 m, mv v] w fun e w' => e = .returned (.int .i64 (pyc s m v)) ∧ Below w.heap.size w w' := by
  have CPy := hid (show ∀ U, Below w.heap.size w U → Calls Try.prog 36 #[.pointer (some ⟨G, 0, none⟩), .int .u32 m, mv v] U fun e w' => e = .returned (.int .i64 (pyc s m v)) ∧ Below U.heap.size U w' from fun U hU => payable_any (h.on hU) m v hm hA)
  obtain ⟨r, hr⟩ : ∃ x, pyc s m v = x := ⟨_, rfl⟩
  rw [hr] at CPy hp ⊢
  have er : (r != 0) = true := by simpa using hp
  obtain ⟨Wa, hWa⟩ : ∃ W, w.alloc (.cells #[.int .u64 (hiW v), .int .u64 (loW v)] 40) = W := ⟨_, rfl⟩
  obtain ⟨R, hR⟩ : ∃ R, w.heap.size = R := ⟨_, rfl⟩
  have HBA := hid (show Below w.heap.size w Wa from by rw [← hWa]; exact ball _ _)
  have HRA := hid (show Wa.heap[R]? = some (.cells #[.int .u64 (hiW v), .int .u64 (loW v)] 40 (0, 0)) from by rw [← hWa, ← hR]; exact World.alloc_heap_new _ _)
  have HWa := hid hWa
  have HR := hid hR
  have c0 := row_cell HRA.out 0
  have c1 := row_cell HRA.out 1
  simp only [lqA, lqB, lqC] at c0 c1
  unfold mv at CPy ⊢
  clear hWa hR h hm hA hp hr
  go_enter Try.func22, Try.ntmps22
  go_upto_region 1 with fail
  rw [HWa.out, HR.out]
  clear HWa
  go_wp2_with (go_at_call 36; with_reducible refine (CPy.out Wa HBA.out).mono ?_; rintro e w4 ⟨rfl, hb⟩; have HB4 := hid (btr HBA.out hb); clear hb)
  go_ret
  exact ⟨rfl, HB4.out⟩
theorem deposit_do {w : World} {G : Nat} {O : Nat → Prop} {k : Nat} {s : Ls} (h : Lg w G O k s) (m v : Int) (hm : U32 m) (hA : Amt v) (hp : pyc s m v = 0) (hB : ∃ x, s.f x ≠ none) (hk : k ≤ 1000000000000) :
    Calls Try.prog 21 #[.pointer (some ⟨G, 0, none⟩), .int .u32 m, mv v] w fun e w' => e = .returned (.int .i64 0) ∧ ∃ O', Lg w' G O' (k + 3) (ent s (0, 3) (m, 1) v) ∧ Kp O w w' ∧ Ex w O O' := by
  have CPy := hid (show ∀ U, Below w.heap.size w U → Calls Try.prog 36 #[.pointer (some ⟨G, 0, none⟩), .int .u32 m, mv v] U fun e w' => e = .returned (.int .i64 0) ∧ Below U.heap.size U w' from fun U hU => by rw [← hp]; exact payable_any (h.on hU) m v hm hA)
  have CC := hid (show ∀ U, Calls Try.prog 32 #[.int .u32 m] U fun e w' => e = .returned (.agg #[.int .u32 m, .int .i64 1]) ∧ Hid (Below U.heap.size U w') from fun U => cash_any m U)
  have CE := hid (show ∀ U, Below w.heap.size w U → Calls Try.prog 31 #[.pointer (some ⟨G, 0, none⟩), .agg #[.int .u32 0, .int .i64 3], .agg #[.int .u32 m, .int .i64 1], mv v] U fun e w' => e = .returned (.tuple #[]) ∧ Hid (∃ O', Lg w' G O' (k + 3) (ent s (0, 3) (m, 1) v) ∧ Kp O U w' ∧ Ex U O O') from fun U hU => enter_any (h.on hU) hB 0 3 m 1 _ u320 wf3 hm wf1 hA hk)
  have HLT := hid h.lt
  obtain ⟨Wa, hWa⟩ : ∃ W, w.alloc (.cells #[.int .u64 (hiW v), .int .u64 (loW v)] 40) = W := ⟨_, rfl⟩
  obtain ⟨R, hR⟩ : ∃ R, w.heap.size = R := ⟨_, rfl⟩
  have HBA := hid (show Below w.heap.size w Wa from by rw [← hWa]; exact ball _ _)
  have HRA := hid (show Wa.heap[R]? = some (.cells #[.int .u64 (hiW v), .int .u64 (loW v)] 40 (0, 0)) from by rw [← hWa, ← hR]; exact World.alloc_heap_new _ _)
  have HWa := hid hWa
  have HR := hid hR
  have c0 := row_cell HRA.out 0
  have c1 := row_cell HRA.out 1
  simp only [lqA, lqB, lqC] at c0 c1
  unfold mv at CPy CE ⊢
  clear hWa hR h hm hA hB hk hp
  go_enter Try.func21, Try.ntmps21
  go_upto_region 1 with fail
  rw [HWa.out, HR.out]
  clear HWa
  go_upto_region 4 with (go_at_call 36; with_reducible refine (CPy.out Wa HBA.out).mono ?_; rintro e w4 ⟨rfl, hb⟩; have HB4 := hid (btr HBA.out hb); have HR4 := hid (row_on HRA.out hb); clear hb)
  clear c0 c1
  obtain ⟨V13, hV13⟩ : ∃ U, w4.drew = U := ⟨_, rfl⟩
  have BV13 := hid (show Below w4.heap.size w4 V13 from by rw [← hV13]; exact bdrew1 _)
  have r14 := hid (row_on HR4.out BV13.out)
  refine wp_region_held_drew (S := fun U => U.cell? ⟨R, 0, none⟩ = some (.int .u64 (hiW v)) ∧ U.cell? ⟨R, 1, none⟩ = some (.int .u64 (loW v))) (by kernel_rfl) ?_ (fun hHeld => ?_)
  · (try dsimp only); rw [hV13]; exact ⟨row_cell r14.out 0, row_cell r14.out 1⟩
  rw [hV13] at hHeld ⊢
  clear hV13
  refine' wpAnyH_take (i := 0) rfl (by kernel_rfl) (by kernel_rfl) (by kernel_rfl) (fun _ _ _ h => h) (Or.inl ⟨by kernel_rfl, ?_⟩) (by assumption) ?_
  rotate_left
  · (intro w hSw; (try dsimp only at hSw); go_simp; try (with_reducible rfl))
  try simp only [lgA, lgB, lgC, Act.put, lsA, lsB, lsC]
  refine' wpAnyH_take (i := 1) rfl (by kernel_rfl) (by kernel_rfl) (by kernel_rfl) (fun _ _ _ h => h) (Or.inl ⟨by kernel_rfl, ?_⟩) (by assumption) ?_
  rotate_left
  · (intro w hSw; (try dsimp only at hSw); go_simp; try (with_reducible rfl))
  try simp only [lgA, lgB, lgC, Act.put, lsA, lsB, lsC]
  refine' wpAnyH_take (i := 2) rfl (by kernel_rfl) (by kernel_rfl) (by kernel_rfl) (fun _ _ _ h => h) (Or.inl ⟨by kernel_rfl, ?_⟩) (by assumption) ?_
  rotate_left
  · (intro w hSw; (try dsimp only at hSw); go_simp; try (with_reducible rfl))
  try simp only [lgA, lgB, lgC, Act.put, lsA, lsB, lsC]
  refine' wpAnyH_take (i := 4) rfl (by kernel_rfl) (by kernel_rfl) (by kernel_rfl) (fun _ _ _ h => h) (Or.inl ⟨by kernel_rfl, ?_⟩) (by assumption) ?_
  rotate_left
  · (intro w hSw; (try dsimp only at hSw); go_simp; try (with_reducible rfl))
  try simp only [lgA, lgB, lgC, Act.put, lsA, lsB, lsC]
  refine wpAnyH_ready (rs := [3]) (by kernel_rfl) (by simp) ?_
  refine (AllReadyH.cons rfl (fun K hK => ?_) AllReadyH.nil)
  go_simp
  go_at_call 32
  with_reducible refine (CC.out V13).mono ?_
  rintro e X15 ⟨rfl, DbX15⟩
  have r16 := hid (row_on r14.out DbX15.out)
  have DX15 := hid (btr BV13.out DbX15.out)
  (try go_wp2_with fail)
  refine hK.out _ _ ?_ (fun hHeld => ?_)
  · (try dsimp only); exact ⟨row_cell r16.out 0, row_cell r16.out 1⟩
  clear hK K
  try simp only [lgA, lgB, lgC, Act.put, lsA, lsB, lsC]
  refine wpAnyH_ready (rs := [5]) (by kernel_rfl) (by simp) ?_
  refine (AllReadyH.cons rfl (fun K hK => ?_) AllReadyH.nil)
  have hbX := btr HB4.out DX15.out
  go_simp
  go_at_call 31
  with_reducible refine (CE.out X15 hbX).mono ?_
  rintro e Z ⟨rfl, hZ⟩
  have HBX := hid hbX
  clear hbX
  obtain ⟨O', z1, z2, z3⟩ := hZ.out
  have Z1 := hid z1
  have Z2 := hid z2
  have Z3 := hid z3
  clear z1 z2 z3 hZ
  have rT := hid (Z2.out.row r16.out (fun e => by have h1 := HLT.out R e; have h2 := HR.out; omega))
  (try go_wp2_with fail)
  refine hK.out _ _ ?_ (fun hHeld => ?_)
  · (try dsimp only); exact ⟨row_cell rT.out 0, row_cell rT.out 1⟩
  clear hK K
  try simp only [lgA, lgB, lgC, Act.put, lsA, lsB, lsC]
  refine wpAnyH_done (by kernel_rfl) ?_ _
  go_wp2
  go_ret
  exact ⟨rfl, O', Z1.out, (Kp.of O HBX.out).trans Z2.out (fun _ _ h => h), (Ex.refl w O).trans Z3.out HBX.out.size⟩
theorem withdraw_do {w : World} {G : Nat} {O : Nat → Prop} {k : Nat} {s : Ls} (h : Lg w G O k s) (m v : Int) (hm : U32 m) (hA : Amt v) (hp : pyc s m v = 0) (hB : ∃ x, s.f x ≠ none) (hk : k ≤ 1000000000000) :
    Calls Try.prog 22 #[.pointer (some ⟨G, 0, none⟩), .int .u32 m, mv v] w fun e w' => (e = .returned (.int .i64 202) ∧ Below w.heap.size w w') ∨ (e = .returned (.int .i64 0) ∧ ∃ O', Lg w' G O' (k + 3) (ent s (m, 1) (0, 3) v) ∧ Kp O w w' ∧ Ex w O O') := by
  have hx : Amt ((s.f (m, 1)).getD 0) := by obtain ⟨B, P, p, c, hx⟩ := h; exact amt_get hx.amt _
  have CPy := hid (show ∀ U, Below w.heap.size w U → Calls Try.prog 36 #[.pointer (some ⟨G, 0, none⟩), .int .u32 m, mv v] U fun e w' => e = .returned (.int .i64 0) ∧ Below U.heap.size U w' from fun U hU => by rw [← hp]; exact payable_any (h.on hU) m v hm hA)
  have CC := hid (show ∀ U, Calls Try.prog 32 #[.int .u32 m] U fun e w' => e = .returned (.agg #[.int .u32 m, .int .i64 1]) ∧ Hid (Below U.heap.size U w') from fun U => cash_any m U)
  have CB := hid (show ∀ U, Below w.heap.size w U → Calls Try.prog 14 #[.pointer (some ⟨G, 0, none⟩), .agg #[.int .u32 m, .int .i64 1]] U fun e w' => e = .returned (mv ((s.f (m, 1)).getD 0)) ∧ Hid (Below U.heap.size U w') from fun U hU => balance_any (h.on hU) m 1 hm wf1)
  have CM := hid (show ∀ U, Calls Try.prog 15 #[mv ((s.f (m, 1)).getD 0), mv v] U fun e w' => e = .returned (.int .i64 (cmp3 ((s.f (m, 1)).getD 0) v)) ∧ Hid (Below U.heap.size U w') from fun U => mcompare_any _ v U hx hA)
  have CE := hid (show ∀ U, Below w.heap.size w U → Calls Try.prog 31 #[.pointer (some ⟨G, 0, none⟩), .agg #[.int .u32 m, .int .i64 1], .agg #[.int .u32 0, .int .i64 3], mv v] U fun e w' => e = .returned (.tuple #[]) ∧ Hid (∃ O', Lg w' G O' (k + 3) (ent s (m, 1) (0, 3) v) ∧ Kp O U w' ∧ Ex U O O') from fun U hU => enter_any (h.on hU) hB m 1 0 3 _ hm wf1 u320 wf3 hA hk)
  obtain ⟨x, hxe⟩ : ∃ x, (s.f (m, 1)).getD 0 = x := ⟨_, rfl⟩
  rw [hxe] at CB CM
  obtain ⟨cc, hcc⟩ : ∃ y, cmp3 x v = y := ⟨_, rfl⟩
  rw [hcc] at CM
  have HLT := hid h.lt
  obtain ⟨Wa, hWa⟩ : ∃ W, w.alloc (.cells #[.int .u64 (hiW v), .int .u64 (loW v)] 40) = W := ⟨_, rfl⟩
  obtain ⟨R, hR⟩ : ∃ R, w.heap.size = R := ⟨_, rfl⟩
  have HBA := hid (show Below w.heap.size w Wa from by rw [← hWa]; exact ball _ _)
  have HRA := hid (show Wa.heap[R]? = some (.cells #[.int .u64 (hiW v), .int .u64 (loW v)] 40 (0, 0)) from by rw [← hWa, ← hR]; exact World.alloc_heap_new _ _)
  have HWa := hid hWa
  have HR := hid hR
  have c0 := row_cell HRA.out 0
  have c1 := row_cell HRA.out 1
  simp only [lqA, lqB, lqC] at c0 c1
  unfold mv at CPy CB CM CE ⊢
  clear hWa hR h hm hA hB hk hp hx hxe hcc
  go_enter Try.func22, Try.ntmps22
  go_upto_region 1 with fail
  rw [HWa.out, HR.out]
  clear HWa
  go_upto_region 4 with (go_at_call 36; with_reducible refine (CPy.out Wa HBA.out).mono ?_; rintro e w4 ⟨rfl, hb⟩; have HB4 := hid (btr HBA.out hb); have HR4 := hid (row_on HRA.out hb); clear hb)
  clear c0 c1
  by_cases hq : cc < 0
  · have eq : decide (cc < 0) = true := by simpa using hq
    clear hq
    obtain ⟨V17, hV17⟩ : ∃ U, w4.drew = U := ⟨_, rfl⟩
    have BV17 := hid (show Below w4.heap.size w4 V17 from by rw [← hV17]; exact bdrew1 _)
    have r18 := hid (row_on HR4.out BV17.out)
    refine wp_region_held_drew (S := fun U => U.cell? ⟨R, 0, none⟩ = some (.int .u64 (hiW v)) ∧ U.cell? ⟨R, 1, none⟩ = some (.int .u64 (loW v))) (by kernel_rfl) ?_ (fun hHeld => ?_)
    · (try dsimp only); rw [hV17]; exact ⟨row_cell r18.out 0, row_cell r18.out 1⟩
    rw [hV17] at hHeld ⊢
    clear hV17
    refine' wpAnyH_take (i := 0) rfl (by kernel_rfl) (by kernel_rfl) (by kernel_rfl) (fun _ _ _ h => h) (Or.inl ⟨by kernel_rfl, ?_⟩) (by assumption) ?_
    rotate_left
    · (intro w hSw; (try dsimp only at hSw); go_simp; try (with_reducible rfl))
    try simp only [lgA, lgB, lgC, Act.put, lsA, lsB, lsC]
    refine' wpAnyH_take (i := 1) rfl (by kernel_rfl) (by kernel_rfl) (by kernel_rfl) (fun _ _ _ h => h) (Or.inl ⟨by kernel_rfl, ?_⟩) (by assumption) ?_
    rotate_left
    · (intro w hSw; (try dsimp only at hSw); go_simp; try (with_reducible rfl))
    try simp only [lgA, lgB, lgC, Act.put, lsA, lsB, lsC]
    refine' wpAnyH_take (i := 4) rfl (by kernel_rfl) (by kernel_rfl) (by kernel_rfl) (fun _ _ _ h => h) (Or.inl ⟨by kernel_rfl, ?_⟩) (by assumption) ?_
    rotate_left
    · (intro w hSw; (try dsimp only at hSw); go_simp; try (with_reducible rfl))
    try simp only [lgA, lgB, lgC, Act.put, lsA, lsB, lsC]
    refine wpAnyH_ready (rs := [2]) (by kernel_rfl) (by simp) ?_
    refine (AllReadyH.cons rfl (fun K hK => ?_) AllReadyH.nil)
    go_simp
    go_at_call 32
    with_reducible refine (CC.out V17).mono ?_
    rintro e X19 ⟨rfl, DbX19⟩
    have r20 := hid (row_on r18.out DbX19.out)
    have DX19 := hid (btr BV17.out DbX19.out)
    (try go_wp2_with fail)
    refine hK.out _ _ ?_ (fun hHeld => ?_)
    · (try dsimp only); exact ⟨row_cell r20.out 0, row_cell r20.out 1⟩
    clear hK K
    try simp only [lgA, lgB, lgC, Act.put, lsA, lsB, lsC]
    refine wpAnyH_ready (rs := [3]) (by kernel_rfl) (by simp) ?_
    refine (AllReadyH.cons rfl (fun K hK => ?_) AllReadyH.nil)
    go_simp
    go_at_call 14
    with_reducible refine (CB.out X19 (btr HB4.out DX19.out)).mono ?_
    rintro e X21 ⟨rfl, DbX21⟩
    have r22 := hid (row_on r20.out DbX21.out)
    have DX21 := hid (btr DX19.out DbX21.out)
    (try go_wp2_with fail)
    refine hK.out _ _ ?_ (fun hHeld => ?_)
    · (try dsimp only); exact ⟨row_cell r22.out 0, row_cell r22.out 1⟩
    clear hK K
    try simp only [lgA, lgB, lgC, Act.put, lsA, lsB, lsC]
    refine wpAnyH_ready (rs := [5]) (by kernel_rfl) (by simp) ?_
    refine (AllReadyH.cons rfl (fun K hK => ?_) AllReadyH.nil)
    go_simp
    go_at_call 15
    with_reducible refine (CM.out X21).mono ?_
    rintro e X23 ⟨rfl, DbX23⟩
    have r24 := hid (row_on r22.out DbX23.out)
    have DX23 := hid (btr DX21.out DbX23.out)
    (try go_wp2_with fail)
    refine hK.out _ _ ?_ (fun hHeld => ?_)
    · (try dsimp only); exact ⟨row_cell r24.out 0, row_cell r24.out 1⟩
    clear hK K
    try simp only [lgA, lgB, lgC, Act.put, lsA, lsB, lsC]
    refine' wpAnyH_take (i := 6) rfl (by kernel_rfl) (by kernel_rfl) (by kernel_rfl) (fun _ _ _ h => h) (Or.inl ⟨by kernel_rfl, ?_⟩) (by assumption) ?_
    rotate_left
    · (intro w hSw; (try dsimp only at hSw); go_simp; try (with_reducible rfl))
    try simp only [lgA, lgB, lgC, Act.put, lsA, lsB, lsC]
    refine wpAnyH_done (by kernel_rfl) ?_ _
    have HB6 := hid (btr HB4.out DX23.out)
    have HR6 := hid r24.out
    go_wp2
    go_ret
    exact .inl ⟨rfl, HB6.out⟩
  · have eq : decide (cc < 0) = false := by simpa using hq
    clear hq
    obtain ⟨V17, hV17⟩ : ∃ U, w4.drew = U := ⟨_, rfl⟩
    have BV17 := hid (show Below w4.heap.size w4 V17 from by rw [← hV17]; exact bdrew1 _)
    have r18 := hid (row_on HR4.out BV17.out)
    refine wp_region_held_drew (S := fun U => U.cell? ⟨R, 0, none⟩ = some (.int .u64 (hiW v)) ∧ U.cell? ⟨R, 1, none⟩ = some (.int .u64 (loW v))) (by kernel_rfl) ?_ (fun hHeld => ?_)
    · (try dsimp only); rw [hV17]; exact ⟨row_cell r18.out 0, row_cell r18.out 1⟩
    rw [hV17] at hHeld ⊢
    clear hV17
    refine' wpAnyH_take (i := 0) rfl (by kernel_rfl) (by kernel_rfl) (by kernel_rfl) (fun _ _ _ h => h) (Or.inl ⟨by kernel_rfl, ?_⟩) (by assumption) ?_
    rotate_left
    · (intro w hSw; (try dsimp only at hSw); go_simp; try (with_reducible rfl))
    try simp only [lgA, lgB, lgC, Act.put, lsA, lsB, lsC]
    refine' wpAnyH_take (i := 1) rfl (by kernel_rfl) (by kernel_rfl) (by kernel_rfl) (fun _ _ _ h => h) (Or.inl ⟨by kernel_rfl, ?_⟩) (by assumption) ?_
    rotate_left
    · (intro w hSw; (try dsimp only at hSw); go_simp; try (with_reducible rfl))
    try simp only [lgA, lgB, lgC, Act.put, lsA, lsB, lsC]
    refine' wpAnyH_take (i := 4) rfl (by kernel_rfl) (by kernel_rfl) (by kernel_rfl) (fun _ _ _ h => h) (Or.inl ⟨by kernel_rfl, ?_⟩) (by assumption) ?_
    rotate_left
    · (intro w hSw; (try dsimp only at hSw); go_simp; try (with_reducible rfl))
    try simp only [lgA, lgB, lgC, Act.put, lsA, lsB, lsC]
    refine wpAnyH_ready (rs := [2]) (by kernel_rfl) (by simp) ?_
    refine (AllReadyH.cons rfl (fun K hK => ?_) AllReadyH.nil)
    go_simp
    go_at_call 32
    with_reducible refine (CC.out V17).mono ?_
    rintro e X19 ⟨rfl, DbX19⟩
    have r20 := hid (row_on r18.out DbX19.out)
    have DX19 := hid (btr BV17.out DbX19.out)
    (try go_wp2_with fail)
    refine hK.out _ _ ?_ (fun hHeld => ?_)
    · (try dsimp only); exact ⟨row_cell r20.out 0, row_cell r20.out 1⟩
    clear hK K
    try simp only [lgA, lgB, lgC, Act.put, lsA, lsB, lsC]
    refine wpAnyH_ready (rs := [3]) (by kernel_rfl) (by simp) ?_
    refine (AllReadyH.cons rfl (fun K hK => ?_) AllReadyH.nil)
    go_simp
    go_at_call 14
    with_reducible refine (CB.out X19 (btr HB4.out DX19.out)).mono ?_
    rintro e X21 ⟨rfl, DbX21⟩
    have r22 := hid (row_on r20.out DbX21.out)
    have DX21 := hid (btr DX19.out DbX21.out)
    (try go_wp2_with fail)
    refine hK.out _ _ ?_ (fun hHeld => ?_)
    · (try dsimp only); exact ⟨row_cell r22.out 0, row_cell r22.out 1⟩
    clear hK K
    try simp only [lgA, lgB, lgC, Act.put, lsA, lsB, lsC]
    refine wpAnyH_ready (rs := [5]) (by kernel_rfl) (by simp) ?_
    refine (AllReadyH.cons rfl (fun K hK => ?_) AllReadyH.nil)
    go_simp
    go_at_call 15
    with_reducible refine (CM.out X21).mono ?_
    rintro e X23 ⟨rfl, DbX23⟩
    have r24 := hid (row_on r22.out DbX23.out)
    have DX23 := hid (btr DX21.out DbX23.out)
    (try go_wp2_with fail)
    refine hK.out _ _ ?_ (fun hHeld => ?_)
    · (try dsimp only); exact ⟨row_cell r24.out 0, row_cell r24.out 1⟩
    clear hK K
    try simp only [lgA, lgB, lgC, Act.put, lsA, lsB, lsC]
    refine' wpAnyH_take (i := 6) rfl (by kernel_rfl) (by kernel_rfl) (by kernel_rfl) (fun _ _ _ h => h) (Or.inl ⟨by kernel_rfl, ?_⟩) (by assumption) ?_
    rotate_left
    · (intro w hSw; (try dsimp only at hSw); go_simp; try (with_reducible rfl))
    try simp only [lgA, lgB, lgC, Act.put, lsA, lsB, lsC]
    refine wpAnyH_done (by kernel_rfl) ?_ _
    have HB6 := hid (btr HB4.out DX23.out)
    have HR6 := hid r24.out
    go_upto_region 6 with fail
    obtain ⟨V25, hV25⟩ : ∃ U, X23.drew = U := ⟨_, rfl⟩
    have BV25 := hid (show Below X23.heap.size X23 V25 from by rw [← hV25]; exact bdrew1 _)
    have r26 := hid (row_on HR6.out BV25.out)
    refine wp_region_held_drew (S := fun U => U.cell? ⟨R, 0, none⟩ = some (.int .u64 (hiW v)) ∧ U.cell? ⟨R, 1, none⟩ = some (.int .u64 (loW v))) (by kernel_rfl) ?_ (fun hHeld => ?_)
    · (try dsimp only); rw [hV25]; exact ⟨row_cell r26.out 0, row_cell r26.out 1⟩
    rw [hV25] at hHeld ⊢
    clear hV25
    refine' wpAnyH_take (i := 0) rfl (by kernel_rfl) (by kernel_rfl) (by kernel_rfl) (fun _ _ _ h => h) (Or.inl ⟨by kernel_rfl, ?_⟩) (by assumption) ?_
    rotate_left
    · (intro w hSw; (try dsimp only at hSw); go_simp; try (with_reducible rfl))
    try simp only [lgA, lgB, lgC, Act.put, lsA, lsB, lsC]
    refine' wpAnyH_take (i := 1) rfl (by kernel_rfl) (by kernel_rfl) (by kernel_rfl) (fun _ _ _ h => h) (Or.inl ⟨by kernel_rfl, ?_⟩) (by assumption) ?_
    rotate_left
    · (intro w hSw; (try dsimp only at hSw); go_simp; try (with_reducible rfl))
    try simp only [lgA, lgB, lgC, Act.put, lsA, lsB, lsC]
    refine' wpAnyH_take (i := 3) rfl (by kernel_rfl) (by kernel_rfl) (by kernel_rfl) (fun _ _ _ h => h) (Or.inl ⟨by kernel_rfl, ?_⟩) (by assumption) ?_
    rotate_left
    · (intro w hSw; (try dsimp only at hSw); go_simp; try (with_reducible rfl))
    try simp only [lgA, lgB, lgC, Act.put, lsA, lsB, lsC]
    refine' wpAnyH_take (i := 4) rfl (by kernel_rfl) (by kernel_rfl) (by kernel_rfl) (fun _ _ _ h => h) (Or.inl ⟨by kernel_rfl, ?_⟩) (by assumption) ?_
    rotate_left
    · (intro w hSw; (try dsimp only at hSw); go_simp; try (with_reducible rfl))
    try simp only [lgA, lgB, lgC, Act.put, lsA, lsB, lsC]
    refine wpAnyH_ready (rs := [2]) (by kernel_rfl) (by simp) ?_
    refine (AllReadyH.cons rfl (fun K hK => ?_) AllReadyH.nil)
    go_simp
    go_at_call 32
    with_reducible refine (CC.out V25).mono ?_
    rintro e X27 ⟨rfl, DbX27⟩
    have r28 := hid (row_on r26.out DbX27.out)
    have DX27 := hid (btr BV25.out DbX27.out)
    (try go_wp2_with fail)
    refine hK.out _ _ ?_ (fun hHeld => ?_)
    · (try dsimp only); exact ⟨row_cell r28.out 0, row_cell r28.out 1⟩
    clear hK K
    try simp only [lgA, lgB, lgC, Act.put, lsA, lsB, lsC]
    refine wpAnyH_ready (rs := [5]) (by kernel_rfl) (by simp) ?_
    refine (AllReadyH.cons rfl (fun K hK => ?_) AllReadyH.nil)
    have hbX := btr HB6.out DX27.out
    go_simp
    go_at_call 31
    with_reducible refine (CE.out X27 hbX).mono ?_
    rintro e Z ⟨rfl, hZ⟩
    have HBX := hid hbX
    clear hbX
    obtain ⟨O', z1, z2, z3⟩ := hZ.out
    have Z1 := hid z1
    have Z2 := hid z2
    have Z3 := hid z3
    clear z1 z2 z3 hZ
    have rT := hid (Z2.out.row r28.out (fun e => by have h1 := HLT.out R e; have h2 := HR.out; omega))
    (try go_wp2_with fail)
    refine hK.out _ _ ?_ (fun hHeld => ?_)
    · (try dsimp only); exact ⟨row_cell rT.out 0, row_cell rT.out 1⟩
    clear hK K
    try simp only [lgA, lgB, lgC, Act.put, lsA, lsB, lsC]
    refine wpAnyH_done (by kernel_rfl) ?_ _
    go_wp2
    go_ret
    exact .inr ⟨rfl, O', Z1.out, (Kp.of O HBX.out).trans Z2.out (fun _ _ h => h), (Ex.refl w O).trans Z3.out HBX.out.size⟩
end Go.Proofs.Ytphhllppgelceaa.Ac
