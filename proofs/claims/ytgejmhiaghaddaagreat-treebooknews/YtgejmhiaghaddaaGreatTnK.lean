/-
  told: the book is asked, and what was told is spoilt.
-/
import Derived.Test.YtgejmhiaghaddaaGreatTnJ
namespace Go.Proofs.YtgejmhiaghaddaaGreat
open Go.RowKit Go.Deep
set_option linter.unusedVariables false
set_option linter.unusedSimpArgs false
set_option maxHeartbeats 4000000
set_option maxRecDepth 100000
attribute [local go_sem ↓] Go.wp_at_zero Go.wp_at_succ
theorem info_parts {P : Program} {t : TypeId} {z : Value} {s b : Nat} (h : (P.info? t).map (fun i => (i.zero, i.size, i.bytes)) = some (some z, s, b)) : ∃ i, P.info? t = some i ∧ i.zero = some z ∧ i.size = s ∧ i.bytes = b := by
  cases hi : P.info? t with
  | none => rw [hi] at h; cases h
  | some i =>
    rw [hi] at h
    simp only [Option.map_some, Option.some.injEq, Prod.mk.injEq] at h
    exact ⟨i, rfl, h.1, h.2.1, h.2.2⟩
theorem info50all : (Tryz.prog.info? 50).map (fun i => (i.zero, i.size, i.bytes)) = some (some (.agg #[.int .u64 0, .int .u32 0, .int .i64 0, .int .i64 0, .int .u64 0, .int .u64 0, .int .u64 0]), 7, 56) := by kernel_rfl
theorem told_none (cap meet : Int) (X B : Nat) (w : World) (hX : w.heap[X]? = some (.cells #[.pointer (some ⟨B, 0, none⟩), .int .i64 cap, .int .i64 meet, .slice none 0 0, .slice none 0 0, .int .u64 0, .int .u64 0] 33 (0, 0))) (hK : Bk w B cap meet) : Calls Tryz.prog 5 #[.pointer (some ⟨X, 0, none⟩)] w fun e w' => e = .returned (.bool true) ∧ Below w.heap.size w w' := by
  obtain ⟨i0, hi, hz0, hz1, hz2⟩ := info_parts info50all
  have HI := hid hi
  have HZ0 := hid hz0
  have HZ1 := hid hz1
  have HZ2 := hid hz2
  clear hi hz0 hz1 hz2
  have SRC := hid (fun (U : World) (i : Int) => (show ∀ (j : Nat) (u : Value), (#[.int .u64 i, .int .u32 0, .int .i64 0, .int .i64 0, .int .u64 0, .int .u64 0, .int .u64 0] : Array Value).toList[j]? = some u → (U.alloc (.cells #[.int .u64 i, .int .u32 0, .int .i64 0, .int .i64 0, .int .u64 0, .int .u64 0, .int .u64 0] 50)).cell? ((⟨U.heap.size, 0, none⟩ : Addr).add j) = some u from fun j u hj => by
    rw [Addr.add_lit, Nat.zero_add, row_cell (World.alloc_heap_new _ _)]
    simpa using hj))
  have ONE := hid (fun (i : Int) => (show ∀ u ∈ (#[.int .u64 i, .int .u32 0, .int .i64 0, .int .i64 0, .int .u64 0, .int .u64 0, .int .u64 0] : Array Value).toList, u.oneCell' = true from by
    intro u hu
    simp only [List.mem_cons, List.not_mem_nil, or_false] at hu
    rcases hu with rfl | rfl | rfl | rfl | rfl | rfl | rfl <;> rfl))
  have CB := hid (book_none cap meet B w hK)
  have HX0 := hid hX
  obtain ⟨p_0, p_1, p_2, p_3, p_4, p_5, p_6⟩ := row7 hX
  clear hX hK
  go_enter Tryz.func5, Tryz.ntmps5
  go_upto_region 2 with (go_at_call 9; with_reducible refine (CB.out).mono ?_; rintro e w1 ⟨rfl, hb1⟩; have HB1 := hid hb1; clear hb1)
  clear p_0 p_1 p_2 p_3 p_4 p_5 p_6
  obtain ⟨T, hT⟩ : ∃ T, w1.heap.size = T := ⟨_, rfl⟩
  obtain ⟨W, hW⟩ : ∃ W, w1.alloc (.cells #[.int .i64 cap, .int .i64 meet, .slice none 0 0, .slice none 0 0, .int .u64 0, .int .u64 0] 31) = W := ⟨_, rfl⟩
  have HBW := hid (show Below w.heap.size w W from by rw [← hW]; exact btr HB1.out (ball _ _))
  have HT := hid (show W.heap[T]? = some (.cells #[.int .i64 cap, .int .i64 meet, .slice none 0 0, .slice none 0 0, .int .u64 0, .int .u64 0] 31 (0, 0)) from by rw [← hW, ← hT]; exact World.alloc_heap_new _ _)
  rw [hW, hT]
  clear hW hT
  have HXW := hid (row_on HX0.out HBW.out)
  obtain ⟨Y0, hY0⟩ : ∃ X, W.drew = X := ⟨_, rfl⟩
  have HE0 := hid (show Below W.heap.size W Y0 from by rw [← hY0]; exact bdrew1 _)
  have HS0 := hid (fun (U : World) (hU : Below Y0.heap.size Y0 U) => (And.intro (row6 (row_on (row_on HT.out HE0.out) hU)) (row7 (row_on (row_on HXW.out HE0.out) hU))))
  refine wp_region_held_drew (S := (fun U => (U.cell? ⟨T, 0, none⟩ = some (.int .i64 cap) ∧ U.cell? ⟨T, 1, none⟩ = some (.int .i64 meet) ∧ U.cell? ⟨T, 2, none⟩ = some (.slice none 0 0) ∧ U.cell? ⟨T, 3, none⟩ = some (.slice none 0 0) ∧ U.cell? ⟨T, 4, none⟩ = some (.int .u64 0) ∧ U.cell? ⟨T, 5, none⟩ = some (.int .u64 0)) ∧ (U.cell? ⟨X, 0, none⟩ = some (.pointer (some ⟨B, 0, none⟩)) ∧ U.cell? ⟨X, 1, none⟩ = some (.int .i64 cap) ∧ U.cell? ⟨X, 2, none⟩ = some (.int .i64 meet) ∧ U.cell? ⟨X, 3, none⟩ = some (.slice none 0 0) ∧ U.cell? ⟨X, 4, none⟩ = some (.slice none 0 0) ∧ U.cell? ⟨X, 5, none⟩ = some (.int .u64 0) ∧ U.cell? ⟨X, 6, none⟩ = some (.int .u64 0)))) (by kernel_rfl) ?_ (fun hHeld => ?_)
  · (try dsimp only); ((rw [hY0]; exact HS0.out _ (Below.refl _ _)))
  rw [hY0] at hHeld ⊢
  clear hY0
  refine' wpAnyH_take (i := 0) (oi := _) (v := _) rfl (by kernel_rfl) (by kernel_rfl) (by kernel_rfl) (fun _ _ _ h => h) (Or.inl ⟨by kernel_rfl, ?_⟩) (by assumption) ?_
  rotate_left
  · (intro w hSw; (try dsimp only at hSw); go_simp; try (with_reducible rfl))
  try simp only [List.getElem_toArray, List.getElem_cons_succ, List.getElem_cons_zero, Act.put, List.setIfInBounds_toArray, List.set_cons_zero, List.set_cons_succ]
  refine' wpAnyH_take (i := 1) (oi := _) (v := _) rfl (by kernel_rfl) (by kernel_rfl) (by kernel_rfl) (fun _ _ _ h => h) (Or.inl ⟨by kernel_rfl, ?_⟩) (by assumption) ?_
  rotate_left
  · (intro w hSw; (try dsimp only at hSw); go_simp; try (with_reducible rfl))
  try simp only [List.getElem_toArray, List.getElem_cons_succ, List.getElem_cons_zero, Act.put, List.setIfInBounds_toArray, List.set_cons_zero, List.set_cons_succ]
  refine' wpAnyH_take (i := 2) (oi := _) (v := _) rfl (by kernel_rfl) (by kernel_rfl) (by kernel_rfl) (fun _ _ _ h => h) (Or.inl ⟨by kernel_rfl, ?_⟩) (by assumption) ?_
  rotate_left
  · (intro w hSw; (try dsimp only at hSw); go_simp; try (with_reducible rfl))
  try simp only [List.getElem_toArray, List.getElem_cons_succ, List.getElem_cons_zero, Act.put, List.setIfInBounds_toArray, List.set_cons_zero, List.set_cons_succ]
  refine' wpAnyH_take (i := 3) (oi := _) (v := _) rfl (by kernel_rfl) (by kernel_rfl) (by kernel_rfl) (fun _ _ _ h => h) (Or.inl ⟨by kernel_rfl, ?_⟩) (by assumption) ?_
  rotate_left
  · (intro w hSw; (try dsimp only at hSw); go_simp; try (with_reducible rfl))
  try simp only [List.getElem_toArray, List.getElem_cons_succ, List.getElem_cons_zero, Act.put, List.setIfInBounds_toArray, List.set_cons_zero, List.set_cons_succ]
  refine' wpAnyH_take (i := 4) (oi := _) (v := _) rfl (by kernel_rfl) (by kernel_rfl) (by kernel_rfl) (fun _ _ _ h => h) (Or.inl ⟨by kernel_rfl, ?_⟩) (by assumption) ?_
  rotate_left
  · (intro w hSw; (try dsimp only at hSw); go_simp; try (with_reducible rfl))
  try simp only [List.getElem_toArray, List.getElem_cons_succ, List.getElem_cons_zero, Act.put, List.setIfInBounds_toArray, List.set_cons_zero, List.set_cons_succ]
  refine wpAnyH_ready (rs := [5]) (by kernel_rfl) (by simp) ?_
  refine AllReadyH.cons (o := _) rfl (fun K hK => ?_) AllReadyH.nil
  go_simp
  go_at_call 10; with_reducible refine (sameBook_none cap meet Y0).mono ?_; rintro e X1 ⟨rfl, hb1⟩
  (try go_wp2_with fail)
  have HX := hid hb1
  clear hb1
  refine hK.out _ _ ?_ (fun hHeld => ?_)
  · (try dsimp only); exact HS0.out _ HX.out
  clear hK K
  try simp only [List.getElem_toArray, List.getElem_cons_succ, List.getElem_cons_zero, Act.put, List.setIfInBounds_toArray, List.set_cons_zero, List.set_cons_succ]
  refine' wpAnyH_take (i := 6) (oi := _) (v := _) rfl (by kernel_rfl) (by kernel_rfl) (by kernel_rfl) (fun _ _ _ h => h) (Or.inl ⟨by kernel_rfl, ?_⟩) (by assumption) ?_
  rotate_left
  · (intro w hSw; (try dsimp only at hSw); go_simp; try (with_reducible rfl))
  try simp only [List.getElem_toArray, List.getElem_cons_succ, List.getElem_cons_zero, Act.put, List.setIfInBounds_toArray, List.set_cons_zero, List.set_cons_succ]
  refine wpAnyH_done (by kernel_rfl) ?_ _
  clear hHeld
  have HB5 := hid (btr HE0.out HX.out)
  go_wp2
  go_loopw [5] (fun iv wr => iv = .int .i64 0 ∧ Hid (Below Y0.heap.size Y0 wr)) (fun iv _ => 1 - (intOf iv).toNat)
  case atStart => exact ⟨rfl, HX⟩
  case round =>
    obtain ⟨rfl, HB6⟩ := hrel
    obtain ⟨⟨_, _, t2, t3, _, _⟩, _⟩ := HS0.out _ HB6.out
    go_wp2
    clear t2 t3
    go_loopw [6] (fun iv wr => iv = .int .i64 0 ∧ Hid (Below Y0.heap.size Y0 wr)) (fun iv _ => 1 - (intOf iv).toNat)
    case atStart => exact ⟨rfl, HB6⟩
    case round =>
      obtain ⟨rfl, HBA⟩ := hrel
      obtain ⟨⟨_, _, t2, t3, _, _⟩, _⟩ := HS0.out _ HBA.out
      go_upto_region 12 with (at_builtin; refine wpList_append_own _ (by rfl) (.tmp 43) (.tmp 45) 28 (by rfl) 0 50 i0 _ 7 56 Tryz.underlying28 HI.out HZ0.out HZ1.out HZ2.out rfl (by decide) _ 0 [] (by rfl) ⟨rfl, .inl ⟨rfl, rfl⟩⟩ ⟨_, 0, none⟩ 1 1 (#[.int .u64 4717, .int .u32 0, .int .i64 0, .int .i64 0, .int .u64 0, .int .u64 0, .int .u64 0] : Array Value).toList (by rfl) (by simp) (SRC.out _ _) (ONE.out _) (by unfold maxLen; omega) (by omega) (Nat.zero_le _) ?_; intro v8 w8 hown hgrow _; have HBA := hid (btr HBA.out (btr (ball _ _) (show Below (World.heap _).size _ w8 from (Below.refl _ _).grown hgrow (Nat.le_refl _) (fun j hj => by cases hj)))); clear hown hgrow)
      clear t2 t3
      obtain ⟨⟨_, _, t2, t3, _, _⟩, _⟩ := HS0.out _ HBA.out
      go_wp2_with (at_builtin; refine wpList_append_own _ (by rfl) (.tmp 48) (.tmp 50) 28 (by rfl) 0 50 i0 _ 7 56 Tryz.underlying28 HI.out HZ0.out HZ1.out HZ2.out rfl (by decide) _ 0 [] (by rfl) ⟨rfl, .inl ⟨rfl, rfl⟩⟩ ⟨_, 0, none⟩ 1 1 (#[.int .u64 4718, .int .u32 0, .int .i64 0, .int .i64 0, .int .u64 0, .int .u64 0, .int .u64 0] : Array Value).toList (by rfl) (by simp) (SRC.out _ _) (ONE.out _) (by unfold maxLen; omega) (by omega) (Nat.zero_le _) ?_; intro v9 w9 hown hgrow _; have HBA := hid (btr HBA.out (btr (ball _ _) (show Below (World.heap _).size _ w9 from (Below.refl _ _).grown hgrow (Nat.le_refl _) (fun j hj => by cases hj)))); clear hown hgrow)
      go_ret
      exact ⟨rfl, btr HBW.out (btr HE0.out HBA.out)⟩
end Go.Proofs.YtgejmhiaghaddaaGreat
