/-
  The library's sort at this program, in plain words (printed by the kit's lay-plain over this program).
-/
import Derived.Shelf.SlSortCmp.WholeK
import Derived.Ground.SlsfProg
import Derived.Test.YtegdhffejmbakaaProg
import Derived.Test.YtegdhffejmbakaaNb
import Derived.Deep.RegionWith
namespace Go.Proofs
open Go.Shelf
def Try.sortPl_ren : Go.Shelf.Ren := ⟨fun | 6 => 40 | 15 => 61 | 14 => 60 | 28 => 77 | 29 => 78 | 20 => 69 | 21 => 70 | 22 => 71 | 23 => 72 | 24 => 73 | 25 => 74 | 26 => 75 | 27 => 76 | 46 => 89 | 47 => 90 | 48 => 91 | 49 => 92 | 50 => 93 | 57 => 97 | n => n, fun | 22 => 70 | 24 => 73 | 25 => 77 | 3 => 3 | 39 => 92 | 0 => 0 | 53 => 23 | 55 => 24 | 4 => 4 | 46 => 133 | 45 => 132 | 50 => 137 | 5 => 5 | 9 => 9 | 66 => 147 | 70 => 151 | 76 => 155 | 77 => 156 | n => n, fun | n => n⟩
theorem Try.sortPl : Go.Proofs.SlLaysF0.n6 Try.prog Try.sortPl_ren := {
  mixed := by kernel_rfl
  f6 := ⟨Try.f40.name, by decide, Try.func40.trans (congrArg some (by kernel_rfl))⟩
  f14 := ⟨Try.f60.name, by decide, Try.func60.trans (congrArg some (by kernel_rfl))⟩
  f15 := Try.func61.trans (congrArg some (by kernel_rfl))
  f20 := ⟨Try.f69.name, by decide, Try.func69.trans (congrArg some (by kernel_rfl))⟩
  f21 := ⟨Try.f70.name, by decide, Try.func70.trans (congrArg some (by kernel_rfl))⟩
  f22 := ⟨Try.f71.name, by decide, Try.func71.trans (congrArg some (by kernel_rfl))⟩
  f23 := ⟨Try.f72.name, by decide, Try.func72.trans (congrArg some (by kernel_rfl))⟩
  f24 := ⟨Try.f73.name, by decide, Try.func73.trans (congrArg some (by kernel_rfl))⟩
  f25 := ⟨Try.f74.name, by decide, Try.func74.trans (congrArg some (by kernel_rfl))⟩
  f26 := ⟨Try.f75.name, by decide, Try.func75.trans (congrArg some (by kernel_rfl))⟩
  f27 := ⟨Try.f76.name, by decide, Try.func76.trans (congrArg some (by kernel_rfl))⟩
  f28 := Try.func77.trans (congrArg some (by kernel_rfl))
  f29 := Try.func78.trans (congrArg some (by kernel_rfl))
  f46 := ⟨Try.f89.name, by decide, Try.func89.trans (congrArg some (by kernel_rfl))⟩
  f47 := Try.func90.trans (congrArg some (by kernel_rfl))
  f48 := Try.func91.trans (congrArg some (by kernel_rfl))
  f49 := ⟨Try.f92.name, by decide, Try.func92.trans (congrArg some (by kernel_rfl))⟩
  f50 := ⟨Try.f93.name, by decide, Try.func93.trans (congrArg some (by kernel_rfl))⟩
  f57 := ⟨Try.f97.name, by decide, Try.func97.trans (congrArg some (by kernel_rfl))⟩
  t0 := Try.underlying0
  a0 := Try.isAgg0
  z0 := Try.sizeOf0
  v0 := Try.zeroValue0
  t3 := Try.underlying3
  a3 := Try.isAgg3
  z3 := Try.sizeOf3
  v3 := Try.zeroValue3
  t4 := Try.underlying4
  a4 := Try.isAgg4
  z4 := Try.sizeOf4
  v4 := Try.zeroValue4
  t5 := Try.underlying5
  a5 := Try.isAgg5
  z5 := Try.sizeOf5
  v5 := Try.zeroValue5
  t9 := Try.underlying9
  a9 := Try.isAgg9
  z9 := Try.sizeOf9
  v9 := Try.zeroValue9
  t22 := Try.underlying70
  a22 := Try.isAgg70
  z22 := Try.sizeOf70
  v22 := Try.zeroValue70
  t25 := Try.underlying77
  a25 := Try.isAgg77
  z25 := Try.sizeOf77
  v25 := Try.zeroValue77
  t39 := Try.underlying92
  a39 := Try.isAgg92
  z39 := Try.sizeOf92
  v39 := Try.zeroValue92
  t45 := Try.underlying132
  a45 := Try.isAgg132
  z45 := Try.sizeOf132
  v45 := Try.zeroValue132
  t46 := Try.underlying133
  a46 := Try.isAgg133
  z46 := Try.sizeOf133
  v46 := Try.zeroValue133
  t50 := Try.underlying137
  a50 := Try.isAgg137
  z50 := Try.sizeOf137
  v50 := Try.zeroValue137
  t53 := Try.underlying23
  a53 := Try.isAgg23
  z53 := Try.sizeOf23
  v53 := Try.zeroValue23
  t55 := Try.underlying24
  a55 := Try.isAgg24
  z55 := Try.sizeOf24
  v55 := Try.zeroValue24
  t66 := Try.underlying147
  a66 := Try.isAgg147
  z66 := Try.sizeOf147
  v66 := Try.zeroValue147
  t70 := Try.underlying151
  a70 := Try.isAgg151
  z70 := Try.sizeOf151
  v70 := Try.zeroValue151
  t76 := Try.underlying155
  a76 := Try.isAgg155
  z76 := Try.sizeOf155
  v76 := Try.zeroValue155
  t77 := Try.underlying156
  a77 := Try.isAgg156
  z77 := Try.sizeOf156
  v77 := Try.zeroValue156 }
end Go.Proofs
namespace Go.Proofs.Ytegdhffejmbakaa.Ac
open Go.RowKit Go.Deep Go.Maps Go.Sort Go.Shelf Go.Lib MonM Go.Proofs.Ytegdhffejmbakaa
set_option linter.unusedVariables false
set_option linter.unusedSimpArgs false
set_option maxHeartbeats 2000000
set_option maxRecDepth 100000
attribute [local go_sem ↓] Go.wp_at_zero Go.wp_at_succ
theorem isNaNU_any (x : Int) (w : World) : Calls Try.prog 62 #[.int .u32 x] w fun e w' => e = .returned (.bool false) ∧ w' = w := by
  have xx : (x == x) = true := by simp
  go_enter Try.func62, Try.ntmps62
  go_wp2
  go_ret
  exact ⟨rfl, rfl⟩
theorem cmpU_any (x y : Int) (w : World) : Calls Try.prog 43 #[.int .u32 x, .int .u32 y] w fun e w' => e = .returned (.int .i64 (Lib.compareInt x y)) ∧ w' = w := by
  have hx := isNaNU_any x w
  have hy := isNaNU_any y w
  unfold Lib.compareInt
  by_cases h1 : x < y
  · simp only [h1, if_true]
    go_enter Try.func43, Try.ntmps43
    go_wp2_with (first | (go_at_call 62; with_reducible refine hx.mono ?_; rintro e w9 ⟨rfl, h9⟩; subst w9) | (go_at_call 62; with_reducible refine hy.mono ?_; rintro e w9 ⟨rfl, h9⟩; subst w9))
    go_ret
    exact ⟨rfl, rfl⟩
  · by_cases h2 : y < x
    · simp only [h1, h2, if_true, if_false]
      go_enter Try.func43, Try.ntmps43
      go_wp2_with (first | (go_at_call 62; with_reducible refine hx.mono ?_; rintro e w9 ⟨rfl, h9⟩; subst w9) | (go_at_call 62; with_reducible refine hy.mono ?_; rintro e w9 ⟨rfl, h9⟩; subst w9))
      go_ret
      exact ⟨rfl, rfl⟩
    · simp only [h1, h2, if_false]
      go_enter Try.func43, Try.ntmps43
      go_wp2_with (first | (go_at_call 62; with_reducible refine hx.mono ?_; rintro e w9 ⟨rfl, h9⟩; subst w9) | (go_at_call 62; with_reducible refine hy.mono ?_; rintro e w9 ⟨rfl, h9⟩; subst w9))
      go_ret
      exact ⟨rfl, rfl⟩
theorem or_any (b : Nat) (x y : Int) (w : World) (c0 : w.cell? ⟨b, 0, none⟩ = some (.int .i64 x)) (c1 : w.cell? ⟨b, 1, none⟩ = some (.int .i64 y)) :
    Calls Try.prog 42 #[.slice (some ⟨b, 0, none⟩) 2 2] w fun e w' => e = .returned (.int .i64 (if x = 0 then y else x)) ∧ w' = w := by
  obtain ⟨r, hr⟩ : ∃ r, (if x = 0 then y else x) = r := ⟨_, rfl⟩
  have HR := hid hr
  rw [hr]
  clear hr
  go_enter Try.func42, Try.ntmps42
  go_upto_region 3 with fail
  go_loop [8] (fun iv => iv = .int .i64 0 ∨ (iv = .int .i64 1 ∧ Hid (x = 0)) ∨ (iv = .int .i64 2 ∧ Hid (x = 0) ∧ Hid (y = 0))) (fun iv => 2 - (intOf iv).toNat)
  case atStart => exact .inl rfl
  case round =>
    rcases hrel with rfl | ⟨rfl, hx⟩ | ⟨rfl, hx, hy⟩
    · by_cases h : x = 0
      · have HX := hid h
        have hn : (x != 0) = false := by simpa using h
        clear h
        go_wp2
        go_round
        case rel => exact .inr (.inl ⟨rfl, HX⟩)
        case measure => simp [intOf]
      · have hn : (x != 0) = true := by simpa using h
        have HN := hid h
        clear h
        go_wp2
        go_ret
        exact ⟨by rw [← HR.out, if_neg HN.out]; rfl, rfl⟩
    · by_cases h : y = 0
      · have HY := hid h
        have hn : (y != 0) = false := by simpa using h
        clear h
        go_wp2
        go_round
        case rel => exact .inr (.inr ⟨rfl, hx, HY⟩)
        case measure => simp [intOf]
      · have hn : (y != 0) = true := by simpa using h
        clear h
        go_wp2
        go_ret
        exact ⟨by rw [← HR.out, if_pos hx.out]; rfl, rfl⟩
    · go_wp2
      go_ret
      exact ⟨by rw [← HR.out, if_pos hx.out, hy.out]; rfl, rfl⟩
/-- which of two keys is ahead. -/
def cfH (x y : Int × Int) : Int := if Lib.compareInt x.1 y.1 = 0 then Lib.compareInt x.2 y.2 else Lib.compareInt x.1 y.1
theorem world18 (W : World) (a b c : Obj) : ∃ q os', ((W.alloc a).alloc b).drew.alloc c = grow (W.drewN q) os' := by
  refine ⟨1, #[a, b] ++ #[c], ?_⟩
  rw [alloc_eq_grow (((W.alloc a).alloc b).drew) c, alloc_eq_grow (W.alloc a) b, alloc_eq_grow W a, grow_grow]
  show grow (grow W.drew (#[a] ++ #[b])) #[c] = _
  rw [grow_grow]
  rfl
theorem closure18 (x y : Int × Int) (W : World) : Calls Try.prog 18 #[.agg #[.int .u32 x.1, .int .u32 x.2], .agg #[.int .u32 y.1, .int .u32 y.2]] W fun e w' => e = .returned (.int .i64 (cfH x y)) ∧ ∃ q os', w' = grow (W.drewN q) os' := by
  obtain ⟨x1, x2⟩ := x
  obtain ⟨y1, y2⟩ := y
  have h1 := fun W' => cmpU_any x1 y1 W'
  have h2 := fun W' => cmpU_any x2 y2 W'
  unfold cfH
  dsimp only
  generalize Lib.compareInt x1 y1 = r1 at h1 ⊢
  generalize Lib.compareInt x2 y2 = r2 at h2 ⊢
  have CO := fun (x : Nat) (X : World) (o1 : X.cell? ⟨x, 0, none⟩ = some (.int .i64 r1)) (o2 : X.cell? ⟨x, 1, none⟩ = some (.int .i64 r2)) => or_any x r1 r2 X o1 o2
  generalize (if r1 = 0 then r2 else r1) = rr at CO ⊢
  have CO := hid CO
  obtain ⟨Wa, hWa⟩ : ∃ X, W.alloc (.cells #[.int .u32 x1, .int .u32 x2] 73) = X := ⟨_, rfl⟩
  obtain ⟨Wb, hWb⟩ : ∃ X, Wa.alloc (.cells #[.int .u32 y1, .int .u32 y2] 73) = X := ⟨_, rfl⟩
  obtain ⟨g1, hg1⟩ : ∃ g, W.heap.size = g := ⟨_, rfl⟩
  have sa : Wa.heap.size = g1 + 1 := by rw [← hWa, ← hg1]; exact Array.size_push _
  have bb : Below Wa.heap.size Wa Wb := by rw [← hWb]; exact ball _ _
  have RA := hid (show Wb.heap[g1]? = some (.cells #[.int .u32 x1, .int .u32 x2] 73 (0, 0)) from row_on (by rw [← hWa, ← hg1]; exact World.alloc_heap_new _ _) bb)
  have RB := hid (show Wb.heap[g1 + 1]? = some (.cells #[.int .u32 y1, .int .u32 y2] 73 (0, 0)) from by rw [← hWb, ← sa]; exact World.alloc_heap_new _ _)
  have HWa := hid hWa
  have HWb := hid hWb
  have Hg1 := hid hg1
  clear hWa hWb hg1 sa bb
  go_enter Try.func18, Try.ntmps18
  go_upto_region 1 with fail
  rw [HWa.out, HWb.out, Hg1.out]
  obtain ⟨V, hV⟩ : ∃ U, Wb.drew = U := ⟨_, rfl⟩
  have HV := hid hV
  have DV := hid (show Below Wb.heap.size Wb V from by rw [← hV]; exact bdrew1 _)
  have RA2 := hid (row_on RA.out DV.out)
  have RB2 := hid (row_on RB.out DV.out)
  refine wp_region_held_drew (S := fun U => U.cell? ⟨g1, 0, none⟩ = some (.int .u32 x1) ∧ U.cell? ⟨g1, 1, none⟩ = some (.int .u32 x2) ∧ U.cell? ⟨g1 + 1, 0, none⟩ = some (.int .u32 y1) ∧ U.cell? ⟨g1 + 1, 1, none⟩ = some (.int .u32 y2)) (by kernel_rfl) ?_ (fun hHeld => ?_)
  · (try dsimp only); rw [hV]; exact ⟨row_cell RA2.out 0, row_cell RA2.out 1, row_cell RB2.out 0, row_cell RB2.out 1⟩
  rw [hV] at hHeld ⊢
  clear hV
  refine' wpAnyH_take (i := 0) (oi := _) (v := _) rfl (by kernel_rfl) (by kernel_rfl) (by kernel_rfl) (fun _ _ _ h => h) (Or.inl ⟨by kernel_rfl, ?_⟩) (by assumption) ?_
  rotate_left
  · (intro w hSw; (try dsimp only at hSw); go_simp; try (with_reducible rfl))
  try simp only [List.getElem_toArray, List.getElem_cons_succ, List.getElem_cons_zero, Act.put, List.setIfInBounds_toArray, List.set_cons_zero, List.set_cons_succ]
  refine' wpAnyH_take (i := 1) (oi := _) (v := _) rfl (by kernel_rfl) (by kernel_rfl) (by kernel_rfl) (fun _ _ _ h => h) (Or.inl ⟨by kernel_rfl, ?_⟩) (by assumption) ?_
  rotate_left
  · (intro w hSw; (try dsimp only at hSw); go_simp; try (with_reducible rfl))
  try simp only [List.getElem_toArray, List.getElem_cons_succ, List.getElem_cons_zero, Act.put, List.setIfInBounds_toArray, List.set_cons_zero, List.set_cons_succ]
  refine' wpAnyH_take (i := 2) (oi := _) (v := _) rfl (by kernel_rfl) (by kernel_rfl) (by kernel_rfl) (fun _ _ _ h => h) (Or.inl ⟨by kernel_rfl, ?_⟩) (by assumption) ?_
  rotate_left
  · (intro w hSw; (try dsimp only at hSw); go_simp; try (with_reducible rfl))
  try simp only [List.getElem_toArray, List.getElem_cons_succ, List.getElem_cons_zero, Act.put, List.setIfInBounds_toArray, List.set_cons_zero, List.set_cons_succ]
  refine' wpAnyH_take (i := 3) (oi := _) (v := _) rfl (by kernel_rfl) (by kernel_rfl) (by kernel_rfl) (fun _ _ _ h => h) (Or.inl ⟨by kernel_rfl, ?_⟩) (by assumption) ?_
  rotate_left
  · (intro w hSw; (try dsimp only at hSw); go_simp; try (with_reducible rfl))
  try simp only [List.getElem_toArray, List.getElem_cons_succ, List.getElem_cons_zero, Act.put, List.setIfInBounds_toArray, List.set_cons_zero, List.set_cons_succ]
  refine' wpAnyH_take (i := 5) (oi := _) (v := _) rfl (by kernel_rfl) (by kernel_rfl) (by kernel_rfl) (fun _ _ _ h => h) (Or.inl ⟨by kernel_rfl, ?_⟩) (by assumption) ?_
  rotate_left
  · (intro w hSw; (try dsimp only at hSw); go_simp; try (with_reducible rfl))
  try simp only [List.getElem_toArray, List.getElem_cons_succ, List.getElem_cons_zero, Act.put, List.setIfInBounds_toArray, List.set_cons_zero, List.set_cons_succ]
  refine' wpAnyH_take (i := 6) (oi := _) (v := _) rfl (by kernel_rfl) (by kernel_rfl) (by kernel_rfl) (fun _ _ _ h => h) (Or.inl ⟨by kernel_rfl, ?_⟩) (by assumption) ?_
  rotate_left
  · (intro w hSw; (try dsimp only at hSw); go_simp; try (with_reducible rfl))
  try simp only [List.getElem_toArray, List.getElem_cons_succ, List.getElem_cons_zero, Act.put, List.setIfInBounds_toArray, List.set_cons_zero, List.set_cons_succ]
  refine' wpAnyH_take (i := 7) (oi := _) (v := _) rfl (by kernel_rfl) (by kernel_rfl) (by kernel_rfl) (fun _ _ _ h => h) (Or.inl ⟨by kernel_rfl, ?_⟩) (by assumption) ?_
  rotate_left
  · (intro w hSw; (try dsimp only at hSw); go_simp; try (with_reducible rfl))
  try simp only [List.getElem_toArray, List.getElem_cons_succ, List.getElem_cons_zero, Act.put, List.setIfInBounds_toArray, List.set_cons_zero, List.set_cons_succ]
  refine' wpAnyH_take (i := 8) (oi := _) (v := _) rfl (by kernel_rfl) (by kernel_rfl) (by kernel_rfl) (fun _ _ _ h => h) (Or.inl ⟨by kernel_rfl, ?_⟩) (by assumption) ?_
  rotate_left
  · (intro w hSw; (try dsimp only at hSw); go_simp; try (with_reducible rfl))
  try simp only [List.getElem_toArray, List.getElem_cons_succ, List.getElem_cons_zero, Act.put, List.setIfInBounds_toArray, List.set_cons_zero, List.set_cons_succ]
  refine wpAnyH_ready (rs := [4]) (by kernel_rfl) (by simp) ?_
  refine (AllReadyH.cons (o := _) rfl (fun K hK => ?_) AllReadyH.nil)
  go_simp
  go_at_call 43
  with_reducible refine (h1 V).mono ?_
  rintro e w9 ⟨rfl, h9⟩
  subst w9
  (try go_wp2_with fail)
  refine hK.out _ _ ?_ (fun hHeld => ?_)
  · (try dsimp only); exact ⟨row_cell RA2.out 0, row_cell RA2.out 1, row_cell RB2.out 0, row_cell RB2.out 1⟩
  clear hK K
  try simp only [List.getElem_toArray, List.getElem_cons_succ, List.getElem_cons_zero, Act.put, List.setIfInBounds_toArray, List.set_cons_zero, List.set_cons_succ]
  refine wpAnyH_ready (rs := [9]) (by kernel_rfl) (by simp) ?_
  refine (AllReadyH.cons (o := _) rfl (fun K hK => ?_) AllReadyH.nil)
  go_simp
  go_at_call 43
  with_reducible refine (h2 V).mono ?_
  rintro e w9 ⟨rfl, h9⟩
  subst w9
  (try go_wp2_with fail)
  refine hK.out _ _ ?_ (fun hHeld => ?_)
  · (try dsimp only); exact ⟨row_cell RA2.out 0, row_cell RA2.out 1, row_cell RB2.out 0, row_cell RB2.out 1⟩
  clear hK K
  try simp only [List.getElem_toArray, List.getElem_cons_succ, List.getElem_cons_zero, Act.put, List.setIfInBounds_toArray, List.set_cons_zero, List.set_cons_succ]
  refine wpAnyH_ready (rs := [10]) (by kernel_rfl) (by simp) ?_
  refine (AllReadyH.cons (o := _) rfl (fun K hK => ?_) AllReadyH.nil)
  go_simp
  obtain ⟨X, hX⟩ : ∃ X, V.alloc (.cells #[.int .i64 r1, .int .i64 r2] 3) = X := ⟨_, rfl⟩
  obtain ⟨x, hx⟩ : ∃ x, V.heap.size = x := ⟨_, rfl⟩
  have RX := hid (show X.heap[x]? = some (.cells #[.int .i64 r1, .int .i64 r2] 3 (0, 0)) from by rw [← hX, ← hx]; exact World.alloc_heap_new _ _)
  have BX := hid (show Below V.heap.size V X from by rw [← hX]; exact ball _ _)
  have HX := hid hX
  have RA3 := hid (row_on RA2.out BX.out)
  have RB3 := hid (row_on RB2.out BX.out)
  have o1 : X.cell? ⟨x, 0, none⟩ = some (.int .i64 r1) := row_cell RX.out 0
  have o2 : X.cell? ⟨x, 1, none⟩ = some (.int .i64 r2) := row_cell RX.out 1
  rw [hX, hx]
  clear hX hx
  refine hK.out _ _ ?_ (fun hHeld => ?_)
  · (try dsimp only); exact ⟨row_cell RA3.out 0, row_cell RA3.out 1, row_cell RB3.out 0, row_cell RB3.out 1⟩
  clear hK K
  try simp only [List.getElem_toArray, List.getElem_cons_succ, List.getElem_cons_zero, Act.put, List.setIfInBounds_toArray, List.set_cons_zero, List.set_cons_succ]
  refine wpAnyH_ready (rs := [11]) (by kernel_rfl) (by simp) ?_
  refine (AllReadyH.cons (o := _) rfl (fun K hK => ?_) AllReadyH.nil)
  go_simp
  go_at_call 42
  with_reducible refine (CO.out x X o1 o2).mono ?_
  rintro e w9 ⟨rfl, h9⟩
  subst w9
  (try go_wp2_with fail)
  refine hK.out _ _ ?_ (fun hHeld => ?_)
  · (try dsimp only); exact ⟨row_cell RA3.out 0, row_cell RA3.out 1, row_cell RB3.out 0, row_cell RB3.out 1⟩
  clear hK K
  try simp only [List.getElem_toArray, List.getElem_cons_succ, List.getElem_cons_zero, Act.put, List.setIfInBounds_toArray, List.set_cons_zero, List.set_cons_succ]
  refine' wpAnyH_take (i := 12) (oi := _) (v := _) rfl (by kernel_rfl) (by kernel_rfl) (by kernel_rfl) (fun _ _ _ h => h) (Or.inl ⟨by kernel_rfl, ?_⟩) (by assumption) ?_
  rotate_left
  · (intro w hSw; (try dsimp only at hSw); go_simp; try (with_reducible rfl))
  try simp only [List.getElem_toArray, List.getElem_cons_succ, List.getElem_cons_zero, Act.put, List.setIfInBounds_toArray, List.set_cons_zero, List.set_cons_succ]
  refine wpAnyH_done (by kernel_rfl) ?_ _
  go_wp2
  go_ret
  refine ⟨rfl, ?_⟩
  rw [← HX.out, ← HV.out, ← HWb.out, ← HWa.out]
  exact world18 W _ _ _

theorem cmpLays18 (blk off size : Nat) (w : World) : CmpLays Try.prog 18 #[] hce 2 cfH blk off size w :=
  fun _ _ _ _ x y => closure18 x y _
theorem ltH (x y : Int × Int) : ltOf cfH x y = decide (x.1 < y.1 ∨ (x.1 = y.1 ∧ x.2 < y.2)) := by
  unfold ltOf cfH Lib.compareInt
  by_cases h1 : x.1 < y.1
  · simp [h1]
  · by_cases h2 : y.1 < x.1
    · have h3 : ¬ x.1 = y.1 := by omega
      simp [h1, h2, h3]
    · have h3 : x.1 = y.1 := by omega
      by_cases h4 : x.2 < y.2
      · simp [h1, h2, h3, h4]
      · by_cases h5 : y.2 < x.2
        · simp [h1, h2, h3, h4, h5]
        · simp [h1, h2, h3, h4, h5]
theorem swoH : SWO (ltOf cfH) where
  irrefl x := by rw [ltH]; simp
  trans x y z h1 h2 := by rw [ltH] at *; simp at *; omega
  ntrans x y z h1 h2 := by rw [ltH] at *; simp at *; omega
theorem hsort_any (blk off cap : Nat) (d : Array (Int × Int)) (w : World) (hH : HoldsK hce 2 w blk off d) (hblk : blk < w.heap.size) (hsz : d.size < 4611686018427387904) :
    Calls Try.prog 40 #[.slice (some ⟨blk, off, none⟩) d.size cap, .func (.func 18) #[] #[]] w fun e w' => e = .returned (.tuple #[]) ∧ ∃ d' n os, PermIn 0 d.size d d' ∧ SortedIn (ltOf cfH) 0 d.size d' ∧ w' = sortWorldK hce 2 w blk off n d' os := by
  have eg : ∀ args w, (callFunc 18 args).run Try.prog w = .ok (.enter 18 args) w := enters_of Try.func18 (by kernel_rfl) rfl
  exact AnyQ.slices_SortFunc Try.sortPl 2 Try.isAgg73 Try.sizeOf73 hce (fun _ => rfl) (fun x v hv => by simp [hce] at hv; rcases hv with rfl | rfl <;> rfl) cfH swoH 18 #[] blk off cap d w eg (cmpLays18 blk off d.size w) hH hblk hsz
end Go.Proofs.Ytegdhffejmbakaa.Ac
