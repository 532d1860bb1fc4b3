/-
  ShelfN
-/
import Derived.Shelf.SlSortCmp.WholeK
import Derived.Ground.SlsfProg
import Derived.Test.YtlhbgaiiehljpaaGreatProg
import Derived.Test.YtlhbgaiiehljpaaGreatGAa
import Derived.Test.YtlhbgaiiehljpaaGreatGAw
import Derived.Deep.RegionWith
import Derived.Shelf.Small.Bits
import Derived.Shelf.Strconv.Itoa0
namespace Go.Proofs
open Go.Shelf
def Tryz.sortPl_ren : Go.Shelf.Ren := ⟨fun | 6 => 51 | 15 => 77 | 14 => 76 | 28 => 98 | 29 => 99 | 20 => 90 | 21 => 91 | 22 => 92 | 23 => 93 | 24 => 94 | 25 => 95 | 26 => 96 | 27 => 97 | 46 => 114 | 47 => 115 | 48 => 116 | 49 => 117 | 50 => 118 | 57 => 124 | n => n, fun | 22 => 76 | 24 => 79 | 25 => 83 | 3 => 3 | 39 => 93 | 0 => 0 | 53 => 36 | 55 => 31 | 4 => 4 | 46 => 169 | 45 => 168 | 50 => 101 | 5 => 5 | 9 => 9 | 66 => 187 | 70 => 190 | 76 => 196 | 77 => 197 | n => n, fun | n => n⟩
theorem Tryz.sortPl : Go.Proofs.SlLaysF0.n6 Tryz.prog Tryz.sortPl_ren := {
 mixed := by kernel_rfl
 f6 := ⟨Tryz.f51.name, by decide, Tryz.func51.trans (congrArg some (by kernel_rfl))⟩
 f14 := ⟨Tryz.f76.name, by decide, Tryz.func76.trans (congrArg some (by kernel_rfl))⟩
 f15 := Tryz.func77.trans (congrArg some (by kernel_rfl))
 f20 := ⟨Tryz.f90.name, by decide, Tryz.func90.trans (congrArg some (by kernel_rfl))⟩
 f21 := ⟨Tryz.f91.name, by decide, Tryz.func91.trans (congrArg some (by kernel_rfl))⟩
 f22 := ⟨Tryz.f92.name, by decide, Tryz.func92.trans (congrArg some (by kernel_rfl))⟩
 f23 := ⟨Tryz.f93.name, by decide, Tryz.func93.trans (congrArg some (by kernel_rfl))⟩
 f24 := ⟨Tryz.f94.name, by decide, Tryz.func94.trans (congrArg some (by kernel_rfl))⟩
 f25 := ⟨Tryz.f95.name, by decide, Tryz.func95.trans (congrArg some (by kernel_rfl))⟩
 f26 := ⟨Tryz.f96.name, by decide, Tryz.func96.trans (congrArg some (by kernel_rfl))⟩
 f27 := ⟨Tryz.f97.name, by decide, Tryz.func97.trans (congrArg some (by kernel_rfl))⟩
 f28 := Tryz.func98.trans (congrArg some (by kernel_rfl))
 f29 := Tryz.func99.trans (congrArg some (by kernel_rfl))
 f46 := ⟨Tryz.f114.name, by decide, Tryz.func114.trans (congrArg some (by kernel_rfl))⟩
 f47 := Tryz.func115.trans (congrArg some (by kernel_rfl))
 f48 := Tryz.func116.trans (congrArg some (by kernel_rfl))
 f49 := ⟨Tryz.f117.name, by decide, Tryz.func117.trans (congrArg some (by kernel_rfl))⟩
 f50 := ⟨Tryz.f118.name, by decide, Tryz.func118.trans (congrArg some (by kernel_rfl))⟩
 f57 := ⟨Tryz.f124.name, by decide, Tryz.func124.trans (congrArg some (by kernel_rfl))⟩
 t0 := Tryz.underlying0
 a0 := Tryz.isAgg0
 z0 := Tryz.sizeOf0
 v0 := Tryz.zeroValue0
 t3 := Tryz.underlying3
 a3 := Tryz.isAgg3
 z3 := Tryz.sizeOf3
 v3 := Tryz.zeroValue3
 t4 := Tryz.underlying4
 a4 := Tryz.isAgg4
 z4 := Tryz.sizeOf4
 v4 := Tryz.zeroValue4
 t5 := Tryz.underlying5
 a5 := Tryz.isAgg5
 z5 := Tryz.sizeOf5
 v5 := Tryz.zeroValue5
 t9 := Tryz.underlying9
 a9 := Tryz.isAgg9
 z9 := Tryz.sizeOf9
 v9 := Tryz.zeroValue9
 t22 := Tryz.underlying76
 a22 := Tryz.isAgg76
 z22 := Tryz.sizeOf76
 v22 := Tryz.zeroValue76
 t25 := Tryz.underlying83
 a25 := Tryz.isAgg83
 z25 := Tryz.sizeOf83
 v25 := Tryz.zeroValue83
 t39 := Tryz.underlying93
 a39 := Tryz.isAgg93
 z39 := Tryz.sizeOf93
 v39 := Tryz.zeroValue93
 t45 := Tryz.underlying168
 a45 := Tryz.isAgg168
 z45 := Tryz.sizeOf168
 v45 := Tryz.zeroValue168
 t46 := Tryz.underlying169
 a46 := Tryz.isAgg169
 z46 := Tryz.sizeOf169
 v46 := Tryz.zeroValue169
 t50 := Tryz.underlying101
 a50 := Tryz.isAgg101
 z50 := Tryz.sizeOf101
 v50 := Tryz.zeroValue101
 t53 := Tryz.underlying36
 a53 := Tryz.isAgg36
 z53 := Tryz.sizeOf36
 v53 := Tryz.zeroValue36
 t55 := Tryz.underlying31
 a55 := Tryz.isAgg31
 z55 := Tryz.sizeOf31
 v55 := Tryz.zeroValue31
 t66 := Tryz.underlying187
 a66 := Tryz.isAgg187
 z66 := Tryz.sizeOf187
 v66 := Tryz.zeroValue187
 t70 := Tryz.underlying190
 a70 := Tryz.isAgg190
 z70 := Tryz.sizeOf190
 v70 := Tryz.zeroValue190
 t76 := Tryz.underlying196
 a76 := Tryz.isAgg196
 z76 := Tryz.sizeOf196
 v76 := Tryz.zeroValue196
 t77 := Tryz.underlying197
 a77 := Tryz.isAgg197
 z77 := Tryz.sizeOf197
 v77 := Tryz.zeroValue197 }
end Go.Proofs
namespace Go.Proofs.YtlhbgaiiehljpaaGreat.Ac
open List renaming getElem_toArray → lgA, getElem_cons_succ → lgB, getElem_cons_zero → lgC, setIfInBounds_toArray → lsA, set_cons_zero → lsB, set_cons_succ → lsC
open Go.RowKit Go.Deep Go.Maps Go.Sort Go.Shelf Go.Lib MonM Go.Proofs.YtlhbgaiiehljpaaGreat
set_option linter.unusedVariables false
set_option linter.unusedSimpArgs false
set_option maxHeartbeats 2000000
set_option maxRecDepth 100000
attribute [local go_sem ↓] Go.wp_at_zero Go.wp_at_succ
theorem isNaNU_any (x : Int) (w : World) : Calls Tryz.prog 78 #[.int .u32 x] w fun e w' => e = .returned (.bool false) ∧ w' = w := by
 have xx : (x == x) = true := by simp
 go_enter Tryz.func78, Tryz.ntmps78
 go_wp2
 go_ret
 exact ⟨rfl, rfl⟩
theorem cmpU_lib (x y : Int) (w : World) : Calls Tryz.prog 54 #[.int .u32 x, .int .u32 y] w fun e w' => e = .returned (.int .i64 (Lib.compareInt x y)) ∧ w' = w := by
 have hx := isNaNU_any x w
 have hy := isNaNU_any y w
 unfold Lib.compareInt
 by_cases h1 : x < y
 ·simp only [h1, if_true]
  go_enter Tryz.func54, Tryz.ntmps54
  go_wp2_with (first | (go_at_call 78; with_reducible refine hx.mono ?_; rintro e w9 ⟨rfl, h9⟩; subst w9) | (go_at_call 78; with_reducible refine hy.mono ?_; rintro e w9 ⟨rfl, h9⟩; subst w9))
  go_ret
  exact ⟨rfl, rfl⟩
 ·by_cases h2 : y < x
  ·simp only [h1, h2, if_true, if_false]
   go_enter Tryz.func54, Tryz.ntmps54
   go_wp2_with (first | (go_at_call 78; with_reducible refine hx.mono ?_; rintro e w9 ⟨rfl, h9⟩; subst w9) | (go_at_call 78; with_reducible refine hy.mono ?_; rintro e w9 ⟨rfl, h9⟩; subst w9))
   go_ret
   exact ⟨rfl, rfl⟩
  ·simp only [h1, h2, if_false]
   go_enter Tryz.func54, Tryz.ntmps54
   go_wp2_with (first | (go_at_call 78; with_reducible refine hx.mono ?_; rintro e w9 ⟨rfl, h9⟩; subst w9) | (go_at_call 78; with_reducible refine hy.mono ?_; rintro e w9 ⟨rfl, h9⟩; subst w9))
   go_ret
   exact ⟨rfl, rfl⟩
theorem or_any (b : Nat) (x y : Int) (w : World) (c0 : w.cell? ⟨b, 0, none⟩ = some (.int .i64 x)) (c1 : w.cell? ⟨b, 1, none⟩ = some (.int .i64 y)) :
  Calls Tryz.prog 53 #[.slice (some ⟨b, 0, none⟩) 2 2] w fun e w' => e = .returned (.int .i64 (if x = 0 then y else x)) ∧ w' = w := by
 obtain ⟨r, hr⟩ : ∃ r, (if x = 0 then y else x) = r := ⟨_, rfl⟩
 have HR := hid hr
 rw [hr]
 clear hr
 go_enter Tryz.func53, Tryz.ntmps53
 go_upto_region 3 with fail
 go_loop [8] (fun iv => iv = .int .i64 0 ∨ (iv = .int .i64 1 ∧ Hid (x = 0)) ∨ (iv = .int .i64 2 ∧ Hid (x = 0) ∧ Hid (y = 0))) (fun iv => 2 - (intOf iv).toNat)
 case atStart => exact .inl rfl
 case round =>
  rcases hrel with rfl | ⟨rfl, hx⟩ | ⟨rfl, hx, hy⟩
  ·by_cases h : x = 0
   ·have HX := hid h
    have hn : (x != 0) = false := by simpa using h
    clear h
    go_wp2
    go_round
    case rel => exact .inr (.inl ⟨rfl, HX⟩)
    case measure => simp [intOf]
   ·have hn : (x != 0) = true := by simpa using h
    have HN := hid h
    clear h
    go_wp2
    go_ret
    exact ⟨by rw [← HR.out, if_neg HN.out]; rfl, rfl⟩
  ·by_cases h : y = 0
   ·have HY := hid h
    have hn : (y != 0) = false := by simpa using h
    clear h
    go_wp2
    go_round
    case rel => exact .inr (.inr ⟨rfl, hx, HY⟩)
    case measure => simp [intOf]
   ·have hn : (y != 0) = true := by simpa using h
    clear h
    go_wp2
    go_ret
    exact ⟨by rw [← HR.out, if_pos hx.out]; rfl, rfl⟩
  ·go_wp2
   go_ret
   exact ⟨by rw [← HR.out, if_pos hx.out, hy.out]; rfl, rfl⟩
/-- which of two keys is ahead. -/
def cfH (x y : Int × Int) : Int := if Lib.compareInt x.1 y.1 = 0 then Lib.compareInt x.2 y.2 else Lib.compareInt x.1 y.1
theorem world18 (W : World) (a b c : Obj) : ∃ q os', ((W.alloc a).alloc b).drew.alloc c = grow (W.drewN q) os' := by
 refine ⟨1, #[a, b] ++ #[c], ?_⟩
 rw [alloc_eq_grow (((W.alloc a).alloc b).drew) c, alloc_eq_grow (W.alloc a) b, alloc_eq_grow W a, grow_grow]
 show grow (grow W.drew (#[a] ++ #[b])) #[c] = _
 rw [grow_grow]
 rfl
theorem closure18 (x y : Int × Int) (W : World) : Calls Tryz.prog 25 #[.agg #[.int .u32 x.1, .int .u32 x.2], .agg #[.int .u32 y.1, .int .u32 y.2]] W fun e w' => e = .returned (.int .i64 (cfH x y)) ∧ ∃ q os', w' = grow (W.drewN q) os' := by
 obtain ⟨x1, x2⟩ := x
 obtain ⟨y1, y2⟩ := y
 have h1 := fun W' => cmpU_lib x1 y1 W'
 have h2 := fun W' => cmpU_lib x2 y2 W'
 unfold cfH
 dsimp only
 generalize Lib.compareInt x1 y1 = r1 at h1 ⊢
 generalize Lib.compareInt x2 y2 = r2 at h2 ⊢
 have CO := fun (x : Nat) (X : World) (o1 : X.cell? ⟨x, 0, none⟩ = some (.int .i64 r1)) (o2 : X.cell? ⟨x, 1, none⟩ = some (.int .i64 r2)) => or_any x r1 r2 X o1 o2
 generalize (if r1 = 0 then r2 else r1) = rr at CO ⊢
 have CO := hid CO
 obtain ⟨Wa, hWa⟩ : ∃ X, W.alloc (.cells #[.int .u32 x1, .int .u32 x2] 79) = X := ⟨_, rfl⟩
 obtain ⟨Wb, hWb⟩ : ∃ X, Wa.alloc (.cells #[.int .u32 y1, .int .u32 y2] 79) = X := ⟨_, rfl⟩
 obtain ⟨g1, hg1⟩ : ∃ g, W.heap.size = g := ⟨_, rfl⟩
 have sa : Wa.heap.size = g1 + 1 := by rw [← hWa, ← hg1]; exact Array.size_push _
 have bb : Below Wa.heap.size Wa Wb := by rw [← hWb]; exact ball _ _
 have RA := hid (show Wb.heap[g1]? = some (.cells #[.int .u32 x1, .int .u32 x2] 79 (0, 0)) from row_on (by rw [← hWa, ← hg1]; exact World.alloc_heap_new _ _) bb)
 have RB := hid (show Wb.heap[g1 + 1]? = some (.cells #[.int .u32 y1, .int .u32 y2] 79 (0, 0)) from by rw [← hWb, ← sa]; exact World.alloc_heap_new _ _)
 have HWa := hid hWa
 have HWb := hid hWb
 have Hg1 := hid hg1
 clear hWa hWb hg1 sa bb
 go_enter Tryz.func25, Tryz.ntmps25
 go_upto_region 1 with fail
 rw [HWa.out, HWb.out, Hg1.out]
 obtain ⟨V, hV⟩ : ∃ U, Wb.drew = U := ⟨_, rfl⟩
 have HV := hid hV
 have DV := hid (show Below Wb.heap.size Wb V from by rw [← hV]; exact bdrew1 _)
 have RA2 := hid (row_on RA.out DV.out)
 have RB2 := hid (row_on RB.out DV.out)
 refine wp_region_held_drew (S := fun U => U.cell? ⟨g1, 0, none⟩ = some (.int .u32 x1) ∧ U.cell? ⟨g1, 1, none⟩ = some (.int .u32 x2) ∧ U.cell? ⟨g1 + 1, 0, none⟩ = some (.int .u32 y1) ∧ U.cell? ⟨g1 + 1, 1, none⟩ = some (.int .u32 y2)) (by kernel_rfl) ?_ (fun hHeld => ?_)
 ·(try dsimp only); rw [hV]; exact ⟨row_cell RA2.out 0, row_cell RA2.out 1, row_cell RB2.out 0, row_cell RB2.out 1⟩
 rw [hV] at hHeld ⊢
 clear hV
 refine' tkz 0 rfl ?_ ?_
 rotate_left
 ·(intro w hSw; (try dsimp only at hSw); go_simp; try (with_reducible rfl))
 try simp only [lgA, lgB, lgC, Act.put, lsA, lsB, lsC]
 refine' tkz 1 rfl ?_ ?_
 rotate_left
 ·(intro w hSw; (try dsimp only at hSw); go_simp; try (with_reducible rfl))
 try simp only [lgA, lgB, lgC, Act.put, lsA, lsB, lsC]
 refine' tkz 2 rfl ?_ ?_
 rotate_left
 ·(intro w hSw; (try dsimp only at hSw); go_simp; try (with_reducible rfl))
 try simp only [lgA, lgB, lgC, Act.put, lsA, lsB, lsC]
 refine' tkz 3 rfl ?_ ?_
 rotate_left
 ·(intro w hSw; (try dsimp only at hSw); go_simp; try (with_reducible rfl))
 try simp only [lgA, lgB, lgC, Act.put, lsA, lsB, lsC]
 refine' tkz 5 rfl ?_ ?_
 rotate_left
 ·(intro w hSw; (try dsimp only at hSw); go_simp; try (with_reducible rfl))
 try simp only [lgA, lgB, lgC, Act.put, lsA, lsB, lsC]
 refine' tkz 6 rfl ?_ ?_
 rotate_left
 ·(intro w hSw; (try dsimp only at hSw); go_simp; try (with_reducible rfl))
 try simp only [lgA, lgB, lgC, Act.put, lsA, lsB, lsC]
 refine' tkz 7 rfl ?_ ?_
 rotate_left
 ·(intro w hSw; (try dsimp only at hSw); go_simp; try (with_reducible rfl))
 try simp only [lgA, lgB, lgC, Act.put, lsA, lsB, lsC]
 refine' tkz 8 rfl ?_ ?_
 rotate_left
 ·(intro w hSw; (try dsimp only at hSw); go_simp; try (with_reducible rfl))
 try simp only [lgA, lgB, lgC, Act.put, lsA, lsB, lsC]
 refine wpAnyH_ready (rs := [4]) (by kernel_rfl) (by simp) ?_
 refine (AllReadyH.cons rfl (fun K hK => ?_) AllReadyH.nil)
 go_simp
 go_at_call 54
 with_reducible refine (h1 V).mono ?_
 rintro e w9 ⟨rfl, h9⟩
 subst w9
 (try go_wp2_with fail)
 refine hK.out _ _ ?_ (fun hHeld => ?_)
 ·(try dsimp only); exact ⟨row_cell RA2.out 0, row_cell RA2.out 1, row_cell RB2.out 0, row_cell RB2.out 1⟩
 clear hK K
 try simp only [lgA, lgB, lgC, Act.put, lsA, lsB, lsC]
 refine wpAnyH_ready (rs := [9]) (by kernel_rfl) (by simp) ?_
 refine (AllReadyH.cons rfl (fun K hK => ?_) AllReadyH.nil)
 go_simp
 go_at_call 54
 with_reducible refine (h2 V).mono ?_
 rintro e w9 ⟨rfl, h9⟩
 subst w9
 (try go_wp2_with fail)
 refine hK.out _ _ ?_ (fun hHeld => ?_)
 ·(try dsimp only); exact ⟨row_cell RA2.out 0, row_cell RA2.out 1, row_cell RB2.out 0, row_cell RB2.out 1⟩
 clear hK K
 try simp only [lgA, lgB, lgC, Act.put, lsA, lsB, lsC]
 refine wpAnyH_ready (rs := [10]) (by kernel_rfl) (by simp) ?_
 refine (AllReadyH.cons rfl (fun K hK => ?_) AllReadyH.nil)
 go_simp
 obtain ⟨X, hX⟩ : ∃ X, V.alloc (.cells #[.int .i64 r1, .int .i64 r2] 3) = X := ⟨_, rfl⟩
 obtain ⟨x, hx⟩ : ∃ x, V.heap.size = x := ⟨_, rfl⟩
 have RX := hid (show X.heap[x]? = some (.cells #[.int .i64 r1, .int .i64 r2] 3 (0, 0)) from by rw [← hX, ← hx]; exact World.alloc_heap_new _ _)
 have BX := hid (show Below V.heap.size V X from by rw [← hX]; exact ball _ _)
 have HX := hid hX
 have RA3 := hid (row_on RA2.out BX.out)
 have RB3 := hid (row_on RB2.out BX.out)
 have o1 : X.cell? ⟨x, 0, none⟩ = some (.int .i64 r1) := row_cell RX.out 0
 have o2 : X.cell? ⟨x, 1, none⟩ = some (.int .i64 r2) := row_cell RX.out 1
 rw [hX, hx]
 clear hX hx
 refine hK.out _ _ ?_ (fun hHeld => ?_)
 ·(try dsimp only); exact ⟨row_cell RA3.out 0, row_cell RA3.out 1, row_cell RB3.out 0, row_cell RB3.out 1⟩
 clear hK K
 try simp only [lgA, lgB, lgC, Act.put, lsA, lsB, lsC]
 refine wpAnyH_ready (rs := [11]) (by kernel_rfl) (by simp) ?_
 refine (AllReadyH.cons rfl (fun K hK => ?_) AllReadyH.nil)
 go_simp
 go_at_call 53
 with_reducible refine (CO.out x X o1 o2).mono ?_
 rintro e w9 ⟨rfl, h9⟩
 subst w9
 (try go_wp2_with fail)
 refine hK.out _ _ ?_ (fun hHeld => ?_)
 ·(try dsimp only); exact ⟨row_cell RA3.out 0, row_cell RA3.out 1, row_cell RB3.out 0, row_cell RB3.out 1⟩
 clear hK K
 try simp only [lgA, lgB, lgC, Act.put, lsA, lsB, lsC]
 refine' tkz 12 rfl ?_ ?_
 rotate_left
 ·(intro w hSw; (try dsimp only at hSw); go_simp; try (with_reducible rfl))
 try simp only [lgA, lgB, lgC, Act.put, lsA, lsB, lsC]
 refine wpAnyH_done (by kernel_rfl) ?_ _
 go_wp2
 go_ret
 refine ⟨rfl, ?_⟩
 rw [← HX.out, ← HV.out, ← HWb.out, ← HWa.out]
 exact world18 W _ _ _
theorem cmpLays18 (blk off size : Nat) (w : World) : CmpLays Tryz.prog 25 #[] hce 2 cfH blk off size w :=
 fun _ _ _ _ x y => closure18 x y _
theorem ltH (x y : Int × Int) : ltOf cfH x y = decide (x.1 < y.1 ∨ (x.1 = y.1 ∧ x.2 < y.2)) := by
 unfold ltOf cfH Lib.compareInt
 by_cases h1 : x.1 < y.1
 ·simp [h1]
 ·by_cases h2 : y.1 < x.1
  ·have h3 : ¬ x.1 = y.1 := by omega
   simp [h1, h2, h3]
  ·have h3 : x.1 = y.1 := by omega
   by_cases h4 : x.2 < y.2
   ·simp [h1, h2, h3, h4]
   ·by_cases h5 : y.2 < x.2
    ·simp [h1, h2, h3, h4, h5]
    ·simp [h1, h2, h3, h4, h5]
theorem swoH : SWO (ltOf cfH) where
 irrefl x := by rw [ltH]; simp
 trans x y z h1 h2 := by rw [ltH] at *; simp at *; omega
 ntrans x y z h1 h2 := by rw [ltH] at *; simp at *; omega
theorem hsort_any (blk off cap : Nat) (d : Array (Int × Int)) (w : World) (hH : HoldsK hce 2 w blk off d) (hblk : blk < w.heap.size) (hsz : d.size < 4611686018427387904) :
  Calls Tryz.prog 51 #[.slice (some ⟨blk, off, none⟩) d.size cap, .func (.func 25) #[] #[]] w fun e w' => e = .returned (.tuple #[]) ∧ ∃ d' n os, PermIn 0 d.size d d' ∧ SortedIn (ltOf cfH) 0 d.size d' ∧ w' = sortWorldK hce 2 w blk off n d' os := by
 have eg : ∀ args w, (callFunc 25 args).run Tryz.prog w = .ok (.enter 25 args) w := enters_of Tryz.func25 (by kernel_rfl) rfl
 exact AnyQ.slices_SortFunc Tryz.sortPl 2 Tryz.isAgg79 Tryz.sizeOf79 hce (fun _ => rfl) (fun x v hv => by simp [hce] at hv; rcases hv with rfl | rfl <;> rfl) cfH swoH 25 #[] blk off cap d w eg (cmpLays18 blk off d.size w) hH hblk hsz
end Go.Proofs.YtlhbgaiiehljpaaGreat.Ac
namespace Go.Proofs
open Go.Shelf
def Tryz.lays125_ren : Go.Shelf.Ren := ⟨fun | 125 => 77 | 128 => 98 | 129 => 99 | n => n, fun | 46 => 93 | 3 => 3 | 51 => 36 | 53 => 31 | 4 => 4 | 5 => 5 | 9 => 9 | n => n, fun | n => n⟩
theorem Tryz.lays125 : Go.Proofs.Lays.n125 Tryz.prog Tryz.lays125_ren := {
 mixed := by kernel_rfl
 f125 := Tryz.func77.trans (congrArg some (by kernel_rfl))
 f128 := Tryz.func98.trans (congrArg some (by kernel_rfl))
 f129 := Tryz.func99.trans (congrArg some (by kernel_rfl))
 t3 := Tryz.underlying3
 a3 := Tryz.isAgg3
 z3 := Tryz.sizeOf3
 v3 := Tryz.zeroValue3
 t4 := Tryz.underlying4
 a4 := Tryz.isAgg4
 z4 := Tryz.sizeOf4
 v4 := Tryz.zeroValue4
 t5 := Tryz.underlying5
 a5 := Tryz.isAgg5
 z5 := Tryz.sizeOf5
 v5 := Tryz.zeroValue5
 t9 := Tryz.underlying9
 a9 := Tryz.isAgg9
 z9 := Tryz.sizeOf9
 v9 := Tryz.zeroValue9
 t46 := Tryz.underlying93
 a46 := Tryz.isAgg93
 z46 := Tryz.sizeOf93
 v46 := Tryz.zeroValue93
 t51 := Tryz.underlying36
 a51 := Tryz.isAgg36
 z51 := Tryz.sizeOf36
 v51 := Tryz.zeroValue36
 t53 := Tryz.underlying31
 a53 := Tryz.isAgg31
 z53 := Tryz.sizeOf31
 v53 := Tryz.zeroValue31 }
theorem Tryz.bits_Len (x : Int) (w : World) (h0 : 0 ≤ x) (h1 : x ≤ 18446744073709551615) :
  Calls Tryz.prog 77 #[.int .u64 x] w fun e w' => e = .returned (.int .i64 (Lib.bitLen x.toNat)) ∧ w' = w := Any.bits_Len Tryz.lays125 x w h0 h1
end Go.Proofs
