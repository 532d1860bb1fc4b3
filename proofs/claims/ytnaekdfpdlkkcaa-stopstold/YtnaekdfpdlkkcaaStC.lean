/-
  Stop orders: as commands, as events; what one is refused for by itself.
-/
import Derived.Test.YtnaekdfpdlkkcaaStB
import Derived.Laws.Rows
import Derived.Deep.RegionLaw
import Derived.Deep.Cut
import Derived.Deep.DrawnRows
namespace Go.Proofs.Ytnaekdfpdlkkcaa
open Go.RowKit Go.Deep Go.Shelf
set_option linter.unusedVariables false
set_option linter.unusedSimpArgs false
set_option maxHeartbeats 4000000
set_option maxRecDepth 100000
/-- a stop order. -/
structure Sp where
  nm : Int
  mb : Int
  sd : Int
  ty : Int
  tr : Int
  pr : Int
  qt : Int
  pk : Int
/-- its words fit. -/
structure SpOk (x : Sp) : Prop where
  nm0 : 0 ≤ x.nm
  nm1 : x.nm < 18446744073709551616
  mb0 : 0 ≤ x.mb
  mb1 : x.mb < 4294967296
  qt0 : 0 ≤ x.qt
  qt1 : x.qt < 18446744073709551616
  pk0 : 0 ≤ x.pk
  pk1 : x.pk < 18446744073709551616
def cmd (x : Sp) (id : Int) : Cm := ⟨1, id, 0, x.mb, x.sd, x.ty, x.pr, x.qt, x.pk⟩
theorem info73 : (Try.prog.info? 73).map (·.size) = some 9 := by kernel_rfl
theorem info38 : (Try.prog.info? 38).map (·.size) = some 13 := by kernel_rfl
theorem info27 : (Try.prog.info? 27).map (·.size) = some 8 := by kernel_rfl
theorem row7 {w : World} {g : Nat} {t : TypeId} {a0 a1 a2 a3 a4 a5 a6 : Value} (h : w.heap[g]? = some (.cells #[a0, a1, a2, a3, a4, a5, a6] t (0, 0))) : w.cell? ⟨g, 0, none⟩ = some a0 ∧ w.cell? ⟨g, 1, none⟩ = some a1 ∧ w.cell? ⟨g, 2, none⟩ = some a2 ∧ w.cell? ⟨g, 3, none⟩ = some a3 ∧ w.cell? ⟨g, 4, none⟩ = some a4 ∧ w.cell? ⟨g, 5, none⟩ = some a5 ∧ w.cell? ⟨g, 6, none⟩ = some a6 :=
  ⟨row_cell h 0, row_cell h 1, row_cell h 2, row_cell h 3, row_cell h 4, row_cell h 5, row_cell h 6⟩
theorem row8 {w : World} {g : Nat} {t : TypeId} {a0 a1 a2 a3 a4 a5 a6 a7 : Value} (h : w.heap[g]? = some (.cells #[a0, a1, a2, a3, a4, a5, a6, a7] t (0, 0))) : w.cell? ⟨g, 0, none⟩ = some a0 ∧ w.cell? ⟨g, 1, none⟩ = some a1 ∧ w.cell? ⟨g, 2, none⟩ = some a2 ∧ w.cell? ⟨g, 3, none⟩ = some a3 ∧ w.cell? ⟨g, 4, none⟩ = some a4 ∧ w.cell? ⟨g, 5, none⟩ = some a5 ∧ w.cell? ⟨g, 6, none⟩ = some a6 ∧ w.cell? ⟨g, 7, none⟩ = some a7 :=
  ⟨row_cell h 0, row_cell h 1, row_cell h 2, row_cell h 3, row_cell h 4, row_cell h 5, row_cell h 6, row_cell h 7⟩
theorem row9 {w : World} {g : Nat} {t : TypeId} {a0 a1 a2 a3 a4 a5 a6 a7 a8 : Value} (h : w.heap[g]? = some (.cells #[a0, a1, a2, a3, a4, a5, a6, a7, a8] t (0, 0))) : w.cell? ⟨g, 0, none⟩ = some a0 ∧ w.cell? ⟨g, 1, none⟩ = some a1 ∧ w.cell? ⟨g, 2, none⟩ = some a2 ∧ w.cell? ⟨g, 3, none⟩ = some a3 ∧ w.cell? ⟨g, 4, none⟩ = some a4 ∧ w.cell? ⟨g, 5, none⟩ = some a5 ∧ w.cell? ⟨g, 6, none⟩ = some a6 ∧ w.cell? ⟨g, 7, none⟩ = some a7 ∧ w.cell? ⟨g, 8, none⟩ = some a8 :=
  ⟨row_cell h 0, row_cell h 1, row_cell h 2, row_cell h 3, row_cell h 4, row_cell h 5, row_cell h 6, row_cell h 7, row_cell h 8⟩
theorem row13 {w : World} {g : Nat} {t : TypeId} {a0 a1 a2 a3 a4 a5 a6 a7 a8 a9 a10 a11 a12 : Value} (h : w.heap[g]? = some (.cells #[a0, a1, a2, a3, a4, a5, a6, a7, a8, a9, a10, a11, a12] t (0, 0))) : w.cell? ⟨g, 0, none⟩ = some a0 ∧ w.cell? ⟨g, 1, none⟩ = some a1 ∧ w.cell? ⟨g, 2, none⟩ = some a2 ∧ w.cell? ⟨g, 3, none⟩ = some a3 ∧ w.cell? ⟨g, 4, none⟩ = some a4 ∧ w.cell? ⟨g, 5, none⟩ = some a5 ∧ w.cell? ⟨g, 6, none⟩ = some a6 ∧ w.cell? ⟨g, 7, none⟩ = some a7 ∧ w.cell? ⟨g, 8, none⟩ = some a8 ∧ w.cell? ⟨g, 9, none⟩ = some a9 ∧ w.cell? ⟨g, 10, none⟩ = some a10 ∧ w.cell? ⟨g, 11, none⟩ = some a11 ∧ w.cell? ⟨g, 12, none⟩ = some a12 :=
  ⟨row_cell h 0, row_cell h 1, row_cell h 2, row_cell h 3, row_cell h 4, row_cell h 5, row_cell h 6, row_cell h 7, row_cell h 8, row_cell h 9, row_cell h 10, row_cell h 11, row_cell h 12⟩
theorem setRow_kp (w : World) (g : Nat) (cs : Array Value) : Kp (fun b => b = g) w (w.setRow g cs) :=
  ⟨rfl, rfl, rfl, by simp [World.setRow], fun b _ hN => by simp [World.setRow, Array.getElem?_modify, Ne.symm hN]⟩
theorem setRow_below {w W : World} {g : Nat} {cs : Array Value} (h : Below w.heap.size w W) (hg : w.heap.size ≤ g) : Below w.heap.size w (W.setRow g cs) := h.trans ((setRow_kp W g cs).below h.size (fun b hb e => by omega))
theorem commandOf_any (x : Sp) (id : Int) (w : World) : Calls Try.prog 24 #[.agg #[.int .u64 x.nm, .int .u32 x.mb, .int .i64 x.sd, .int .i64 x.ty, .int .i64 x.tr, .int .i64 x.pr, .int .u64 x.qt, .int .u64 x.pk], .int .u64 id] w fun e w' => e = .returned (.agg #[.int .i64 1, .int .u64 id, .int .u64 0, .int .u32 x.mb, .int .i64 x.sd, .int .i64 x.ty, .int .i64 x.pr, .int .u64 x.qt, .int .u64 x.pk]) ∧ Below w.heap.size w w' := by
  obtain ⟨R, hR⟩ : ∃ R, w.heap.size = R := ⟨_, rfl⟩
  obtain ⟨U0, hU0⟩ : ∃ U, w.alloc (.cells #[.int .u64 x.nm, .int .u32 x.mb, .int .i64 x.sd, .int .i64 x.ty, .int .i64 x.tr, .int .i64 x.pr, .int .u64 x.qt, .int .u64 x.pk] 27) = U := ⟨_, rfl⟩
  obtain ⟨W, hW⟩ : ∃ U, U0.alloc (.cells #[.int .i64 0, .int .u64 0, .int .u64 0, .int .u32 0, .int .i64 0, .int .i64 0, .int .i64 0, .int .u64 0, .int .u64 0] 73) = U := ⟨_, rfl⟩
  have s0 : U0.heap.size = R + 1 := by rw [← hU0]; simp [hR]
  have b0 : Below w.heap.size w U0 := by rw [← hU0]; exact ball _ _
  have b1 : Below U0.heap.size U0 W := by rw [← hW]; exact ball _ _
  have HBW := hid (btr b0 b1)
  have HR0 := hid (show W.heap[R]? = some (.cells #[.int .u64 x.nm, .int .u32 x.mb, .int .i64 x.sd, .int .i64 x.ty, .int .i64 x.tr, .int .i64 x.pr, .int .u64 x.qt, .int .u64 x.pk] 27 (0, 0)) from (row_on (by rw [← hU0, ← hR]; exact World.alloc_heap_new _ _) b1))
  have HR1 := hid (show W.heap[R + 1]? = some (.cells #[.int .i64 0, .int .u64 0, .int .u64 0, .int .u32 0, .int .i64 0, .int .i64 0, .int .i64 0, .int .u64 0, .int .u64 0] 73 (0, 0)) from (by rw [← hW, ← s0]; exact World.alloc_heap_new _ _))
  have HU0 := hid hU0
  have HW := hid hW
  have HRR := hid hR
  clear hR hU0 hW s0 b0 b1
  go_enter Try.func24, Try.ntmps24
  go_upto_region 1 with fail
  rw [HU0.out, HW.out, HRR.out]
  obtain ⟨a0, a1, a2, a3, a4, a5, a6, a7⟩ := row8 HR0.out
  have AI := hid (show (Try.prog.info? 73).map (·.size) = some (#[.int .i64 1, .int .u64 id, .int .u64 0, .int .u32 x.mb, .int .i64 x.sd, .int .i64 x.ty, .int .i64 x.pr, .int .u64 x.qt, .int .u64 x.pk] : Array Value).size from info73)
  have AS := hid (show (#[.int .i64 0, .int .u64 0, .int .u64 0, .int .u32 0, .int .i64 0, .int .i64 0, .int .i64 0, .int .u64 0, .int .u64 0] : Array Value).size = (#[.int .i64 1, .int .u64 id, .int .u64 0, .int .u32 x.mb, .int .i64 x.sd, .int .i64 x.ty, .int .i64 x.pr, .int .u64 x.qt, .int .u64 x.pk] : Array Value).size from rfl)
  have AA := hid (show (#[.int .i64 1, .int .u64 id, .int .u64 0, .int .u32 x.mb, .int .i64 x.sd, .int .i64 x.ty, .int .i64 x.pr, .int .u64 x.qt, .int .u64 x.pk] : Array Value).all (·.oneCell') = true from by simp [Value.oneCell'])
  go_wp2_with (refine wpList_store_row (by rfl) 73 (.tmp 4) (.tmp 18) (by rfl) (R + 1) #[.int .i64 1, .int .u64 id, .int .u64 0, .int .u32 x.mb, .int .i64 x.sd, .int .i64 x.ty, .int .i64 x.pr, .int .u64 x.qt, .int .u64 x.pk] (by rfl) (by rfl) 73 _ HR1.out AI.out AS.out AA.out ?_)
  refine bodyPost_ret (results_cell_row (fn := Try.f24) Try.results24 _ _ (R + 1) 73 #[.int .i64 1, .int .u64 id, .int .u64 0, .int .u32 x.mb, .int .i64 x.sd, .int .i64 x.ty, .int .i64 x.pr, .int .u64 x.qt, .int .u64 x.pk] (0, 0) _ (by rfl) (setRow_heap _ _ _ _ 73 (0, 0) HR1.out) Try.underlying73 rfl info73) rfl ⟨rfl, ?_⟩
  exact setRow_below HBW.out (by have := HRR.out; omega)
theorem eventOf_any (x : Sp) (r : Int) (w : World) : Calls Try.prog 15 #[.agg #[.int .u64 x.nm, .int .u32 x.mb, .int .i64 x.sd, .int .i64 x.ty, .int .i64 x.tr, .int .i64 x.pr, .int .u64 x.qt, .int .u64 x.pk], .int .i64 r] w fun e w' => e = .returned (.agg #[.int .u64 0, .int .i64 6, .int .u64 x.nm, .int .u64 0, .int .u64 (IntKind.u64.wrap x.tr), .int .u32 x.mb, .int .i64 x.sd, .int .i64 x.ty, .int .i64 x.pr, .int .u64 x.qt, .int .u64 x.pk, .int .i64 r, .int .i64 0]) ∧ Below w.heap.size w w' := by
  obtain ⟨R, hR⟩ : ∃ R, w.heap.size = R := ⟨_, rfl⟩
  obtain ⟨U0, hU0⟩ : ∃ U, w.alloc (.cells #[.int .u64 x.nm, .int .u32 x.mb, .int .i64 x.sd, .int .i64 x.ty, .int .i64 x.tr, .int .i64 x.pr, .int .u64 x.qt, .int .u64 x.pk] 27) = U := ⟨_, rfl⟩
  obtain ⟨W, hW⟩ : ∃ U, U0.alloc (.cells #[.int .u64 0, .int .i64 0, .int .u64 0, .int .u64 0, .int .u64 0, .int .u32 0, .int .i64 0, .int .i64 0, .int .i64 0, .int .u64 0, .int .u64 0, .int .i64 0, .int .i64 0] 38) = U := ⟨_, rfl⟩
  have s0 : U0.heap.size = R + 1 := by rw [← hU0]; simp [hR]
  have b0 : Below w.heap.size w U0 := by rw [← hU0]; exact ball _ _
  have b1 : Below U0.heap.size U0 W := by rw [← hW]; exact ball _ _
  have HBW := hid (btr b0 b1)
  have HR0 := hid (show W.heap[R]? = some (.cells #[.int .u64 x.nm, .int .u32 x.mb, .int .i64 x.sd, .int .i64 x.ty, .int .i64 x.tr, .int .i64 x.pr, .int .u64 x.qt, .int .u64 x.pk] 27 (0, 0)) from (row_on (by rw [← hU0, ← hR]; exact World.alloc_heap_new _ _) b1))
  have HR1 := hid (show W.heap[R + 1]? = some (.cells #[.int .u64 0, .int .i64 0, .int .u64 0, .int .u64 0, .int .u64 0, .int .u32 0, .int .i64 0, .int .i64 0, .int .i64 0, .int .u64 0, .int .u64 0, .int .i64 0, .int .i64 0] 38 (0, 0)) from (by rw [← hW, ← s0]; exact World.alloc_heap_new _ _))
  have HU0 := hid hU0
  have HW := hid hW
  have HRR := hid hR
  clear hR hU0 hW s0 b0 b1
  go_enter Try.func15, Try.ntmps15
  go_upto_region 1 with fail
  rw [HU0.out, HW.out, HRR.out]
  obtain ⟨a0, a1, a2, a3, a4, a5, a6, a7⟩ := row8 HR0.out
  have AI := hid (show (Try.prog.info? 38).map (·.size) = some (#[.int .u64 0, .int .i64 6, .int .u64 x.nm, .int .u64 0, .int .u64 (IntKind.u64.wrap x.tr), .int .u32 x.mb, .int .i64 x.sd, .int .i64 x.ty, .int .i64 x.pr, .int .u64 x.qt, .int .u64 x.pk, .int .i64 r, .int .i64 0] : Array Value).size from info38)
  have AS := hid (show (#[.int .u64 0, .int .i64 0, .int .u64 0, .int .u64 0, .int .u64 0, .int .u32 0, .int .i64 0, .int .i64 0, .int .i64 0, .int .u64 0, .int .u64 0, .int .i64 0, .int .i64 0] : Array Value).size = (#[.int .u64 0, .int .i64 6, .int .u64 x.nm, .int .u64 0, .int .u64 (IntKind.u64.wrap x.tr), .int .u32 x.mb, .int .i64 x.sd, .int .i64 x.ty, .int .i64 x.pr, .int .u64 x.qt, .int .u64 x.pk, .int .i64 r, .int .i64 0] : Array Value).size from rfl)
  have AA := hid (show (#[.int .u64 0, .int .i64 6, .int .u64 x.nm, .int .u64 0, .int .u64 (IntKind.u64.wrap x.tr), .int .u32 x.mb, .int .i64 x.sd, .int .i64 x.ty, .int .i64 x.pr, .int .u64 x.qt, .int .u64 x.pk, .int .i64 r, .int .i64 0] : Array Value).all (·.oneCell') = true from by simp [Value.oneCell'])
  go_wp2_with (refine wpList_store_row (by rfl) 38 (.tmp 4) (.tmp 23) (by rfl) (R + 1) #[.int .u64 0, .int .i64 6, .int .u64 x.nm, .int .u64 0, .int .u64 (IntKind.u64.wrap x.tr), .int .u32 x.mb, .int .i64 x.sd, .int .i64 x.ty, .int .i64 x.pr, .int .u64 x.qt, .int .u64 x.pk, .int .i64 r, .int .i64 0] (by rfl) (by rfl) 38 _ HR1.out AI.out AS.out AA.out ?_)
  refine bodyPost_ret (results_cell_row (fn := Try.f15) Try.results15 _ _ (R + 1) 38 #[.int .u64 0, .int .i64 6, .int .u64 x.nm, .int .u64 0, .int .u64 (IntKind.u64.wrap x.tr), .int .u32 x.mb, .int .i64 x.sd, .int .i64 x.ty, .int .i64 x.pr, .int .u64 x.qt, .int .u64 x.pk, .int .i64 r, .int .i64 0] (0, 0) _ (by rfl) (setRow_heap _ _ _ _ 38 (0, 0) HR1.out) Try.underlying38 rfl info38) rfl ⟨rfl, ?_⟩
  exact setRow_below HBW.out (by have := HRR.out; omega)
theorem isTick_any (p : Int) (w : World) : Calls Try.prog 28 #[.int .i64 p] w fun e w' => e = .returned (.bool (isPr p)) ∧ w' = w := by
  by_cases h : 0 ≤ p
  · have h1 : decide (0 ≤ p) = true := by simpa using h
    go_enter Try.func28, Try.ntmps28
    go_wp2
    go_ret
    exact ⟨by simp [isPr, h], rfl⟩
  · have h1 : decide (0 ≤ p) = false := by simpa using h
    go_enter Try.func28, Try.ntmps28
    go_wp2
    go_ret
    exact ⟨by simp [isPr, show ¬ 0 ≤ p by omega], rfl⟩
/-- what a stop order is refused for, by itself. -/
def ckS (x : Sp) : Int := if chk (cmd x 1) ≠ 0 then chk (cmd x 1) else if isPr x.tr = false then 131 else 0
theorem ckS_any (x : Sp) (w : World) (hx : SpOk x) : Calls Try.prog 21 #[.agg #[.int .u64 x.nm, .int .u32 x.mb, .int .i64 x.sd, .int .i64 x.ty, .int .i64 x.tr, .int .i64 x.pr, .int .u64 x.qt, .int .u64 x.pk]] w fun e w' => e = .returned (.int .i64 (ckS x)) ∧ Below w.heap.size w w' := by
  have C1 := hid (fun (U : World) => commandOf_any x 1 U)
  have C2 := hid (fun (U : World) => check_any (cmd x 1) U ⟨by show (0 : Int) ≤ 1; decide, by show (1 : Int) < 18446744073709551616; decide, hx.mb0, hx.mb1, hx.qt0, hx.qt1, hx.pk0, hx.pk1⟩)
  have C3 := hid (fun (U : World) => isTick_any x.tr U)
  unfold cmr at C2
  simp only [cmd] at C2
  unfold ckS
  obtain ⟨y, hy⟩ : ∃ y, chk (cmd x 1) = y := ⟨_, rfl⟩
  have hy' : chk ⟨1, 1, 0, x.mb, x.sd, x.ty, x.pr, x.qt, x.pk⟩ = y := hy
  rw [hy'] at C2
  rw [hy]
  clear hy hy' hx
  obtain ⟨v, hv⟩ : ∃ v, isPr x.tr = v := ⟨_, rfl⟩
  rw [hv] at C3 ⊢
  clear hv
  obtain ⟨R, hR⟩ : ∃ R, w.heap.size = R := ⟨_, rfl⟩
  obtain ⟨W, hW⟩ : ∃ U, w.alloc (.cells #[.int .u64 x.nm, .int .u32 x.mb, .int .i64 x.sd, .int .i64 x.ty, .int .i64 x.tr, .int .i64 x.pr, .int .u64 x.qt, .int .u64 x.pk] 27) = U := ⟨_, rfl⟩
  have b0 : Below w.heap.size w W := by rw [← hW]; exact ball _ _
  have HBW := hid b0
  have HR0 := hid (show W.heap[R]? = some (.cells #[.int .u64 x.nm, .int .u32 x.mb, .int .i64 x.sd, .int .i64 x.ty, .int .i64 x.tr, .int .i64 x.pr, .int .u64 x.qt, .int .u64 x.pk] 27 (0, 0)) from (by rw [← hW, ← hR]; exact World.alloc_heap_new _ _))
  have HW := hid hW
  have HRR := hid hR
  clear hR hW  b0
  by_cases y0 : y = 0
  · subst y0
    rw [if_neg (by simp)]
    have HCE := hid (fun (U : World) (hU : Below W.heap.size W U) => row8 (row_on HR0.out hU))
    cases v with
    | false =>
      go_enter Try.func21, Try.ntmps21
      go_upto_region 1 with fail
      rw [HW.out, HRR.out]
      obtain ⟨a0, a1, a2, a3, a4, a5, a6, a7⟩ := HCE.out W (Below.refl _ _)
      go_upto_region 2 with (first | (go_at_call 24; with_reducible refine (C1.out _).mono ?_; rintro e w1 ⟨rfl, hb1⟩; have HB1 := hid hb1; clear hb1) | (go_at_call 27; with_reducible refine (C2.out _).mono ?_; rintro e w2 ⟨rfl, hb2⟩; have HB2 := hid hb2; clear hb2))
      clear a0 a1 a2 a3 a4 a5 a6 a7
      obtain ⟨a0, a1, a2, a3, a4, a5, a6, a7⟩ := HCE.out w2 (btr HB1.out HB2.out)
      go_wp2_with (go_at_call 28; with_reducible refine (C3.out _).mono ?_; rintro e w3 ⟨rfl, rfl⟩)
      go_ret
      exact ⟨rfl, btr (btr HBW.out HB1.out) HB2.out⟩
    | true =>
      go_enter Try.func21, Try.ntmps21
      go_upto_region 1 with fail
      rw [HW.out, HRR.out]
      obtain ⟨a0, a1, a2, a3, a4, a5, a6, a7⟩ := HCE.out W (Below.refl _ _)
      go_upto_region 2 with (first | (go_at_call 24; with_reducible refine (C1.out _).mono ?_; rintro e w1 ⟨rfl, hb1⟩; have HB1 := hid hb1; clear hb1) | (go_at_call 27; with_reducible refine (C2.out _).mono ?_; rintro e w2 ⟨rfl, hb2⟩; have HB2 := hid hb2; clear hb2))
      clear a0 a1 a2 a3 a4 a5 a6 a7
      obtain ⟨a0, a1, a2, a3, a4, a5, a6, a7⟩ := HCE.out w2 (btr HB1.out HB2.out)
      go_wp2_with (go_at_call 28; with_reducible refine (C3.out _).mono ?_; rintro e w3 ⟨rfl, rfl⟩)
      go_ret
      exact ⟨rfl, btr (btr HBW.out HB1.out) HB2.out⟩
  · have y0' : (y != 0) = true := by simpa using y0
    rw [if_pos y0]
    obtain ⟨a0, a1, a2, a3, a4, a5, a6, a7⟩ := row8 HR0.out
    clear y0
    go_enter Try.func21, Try.ntmps21
    go_upto_region 1 with fail
    rw [HW.out, HRR.out]
    go_wp2_with (first | (go_at_call 24; with_reducible refine (C1.out _).mono ?_; rintro e w1 ⟨rfl, hb1⟩; have HB1 := hid hb1; clear hb1) | (go_at_call 27; with_reducible refine (C2.out _).mono ?_; rintro e w2 ⟨rfl, hb2⟩; have HB2 := hid hb2; clear hb2))
    go_ret
    exact ⟨rfl, btr (btr HBW.out HB1.out) HB2.out⟩
end Go.Proofs.Ytnaekdfpdlkkcaa
