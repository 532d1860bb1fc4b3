/-
  Contracts and plain facts, part 3.
-/
import Derived.Test.YtacdjioieclggaaDoorZb
namespace Go.Proofs.YtacdjioieclggaaDoor.Msg
open Go.RowKit Go.Maps Go.Deep Go.Lib
set_option linter.unusedVariables false
set_option linter.unusedSimpArgs false
structure SyE (w : World) (I : Array Value) (s : Nat) (f : Int → Int) (wr : World) : Prop where
  i : wr.heap[w.heap.size]? = some (.cells I 30 (0, 0))
  z : wr.heap[w.heap.size + 1]? = some (.cells #[.int .u8 0, .map none] 61 (0, 0))
  m : Fm wr (w.heap.size + 1 + 1) s f
  b : Below w.heap.size w wr
theorem SyE.step {w wr w' : World} {I : Array Value} {s : Nat} {f g : Int → Int} (h : SyE w I s f wr) (hg : wr.grownBy w' (some (w.heap.size + 1 + 1))) (hF : Fm w' (w.heap.size + 1 + 1) (s + 1) g) : SyE w I (s + 1) g w' :=
  ⟨row_grown h.i hg (by omega), row_grown h.z hg (by omega), hF, h.b.grown hg h.b.size (fun i hi => by cases hi; omega)⟩
theorem sye0 (w : World) (I : Array Value) : SyE w I 0 (fun _ => 0) (((w.alloc (.cells I 30)).alloc (.cells #[.int .u8 0, .map none] 61)).alloc (.map #[] 0)) := by
  refine ⟨row_on (row_on (heap_alloc_new _ _) (ball _ _)) (ball _ _), row_on (heap2 _ _ _) (ball _ _), ?_, btr (btr (ball _ _) (ball _ _)) (ball _ _)⟩
  have := Fm.made ((w.alloc (.cells I 30)).alloc (.cells #[.int .u8 0, .map none] 61))
  rw [alloc_size, alloc_size] at this
  exact this
/-- the fields of an event, by their tags. -/
def evF (sq id ot tg me si ty pr qt pe re co : Int) : Int → Int := (upd (upd (upd (upd (upd (upd (upd (upd (upd (upd (upd (upd (fun _ => 0) 34 sq) 11 id) 37 ot) 41 tg) 1 me) 54 (u64 si)) 40 (u64 ty)) 44 (u64 pr)) 38 qt) 210 pe) 378 (u64 re)) 103 (u64 co))
theorem eV_inj {x0 x1 x2 x3 x4 x5 x6 x7 x8 x9 x10 x11 x12 y0 y1 y2 y3 y4 y5 y6 y7 y8 y9 y10 y11 y12 : Int} (h : eV x0 x1 x2 x3 x4 x5 x6 x7 x8 x9 x10 x11 x12 = eV y0 y1 y2 y3 y4 y5 y6 y7 y8 y9 y10 y11 y12) : x0 = y0 ∧ x1 = y1 ∧ x2 = y2 ∧ x3 = y3 ∧ x4 = y4 ∧ x5 = y5 ∧ x6 = y6 ∧ x7 = y7 ∧ x8 = y8 ∧ x9 = y9 ∧ x10 = y10 ∧ x11 = y11 ∧ x12 = y12 := by
  simpa [eV] using h
theorem eqE_yes (x0 x1 x2 x3 x4 x5 x6 x7 x8 x9 x10 x11 x12 y0 y1 y2 y3 y4 y5 y6 y7 y8 y9 y10 y11 y12 : Int) (h : eV x0 x1 x2 x3 x4 x5 x6 x7 x8 x9 x10 x11 x12 = eV y0 y1 y2 y3 y4 y5 y6 y7 y8 y9 y10 y11 y12) (w : World) :
    (Op.equalIn 10000 30 (.agg (eV x0 x1 x2 x3 x4 x5 x6 x7 x8 x9 x10 x11 x12)) (.agg (eV y0 y1 y2 y3 y4 y5 y6 y7 y8 y9 y10 y11 y12))).run Tryd.prog w = .ok true w := by
  rw [eqE]
  obtain ⟨rfl, rfl, rfl, rfl, rfl, rfl, rfl, rfl, rfl, rfl, rfl, rfl, rfl⟩ := eV_inj h
  simp
theorem eqE_no (x0 x1 x2 x3 x4 x5 x6 x7 x8 x9 x10 x11 x12 y0 y1 y2 y3 y4 y5 y6 y7 y8 y9 y10 y11 y12 : Int) (h : ¬ eV x0 x1 x2 x3 x4 x5 x6 x7 x8 x9 x10 x11 x12 = eV y0 y1 y2 y3 y4 y5 y6 y7 y8 y9 y10 y11 y12) (w : World) :
    (Op.equalIn 10000 30 (.agg (eV x0 x1 x2 x3 x4 x5 x6 x7 x8 x9 x10 x11 x12)) (.agg (eV y0 y1 y2 y3 y4 y5 y6 y7 y8 y9 y10 y11 y12))).run Tryd.prog w = .ok false w := by
  rw [eqE]
  congr 1
  rw [Bool.eq_false_iff]
  intro e
  apply h
  simp only [Bool.and_eq_true, beq_iff_eq] at e
  obtain ⟨rfl, rfl, rfl, rfl, rfl, rfl, rfl, rfl, rfl, rfl, rfl, rfl, rfl, _⟩ := e
  rfl
theorem evtV_form (k : Int) (f : Int → Int) : ∃ y0 y1 y2 y3 y4 y5 y6 y7 y8 y9 y10 y11 y12, evtV k f = eV y0 y1 y2 y3 y4 y5 y6 y7 y8 y9 y10 y11 y12 := ⟨_, _, _, _, _, _, _, _, _, _, _, _, _, rfl⟩
theorem cells_E {w : World} {g : Nat} {x0 x1 x2 x3 x4 x5 x6 x7 x8 x9 x10 x11 x12 : Int} (h : w.heap[g]? = some (.cells (eV x0 x1 x2 x3 x4 x5 x6 x7 x8 x9 x10 x11 x12) 30 (0, 0))) : w.cell? ⟨g, 0, none⟩ = some (.int .u64 x0) ∧ w.cell? ⟨g, 1, none⟩ = some (.int .i64 x1) ∧ w.cell? ⟨g, 2, none⟩ = some (.int .u64 x2) ∧ w.cell? ⟨g, 3, none⟩ = some (.int .u64 x3) ∧ w.cell? ⟨g, 4, none⟩ = some (.int .u64 x4) ∧ w.cell? ⟨g, 5, none⟩ = some (.int .u32 x5) ∧ w.cell? ⟨g, 6, none⟩ = some (.int .i64 x6) ∧ w.cell? ⟨g, 7, none⟩ = some (.int .i64 x7) ∧ w.cell? ⟨g, 8, none⟩ = some (.int .i64 x8) ∧ w.cell? ⟨g, 9, none⟩ = some (.int .u64 x9) ∧ w.cell? ⟨g, 10, none⟩ = some (.int .u64 x10) ∧ w.cell? ⟨g, 11, none⟩ = some (.int .i64 x11) ∧ w.cell? ⟨g, 12, none⟩ = some (.int .i64 x12) :=
  ⟨row_cell h 0, row_cell h 1, row_cell h 2, row_cell h 3, row_cell h 4, row_cell h 5, row_cell h 6, row_cell h 7, row_cell h 8, row_cell h 9, row_cell h 10, row_cell h 11, row_cell h 12⟩
set_option maxHeartbeats 2000000 in
set_option maxRecDepth 100000 in
theorem sayE_out (sq kd id ot tg me si ty pr qt pe re co : Int) (w : World) (h1 : 1 ≤ kd) (h5 : kd ≤ 5) (hsq : Wd sq) (hid0 : Wd id) (hot : Wd ot) (htg : Wd tg) (hme : 0 ≤ me ∧ me < 4294967296) (hqt : Wd qt) (hpe : Wd pe) (hout : inB (tagsL (64 + kd)) (evF sq id ot tg me si ty pr qt pe re co) = false) :
    Calls Tryd.prog 31 #[.agg (eV sq kd id ot tg me si ty pr qt pe re co)] w fun e w' => e = .returned (.tuple #[.agg #[.int .u8 0, .map none], .int .i64 40]) ∧ Below w.heap.size w w' := by
  have SY0 := hid (sye0 w (eV sq kd id ot tg me si ty pr qt pe re co))
  have HW0 := hsq
  have HW1 := hid0
  have HW2 := hot
  have HW3 := htg
  have HW4 : Wd me := ⟨hme.1, by omega⟩
  have HW5 := u64_wd si
  have HW6 := u64_wd ty
  have HW7 := u64_wd pr
  have HW8 := hqt
  have HW9 := hpe
  have HW10 := u64_wd re
  have HW11 := u64_wd co
  have hcv : kd % 256 = kd := by omega
  have hc2 : IntKind.u8.wrap (64 + kd) = 64 + kd := by rw [IntKind.wrap_u8]; omega
  have PI := hid (pick_no (64 + kd) (evF sq id ot tg me si ty pr qt pe re co) hout)
  clear hout
  have hmm := @run_makeMap Tryd.prog
  unfold eV at *
  go_enter Tryd.func31, Tryd.ntmps31
  go_wp2_with (first | (refine wpList_fm_put _ (by rfl) _ _ _ (Or.inr (by rfl)) (w.heap.size + 1 + 1) 0 _ 34 sq (by rfl) (by rfl) (by rfl) SY0.out.m (by decide) (by decide) HW0 ?_; intro w1 hF hg; have SY1 := hid (SyE.step SY0.out hg hF); clear hF hg; refine Hid.out ?_))
  refine hid ?_
  clear SY0
  have cc : w1.cell? ⟨w.heap.size, 2, none⟩ = some (.int .u64 id) := row_cell SY1.out.i 2
  go_wp2_with (first | (refine wpList_fm_put _ (by rfl) _ _ _ (Or.inr (by rfl)) (w.heap.size + 1 + 1) 1 _ 11 id (by rfl) (by rfl) (by rfl) SY1.out.m (by decide) (by decide) HW1 ?_; intro w2 hF hg; have SY2 := hid (SyE.step SY1.out hg hF); clear hF hg; refine Hid.out ?_))
  refine hid ?_
  clear cc SY1
  have cc : w2.cell? ⟨w.heap.size, 3, none⟩ = some (.int .u64 ot) := row_cell SY2.out.i 3
  go_wp2_with (first | (refine wpList_fm_put _ (by rfl) _ _ _ (Or.inr (by rfl)) (w.heap.size + 1 + 1) 2 _ 37 ot (by rfl) (by rfl) (by rfl) SY2.out.m (by decide) (by decide) HW2 ?_; intro w3 hF hg; have SY3 := hid (SyE.step SY2.out hg hF); clear hF hg; refine Hid.out ?_))
  refine hid ?_
  clear cc SY2
  have cc : w3.cell? ⟨w.heap.size, 4, none⟩ = some (.int .u64 tg) := row_cell SY3.out.i 4
  go_wp2_with (first | (refine wpList_fm_put _ (by rfl) _ _ _ (Or.inr (by rfl)) (w.heap.size + 1 + 1) 3 _ 41 tg (by rfl) (by rfl) (by rfl) SY3.out.m (by decide) (by decide) HW3 ?_; intro w4 hF hg; have SY4 := hid (SyE.step SY3.out hg hF); clear hF hg; refine Hid.out ?_))
  refine hid ?_
  clear cc SY3
  have cc : w4.cell? ⟨w.heap.size, 5, none⟩ = some (.int .u32 me) := row_cell SY4.out.i 5
  go_wp2_with (first | (refine wpList_fm_put _ (by rfl) _ _ _ (Or.inr (by rfl)) (w.heap.size + 1 + 1) 4 _ 1 me (by rfl) (by rfl) (by rfl) SY4.out.m (by decide) (by decide) HW4 ?_; intro w5 hF hg; have SY5 := hid (SyE.step SY4.out hg hF); clear hF hg; refine Hid.out ?_))
  refine hid ?_
  clear cc SY4
  have cc : w5.cell? ⟨w.heap.size, 6, none⟩ = some (.int .i64 si) := row_cell SY5.out.i 6
  go_wp2_with (first | (refine wpList_fm_put _ (by rfl) _ _ _ (Or.inr (by rfl)) (w.heap.size + 1 + 1) 5 _ 54 (u64 si) (by rfl) (by rfl) (by rfl) SY5.out.m (by decide) (by decide) HW5 ?_; intro w6 hF hg; have SY6 := hid (SyE.step SY5.out hg hF); clear hF hg; refine Hid.out ?_))
  refine hid ?_
  clear cc SY5
  have cc : w6.cell? ⟨w.heap.size, 7, none⟩ = some (.int .i64 ty) := row_cell SY6.out.i 7
  go_wp2_with (first | (refine wpList_fm_put _ (by rfl) _ _ _ (Or.inr (by rfl)) (w.heap.size + 1 + 1) 6 _ 40 (u64 ty) (by rfl) (by rfl) (by rfl) SY6.out.m (by decide) (by decide) HW6 ?_; intro w7 hF hg; have SY7 := hid (SyE.step SY6.out hg hF); clear hF hg; refine Hid.out ?_))
  refine hid ?_
  clear cc SY6
  have cc : w7.cell? ⟨w.heap.size, 8, none⟩ = some (.int .i64 pr) := row_cell SY7.out.i 8
  go_wp2_with (first | (refine wpList_fm_put _ (by rfl) _ _ _ (Or.inr (by rfl)) (w.heap.size + 1 + 1) 7 _ 44 (u64 pr) (by rfl) (by rfl) (by rfl) SY7.out.m (by decide) (by decide) HW7 ?_; intro w8 hF hg; have SY8 := hid (SyE.step SY7.out hg hF); clear hF hg; refine Hid.out ?_))
  refine hid ?_
  clear cc SY7
  have cc : w8.cell? ⟨w.heap.size, 9, none⟩ = some (.int .u64 qt) := row_cell SY8.out.i 9
  go_wp2_with (first | (refine wpList_fm_put _ (by rfl) _ _ _ (Or.inr (by rfl)) (w.heap.size + 1 + 1) 8 _ 38 qt (by rfl) (by rfl) (by rfl) SY8.out.m (by decide) (by decide) HW8 ?_; intro w9 hF hg; have SY9 := hid (SyE.step SY8.out hg hF); clear hF hg; refine Hid.out ?_))
  refine hid ?_
  clear cc SY8
  have cc : w9.cell? ⟨w.heap.size, 10, none⟩ = some (.int .u64 pe) := row_cell SY9.out.i 10
  go_wp2_with (first | (refine wpList_fm_put _ (by rfl) _ _ _ (Or.inr (by rfl)) (w.heap.size + 1 + 1) 9 _ 210 pe (by rfl) (by rfl) (by rfl) SY9.out.m (by decide) (by decide) HW9 ?_; intro w10 hF hg; have SY10 := hid (SyE.step SY9.out hg hF); clear hF hg; refine Hid.out ?_))
  refine hid ?_
  clear cc SY9
  have cc : w10.cell? ⟨w.heap.size, 11, none⟩ = some (.int .i64 re) := row_cell SY10.out.i 11
  go_wp2_with (first | (refine wpList_fm_put _ (by rfl) _ _ _ (Or.inr (by rfl)) (w.heap.size + 1 + 1) 10 _ 378 (u64 re) (by rfl) (by rfl) (by rfl) SY10.out.m (by decide) (by decide) HW10 ?_; intro w11 hF hg; have SY11 := hid (SyE.step SY10.out hg hF); clear hF hg; refine Hid.out ?_))
  refine hid ?_
  clear cc SY10
  have cc : w11.cell? ⟨w.heap.size, 12, none⟩ = some (.int .i64 co) := row_cell SY11.out.i 12
  go_wp2_with (first | (refine wpList_fm_put _ (by rfl) _ _ _ (Or.inr (by rfl)) (w.heap.size + 1 + 1) 11 _ 103 (u64 co) (by rfl) (by rfl) (by rfl) SY11.out.m (by decide) (by decide) HW11 ?_; intro w12 hF hg; have SY12 := hid (SyE.step SY11.out hg hF); clear hF hg; refine Hid.out ?_))
  refine hid ?_
  clear cc SY11
  go_wp2_with (first | (go_at_call 49; refine (PI.out _ _ _ SY12.out.m).mono ?_; rintro e w20 ⟨rfl, hb⟩; have HB10 := hid hb; clear hb; refine Hid.out ?_))
  have HZ := hid (show ∀ o, (w20.alloc o).heap[w.heap.size + 1]? = some (.cells #[.int .u8 0, .map none] 61 (0, 0)) from fun o => row_on (row_on SY12.out.z HB10.out) (ball _ _))
  have HB := hid (btr SY12.out.b (HB10.out.mono (Nat.le_refl _)))
  clear SY12 HB10
  refine hid ?_
  go_wp2
  go_quiet (fail)
  go_wp2_with (first | (refine wpList_st (by rfl) 61 (.tmp 2) (.tmp 63) (by rfl) (w.heap.size + 1) #[.int .u8 0, .map none] (by rfl) (by rfl) 61 #[.int .u8 0, .map none] (HZ.out _) info46 rfl (by simp [Value.oneCell']) ?_; intro w3 hst; have HST := hid hst; clear hst; refine Hid.out ?_))
  refine hid ?_
  go_wp2
  exact bodyPost_ret (res46 Tryd.f31 2 3 Tryd.results31 _ _ (w.heap.size + 1) #[.int .u8 0, .map none] _ (by rfl) (by rfl) HST.out.row info46) rfl ⟨rfl, HST.out.bel _ _ (below_drewN (btr HB.out (ball _ _)) _) (by omega)⟩
set_option maxHeartbeats 2000000 in
set_option maxRecDepth 100000 in
theorem sayE_no (sq kd id ot tg me si ty pr qt pe re co : Int) (w : World) (h1 : 1 ≤ kd) (h5 : kd ≤ 5) (hsq : Wd sq) (hid0 : Wd id) (hot : Wd ot) (htg : Wd tg) (hme : 0 ≤ me ∧ me < 4294967296) (hqt : Wd qt) (hpe : Wd pe) (hin : inB (tagsL (64 + kd)) (evF sq id ot tg me si ty pr qt pe re co) = true) (hto : ¬ evtV (64 + kd) (only (tagsL (64 + kd)) (evF sq id ot tg me si ty pr qt pe re co)) = eV sq kd id ot tg me si ty pr qt pe re co) :
    Calls Tryd.prog 31 #[.agg (eV sq kd id ot tg me si ty pr qt pe re co)] w fun e w' => e = .returned (.tuple #[.agg #[.int .u8 0, .map none], .int .i64 40]) ∧ Below w.heap.size w w' := by
  have SY0 := hid (sye0 w (eV sq kd id ot tg me si ty pr qt pe re co))
  have HW0 := hsq
  have HW1 := hid0
  have HW2 := hot
  have HW3 := htg
  have HW4 : Wd me := ⟨hme.1, by omega⟩
  have HW5 := u64_wd si
  have HW6 := u64_wd ty
  have HW7 := u64_wd pr
  have HW8 := hqt
  have HW9 := hpe
  have HW10 := u64_wd re
  have HW11 := u64_wd co
  have hcv : kd % 256 = kd := by omega
  have hc2 : IntKind.u8.wrap (64 + kd) = 64 + kd := by rw [IntKind.wrap_u8]; omega
  have PI := hid (pick_yes (64 + kd) (evF sq id ot tg me si ty pr qt pe re co) hin)
  obtain ⟨y0, y1, y2, y3, y4, y5, y6, y7, y8, y9, y10, y11, y12, hy⟩ := evtV_form (64 + kd) (only (tagsL (64 + kd)) (evF sq id ot tg me si ty pr qt pe re co))
  have IN := hid (fun b n w => event_any (64 + kd) b n (only (tagsL (64 + kd)) (evF sq id ot tg me si ty pr qt pe re co)) w (by omega) (by omega))
  rw [hy] at hto IN
  have q := eqE_no y0 y1 y2 y3 y4 y5 y6 y7 y8 y9 y10 y11 y12 sq kd id ot tg me si ty pr qt pe re co hto
  obtain ⟨F, hF⟩ : ∃ F, only (tagsL (64 + kd)) (evF sq id ot tg me si ty pr qt pe re co) = F := ⟨_, rfl⟩
  rw [hF] at PI IN
  have HFF := hid hF
  clear hin hy hto hF
  have hmm := @run_makeMap Tryd.prog
  unfold eV at *
  go_enter Tryd.func31, Tryd.ntmps31
  go_wp2_with (first | (refine wpList_fm_put _ (by rfl) _ _ _ (Or.inr (by rfl)) (w.heap.size + 1 + 1) 0 _ 34 sq (by rfl) (by rfl) (by rfl) SY0.out.m (by decide) (by decide) HW0 ?_; intro w1 hF hg; have SY1 := hid (SyE.step SY0.out hg hF); clear hF hg; refine Hid.out ?_))
  refine hid ?_
  clear SY0
  have cc : w1.cell? ⟨w.heap.size, 2, none⟩ = some (.int .u64 id) := row_cell SY1.out.i 2
  go_wp2_with (first | (refine wpList_fm_put _ (by rfl) _ _ _ (Or.inr (by rfl)) (w.heap.size + 1 + 1) 1 _ 11 id (by rfl) (by rfl) (by rfl) SY1.out.m (by decide) (by decide) HW1 ?_; intro w2 hF hg; have SY2 := hid (SyE.step SY1.out hg hF); clear hF hg; refine Hid.out ?_))
  refine hid ?_
  clear cc SY1
  have cc : w2.cell? ⟨w.heap.size, 3, none⟩ = some (.int .u64 ot) := row_cell SY2.out.i 3
  go_wp2_with (first | (refine wpList_fm_put _ (by rfl) _ _ _ (Or.inr (by rfl)) (w.heap.size + 1 + 1) 2 _ 37 ot (by rfl) (by rfl) (by rfl) SY2.out.m (by decide) (by decide) HW2 ?_; intro w3 hF hg; have SY3 := hid (SyE.step SY2.out hg hF); clear hF hg; refine Hid.out ?_))
  refine hid ?_
  clear cc SY2
  have cc : w3.cell? ⟨w.heap.size, 4, none⟩ = some (.int .u64 tg) := row_cell SY3.out.i 4
  go_wp2_with (first | (refine wpList_fm_put _ (by rfl) _ _ _ (Or.inr (by rfl)) (w.heap.size + 1 + 1) 3 _ 41 tg (by rfl) (by rfl) (by rfl) SY3.out.m (by decide) (by decide) HW3 ?_; intro w4 hF hg; have SY4 := hid (SyE.step SY3.out hg hF); clear hF hg; refine Hid.out ?_))
  refine hid ?_
  clear cc SY3
  have cc : w4.cell? ⟨w.heap.size, 5, none⟩ = some (.int .u32 me) := row_cell SY4.out.i 5
  go_wp2_with (first | (refine wpList_fm_put _ (by rfl) _ _ _ (Or.inr (by rfl)) (w.heap.size + 1 + 1) 4 _ 1 me (by rfl) (by rfl) (by rfl) SY4.out.m (by decide) (by decide) HW4 ?_; intro w5 hF hg; have SY5 := hid (SyE.step SY4.out hg hF); clear hF hg; refine Hid.out ?_))
  refine hid ?_
  clear cc SY4
  have cc : w5.cell? ⟨w.heap.size, 6, none⟩ = some (.int .i64 si) := row_cell SY5.out.i 6
  go_wp2_with (first | (refine wpList_fm_put _ (by rfl) _ _ _ (Or.inr (by rfl)) (w.heap.size + 1 + 1) 5 _ 54 (u64 si) (by rfl) (by rfl) (by rfl) SY5.out.m (by decide) (by decide) HW5 ?_; intro w6 hF hg; have SY6 := hid (SyE.step SY5.out hg hF); clear hF hg; refine Hid.out ?_))
  refine hid ?_
  clear cc SY5
  have cc : w6.cell? ⟨w.heap.size, 7, none⟩ = some (.int .i64 ty) := row_cell SY6.out.i 7
  go_wp2_with (first | (refine wpList_fm_put _ (by rfl) _ _ _ (Or.inr (by rfl)) (w.heap.size + 1 + 1) 6 _ 40 (u64 ty) (by rfl) (by rfl) (by rfl) SY6.out.m (by decide) (by decide) HW6 ?_; intro w7 hF hg; have SY7 := hid (SyE.step SY6.out hg hF); clear hF hg; refine Hid.out ?_))
  refine hid ?_
  clear cc SY6
  have cc : w7.cell? ⟨w.heap.size, 8, none⟩ = some (.int .i64 pr) := row_cell SY7.out.i 8
  go_wp2_with (first | (refine wpList_fm_put _ (by rfl) _ _ _ (Or.inr (by rfl)) (w.heap.size + 1 + 1) 7 _ 44 (u64 pr) (by rfl) (by rfl) (by rfl) SY7.out.m (by decide) (by decide) HW7 ?_; intro w8 hF hg; have SY8 := hid (SyE.step SY7.out hg hF); clear hF hg; refine Hid.out ?_))
  refine hid ?_
  clear cc SY7
  have cc : w8.cell? ⟨w.heap.size, 9, none⟩ = some (.int .u64 qt) := row_cell SY8.out.i 9
  go_wp2_with (first | (refine wpList_fm_put _ (by rfl) _ _ _ (Or.inr (by rfl)) (w.heap.size + 1 + 1) 8 _ 38 qt (by rfl) (by rfl) (by rfl) SY8.out.m (by decide) (by decide) HW8 ?_; intro w9 hF hg; have SY9 := hid (SyE.step SY8.out hg hF); clear hF hg; refine Hid.out ?_))
  refine hid ?_
  clear cc SY8
  have cc : w9.cell? ⟨w.heap.size, 10, none⟩ = some (.int .u64 pe) := row_cell SY9.out.i 10
  go_wp2_with (first | (refine wpList_fm_put _ (by rfl) _ _ _ (Or.inr (by rfl)) (w.heap.size + 1 + 1) 9 _ 210 pe (by rfl) (by rfl) (by rfl) SY9.out.m (by decide) (by decide) HW9 ?_; intro w10 hF hg; have SY10 := hid (SyE.step SY9.out hg hF); clear hF hg; refine Hid.out ?_))
  refine hid ?_
  clear cc SY9
  have cc : w10.cell? ⟨w.heap.size, 11, none⟩ = some (.int .i64 re) := row_cell SY10.out.i 11
  go_wp2_with (first | (refine wpList_fm_put _ (by rfl) _ _ _ (Or.inr (by rfl)) (w.heap.size + 1 + 1) 10 _ 378 (u64 re) (by rfl) (by rfl) (by rfl) SY10.out.m (by decide) (by decide) HW10 ?_; intro w11 hF hg; have SY11 := hid (SyE.step SY10.out hg hF); clear hF hg; refine Hid.out ?_))
  refine hid ?_
  clear cc SY10
  have cc : w11.cell? ⟨w.heap.size, 12, none⟩ = some (.int .i64 co) := row_cell SY11.out.i 12
  go_wp2_with (first | (refine wpList_fm_put _ (by rfl) _ _ _ (Or.inr (by rfl)) (w.heap.size + 1 + 1) 11 _ 103 (u64 co) (by rfl) (by rfl) (by rfl) SY11.out.m (by decide) (by decide) HW11 ?_; intro w12 hF hg; have SY12 := hid (SyE.step SY11.out hg hF); clear hF hg; refine Hid.out ?_))
  refine hid ?_
  clear cc SY11
  go_wp2_with (first | (go_at_call 49; refine (PI.out _ _ _ SY12.out.m).mono ?_; rintro e w20 ⟨b', n', rfl, hb2, hF10, hb⟩; have HB10 := hid hb; have HF10 := hid hF10; clear hb hF10; refine Hid.out ?_))
  have HZ := hid (show (w20.alloc (.cells #[.int .u8 (64 + kd), .map (some b')] 61)).heap[w.heap.size + 1]? = some (.cells #[.int .u8 0, .map none] 61 (0, 0)) from row_on (row_on SY12.out.z HB10.out) (ball _ _))
  have HI := hid (show (w20.alloc (.cells #[.int .u8 (64 + kd), .map (some b')] 61)).heap[w.heap.size]? = some (.cells (eV sq kd id ot tg me si ty pr qt pe re co) 30 (0, 0)) from row_on (row_on SY12.out.i HB10.out) (ball _ _))
  have HB := hid (show Below w.heap.size w (w20.alloc (.cells #[.int .u8 (64 + kd), .map (some b')] 61)) from btr (btr SY12.out.b HB10.out) (ball _ _))
  have HF := hid (HF10.out.alloc (.cells #[.int .u8 (64 + kd), .map (some b')] 61))
  have HR := hid (show (w20.alloc (.cells #[.int .u8 (64 + kd), .map (some b')] 61)).heap[w20.heap.size]? = some (.cells #[.int .u8 (64 + kd), .map (some b')] 61 (0, 0)) from heap_alloc_new _ _)
  have hbz : b' ≠ w.heap.size + 1 := by
    have h1 := SY12.out.m.lt
    omega
  clear SY12 HB10 HF10
  refine hid ?_
  go_wp2
  obtain ⟨w11, hw11⟩ : ∃ x, w20.alloc (.cells #[.int .u8 (64 + kd), .map (some b')] 61) = x := ⟨_, rfl⟩
  obtain ⟨G, hG⟩ : ∃ x, w20.heap.size = x := ⟨_, rfl⟩
  rw [hG] at HR
  rw [hw11] at HZ HI HB HF HR
  rw [hw11, hG]
  clear hw11 hG
  obtain ⟨c0, c1, c2, c3, c4, c5, c6, c7, c8, c9, c10, c11, c12⟩ := cells_E HI.out
  have r0 : w11.cell? ⟨G, 0, none⟩ = some (.int .u8 (64 + kd)) := row_cell HR.out 0
  have r1 : w11.cell? ⟨G, 1, none⟩ = some (.map (some b')) := row_cell HR.out 1
  go_region_with (first | (go_at_call 43; refine (IN.out _ _ w11.drew HF.out).mono ?_; rintro e w30 ⟨rfl, hb⟩; obtain ⟨d0, d1, d2, d3, d4, d5, d6, d7, d8, d9, d10, d11, d12⟩ := cells_E (show w30.heap[w.heap.size]? = _ from row_on (w := w11.drew) HI.out hb); have HB12 := hid hb; clear hb))
  all_goals (
    have HZ12 := hid (show w30.heap[w.heap.size + 1]? = some (.cells #[.int .u8 0, .map none] 61 (0, 0)) from row_on (w := w11.drew) HZ.out HB12.out)
    have HBW := hid (show Below w.heap.size w w30 from btr (show Below w.heap.size w w11.drew from HB.out.drew) HB12.out)
    clear d0 d1 d2 d3 d4 d5 d6 d7 d8 d9 d10 d11 d12 c0 c1 c2 c3 c4 c5 c6 c7 c8 c9 c10 c11 c12 r0 r1 HB12
    go_wp2_with (first | (refine wpList_st (by rfl) 61 (.tmp 2) (.tmp 63) (by rfl) (w.heap.size + 1) #[.int .u8 0, .map none] (by rfl) (by rfl) 61 #[.int .u8 0, .map none] HZ12.out info46 rfl (by simp [Value.oneCell']) ?_; intro w3 hst; have HST := hid hst; clear hst; refine Hid.out ?_))
    refine hid ?_
    go_wp2
    exact bodyPost_ret (res46 Tryd.f31 2 3 Tryd.results31 _ _ (w.heap.size + 1) #[.int .u8 0, .map none] _ (by rfl) (by rfl) HST.out.row info46) rfl ⟨rfl, HST.out.bel _ _ HBW.out (by omega)⟩)
set_option maxHeartbeats 2000000 in
set_option maxRecDepth 100000 in
theorem sayE_yes (sq kd id ot tg me si ty pr qt pe re co : Int) (w : World) (h1 : 1 ≤ kd) (h5 : kd ≤ 5) (hsq : Wd sq) (hid0 : Wd id) (hot : Wd ot) (htg : Wd tg) (hme : 0 ≤ me ∧ me < 4294967296) (hqt : Wd qt) (hpe : Wd pe) (hin : inB (tagsL (64 + kd)) (evF sq id ot tg me si ty pr qt pe re co) = true) (hto : evtV (64 + kd) (only (tagsL (64 + kd)) (evF sq id ot tg me si ty pr qt pe re co)) = eV sq kd id ot tg me si ty pr qt pe re co) :
    Calls Tryd.prog 31 #[.agg (eV sq kd id ot tg me si ty pr qt pe re co)] w fun e w' => ∃ b n, e = .returned (.tuple #[.agg #[.int .u8 (64 + kd), .map (some b)], .int .i64 0]) ∧ Fm w' b n (only (tagsL (64 + kd)) (evF sq id ot tg me si ty pr qt pe re co)) ∧ Below w.heap.size w w' := by
  have SY0 := hid (sye0 w (eV sq kd id ot tg me si ty pr qt pe re co))
  have HW0 := hsq
  have HW1 := hid0
  have HW2 := hot
  have HW3 := htg
  have HW4 : Wd me := ⟨hme.1, by omega⟩
  have HW5 := u64_wd si
  have HW6 := u64_wd ty
  have HW7 := u64_wd pr
  have HW8 := hqt
  have HW9 := hpe
  have HW10 := u64_wd re
  have HW11 := u64_wd co
  have hcv : kd % 256 = kd := by omega
  have hc2 : IntKind.u8.wrap (64 + kd) = 64 + kd := by rw [IntKind.wrap_u8]; omega
  have PI := hid (pick_yes (64 + kd) (evF sq id ot tg me si ty pr qt pe re co) hin)
  obtain ⟨y0, y1, y2, y3, y4, y5, y6, y7, y8, y9, y10, y11, y12, hy⟩ := evtV_form (64 + kd) (only (tagsL (64 + kd)) (evF sq id ot tg me si ty pr qt pe re co))
  have IN := hid (fun b n w => event_any (64 + kd) b n (only (tagsL (64 + kd)) (evF sq id ot tg me si ty pr qt pe re co)) w (by omega) (by omega))
  rw [hy] at hto IN
  have q := eqE_yes y0 y1 y2 y3 y4 y5 y6 y7 y8 y9 y10 y11 y12 sq kd id ot tg me si ty pr qt pe re co hto
  obtain ⟨F, hF⟩ : ∃ F, only (tagsL (64 + kd)) (evF sq id ot tg me si ty pr qt pe re co) = F := ⟨_, rfl⟩
  rw [hF] at PI IN
  have HFF := hid hF
  clear hin hy hto hF
  have hmm := @run_makeMap Tryd.prog
  unfold eV at *
  go_enter Tryd.func31, Tryd.ntmps31
  go_wp2_with (first | (refine wpList_fm_put _ (by rfl) _ _ _ (Or.inr (by rfl)) (w.heap.size + 1 + 1) 0 _ 34 sq (by rfl) (by rfl) (by rfl) SY0.out.m (by decide) (by decide) HW0 ?_; intro w1 hF hg; have SY1 := hid (SyE.step SY0.out hg hF); clear hF hg; refine Hid.out ?_))
  refine hid ?_
  clear SY0
  have cc : w1.cell? ⟨w.heap.size, 2, none⟩ = some (.int .u64 id) := row_cell SY1.out.i 2
  go_wp2_with (first | (refine wpList_fm_put _ (by rfl) _ _ _ (Or.inr (by rfl)) (w.heap.size + 1 + 1) 1 _ 11 id (by rfl) (by rfl) (by rfl) SY1.out.m (by decide) (by decide) HW1 ?_; intro w2 hF hg; have SY2 := hid (SyE.step SY1.out hg hF); clear hF hg; refine Hid.out ?_))
  refine hid ?_
  clear cc SY1
  have cc : w2.cell? ⟨w.heap.size, 3, none⟩ = some (.int .u64 ot) := row_cell SY2.out.i 3
  go_wp2_with (first | (refine wpList_fm_put _ (by rfl) _ _ _ (Or.inr (by rfl)) (w.heap.size + 1 + 1) 2 _ 37 ot (by rfl) (by rfl) (by rfl) SY2.out.m (by decide) (by decide) HW2 ?_; intro w3 hF hg; have SY3 := hid (SyE.step SY2.out hg hF); clear hF hg; refine Hid.out ?_))
  refine hid ?_
  clear cc SY2
  have cc : w3.cell? ⟨w.heap.size, 4, none⟩ = some (.int .u64 tg) := row_cell SY3.out.i 4
  go_wp2_with (first | (refine wpList_fm_put _ (by rfl) _ _ _ (Or.inr (by rfl)) (w.heap.size + 1 + 1) 3 _ 41 tg (by rfl) (by rfl) (by rfl) SY3.out.m (by decide) (by decide) HW3 ?_; intro w4 hF hg; have SY4 := hid (SyE.step SY3.out hg hF); clear hF hg; refine Hid.out ?_))
  refine hid ?_
  clear cc SY3
  have cc : w4.cell? ⟨w.heap.size, 5, none⟩ = some (.int .u32 me) := row_cell SY4.out.i 5
  go_wp2_with (first | (refine wpList_fm_put _ (by rfl) _ _ _ (Or.inr (by rfl)) (w.heap.size + 1 + 1) 4 _ 1 me (by rfl) (by rfl) (by rfl) SY4.out.m (by decide) (by decide) HW4 ?_; intro w5 hF hg; have SY5 := hid (SyE.step SY4.out hg hF); clear hF hg; refine Hid.out ?_))
  refine hid ?_
  clear cc SY4
  have cc : w5.cell? ⟨w.heap.size, 6, none⟩ = some (.int .i64 si) := row_cell SY5.out.i 6
  go_wp2_with (first | (refine wpList_fm_put _ (by rfl) _ _ _ (Or.inr (by rfl)) (w.heap.size + 1 + 1) 5 _ 54 (u64 si) (by rfl) (by rfl) (by rfl) SY5.out.m (by decide) (by decide) HW5 ?_; intro w6 hF hg; have SY6 := hid (SyE.step SY5.out hg hF); clear hF hg; refine Hid.out ?_))
  refine hid ?_
  clear cc SY5
  have cc : w6.cell? ⟨w.heap.size, 7, none⟩ = some (.int .i64 ty) := row_cell SY6.out.i 7
  go_wp2_with (first | (refine wpList_fm_put _ (by rfl) _ _ _ (Or.inr (by rfl)) (w.heap.size + 1 + 1) 6 _ 40 (u64 ty) (by rfl) (by rfl) (by rfl) SY6.out.m (by decide) (by decide) HW6 ?_; intro w7 hF hg; have SY7 := hid (SyE.step SY6.out hg hF); clear hF hg; refine Hid.out ?_))
  refine hid ?_
  clear cc SY6
  have cc : w7.cell? ⟨w.heap.size, 8, none⟩ = some (.int .i64 pr) := row_cell SY7.out.i 8
  go_wp2_with (first | (refine wpList_fm_put _ (by rfl) _ _ _ (Or.inr (by rfl)) (w.heap.size + 1 + 1) 7 _ 44 (u64 pr) (by rfl) (by rfl) (by rfl) SY7.out.m (by decide) (by decide) HW7 ?_; intro w8 hF hg; have SY8 := hid (SyE.step SY7.out hg hF); clear hF hg; refine Hid.out ?_))
  refine hid ?_
  clear cc SY7
  have cc : w8.cell? ⟨w.heap.size, 9, none⟩ = some (.int .u64 qt) := row_cell SY8.out.i 9
  go_wp2_with (first | (refine wpList_fm_put _ (by rfl) _ _ _ (Or.inr (by rfl)) (w.heap.size + 1 + 1) 8 _ 38 qt (by rfl) (by rfl) (by rfl) SY8.out.m (by decide) (by decide) HW8 ?_; intro w9 hF hg; have SY9 := hid (SyE.step SY8.out hg hF); clear hF hg; refine Hid.out ?_))
  refine hid ?_
  clear cc SY8
  have cc : w9.cell? ⟨w.heap.size, 10, none⟩ = some (.int .u64 pe) := row_cell SY9.out.i 10
  go_wp2_with (first | (refine wpList_fm_put _ (by rfl) _ _ _ (Or.inr (by rfl)) (w.heap.size + 1 + 1) 9 _ 210 pe (by rfl) (by rfl) (by rfl) SY9.out.m (by decide) (by decide) HW9 ?_; intro w10 hF hg; have SY10 := hid (SyE.step SY9.out hg hF); clear hF hg; refine Hid.out ?_))
  refine hid ?_
  clear cc SY9
  have cc : w10.cell? ⟨w.heap.size, 11, none⟩ = some (.int .i64 re) := row_cell SY10.out.i 11
  go_wp2_with (first | (refine wpList_fm_put _ (by rfl) _ _ _ (Or.inr (by rfl)) (w.heap.size + 1 + 1) 10 _ 378 (u64 re) (by rfl) (by rfl) (by rfl) SY10.out.m (by decide) (by decide) HW10 ?_; intro w11 hF hg; have SY11 := hid (SyE.step SY10.out hg hF); clear hF hg; refine Hid.out ?_))
  refine hid ?_
  clear cc SY10
  have cc : w11.cell? ⟨w.heap.size, 12, none⟩ = some (.int .i64 co) := row_cell SY11.out.i 12
  go_wp2_with (first | (refine wpList_fm_put _ (by rfl) _ _ _ (Or.inr (by rfl)) (w.heap.size + 1 + 1) 11 _ 103 (u64 co) (by rfl) (by rfl) (by rfl) SY11.out.m (by decide) (by decide) HW11 ?_; intro w12 hF hg; have SY12 := hid (SyE.step SY11.out hg hF); clear hF hg; refine Hid.out ?_))
  refine hid ?_
  clear cc SY11
  go_wp2_with (first | (go_at_call 49; refine (PI.out _ _ _ SY12.out.m).mono ?_; rintro e w20 ⟨b', n', rfl, hb2, hF10, hb⟩; have HB10 := hid hb; have HF10 := hid hF10; clear hb hF10; refine Hid.out ?_))
  have HZ := hid (show (w20.alloc (.cells #[.int .u8 (64 + kd), .map (some b')] 61)).heap[w.heap.size + 1]? = some (.cells #[.int .u8 0, .map none] 61 (0, 0)) from row_on (row_on SY12.out.z HB10.out) (ball _ _))
  have HI := hid (show (w20.alloc (.cells #[.int .u8 (64 + kd), .map (some b')] 61)).heap[w.heap.size]? = some (.cells (eV sq kd id ot tg me si ty pr qt pe re co) 30 (0, 0)) from row_on (row_on SY12.out.i HB10.out) (ball _ _))
  have HB := hid (show Below w.heap.size w (w20.alloc (.cells #[.int .u8 (64 + kd), .map (some b')] 61)) from btr (btr SY12.out.b HB10.out) (ball _ _))
  have HF := hid (HF10.out.alloc (.cells #[.int .u8 (64 + kd), .map (some b')] 61))
  have HR := hid (show (w20.alloc (.cells #[.int .u8 (64 + kd), .map (some b')] 61)).heap[w20.heap.size]? = some (.cells #[.int .u8 (64 + kd), .map (some b')] 61 (0, 0)) from heap_alloc_new _ _)
  have hbz : b' ≠ w.heap.size + 1 := by
    have h1 := SY12.out.m.lt
    omega
  clear SY12 HB10 HF10
  refine hid ?_
  go_wp2
  obtain ⟨w11, hw11⟩ : ∃ x, w20.alloc (.cells #[.int .u8 (64 + kd), .map (some b')] 61) = x := ⟨_, rfl⟩
  obtain ⟨G, hG⟩ : ∃ x, w20.heap.size = x := ⟨_, rfl⟩
  rw [hG] at HR
  rw [hw11] at HZ HI HB HF HR
  rw [hw11, hG]
  clear hw11 hG
  obtain ⟨c0, c1, c2, c3, c4, c5, c6, c7, c8, c9, c10, c11, c12⟩ := cells_E HI.out
  have r0 : w11.cell? ⟨G, 0, none⟩ = some (.int .u8 (64 + kd)) := row_cell HR.out 0
  have r1 : w11.cell? ⟨G, 1, none⟩ = some (.map (some b')) := row_cell HR.out 1
  go_region_with (first | (go_at_call 43; refine (IN.out _ _ w11.drew HF.out).mono ?_; rintro e w30 ⟨rfl, hb⟩; obtain ⟨d0, d1, d2, d3, d4, d5, d6, d7, d8, d9, d10, d11, d12⟩ := cells_E (show w30.heap[w.heap.size]? = _ from row_on (w := w11.drew) HI.out hb); have HB12 := hid hb; clear hb))
  all_goals (
    have HZ12 := hid (show w30.heap[w.heap.size + 1]? = some (.cells #[.int .u8 0, .map none] 61 (0, 0)) from row_on (w := w11.drew) HZ.out HB12.out)
    have HR12 := hid (show w30.heap[G]? = some (.cells #[.int .u8 (64 + kd), .map (some b')] 61 (0, 0)) from row_on (w := w11.drew) HR.out HB12.out)
    have HF12 := hid (Fm.on (w := w11.drew) HF.out HB12.out)
    have HBW := hid (show Below w.heap.size w w30 from btr (show Below w.heap.size w w11.drew from HB.out.drew) HB12.out)
    clear d0 d1 d2 d3 d4 d5 d6 d7 d8 d9 d10 d11 d12 c0 c1 c2 c3 c4 c5 c6 c7 c8 c9 c10 c11 c12 r0 r1 HB12
    go_wp2_with (first
      | (refine wpList_load_row (by rfl) 61 (.tmp 4) (by rfl) G (by rfl) 61 #[.int .u8 (64 + kd), .map (some b')] (0, 0) _ HR12.out Tryd.underlying61 rfl info46 ?_)
      | (refine wpList_st (by rfl) 61 (.tmp 2) (.tmp 64) (by rfl) (w.heap.size + 1) #[.int .u8 (64 + kd), .map (some b')] (by rfl) (by rfl) 61 #[.int .u8 0, .map none] HZ12.out info46 rfl (by simp [Value.oneCell']) ?_; intro w3 hst; have HST := hid hst; clear hst; refine Hid.out ?_))
    refine hid ?_
    go_wp2
    refine bodyPost_ret (res46 Tryd.f31 2 3 Tryd.results31 _ _ (w.heap.size + 1) #[.int .u8 (64 + kd), .map (some b')] _ (by rfl) (by rfl) HST.out.row info46) rfl ⟨b', n', rfl, ?_, HST.out.bel _ _ HBW.out (by omega)⟩
    rw [HFF.out]
    exact HST.out.fm hbz HF12.out)

end Go.Proofs.YtacdjioieclggaaDoor.Msg
namespace Go.Proofs.YtacdjioieclggaaDoor.Msg
open Go.RowKit Go.Maps Go.Deep Go.Lib
set_option linter.unusedVariables false
set_option linter.unusedSimpArgs false
structure Evt where
  sq : Int
  kd : Int
  id : Int
  ot : Int
  tg : Int
  me : Int
  si : Int
  ty : Int
  pr : Int
  qt : Int
  pe : Int
  re : Int
  co : Int
def Evt.v (x : Evt) : Array Value := eV x.sq x.kd x.id x.ot x.tg x.me x.si x.ty x.pr x.qt x.pe x.re x.co
def Evt.l (x : Evt) : List Int := [x.sq, x.kd, x.id, x.ot, x.tg, x.me, x.si, x.ty, x.pr, x.qt, x.pe, x.re, x.co]
structure Evt.Ok (x : Evt) : Prop where
  sq : Wd x.sq
  id : Wd x.id
  ot : Wd x.ot
  tg : Wd x.tg
  me : 0 ≤ x.me ∧ x.me < 4294967296
  qt : Wd x.qt
  pe : Wd x.pe
/-- what it says: the kind of its frame, or 0. -/
def Evt.k (x : Evt) : Int := if 1 ≤ x.kd ∧ x.kd ≤ 5 then 64 + x.kd else 0
def Evt.f (x : Evt) : Int → Int := evF x.sq x.id x.ot x.tg x.me x.si x.ty x.pr x.qt x.pe x.re x.co
def Evt.F (x : Evt) : Int → Int := only (tagsL x.k) x.f
def evL (k : Int) (f : Int → Int) : List Int := [f 34, k - 64, f 11, f 37, f 41, u32 (f 1), s64 (f 54), s64 (f 40), s64 (f 44), f 38, f 210, s64 (f 378), s64 (f 103)]
def Evt.told (x : Evt) : Bool := inB (tagsL x.k) x.f && (evL x.k x.F == x.l)
def Evt.e (x : Evt) : Int := if x.k = 0 then 41 else if x.told then 0 else 40
def Evt.pk (x : Evt) : Int := if x.e = 0 then x.k else 0
def Evt.pw (x : Evt) : List Int := if x.e = 0 then frW x.k x.F (tagsL x.k) else zeros
theorem evL_iff (k : Int) (f : Int → Int) (x : Evt) : evL k f = x.l ↔ evtV k f = x.v := by
  unfold evL evtV Evt.l Evt.v eV
  simp
theorem sayE_none (x : Evt) (w : World) (h : x.k = 0) :
    Calls Tryd.prog 31 #[.agg x.v] w fun e w' => e = .returned (.tuple #[.agg #[.int .u8 0, .map none], .int .i64 41]) ∧ Below w.heap.size w w' := by
  unfold Evt.k at h
  unfold Evt.v eV
  obtain ⟨sq, kd, id, ot, tg, me, si, ty, pr, qt, pe, re, co⟩ := x
  simp only at h ⊢
  by_cases c1 : 1 ≤ kd
  · by_cases c3 : kd ≤ 5
    · rw [if_pos ⟨c1, c3⟩] at h; omega
    · have c4 : 5 < kd := by omega
      have c2 : ¬ kd < 1 := by omega
      clear h c1 c3
      go_enter Tryd.func31, Tryd.ntmps31
      go_wp2
      exact bodyPost_ret (res46 Tryd.f31 2 3 Tryd.results31 _ _ (w.heap.size + 1) #[.int .u8 0, .map none] _ (by rfl) (by rfl) (heap2 _ _ _) info46) rfl ⟨rfl, btr (ball _ _) (ball _ _)⟩
  · have c2 : kd < 1 := by omega
    clear h c1
    go_enter Tryd.func31, Tryd.ntmps31
    go_wp2
    exact bodyPost_ret (res46 Tryd.f31 2 3 Tryd.results31 _ _ (w.heap.size + 1) #[.int .u8 0, .map none] _ (by rfl) (by rfl) (heap2 _ _ _) info46) rfl ⟨rfl, btr (ball _ _) (ball _ _)⟩
theorem kE_cases (x : Evt) (h : ¬ x.k = 0) : 1 ≤ x.kd ∧ x.kd ≤ 5 ∧ x.k = 64 + x.kd := by
  unfold Evt.k at h ⊢
  by_cases h1 : 1 ≤ x.kd ∧ x.kd ≤ 5
  · exact ⟨h1.1, h1.2, by rw [if_pos h1]⟩
  · rw [if_neg h1] at h; exact absurd rfl h
theorem sayE_bad (x : Evt) (hx : x.Ok) (w : World) (h : ¬ x.e = 0) :
    Calls Tryd.prog 31 #[.agg x.v] w fun e w' => e = .returned (.tuple #[.agg #[.int .u8 0, .map none], .int .i64 x.e]) ∧ Below w.heap.size w w' := by
  by_cases h0 : x.k = 0
  · have : x.e = 41 := by unfold Evt.e; rw [if_pos h0]
    rw [this]
    exact sayE_none x w h0
  · have ht : x.told = false := by
      cases ht : x.told
      · rfl
      · exfalso; apply h; unfold Evt.e; rw [if_neg h0, ht]; rfl
    have he : x.e = 40 := by unfold Evt.e; rw [if_neg h0, ht]; rfl
    rw [he]
    clear h he
    have hio := (evL_iff x.k x.F x)
    unfold Evt.told at ht
    have hkk := kE_cases x h0
    unfold Evt.F Evt.f at *
    obtain ⟨sq, kd, id, ot, tg, me, si, ty, pr, qt, pe, re, co⟩ := x
    unfold Evt.v Evt.l at *
    simp only at *
    obtain ⟨q1, q2, q3, q4, q5, q6, q7⟩ := hx
    obtain ⟨c1, c5, hk⟩ := hkk
    cases hin : inB (tagsL (Evt.k ⟨sq, kd, id, ot, tg, me, si, ty, pr, qt, pe, re, co⟩)) (evF sq id ot tg me si ty pr qt pe re co) with
    | false =>
      rw [hk] at hin
      exact sayE_out sq kd id ot tg me si ty pr qt pe re co w c1 c5 q1 q2 q3 q4 q5 q6 q7 hin
    | true =>
      rw [hin] at ht
      simp only [Bool.true_and] at ht
      have hne : ¬ _ := fun e => by rw [hio.2 e] at ht; simp at ht
      rw [hk] at hin hne
      exact sayE_no sq kd id ot tg me si ty pr qt pe re co w c1 c5 q1 q2 q3 q4 q5 q6 q7 hin hne
theorem eE_zero (x : Evt) (h : x.e = 0) : ¬ x.k = 0 ∧ x.told = true := by
  unfold Evt.e at h
  by_cases h0 : x.k = 0
  · rw [if_pos h0] at h; omega
  · rw [if_neg h0] at h
    refine ⟨h0, ?_⟩
    cases ht : x.told
    · rw [ht] at h; simp at h
    · rfl
theorem sayE_ok (x : Evt) (hx : x.Ok) (w : World) (h : x.e = 0) :
    Calls Tryd.prog 31 #[.agg x.v] w fun e w' => ∃ b n, e = .returned (.tuple #[.agg #[.int .u8 x.k, .map (some b)], .int .i64 0]) ∧ Fm w' b n x.F ∧ Below w.heap.size w w' := by
  obtain ⟨h0, ht⟩ := eE_zero x h
  have hio := (evL_iff x.k x.F x)
  unfold Evt.told at ht
  simp only [Bool.and_eq_true, beq_iff_eq] at ht
  obtain ⟨hin, hil⟩ := ht
  have heq := hio.1 hil
  have hkk := kE_cases x h0
  unfold Evt.F Evt.f at *
  obtain ⟨sq, kd, id, ot, tg, me, si, ty, pr, qt, pe, re, co⟩ := x
  unfold Evt.v at *
  simp only at *
  obtain ⟨q1, q2, q3, q4, q5, q6, q7⟩ := hx
  obtain ⟨c1, c5, hk⟩ := hkk
  rw [hk] at hin heq ⊢
  exact sayE_yes sq kd id ot tg me si ty pr qt pe re co w c1 c5 q1 q2 q3 q4 q5 q6 q7 hin heq
set_option maxHeartbeats 2000000 in
set_option maxRecDepth 100000 in
theorem packE_any (x : Evt) (hx : x.Ok) (w : World) :
    Calls Tryd.prog 15 #[.agg x.v] w fun e w' => e = .returned (.tuple #[.agg (frV x.pk x.pw), .int .i64 x.e]) ∧ Below w.heap.size w w' := by
  by_cases h : x.e = 0
  · have SA := hid (fun w => sayE_ok x hx w h)
    have FR := hid (fun b n w => frame_any x.k b n x.F w)
    have ek : x.pk = x.k := by unfold Evt.pk; rw [if_pos h]
    have ew : x.pw = frW x.k x.F (tagsL x.k) := by unfold Evt.pw; rw [if_pos h]
    rw [ek, ew, h]
    have HFI := hid (info_fr x.k (frW x.k x.F (tagsL x.k)) (frW_len x.k x.F (tagsL x.k)))
    have HON := hid (one_fr x.k (frW x.k x.F (tagsL x.k)))
    have HSZ := hid (size_fr x.k (frW x.k x.F (tagsL x.k)) (frW_len x.k x.F (tagsL x.k)))
    obtain ⟨FV, hFV⟩ : ∃ y, frV x.k (frW x.k x.F (tagsL x.k)) = y := ⟨_, rfl⟩
    rw [hFV] at FR HFI HON HSZ
    rw [hFV]
    clear h ek ew hx hFV
    obtain ⟨k, hk⟩ : ∃ k, x.k = k := ⟨_, rfl⟩
    rw [hk] at SA FR
    clear hk
    unfold Evt.v eV at *
    go_enter Tryd.func15, Tryd.ntmps15
    go_wp2_with (first | (go_at_call 31; refine (SA.out _).mono ?_; rintro e w2 ⟨b, n, rfl, hF, hb⟩; have HF := hid hF; have HB := hid hb; clear hF hb; refine Hid.out ?_))
    have HF2 := hid (HF.out.alloc (.cells #[.int .u8 k, .map (some b)] 61))
    have HZ := hid (show (w2.alloc (.cells #[.int .u8 k, .map (some b)] 61)).heap[w.heap.size + 1]? = some (.cells z30 40 (0, 0)) from row_on (row_on (heap2 w _ _) HB.out) (ball _ _))
    have HB2 := hid (show Below w.heap.size w (w2.alloc (.cells #[.int .u8 k, .map (some b)] 61)) from btr (btr (btr (ball _ _) (ball _ _)) HB.out) (ball _ _))
    clear HF HB SA
    refine hid ?_
    go_wp2_with (first | (go_at_call 35; refine (FR.out _ _ _ HF2.out).mono ?_; rintro e w3 ⟨rfl, hb⟩; have HB3 := hid hb; clear hb; refine Hid.out ?_))
    have HZ3 := hid (row_on HZ.out HB3.out)
    have HB4 := hid (btr HB2.out HB3.out)
    clear HF2 HZ HB2 HB3 FR
    refine hid ?_
    go_wp2_with (first | (refine wpList_st (by rfl) 40 (.tmp 2) (.tmp 16) (by rfl) (w.heap.size + 1) FV (by rfl) (by rfl) 40 z30 HZ3.out HFI.out HSZ.out HON.out ?_; intro w5 hst; have HS5 := hid hst; clear hst; refine Hid.out ?_))
    refine hid ?_
    go_wp2
    exact bodyPost_ret (res30 Tryd.f15 2 3 Tryd.results15 _ _ (w.heap.size + 1) FV _ (by rfl) (by rfl) HS5.out.row HFI.out) rfl ⟨rfl, HS5.out.bel _ _ HB4.out (by omega)⟩
  · have SA := hid (fun w => sayE_bad x hx w h)
    have ek : x.pk = 0 := by unfold Evt.pk; rw [if_neg h]
    have ew : x.pw = zeros := by unfold Evt.pw; rw [if_neg h]
    rw [ek, ew, frV_zero]
    obtain ⟨E, hE⟩ : ∃ E, x.e = E := ⟨_, rfl⟩
    rw [hE] at SA h ⊢
    have hne : (E != 0) = true := by simpa using h
    clear h ek ew hx hE
    unfold Evt.v eV at *
    go_enter Tryd.func15, Tryd.ntmps15
    go_wp2_with (first | (go_at_call 31; refine (SA.out _).mono ?_; rintro e w2 ⟨rfl, hb⟩; have HB := hid hb; clear hb; refine Hid.out ?_))
    have HZ := hid (show (w2.alloc (.cells #[.int .u8 0, .map none] 61)).heap[w.heap.size + 1]? = some (.cells z30 40 (0, 0)) from row_on (row_on (heap2 w _ _) HB.out) (ball _ _))
    have HB2 := hid (show Below w.heap.size w (w2.alloc (.cells #[.int .u8 0, .map none] 61)) from btr (btr (btr (ball _ _) (ball _ _)) HB.out) (ball _ _))
    clear HB SA
    refine hid ?_
    go_wp2_with (first | (refine wpList_st (by rfl) 40 (.tmp 2) (.tmp 13) (by rfl) (w.heap.size + 1) z30 (by rfl) (by rfl) 40 z30 HZ.out info30 rfl (by simp [z30, Value.oneCell']) ?_; intro w5 hst; have HS5 := hid hst; clear hst; refine Hid.out ?_))
    refine hid ?_
    go_wp2
    exact bodyPost_ret (res30 Tryd.f15 2 3 Tryd.results15 _ _ (w.heap.size + 1) z30 _ (by rfl) (by rfl) HS5.out.row info30) rfl ⟨rfl, HS5.out.bel _ _ HB2.out (by omega)⟩
end Go.Proofs.YtacdjioieclggaaDoor.Msg
namespace Go.Proofs
open Go.Shelf
def Tryd.lays283_ren : Go.Shelf.Ren := ⟨fun | 283 => 93 | n => n, fun | 3 => 3 | 9 => 9 | 4 => 4 | n => n, fun | n => n⟩
theorem Tryd.lays283 : Go.Proofs.Lays.n283 Tryd.prog Tryd.lays283_ren := {
  mixed := by kernel_rfl
  f283 := Tryd.func93.trans (congrArg some (by kernel_rfl))
  t3 := Tryd.underlying3
  a3 := Tryd.isAgg3
  z3 := Tryd.sizeOf3
  v3 := Tryd.zeroValue3
  t4 := Tryd.underlying4
  a4 := Tryd.isAgg4
  z4 := Tryd.sizeOf4
  v4 := Tryd.zeroValue4
  t9 := Tryd.underlying9
  a9 := Tryd.isAgg9
  z9 := Tryd.sizeOf9
  v9 := Tryd.zeroValue9 }
open Go.Lib in
theorem Tryd.internal_strconv_small (i : Nat) (h : i < 100) (w : World) :
    Calls Tryd.prog 93 #[.int .i64 i] w fun e w' => e = .returned (.string ⟨(Lib.decDigits i).toArray⟩) ∧ w' = w := Any.internal_strconv_small Tryd.lays283 i h w
def Tryd.laysM284_ren : Go.Shelf.Ren := ⟨fun | 284 => 94 | 129 => 101 | 317 => 100 | 318 => 102 | n => n, fun | 53 => 22 | 3 => 3 | 212 => 156 | 0 => 0 | 4 => 4 | 46 => 126 | 5 => 5 | 9 => 9 | n => n, fun | 17 => 1 | n => n⟩
theorem Tryd.laysM284 : Go.Proofs.LaysM.n284 Tryd.prog Tryd.laysM284_ren := {
  mixed := by kernel_rfl
  f129 := Tryd.func101.trans (congrArg some (by kernel_rfl))
  f284 := Tryd.func94.trans (congrArg some (by kernel_rfl))
  f317 := Tryd.func100.trans (congrArg some (by kernel_rfl))
  f318 := Tryd.func102.trans (congrArg some (by kernel_rfl))
  t0 := Tryd.underlying0
  a0 := Tryd.isAgg0
  z0 := Tryd.sizeOf0
  v0 := Tryd.zeroValue0
  t3 := Tryd.underlying3
  a3 := Tryd.isAgg3
  z3 := Tryd.sizeOf3
  v3 := Tryd.zeroValue3
  t4 := Tryd.underlying4
  a4 := Tryd.isAgg4
  z4 := Tryd.sizeOf4
  v4 := Tryd.zeroValue4
  t5 := Tryd.underlying5
  a5 := Tryd.isAgg5
  z5 := Tryd.sizeOf5
  v5 := Tryd.zeroValue5
  t9 := Tryd.underlying9
  a9 := Tryd.isAgg9
  z9 := Tryd.sizeOf9
  v9 := Tryd.zeroValue9
  t46 := Tryd.underlying126
  a46 := Tryd.isAgg126
  z46 := Tryd.sizeOf126
  v46 := Tryd.zeroValue126
  t53 := Tryd.underlying22
  a53 := Tryd.isAgg22
  z53 := Tryd.sizeOf22
  v53 := Tryd.zeroValue22
  t212 := Tryd.underlying156
  a212 := Tryd.isAgg156
  z212 := Tryd.sizeOf156
  v212 := Tryd.zeroValue156
  g17 := by kernel_rfl
  i0 := by kernel_rfl
  i3 := by kernel_rfl
  i4 := by kernel_rfl
  i5 := by kernel_rfl
  i9 := by kernel_rfl
  i46 := by kernel_rfl
  i53 := by kernel_rfl
  i212 := by kernel_rfl
  m17 := by kernel_rfl }
open Go.Lib in
theorem Tryd.internal_strconv_numDigits (u : Nat) (h1 : 1 ≤ u) (h2 : u < 18446744073709551616) (w : World) (htab : Lib.TabIs Tryd.prog w "internal/strconv.uint64pow10" .u64 Lib.pow10Tab) :
    Calls Tryd.prog 94 #[.int .u64 u] w fun e w' => e = .returned (.int .i64 (Lib.nDigits u)) ∧ w' = w := Any.internal_strconv_numDigits Tryd.laysM284 u h1 h2 w htab
def Tryd.lays285_ren : Go.Shelf.Ren := ⟨fun | 285 => 95 | n => n, fun | 37 => 31 | 53 => 22 | 3 => 3 | 4 => 4 | 51 => 23 | 9 => 9 | 5 => 5 | 0 => 0 | n => n, fun | n => n⟩
theorem Tryd.lays285 : Go.Proofs.Lays.n285 Tryd.prog Tryd.lays285_ren := {
  mixed := by kernel_rfl
  f285 := Tryd.func95.trans (congrArg some (by kernel_rfl))
  t0 := Tryd.underlying0
  a0 := Tryd.isAgg0
  z0 := Tryd.sizeOf0
  v0 := Tryd.zeroValue0
  t3 := Tryd.underlying3
  a3 := Tryd.isAgg3
  z3 := Tryd.sizeOf3
  v3 := Tryd.zeroValue3
  t4 := Tryd.underlying4
  a4 := Tryd.isAgg4
  z4 := Tryd.sizeOf4
  v4 := Tryd.zeroValue4
  t5 := Tryd.underlying5
  a5 := Tryd.isAgg5
  z5 := Tryd.sizeOf5
  v5 := Tryd.zeroValue5
  t9 := Tryd.underlying9
  a9 := Tryd.isAgg9
  z9 := Tryd.sizeOf9
  v9 := Tryd.zeroValue9
  t37 := Tryd.underlying31
  a37 := Tryd.isAgg31
  z37 := Tryd.sizeOf31
  v37 := Tryd.zeroValue31
  t51 := Tryd.underlying23
  a51 := Tryd.isAgg23
  z51 := Tryd.sizeOf23
  v51 := Tryd.zeroValue23
  t53 := Tryd.underlying22
  a53 := Tryd.isAgg22
  z53 := Tryd.sizeOf22
  v53 := Tryd.zeroValue22 }
open Go.RowKit Go.Sort Go.Lib in
theorem Tryd.internal_strconv_formatBase10 (blk off cap : Nat) (u : Nat) (d : Array UInt8) (w : World) (hH : Holds (fun (b : UInt8) => Value.int .u8 (b.toNat : Int)) w blk off d) (hu : u < 10 ^ d.size) (hu64 : u < 18446744073709551616) (hsz : d.size < 4611686018427387904) :
    Calls Tryd.prog 95 #[.slice (some ⟨blk, off, none⟩) d.size cap, .int .u64 u] w fun e w' =>
      e = .returned (.tuple #[]) ∧ ∃ (n v' : Nat) (dk : Array UInt8), w' = (putRow (fun (b : UInt8) => Value.int .u8 (b.toNat : Int)) w blk off dk).drewN n ∧ FmtInv d.size u 0 v' dk := Any.internal_strconv_formatBase10 Tryd.lays285 blk off cap u d w hH hu hu64 hsz
def Tryd.laysPu14_ren : Go.Shelf.Ren := ⟨fun | 14 => 92 | 16 => 98 | 17 => 99 | 19 => 106 | 20 => 107 | 21 => 108 | 22 => 109 | 23 => 110 | 24 => 111 | 25 => 118 | 27 => 120 | 26 => 119 | 28 => 123 | 29 => 124 | 30 => 93 | 31 => 94 | 32 => 95 | 33 => 96 | 35 => 101 | 34 => 100 | 36 => 102 | 37 => 103 | 38 => 104 | 39 => 112 | 40 => 113 | n => n, fun | 9 => 9 | 3 => 3 | 22 => 22 | 24 => 146 | 25 => 147 | 4 => 4 | 34 => 160 | 5 => 5 | 36 => 126 | 37 => 31 | 0 => 0 | 39 => 162 | 21 => 21 | 44 => 169 | 47 => 174 | 50 => 177 | 48 => 175 | 2 => 2 | 52 => 149 | 55 => 151 | 59 => 156 | 60 => 23 | 20 => 20 | 61 => 157 | 65 => 171 | 66 => 53 | 67 => 179 | n => n, fun | 0 => 3 | 1 => 4 | 2 => 1 | 3 => 5 | 4 => 6 | n => n⟩
theorem Tryd.laysPu14 : Go.Proofs.LaysPu.n14 Tryd.prog Tryd.laysPu14_ren := {
  mixed := by kernel_rfl
  f14 := Tryd.func92.trans (congrArg some (by kernel_rfl))
  f16 := Tryd.func98.trans (congrArg some (by kernel_rfl))
  f17 := Tryd.func99.trans (congrArg some (by kernel_rfl))
  f19 := Tryd.func106.trans (congrArg some (by kernel_rfl))
  f20 := Tryd.func107.trans (congrArg some (by kernel_rfl))
  f21 := Tryd.func108.trans (congrArg some (by kernel_rfl))
  f22 := Tryd.func109.trans (congrArg some (by kernel_rfl))
  f23 := Tryd.func110.trans (congrArg some (by kernel_rfl))
  f24 := Tryd.func111.trans (congrArg some (by kernel_rfl))
  f25 := Tryd.func118.trans (congrArg some (by kernel_rfl))
  f26 := Tryd.func119.trans (congrArg some (by kernel_rfl))
  f27 := Tryd.func120.trans (congrArg some (by kernel_rfl))
  f28 := Tryd.func123.trans (congrArg some (by kernel_rfl))
  f29 := Tryd.func124.trans (congrArg some (by kernel_rfl))
  f30 := Tryd.func93.trans (congrArg some (by kernel_rfl))
  f31 := Tryd.func94.trans (congrArg some (by kernel_rfl))
  f32 := Tryd.func95.trans (congrArg some (by kernel_rfl))
  f33 := Tryd.func96.trans (congrArg some (by kernel_rfl))
  f34 := Tryd.func100.trans (congrArg some (by kernel_rfl))
  f35 := Tryd.func101.trans (congrArg some (by kernel_rfl))
  f36 := Tryd.func102.trans (congrArg some (by kernel_rfl))
  f37 := Tryd.func103.trans (congrArg some (by kernel_rfl))
  f38 := Tryd.func104.trans (congrArg some (by kernel_rfl))
  f39 := Tryd.func112.trans (congrArg some (by kernel_rfl))
  f40 := Tryd.func113.trans (congrArg some (by kernel_rfl))
  t0 := Tryd.underlying0
  a0 := Tryd.isAgg0
  z0 := Tryd.sizeOf0
  v0 := Tryd.zeroValue0
  i0 := by kernel_rfl
  t2 := Tryd.underlying2
  a2 := Tryd.isAgg2
  z2 := Tryd.sizeOf2
  v2 := Tryd.zeroValue2
  i2 := by kernel_rfl
  t3 := Tryd.underlying3
  a3 := Tryd.isAgg3
  z3 := Tryd.sizeOf3
  v3 := Tryd.zeroValue3
  i3 := by kernel_rfl
  t4 := Tryd.underlying4
  a4 := Tryd.isAgg4
  z4 := Tryd.sizeOf4
  v4 := Tryd.zeroValue4
  i4 := by kernel_rfl
  t5 := Tryd.underlying5
  a5 := Tryd.isAgg5
  z5 := Tryd.sizeOf5
  v5 := Tryd.zeroValue5
  i5 := by kernel_rfl
  t9 := Tryd.underlying9
  a9 := Tryd.isAgg9
  z9 := Tryd.sizeOf9
  v9 := Tryd.zeroValue9
  i9 := by kernel_rfl
  t20 := Tryd.underlying20
  a20 := Tryd.isAgg20
  z20 := Tryd.sizeOf20
  v20 := Tryd.zeroValue20
  i20 := by kernel_rfl
  t21 := Tryd.underlying21
  a21 := Tryd.isAgg21
  z21 := Tryd.sizeOf21
  v21 := Tryd.zeroValue21
  i21 := by kernel_rfl
  t22 := Tryd.underlying22
  a22 := Tryd.isAgg22
  z22 := Tryd.sizeOf22
  v22 := Tryd.zeroValue22
  i22 := by kernel_rfl
  t24 := Tryd.underlying146
  a24 := Tryd.isAgg146
  z24 := Tryd.sizeOf146
  v24 := Tryd.zeroValue146
  i24 := by kernel_rfl
  t25 := Tryd.underlying147
  a25 := Tryd.isAgg147
  z25 := Tryd.sizeOf147
  v25 := Tryd.zeroValue147
  i25 := by kernel_rfl
  t34 := Tryd.underlying160
  a34 := Tryd.isAgg160
  z34 := Tryd.sizeOf160
  v34 := Tryd.zeroValue160
  i34 := by kernel_rfl
  c34 := by kernel_rfl
  t36 := Tryd.underlying126
  a36 := Tryd.isAgg126
  z36 := Tryd.sizeOf126
  v36 := Tryd.zeroValue126
  i36 := by kernel_rfl
  t37 := Tryd.underlying31
  a37 := Tryd.isAgg31
  z37 := Tryd.sizeOf31
  v37 := Tryd.zeroValue31
  i37 := by kernel_rfl
  t39 := Tryd.underlying162
  a39 := Tryd.isAgg162
  z39 := Tryd.sizeOf162
  v39 := Tryd.zeroValue162
  i39 := by kernel_rfl
  t44 := Tryd.underlying169
  a44 := Tryd.isAgg169
  z44 := Tryd.sizeOf169
  v44 := Tryd.zeroValue169
  i44 := by kernel_rfl
  t47 := Tryd.underlying174
  a47 := Tryd.isAgg174
  z47 := Tryd.sizeOf174
  v47 := Tryd.zeroValue174
  i47 := by kernel_rfl
  t48 := Tryd.underlying175
  a48 := Tryd.isAgg175
  z48 := Tryd.sizeOf175
  v48 := Tryd.zeroValue175
  i48 := by kernel_rfl
  t50 := Tryd.underlying177
  a50 := Tryd.isAgg177
  z50 := Tryd.sizeOf177
  v50 := Tryd.zeroValue177
  i50 := by kernel_rfl
  t52 := Tryd.underlying149
  a52 := Tryd.isAgg149
  z52 := Tryd.sizeOf149
  v52 := Tryd.zeroValue149
  i52 := by kernel_rfl
  t55 := Tryd.underlying151
  a55 := Tryd.isAgg151
  z55 := Tryd.sizeOf151
  v55 := Tryd.zeroValue151
  i55 := by kernel_rfl
  t59 := Tryd.underlying156
  a59 := Tryd.isAgg156
  z59 := Tryd.sizeOf156
  v59 := Tryd.zeroValue156
  i59 := by kernel_rfl
  t60 := Tryd.underlying23
  a60 := Tryd.isAgg23
  z60 := Tryd.sizeOf23
  v60 := Tryd.zeroValue23
  i60 := by kernel_rfl
  t61 := Tryd.underlying157
  a61 := Tryd.isAgg157
  z61 := Tryd.sizeOf157
  t65 := Tryd.underlying171
  a65 := Tryd.isAgg171
  z65 := Tryd.sizeOf171
  v65 := Tryd.zeroValue171
  i65 := by kernel_rfl
  t66 := Tryd.underlying53
  a66 := Tryd.isAgg53
  z66 := Tryd.sizeOf53
  v66 := Tryd.zeroValue53
  i66 := by kernel_rfl
  t67 := Tryd.underlying179
  a67 := Tryd.isAgg179
  z67 := Tryd.sizeOf179
  v67 := Tryd.zeroValue179
  i67 := by kernel_rfl
  g0 := by kernel_rfl
  m0 := by kernel_rfl
  g1 := by kernel_rfl
  m1 := by kernel_rfl
  g2 := by kernel_rfl
  m2 := by kernel_rfl
  g3 := by kernel_rfl
  m3 := by kernel_rfl
  g4 := by kernel_rfl
  m4 := by kernel_rfl }
open Go.RowKit in
theorem Tryd.strconv_ParseUint_10_at64_ok (s : ByteArray) (hmax : s.size ≤ 9223372036854775806) (u : Nat) (h : Lib.parseUintB 64 s.data.toList = .ok u) (w : World) :
    Calls Tryd.prog 92 #[.string s, .int .i64 10, .int .i64 64] w fun e w' => e = .returned (.tuple #[.int .u64 u, .nilIface]) ∧ (w' = w ∨ w' = Lib.bytesWorld w 5 s) := Any.strconv_ParseUint_10_at64_ok Tryd.laysPu14 s hmax u h w
open Go.RowKit in
theorem Tryd.strconv_ParseUint_10_at64_syntax_var (s : ByteArray) (hlim : s.size ≤ 281474976710656) (h : Lib.parseUintB 64 s.data.toList = .«syntax») (tp : TypeId) (p : Value) (w : World) (hvar : w.var? Tryd.prog "strconv.ErrSyntax" = some #[.iface tp p]) :
    Calls Tryd.prog 92 #[.string s, .int .i64 10, .int .i64 64] w fun e w' => ∃ N, e = .returned (.tuple #[.int .u64 0, .iface 162 (.pointer (some ⟨N, 0, none⟩))]) ∧ w.heap.size ≤ N ∧ w'.heap[N]? = some (.cells #[.string ⟨#[80, 97, 114, 115, 101, 85, 105, 110, 116]⟩, .string s, .iface tp p] 169 (0, 0)) ∧ Below w.heap.size w w' := Any.strconv_ParseUint_10_at64_syntax_var Tryd.laysPu14 s hlim h tp p w hvar
open Go.RowKit in
theorem Tryd.strconv_ParseUint_10_at64_range_var (s : ByteArray) (hlim : s.size ≤ 281474976710656) (h : Lib.parseUintB 64 s.data.toList = .range) (tp : TypeId) (p : Value) (w : World) (hvar : w.var? Tryd.prog "strconv.ErrRange" = some #[.iface tp p]) :
    Calls Tryd.prog 92 #[.string s, .int .i64 10, .int .i64 64] w fun e w' => ∃ N, e = .returned (.tuple #[.int .u64 18446744073709551615, .iface 162 (.pointer (some ⟨N, 0, none⟩))]) ∧ w.heap.size ≤ N ∧ w'.heap[N]? = some (.cells #[.string ⟨#[80, 97, 114, 115, 101, 85, 105, 110, 116]⟩, .string s, .iface tp p] 169 (0, 0)) ∧ Below w.heap.size w w' := Any.strconv_ParseUint_10_at64_range_var Tryd.laysPu14 s hlim h tp p w hvar
end Go.Proofs
namespace Go.Proofs.YtacdjioieclggaaDoor
open Go.Lib
set_option linter.unusedVariables false
def Dig (c : UInt8) : Prop := 48 ≤ c.toNat ∧ c.toNat ≤ 57
instance (c : UInt8) : Decidable (Dig c) := by unfold Dig; exact inferInstance
/-- What digits are worth behind a number. -/
def val (acc : Nat) (l : List UInt8) : Nat := l.foldl (fun a c => a * 10 + (c.toNat - 48)) acc
theorem val_nil (acc : Nat) : val acc [] = acc := by simp only [val, List.foldl_nil]
theorem val_cons (acc : Nat) (c : UInt8) (r : List UInt8) : val acc (c :: r) = val (acc * 10 + (c.toNat - 48)) r := by simp only [val, List.foldl_cons]

theorem val_ge (l : List UInt8) : ∀ (acc : Nat), acc ≤ val acc l := by
  induction l with
  | nil => intro acc; rw [val_nil]; exact Nat.le_refl _
  | cons c r ih => intro acc; rw [val_cons]; exact Nat.le_trans (by omega) (ih _)
theorem val_snoc : ∀ (l : List UInt8) (acc : Nat) (c : UInt8), val acc (l ++ [c]) = val acc l * 10 + (c.toNat - 48)
  | [], acc, c => by simp only [List.nil_append, val_cons, val_nil]
  | a :: r, acc, c => by simp only [List.cons_append, val_cons]; exact val_snoc r _ c

theorem parse_of : ∀ (l : List UInt8) (acc : Nat), (∀ c ∈ l, Dig c) → val acc l ≤ 18446744073709551615 → parseUintM 18446744073709551615 acc l = .ok (val acc l)
  | [], acc, _, _ => rfl
  | c :: r, acc, hd, hv => by
    have h1 := hd c (List.mem_cons_self ..)
    simp only [val_cons] at hv ⊢
    have h2 := val_ge r (acc * 10 + (c.toNat - 48))
    simp only [parseUintM]
    rw [if_pos (show 48 ≤ c.toNat ∧ c.toNat ≤ 57 from h1), if_neg (by omega), if_neg (by omega)]
    exact parse_of r _ (fun x hx => hd x (List.mem_cons_of_mem _ hx)) hv
theorem of_parse : ∀ (l : List UInt8) (acc k : Nat), acc ≤ 18446744073709551615 → parseUintM 18446744073709551615 acc l = .ok k → (∀ c ∈ l, Dig c) ∧ k = val acc l ∧ k ≤ 18446744073709551615
  | [], acc, k, ha, h => by
    simp only [parseUintM] at h
    obtain rfl : acc = k := by injection h
    exact ⟨fun _ h => by simp at h, rfl, ha⟩
  | c :: r, acc, k, ha, h => by
    simp only [parseUintM] at h
    split at h
    · rename_i h1
      split at h
      · cases h
      · split at h
        · cases h
        · rename_i h2 h3
          obtain ⟨a, b, e⟩ := of_parse r _ k (by omega) h
          exact ⟨fun x hx => by rcases List.mem_cons.1 hx with rfl | hx; exact h1; exact a x hx, b, e⟩
    · cases h

theorem dig_of (d : Nat) (h : d < 10) : Dig (UInt8.ofNat (48 + d)) ∧ (UInt8.ofNat (48 + d)).toNat - 48 = d := by
  have e : (UInt8.ofNat (48 + d)).toNat = 48 + d := by simp; omega
  unfold Dig; rw [e]; omega
theorem dec_dig (n : Nat) : ∀ c ∈ decDigits n, Dig c := by
  induction n using Nat.strongRecOn with
  | _ n ih =>
    by_cases h : n < 10
    · rw [decDigits_one h]; intro c hc; obtain rfl := List.mem_singleton.1 hc; exact (dig_of n h).1
    · rw [decDigits, dif_neg h]; intro c hc
      rcases List.mem_append.1 hc with hc | hc
      · exact ih (n / 10) (by omega) c hc
      · obtain rfl := List.mem_singleton.1 hc; exact (dig_of (n % 10) (by omega)).1
theorem val_dec (n : Nat) : val 0 (decDigits n) = n := by
  induction n using Nat.strongRecOn with
  | _ n ih =>
    by_cases h : n < 10
    · rw [decDigits_one h]; simp only [val_cons, val_nil]; rw [(dig_of n h).2]; omega
    · rw [decDigits, dif_neg h, val_snoc, ih (n / 10) (by omega), (dig_of (n % 10) (by omega)).2]; omega
theorem dec_ne (n : Nat) : decDigits n ≠ [] := by
  intro h; have := decDigits_length n; rw [h] at this; have := nDigits_pos n; simp at *; omega
theorem dec_len (n : Nat) (h : n < 18446744073709551616) : 1 ≤ (decDigits n).length ∧ (decDigits n).length ≤ 20 := by
  rw [decDigits_length]; exact ⟨nDigits_pos n, nDigits_le20 n h⟩
/-- The number of which a text is the one form. -/
def num (l : List UInt8) : Option Nat :=
  match parseUintB 64 l with
  | .ok k => if decDigits k = l then some k else none
  | _ => none
theorem pB (l : List UInt8) (h : l ≠ []) : parseUintB 64 l = parseUintM 18446744073709551615 0 l := by
  unfold parseUintB; rw [if_neg h]
theorem parse_dec (n : Nat) (h : n < 18446744073709551616) : parseUintB 64 (decDigits n) = .ok n := by
  rw [pB _ (dec_ne n), parse_of _ _ (dec_dig n) (by rw [val_dec]; omega), val_dec]
theorem num_dec (n : Nat) (h : n < 18446744073709551616) : num (decDigits n) = some n := by
  unfold num; rw [parse_dec n h]; simp
theorem num_some (l : List UInt8) (k : Nat) (h : num l = some k) : decDigits k = l ∧ k < 18446744073709551616 := by
  unfold num at h
  split at h
  · rename_i k' hk
    split at h
    · rename_i e
      obtain rfl : k' = k := by simpa using h
      refine ⟨e, ?_⟩
      have hl : l ≠ [] := by rw [← e]; exact dec_ne _
      rw [pB l hl] at hk
      have := (of_parse l 0 k' (by omega) hk).2.2; omega
    · cases h
  · cases h
end Go.Proofs.YtacdjioieclggaaDoor
namespace Go.Proofs.YtacdjioieclggaaDoor
open Go.RowKit Go.Deep Go.Lib Go.Shelf Go.Sort
set_option linter.unusedVariables false
theorem hid {p : Prop} (h : p) : Hid p := h

/-- what the calls read of the package-level variables. -/
structure Lay (w : World) : Prop where
  pow : Lib.TabIs Tryd.prog w "internal/strconv.uint64pow10" .u64 Lib.pow10Tab
/-- .. and the two errors. -/
structure LayE (w : World) : Prop where
  lay : Lay w
  syn : ∃ tp p, w.var? Tryd.prog "strconv.ErrSyntax" = some #[.iface tp p]
  rng : ∃ tp p, w.var? Tryd.prog "strconv.ErrRange" = some #[.iface tp p]
theorem g0 : Tryd.prog.globalNamed "internal/strconv.uint64pow10" = some 1 := by kernel_rfl
theorem g1 : Tryd.prog.globalNamed "strconv.ErrSyntax" = some 3 := by kernel_rfl
theorem g2 : Tryd.prog.globalNamed "strconv.ErrRange" = some 4 := by kernel_rfl
theorem var_lt {w : World} {n : String} {g : Nat} {cs : Array Value} (hg : Tryd.prog.globalNamed n = some g) (h : w.var? Tryd.prog n = some cs) : g < w.heap.size := by
  unfold World.var? at h
  simp only [hg, Option.bind_some] at h
  rcases Nat.lt_or_ge g w.heap.size with h' | h'
  · exact h'
  · simp [Array.getElem?_eq_none h'] at h
theorem var_below {w w' : World} {n : String} {g B : Nat} {cs : Array Value} (hg : Tryd.prog.globalNamed n = some g) (hB : g < B) (hb : Below B w w') (h : w.var? Tryd.prog n = some cs) : w'.var? Tryd.prog n = some cs := by
  unfold World.var? at h ⊢
  simp only [hg, Option.bind_some] at h ⊢
  rw [hb.block g hB]
  exact h
theorem Lay.lt {w : World} (h : Lay w) : 2 ≤ w.heap.size := var_lt g0 h.pow
theorem Lay.onB {w w' : World} {B : Nat} (h : Lay w) (hB : 2 ≤ B) (hb : Below B w w') : Lay w' := ⟨var_below g0 (by omega) hb h.pow⟩
theorem Lay.on {w w' : World} (h : Lay w) (hb : Below w.heap.size w w') : Lay w' := h.onB h.lt hb
theorem Lay.alloc {w : World} (h : Lay w) (o : Obj) : Lay (w.alloc o) := ⟨var?_alloc h.pow⟩
theorem LayE.lt {w : World} (h : LayE w) : 5 ≤ w.heap.size := by
  obtain ⟨tp, p, h2⟩ := h.rng
  obtain ⟨tq, q, h3⟩ := h.syn
  have k1 := var_lt g2 h2
  have k2 := var_lt g1 h3
  have k3 := h.lay.lt
  omega
theorem LayE.onB {w w' : World} {B : Nat} (h : LayE w) (hB : 5 ≤ B) (hb : Below B w w') : LayE w' := by
  obtain ⟨t1, p1, h1⟩ := h.syn
  obtain ⟨t2, p2, h2⟩ := h.rng
  exact ⟨h.lay.onB (by omega) hb, ⟨t1, p1, var_below g1 (by omega) hb h1⟩, ⟨t2, p2, var_below g2 (by omega) hb h2⟩⟩
theorem LayE.on {w w' : World} (h : LayE w) (hb : Below w.heap.size w w') : LayE w' := h.onB h.lt hb
theorem LayE.alloc {w : World} (h : LayE w) (o : Obj) : LayE (w.alloc o) := by
  obtain ⟨t1, p1, h1⟩ := h.syn
  obtain ⟨t2, p2, h2⟩ := h.rng
  exact ⟨h.lay.alloc o, ⟨t1, p1, var?_alloc h1⟩, ⟨t2, p2, var?_alloc h2⟩⟩

set_option maxHeartbeats 6400000 in
set_option maxRecDepth 100000 in
theorem fmtu_in (u : Nat) (hu64 : u < 18446744073709551616) (w : World) (hL : Lay w) :
    Calls Tryd.prog 86 #[.int .u64 u, .int .i64 10] w fun e w' => e = .returned (.string ⟨(Lib.decDigits u).toArray⟩) ∧ Below w.heap.size w w' := by
  by_cases hs : u < 100
  · have hcv : (convert 22 3 (.int .u64 (u : Int))).run Tryd.prog w = .ok (.int .i64 (u : Int)) w := by
      first | (go_simp; done) | (go_simp; congr 2; rw [IntKind.wrap_i64]; omega)
    go_enter Tryd.func86, Tryd.ntmps86
    go_wp2_with (go_at_call 93; refine (Tryd.internal_strconv_small u hs _).mono ?_; rintro e w' ⟨rfl, rfl⟩)
    go_ret
    exact ⟨rfl, Below.refl _ _⟩
  · have hu1 : 1 ≤ u := by omega
    have hnd20 : Lib.nDigits u ≤ 20 := Lib.nDigits_le20 u hu64
    have hal : Tryd.prog.arrayLen 149 = 24 := by kernel_rfl
    have hsl1 : ∀ W, (Instr.sliceAt 149 (.pointer (some ⟨w.heap.size, 0, none⟩)) none (some (.int .i64 (Lib.nDigits u : Int))) none).run Tryd.prog W = .ok (.slice (some ⟨w.heap.size, 0, none⟩) (Lib.nDigits u) 24) W := fun W => by
      rw [run_sliceAt_array_h W 149 ⟨w.heap.size, 0, none⟩ (by simp [Program.arrayLen, Program.elem, Tryd.underlying149]) .i64 (Lib.nDigits u : Int) (by omega) (by rw [hal]; omega)]
      go_simp
    have hH0 : Holds (fun (b : UInt8) => Value.int .u8 (b.toNat : Int)) (w.alloc (.cells Lib.zeros24 149)) w.heap.size 0 (Array.replicate (Lib.nDigits u) 0) := by
      intro j hj
      have hj' : j < Lib.nDigits u := by simpa using hj
      refine ⟨?_, World.frozen?_alloc_new _ _ _ _⟩
      rw [World.cell?_alloc_new, Lib.zeros24_at _ (by omega), getElem!_pos _ j hj]
      simp
    have hfmt := Tryd.internal_strconv_formatBase10 w.heap.size 0 24 u (Array.replicate (Lib.nDigits u) 0) (w.alloc (.cells Lib.zeros24 149)) hH0 (by rw [Array.size_replicate]; exact Lib.lt_pow_nDigits u) hu64 (by rw [Array.size_replicate]; omega)
    rw [Array.size_replicate] at hfmt
    have HH0 := Lib.hid hH0
    have HL := hid hL
    clear hH0 hal hL
    go_enter Tryd.func86, Tryd.ntmps86
    go_wp2_with (first
      | (go_at_call 94; refine (Tryd.internal_strconv_numDigits u hu1 hu64 _ (Lib.tabIs_alloc HL.out.pow _)).mono ?_; rintro e w' ⟨rfl, rfl⟩))
    go_at_call 95
    refine hfmt.mono ?_
    rintro e w' ⟨rfl, k, v', dk, rfl, hF⟩
    have hcv : (convert 31 9 (.slice (some ⟨w.heap.size, 0, none⟩) (Lib.nDigits u) 24)).run Tryd.prog ((putRow (fun (b : UInt8) => Value.int .u8 (b.toNat : Int)) (w.alloc (.cells Lib.zeros24 149)) w.heap.size 0 dk).drewN k) = .ok (.string ⟨(Lib.decDigits u).toArray⟩) ((putRow (fun (b : UInt8) => Value.int .u8 (b.toNat : Int)) (w.alloc (.cells Lib.zeros24 149)) w.heap.size 0 dk).drewN k) := by
      have h := run_convert_bytes_back (P := Tryd.prog) ((putRow (fun (b : UInt8) => Value.int .u8 (b.toNat : Int)) (w.alloc (.cells Lib.zeros24 149)) w.heap.size 0 dk).drewN k) 31 9 5 ⟨w.heap.size, 0, none⟩ 24 (Lib.decDigits u) Tryd.underlying31 Tryd.underlying5 Tryd.underlying9 (fun j hj => by
        rw [Lib.row_is_numeral hF j hj, Lib.add_plain, World.cell?_drewN]
        exact cell?_putRow (fun (b : UInt8) => Value.int .u8 (b.toNat : Int)) _ w.heap.size 0 _ dk HH0.out (by rw [hF.size, Array.size_replicate]) j (by rw [hF.size]; rw [Lib.decDigits_length] at hj; exact hj))
      rw [Lib.decDigits_length] at h
      exact h
    go_wp2
    go_ret
    obtain ⟨os, eo⟩ : ∃ os, (putRow (fun (b : UInt8) => Value.int .u8 (b.toNat : Int)) (w.alloc (.cells Lib.zeros24 149)) w.heap.size 0 dk).drewN k = grow (w.drewN k) os := by
      rw [alloc_eq_grow]
      obtain ⟨os', _, e⟩ := putRow_grow_new (fun (b : UInt8) => Value.int .u8 (b.toNat : Int)) w #[.cells Lib.zeros24 149] w.heap.size 0 dk (Nat.le_refl _)
      exact ⟨os', by rw [e]; rfl⟩
    exact ⟨rfl, by rw [eo]; exact Lib.below_grow _ _ (Nat.le_refl _) k os⟩

theorem fmtu (u : Nat) (hu64 : u < 18446744073709551616) (w : World) (hL : Lay w) :
    Calls Tryd.prog 73 #[.int .u64 u, .int .i64 10] w fun e w' => e = .returned (.string ⟨(Lib.decDigits u).toArray⟩) ∧ Below w.heap.size w w' := by
  have HL := hid hL
  clear hL
  go_enter Tryd.func73, Tryd.ntmps73
  go_wp2_with (go_at_call 86; refine (fmtu_in u hu64 _ HL.out).mono ?_; rintro e w' ⟨rfl, hb⟩)
  go_ret
  exact ⟨rfl, hb⟩
theorem decimal_any (u : Nat) (hu64 : u < 18446744073709551616) (w : World) (hL : Lay w) :
    Calls Tryd.prog 51 #[.int .u64 u] w fun e w' => e = .returned (.string ⟨(Lib.decDigits u).toArray⟩) ∧ Below w.heap.size w w' := by
  have HL := hid hL
  clear hL
  go_enter Tryd.func51, Tryd.ntmps51
  go_wp2_with (go_at_call 73; refine (fmtu u hu64 _ HL.out).mono ?_; rintro e w' ⟨rfl, hb⟩)
  go_ret
  exact ⟨rfl, hb⟩

theorem bw_below {w w1 : World} {T : TypeId} {s : ByteArray} (h : w1 = w ∨ w1 = Lib.bytesWorld w T s) : Below w.heap.size w w1 := by
  rcases h with h | h
  · rw [h]; exact Below.refl _ _
  · rw [h]; exact Lib.bytesWorld_below _ _ _
set_option maxHeartbeats 2000000 in
set_option maxRecDepth 100000 in
/-- text.number. -/
theorem number_any (l : List UInt8) (hs : l.length ≤ 281474976710656) (w : World) (hL : LayE w) :
    Calls Tryd.prog 85 #[.string ⟨l.toArray⟩] w fun e w' => e = .returned (.tuple #[.int .u64 (((num l).getD 0 : Nat) : Int), .bool (num l).isSome]) ∧ Below w.heap.size w w' := by
  have HL := hid hL
  have hsz : (⟨l.toArray⟩ : ByteArray).size = l.length := by simp [ByteArray.size]
  have hdl : (⟨l.toArray⟩ : ByteArray).data.toList = l := by simp
  clear hL
  cases h : parseUintB 64 l with
  | ok u =>
    have hu : u < 18446744073709551616 := by have := Lib.parseUintB_le h; omega
    have hP := Tryd.strconv_ParseUint_10_at64_ok ⟨l.toArray⟩ (by omega) u (by rw [hdl]; exact h) w
    have HP := hid hP
    clear hP
    by_cases he : decDigits u = l
    · have hn : num l = some u := by unfold num; rw [h]; simp [he]
      rw [hn]
      have HE := hid he
      clear hn he h hdl hsz
      go_enter Tryd.func85, Tryd.ntmps85
      go_wp2_with (first | (go_at_call 92; refine HP.out.mono ?_; rintro e w1 ⟨rfl, hb⟩; have HB := hid (bw_below hb); clear hb) | (go_at_call 51; refine (decimal_any u hu w1 (HL.out.on HB.out).lay).mono ?_; rintro e w2 ⟨rfl, hb2⟩; have HB2 := hid hb2; clear hb2; rw [HE.out]))
      all_goals (go_ret2; exact ⟨by simp, HB.out.trans (HB2.out.mono HB.out.size)⟩)
    · have hn : num l = none := by unfold num; rw [h]; simp [he]
      rw [hn]
      have hne : (decDigits u == l) = false := by simpa using he
      clear hn he h hdl hsz
      go_enter Tryd.func85, Tryd.ntmps85
      go_wp2_with (first | (go_at_call 92; refine HP.out.mono ?_; rintro e w1 ⟨rfl, hb⟩; have HB := hid (bw_below hb); clear hb) | (go_at_call 51; refine (decimal_any u hu w1 (HL.out.on HB.out).lay).mono ?_; rintro e w2 ⟨rfl, hb2⟩; have HB2 := hid hb2; clear hb2))
      all_goals (go_ret2; exact ⟨by simp, HB.out.trans (HB2.out.mono HB.out.size)⟩)
  | «syntax» =>
    have hn : num l = none := by unfold num; rw [h]
    rw [hn]
    obtain ⟨tp, p, hv⟩ := HL.out.syn
    have HP := hid (Tryd.strconv_ParseUint_10_at64_syntax_var ⟨l.toArray⟩ (by omega) (by rw [hdl]; exact h) tp p w hv)
    clear hn h hdl hsz hv
    go_enter Tryd.func85, Tryd.ntmps85
    go_wp2_with (go_at_call 92; refine HP.out.mono ?_; rintro e w1 ⟨N, rfl, -, -, hb⟩)
    all_goals (go_ret2; exact ⟨by simp, hb⟩)
  | range =>
    have hn : num l = none := by unfold num; rw [h]
    rw [hn]
    obtain ⟨tp, p, hv⟩ := HL.out.rng
    have HP := hid (Tryd.strconv_ParseUint_10_at64_range_var ⟨l.toArray⟩ (by omega) (by rw [hdl]; exact h) tp p w hv)
    clear hn h hdl hsz hv
    go_enter Tryd.func85, Tryd.ntmps85
    go_wp2_with (go_at_call 92; refine HP.out.mono ?_; rintro e w1 ⟨N, rfl, -, -, hb⟩)
    all_goals (go_ret2; exact ⟨by simp, hb⟩)
end Go.Proofs.YtacdjioieclggaaDoor
namespace Go.Proofs.YtacdjioieclggaaDoor
open Go.RowKit Go.Deep Go.Lib Go.Shelf Go.Sort
set_option linter.unusedVariables false
/-- a list of tags in memory. -/
def Ts (w : World) (q : Option Addr) (l : List (Int × List UInt8)) : Prop :=
  ∀ i (h : i < l.length), ∃ b o, q = some ⟨b, o, none⟩ ∧ w.cell? ⟨b, o + i * 2, none⟩ = some (.int .i64 (l[i]'h).1) ∧ w.cell? ⟨b, o + i * 2 + 1, none⟩ = some (.string ⟨(l[i]'h).2.toArray⟩)
theorem cell_lt {w : World} {a : Addr} {v : Value} (h : w.cell? a = some v) : a.block < w.heap.size := Lib.lt_of_cell h
theorem Ts.on {w w' : World} {q : Option Addr} {l : List (Int × List UInt8)} (h : Ts w q l) (hb : Below w.heap.size w w') : Ts w' q l := fun i hi => by
  obtain ⟨b, o, e, h0, h1⟩ := h i hi
  exact ⟨b, o, e, by rw [hb.cell (cell_lt h0)]; exact h0, by rw [hb.cell (cell_lt h1)]; exact h1⟩
def val? (l : List (Int × List UInt8)) (tag : Int) : Option (List UInt8) := (l.find? (fun p => p.1 == tag)).map (·.2)
theorem val_none {l : List (Int × List UInt8)} {tag : Int} (h : ∀ x ∈ l, x.1 ≠ tag) : val? l tag = none := by
  unfold val?
  rw [List.find?_eq_none.2 (fun x hx => by simpa using h x hx)]
  rfl
theorem val_at {l : List (Int × List UInt8)} {tag : Int} (k : Nat) (hk : k < l.length) (h : ∀ x ∈ l.take k, x.1 ≠ tag) (he : (l[k]).1 = tag) : val? l tag = some (l[k]).2 := by
  unfold val?
  conv => lhs; rw [← List.take_append_drop k l]
  rw [List.find?_append, List.find?_eq_none.2 (fun x hx => by simpa using h x hx), List.drop_eq_getElem_cons hk, List.find?_cons_of_pos (by simpa using he)]
  rfl

set_option maxHeartbeats 2000000 in
set_option maxRecDepth 100000 in
/-- text.Value. -/
theorem value_any (l : List (Int × List UInt8)) (q : Option Addr) (cap : Nat) (tag : Int) (w : World) (hl : l.length < 9223372036854775808) (hT : Ts w q l) :
    Calls Tryd.prog 84 #[.slice q l.length cap, .int .i64 tag] w fun e w' => e = .returned (.tuple #[.string ⟨((val? l tag).getD []).toArray⟩, .bool (val? l tag).isSome]) ∧ Below w.heap.size w w' := by
  have HT := hid hT
  clear hT
  go_enter Tryd.func84, Tryd.ntmps84
  go_wp2_with fail
  go_loopw [10] (fun iv wr => ∃ k : Nat, k ≤ l.length ∧ iv = .int .i64 k ∧ Hid (Below w.heap.size w wr) ∧ Hid (∀ x ∈ l.take k, x.1 ≠ tag)) (fun iv _ => l.length - (RowKit.intOf iv).toNat)
  case atStart => exact ⟨0, Nat.zero_le _, rfl, Below.refl _ _, fun x hx => by simp at hx⟩
  case round =>
    obtain ⟨k, hk, rfl, HB, HN⟩ := hrel
    by_cases hlt : k < l.length
    · obtain ⟨b, o, rfl, h0, h1⟩ := (HT.out.on HB.out) k hlt
      have hbb := cell_lt h0
      have i0 : (0 : Int) ≤ (k : Int) := by omega
      have i1 : (k : Int) < (l.length : Int) := by omega
      obtain ⟨z, s, hz⟩ : ∃ z s, l[k] = (z, s) := ⟨_, _, rfl⟩
      rw [hz] at h0 h1
      simp only at h0 h1 hbb
      have HS := hid (HB.out.size)
      by_cases ht : z = tag
      · have HV := hid (val_at k hlt HN.out (by rw [hz]; exact ht))
        rw [hz] at HV
        clear hz
        subst ht
        go_wp2
        go_ret2
        refine ⟨by rw [HV.out]; simp, ?_⟩
        repeat (first | exact HB.out | apply Below.setCell | apply Below.alloc)
        all_goals (have := HS.out; simp; try omega)
      · have HN2 := hid (show ∀ x ∈ l.take (k + 1), x.1 ≠ tag by
          rw [List.take_succ_eq_append_getElem hlt, hz]
          intro x hx
          rcases List.mem_append.1 hx with hx | hx
          · exact HN.out x hx
          · obtain rfl := List.mem_singleton.1 hx; exact ht)
        clear hz
        go_wp2
        go_roundw
        case rel => 
          refine ⟨k + 1, by omega, by go_num, ?_, HN2⟩
          refine hid ?_
          repeat (first | exact HB.out | apply Below.setCell | apply Below.alloc)
          all_goals (have := HS.out; simp; try omega)
        case measure => simp [RowKit.intOf]; omega
    · have HV := hid (val_none (by have := HN.out; rwa [List.take_of_length_le (by omega)] at this))
      go_wp2
      go_ret2
      exact ⟨by rw [HV.out]; simp, HB.out⟩

def numEnd : Option Nat → Nat × Int
  | none => (0, 31)
  | some n => (n, 0)
/-- what Number tells. -/
def numOf (l : List (Int × List UInt8)) (tag : Int) : Nat × Int :=
  match val? l tag with
  | none => (0, 30)
  | some v => numEnd (num v)
theorem val_mem {l : List (Int × List UInt8)} {tag : Int} {v : List UInt8} (h : val? l tag = some v) : ∃ x ∈ l, x.2 = v := by
  unfold val? at h
  cases hf : l.find? (fun p => p.1 == tag) with
  | none => rw [hf] at h; simp at h
  | some x => rw [hf] at h; exact ⟨x, List.mem_of_find?_eq_some hf, by simpa using h⟩

set_option maxHeartbeats 2000000 in
set_option maxRecDepth 100000 in
/-- text.Number. -/
theorem tnumber_any (l : List (Int × List UInt8)) (q : Option Addr) (cap : Nat) (tag : Int) (w : World) (hl : l.length < 9223372036854775808) (hs : ∀ x ∈ l, x.2.length ≤ 281474976710656) (hT : Ts w q l) (hL : LayE w) :
    Calls Tryd.prog 71 #[.slice q l.length cap, .int .i64 tag] w fun e w' => e = .returned (.tuple #[.int .u64 ((numOf l tag).1 : Int), .int .i64 (numOf l tag).2]) ∧ Below w.heap.size w w' := by
  have HT := hid hT
  have HL := hid hL
  have HV := hid (value_any l q cap tag w hl hT)
  clear hT hL
  cases hv : val? l tag with
  | none =>
    have e : numOf l tag = (0, 30) := by unfold numOf; rw [hv]
    rw [e]
    rw [hv] at HV
    clear e hv
    simp only [Option.getD_none, Option.isSome_none] at HV
    go_enter Tryd.func71, Tryd.ntmps71
    go_wp2_with (go_at_call 84; refine HV.out.mono ?_; rintro e w1 ⟨rfl, hb⟩)
    all_goals (go_ret2; exact ⟨by simp, hb⟩)
  | some v =>
    obtain ⟨x, hx, ex⟩ := val_mem hv
    have hlen : v.length ≤ 281474976710656 := by rw [← ex]; exact hs x hx
    have HN := hid (fun w1 (hb : Below w.heap.size w w1) => number_any v hlen w1 (HL.out.on hb))
    rw [hv] at HV
    simp only [Option.getD_some, Option.isSome_some] at HV
    cases hn : num v with
    | none =>
      have e : numOf l tag = (0, 31) := by unfold numOf; rw [hv]; simp only [hn, numEnd]
      rw [e]
      rw [hn] at HN
      simp only [Option.getD_none, Option.isSome_none] at HN
      clear e hv hn ex hx
      go_enter Tryd.func71, Tryd.ntmps71
      go_wp2_with (first | (go_at_call 84; refine HV.out.mono ?_; rintro e w1 ⟨rfl, hb⟩; have HB := hid hb; clear hb) | (go_at_call 85; refine (HN.out w1 HB.out).mono ?_; rintro e w2 ⟨rfl, hb2⟩))
      all_goals (go_ret2; exact ⟨by simp, HB.out.trans (hb2.mono HB.out.size)⟩)
    | some n =>
      have e : numOf l tag = (n, 0) := by unfold numOf; rw [hv]; simp only [hn, numEnd]
      rw [e]
      rw [hn] at HN
      simp only [Option.getD_some, Option.isSome_some] at HN
      clear e hv hn ex hx
      go_enter Tryd.func71, Tryd.ntmps71
      go_wp2_with (first | (go_at_call 84; refine HV.out.mono ?_; rintro e w1 ⟨rfl, hb⟩; have HB := hid hb; clear hb) | (go_at_call 85; refine (HN.out w1 HB.out).mono ?_; rintro e w2 ⟨rfl, hb2⟩))
      all_goals (go_ret2; exact ⟨by simp, HB.out.trans (hb2.mono HB.out.size)⟩)
end Go.Proofs.YtacdjioieclggaaDoor
namespace Go.Proofs.YtacdjioieclggaaDoor
open Go.RowKit Go.Deep Go.Lib Go.Shelf Go.Sort
set_option linter.unusedVariables false
theorem ba_at (l : List UInt8) (k : Nat) (hk : k < l.length) (h : k < (⟨l.toArray⟩ : ByteArray).size) : (⟨l.toArray⟩ : ByteArray)[k] = l[k] := by
  simp [ByteArray.getElem_eq_getElem_data]

end Go.Proofs.YtacdjioieclggaaDoor
namespace Go.Proofs.YtacdjioieclggaaDoor
open Go.RowKit Go.Deep
set_option linter.unusedVariables false
/-- the cells of tags. -/
def tv : List (Int × List UInt8) → List Value
  | [] => []
  | x :: l => .int .i64 x.1 :: .string ⟨x.2.toArray⟩ :: tv l
theorem tv_len : ∀ l, (tv l).length = l.length * 2
  | [] => rfl
  | x :: l => by simp only [tv, List.length_cons, tv_len l]; omega
theorem tv_append : ∀ a b, tv (a ++ b) = tv a ++ tv b
  | [], b => rfl
  | x :: a, b => by simp only [List.cons_append, tv, tv_append a b]
theorem tv_one (l : List (Int × List UInt8)) : ∀ u ∈ tv l, u.oneCell' = true := by
  induction l with
  | nil => intro u hu; simp [tv] at hu
  | cons x l ih =>
    intro u hu
    simp only [tv, List.mem_cons] at hu
    rcases hu with rfl | rfl | hu
    · rfl
    · rfl
    · exact ih u hu
theorem tv_at : ∀ (l : List (Int × List UInt8)) (i : Nat) (h : i < l.length), (tv l)[i * 2]? = some (.int .i64 (l[i]'h).1) ∧ (tv l)[i * 2 + 1]? = some (.string ⟨(l[i]'h).2.toArray⟩)
  | x :: l, 0, h => by simp [tv]
  | x :: l, i + 1, h => by
    have := tv_at l i (by simpa using h)
    simp only [tv, List.getElem_cons_succ]
    rw [show (i + 1) * 2 = i * 2 + 1 + 1 by omega, List.getElem?_cons_succ, List.getElem?_cons_succ, List.getElem?_cons_succ, List.getElem?_cons_succ]
    exact this
theorem ts_of_cells {w : World} {b o : Nat} {l : List (Int × List UInt8)} (h : ∀ j u, (tv l)[j]? = some u → w.cell? ⟨b, o + j, none⟩ = some u) : Ts w (some ⟨b, o, none⟩) l := by
  intro i hi
  obtain ⟨h0, h1⟩ := tv_at l i hi
  exact ⟨b, o, rfl, h _ _ h0, by rw [Nat.add_assoc]; exact h _ _ h1⟩
theorem ts_own {w : World} {base g c n : Nat} {l : List (Int × List UInt8)} (hn : n = l.length) (h : w.ownsRow base 76 2 (.slice (some ⟨g, 0, none⟩) n c) n (tv l)) : Ts w (some ⟨g, 0, none⟩) l := by
  subst hn
  refine ts_of_cells fun j u hj => ?_
  obtain ⟨hlt, _⟩ := List.getElem?_eq_some_iff.1 hj
  rw [tv_len] at hlt
  rw [Nat.zero_add, h.cellAt j hlt, hj]
theorem ts_take {w : World} {q : Option Addr} {l : List (Int × List UInt8)} (h : Ts w q l) (k : Nat) : Ts w q (l.take k) := by
  intro i hi
  have hi' : i < l.length := by simp at hi; omega
  obtain ⟨b, o, e, h0, h1⟩ := h i hi'
  exact ⟨b, o, e, by simpa using h0, by simpa using h1⟩
/-- a slice of tags: nil, or somewhere. -/
def Tg (w : World) (q : Option Addr) (cap : Nat) (l : List (Int × List UInt8)) : Prop := Ts w q l ∧ (q = none → l = [] ∧ cap = 0)
theorem Tg.on {w w' : World} {q : Option Addr} {cap : Nat} {l : List (Int × List UInt8)} (h : Tg w q cap l) (hb : Below w.heap.size w w') : Tg w' q cap l := ⟨h.1.on hb, h.2⟩
theorem info28all : (Tryd.prog.info? 76).map (fun i => (i.zero, i.size, i.bytes)) = some (some (.agg #[.int .i64 0, .string ⟨#[]⟩]), 2, 24) := by kernel_rfl
theorem info_parts {t : TypeId} {z : Value} {a b : Nat} (h : (Tryd.prog.info? t).map (fun i => (i.zero, i.size, i.bytes)) = some (some z, a, b)) : ∃ i, Tryd.prog.info? t = some i ∧ i.zero = some z ∧ i.size = a ∧ i.bytes = b := by
  cases hi : Tryd.prog.info? t with
  | none => rw [hi] at h; simp at h
  | some i => rw [hi] at h; simp at h; exact ⟨i, rfl, h.1, h.2.1, h.2.2⟩
end Go.Proofs.YtacdjioieclggaaDoor
