/-
  Contracts and plain facts, part 2.
-/
import Derived.Test.YtacdjioieclggaaDoorZa
namespace Go.Proofs.YtacdjioieclggaaDoor.Msg
open Go.RowKit Go.Maps Go.Deep Go.Lib
set_option linter.unusedVariables false
set_option linter.unusedSimpArgs false
def u64 (x : Int) : Int := x % 18446744073709551616
theorem u64_wd (x : Int) : Wd (u64 x) := by unfold Wd u64; omega
structure SyR (w : World) (I C : Array Value) (s : Nat) (f : Int → Int) (wr : World) : Prop where
  i : wr.heap[w.heap.size]? = some (.cells I 27 (0, 0))
  z : wr.heap[w.heap.size + 1]? = some (.cells #[.int .u8 0, .map none] 61 (0, 0))
  c : wr.heap[w.heap.size + 1 + 1]? = some (.cells C 25 (0, 0))
  m : Fm wr (w.heap.size + 1 + 1 + 1) s f
  b : Below w.heap.size w wr
theorem SyR.step {w wr w' : World} {I C : Array Value} {s : Nat} {f g : Int → Int} (h : SyR w I C s f wr) (hg : wr.grownBy w' (some (w.heap.size + 1 + 1 + 1))) (hF : Fm w' (w.heap.size + 1 + 1 + 1) (s + 1) g) : SyR w I C (s + 1) g w' :=
  ⟨row_grown h.i hg (by omega), row_grown h.z hg (by omega), row_grown h.c hg (by omega), hF, h.b.grown hg h.b.size (fun i hi => by cases hi; omega)⟩
theorem syr0 (w : World) (I C : Array Value) : SyR w I C 0 (fun _ => 0) ((((w.alloc (.cells I 27)).alloc (.cells #[.int .u8 0, .map none] 61)).alloc (.cells C 25)).alloc (.map #[] 0)) := by
  obtain ⟨a, b, c, d⟩ := three w (.cells I 27) (.cells #[.int .u8 0, .map none] 61) (.cells C 25) (ball _ (.map #[] 0))
  refine ⟨a, b, c, ?_, d⟩
  have := Fm.made (((w.alloc (.cells I 27)).alloc (.cells #[.int .u8 0, .map none] 61)).alloc (.cells C 25))
  rw [alloc_size, alloc_size, alloc_size] at this
  exact this
/-- the fields of an input, by their tags. -/
def inF (id tg me si ty pr qt pe en : Int) : Int → Int := upd (upd (upd (upd (upd (upd (upd (upd (upd (fun _ => 0) 11 id) 41 tg) 1 me) 54 (u64 si)) 40 (u64 ty)) 44 (u64 pr)) 38 qt) 210 pe) 9001 (u64 en)
theorem iV_inj {x0 x1 x2 x3 x4 x5 x6 x7 x8 x9 x10 y0 y1 y2 y3 y4 y5 y6 y7 y8 y9 y10 : Int} (h : iV x0 x1 x2 x3 x4 x5 x6 x7 x8 x9 x10 = iV y0 y1 y2 y3 y4 y5 y6 y7 y8 y9 y10) : x0 = y0 ∧ x1 = y1 ∧ x2 = y2 ∧ x3 = y3 ∧ x4 = y4 ∧ x5 = y5 ∧ x6 = y6 ∧ x7 = y7 ∧ x8 = y8 ∧ x9 = y9 ∧ x10 = y10 := by
  simpa [iV] using h
theorem eqI_yes (x0 x1 x2 x3 x4 x5 x6 x7 x8 x9 x10 y0 y1 y2 y3 y4 y5 y6 y7 y8 y9 y10 : Int) (h : iV x0 x1 x2 x3 x4 x5 x6 x7 x8 x9 x10 = iV y0 y1 y2 y3 y4 y5 y6 y7 y8 y9 y10) (w : World) :
    (Op.equalIn 10000 27 (.agg (iV x0 x1 x2 x3 x4 x5 x6 x7 x8 x9 x10)) (.agg (iV y0 y1 y2 y3 y4 y5 y6 y7 y8 y9 y10))).run Tryd.prog w = .ok true w := by
  rw [eqI]
  obtain ⟨rfl, rfl, rfl, rfl, rfl, rfl, rfl, rfl, rfl, rfl, rfl⟩ := iV_inj h
  simp
theorem eqI_no (x0 x1 x2 x3 x4 x5 x6 x7 x8 x9 x10 y0 y1 y2 y3 y4 y5 y6 y7 y8 y9 y10 : Int) (h : ¬ iV x0 x1 x2 x3 x4 x5 x6 x7 x8 x9 x10 = iV y0 y1 y2 y3 y4 y5 y6 y7 y8 y9 y10) (w : World) :
    (Op.equalIn 10000 27 (.agg (iV x0 x1 x2 x3 x4 x5 x6 x7 x8 x9 x10)) (.agg (iV y0 y1 y2 y3 y4 y5 y6 y7 y8 y9 y10))).run Tryd.prog w = .ok false w := by
  rw [eqI]
  congr 1
  rw [Bool.eq_false_iff]
  intro e
  apply h
  simp only [Bool.and_eq_true, beq_iff_eq] at e
  obtain ⟨rfl, ⟨rfl, rfl, rfl, rfl, rfl, rfl, rfl, rfl, rfl, _⟩, rfl, _⟩ := e
  rfl
theorem inpV_form (k : Int) (f : Int → Int) : ∃ y0 y1 y2 y3 y4 y5 y6 y7 y8 y9 y10, inpV k f = iV y0 y1 y2 y3 y4 y5 y6 y7 y8 y9 y10 := by
  unfold inpV
  split
  · exact ⟨_, _, _, _, _, _, _, _, _, _, _, rfl⟩
  · exact ⟨_, _, _, _, _, _, _, _, _, _, _, rfl⟩
theorem cells_I {w : World} {g : Nat} {x0 x1 x2 x3 x4 x5 x6 x7 x8 x9 x10 : Int} (h : w.heap[g]? = some (.cells (iV x0 x1 x2 x3 x4 x5 x6 x7 x8 x9 x10) 27 (0, 0))) : w.cell? ⟨g, 0, none⟩ = some (.int .i64 x0) ∧ w.cell? ⟨g, 1, none⟩ = some (.int .i64 x1) ∧ w.cell? ⟨g, 2, none⟩ = some (.int .u64 x2) ∧ w.cell? ⟨g, 3, none⟩ = some (.int .u64 x3) ∧ w.cell? ⟨g, 4, none⟩ = some (.int .u32 x4) ∧ w.cell? ⟨g, 5, none⟩ = some (.int .i64 x5) ∧ w.cell? ⟨g, 6, none⟩ = some (.int .i64 x6) ∧ w.cell? ⟨g, 7, none⟩ = some (.int .i64 x7) ∧ w.cell? ⟨g, 8, none⟩ = some (.int .u64 x8) ∧ w.cell? ⟨g, 9, none⟩ = some (.int .u64 x9) ∧ w.cell? ⟨g, 10, none⟩ = some (.int .i64 x10) :=
  ⟨row_cell h 0, row_cell h 1, row_cell h 2, row_cell h 3, row_cell h 4, row_cell h 5, row_cell h 6, row_cell h 7, row_cell h 8, row_cell h 9, row_cell h 10⟩
theorem row_lt {w : World} {g : Nat} {o : Obj} (h : w.heap[g]? = some o) : g < w.heap.size := by
  rcases Nat.lt_or_ge g w.heap.size with h' | h'
  · exact h'
  · simp [Array.getElem?_eq_none h'] at h
theorem pick_yes (k : Int) (f : Int → Int) (h : inB (tagsL k) f = true) (b n : Nat) (w : World) (hF : Fm w b n f) : Calls Tryd.prog 49 #[.int .u8 k, .map (some b)] w fun e w' => ∃ b' n', e = .returned (.tuple #[.agg #[.int .u8 k, .map (some b')], .bool true]) ∧ w.heap.size ≤ b' ∧ Fm w' b' n' (only (tagsL k) f) ∧ Below w.heap.size w w' := by
  refine (pick_any k b n f w hF).mono ?_
  rintro e w' ⟨hb, ⟨h1, _⟩ | ⟨_, b', n', rfl, _, h2, h3⟩⟩
  · rw [h] at h1; cases h1
  · exact ⟨b', n', rfl, h2, h3, hb⟩
theorem pick_no (k : Int) (f : Int → Int) (h : inB (tagsL k) f = false) (b n : Nat) (w : World) (hF : Fm w b n f) : Calls Tryd.prog 49 #[.int .u8 k, .map (some b)] w fun e w' => e = .returned (.tuple #[.agg #[.int .u8 0, .map none], .bool false]) ∧ Below w.heap.size w w' := by
  refine (pick_any k b n f w hF).mono ?_
  rintro e w' ⟨hb, ⟨_, rfl⟩ | ⟨h1, _⟩⟩
  · exact ⟨rfl, hb⟩
  · rw [h] at h1; cases h1
set_option maxHeartbeats 2000000 in
set_option maxRecDepth 100000 in
theorem say_eng_out (co id tg me si ty pr qt pe en : Int) (w : World) (hid0 : Wd id) (htg : Wd tg) (hme : 0 ≤ me ∧ me < 4294967296) (hqt : Wd qt) (hpe : Wd pe) (hout : inB (tagsL 4) (inF id tg me si ty pr qt pe en) = false) :
    Calls Tryd.prog 23 #[.agg (iV 2 co id tg me si ty pr qt pe en)] w fun e w' => e = .returned (.tuple #[.agg #[.int .u8 0, .map none], .int .i64 40]) ∧ Below w.heap.size w w' := by
  have SY0 := hid (syr0 w (iV 2 co id tg me si ty pr qt pe en) #[.int .i64 co, .int .u64 id, .int .u64 tg, .int .u32 me, .int .i64 si, .int .i64 ty, .int .i64 pr, .int .u64 qt, .int .u64 pe])
  have HW0 := hid0
  have HW1 := htg
  have HW2 : Wd me := ⟨hme.1, by omega⟩
  have HW3 := u64_wd si
  have HW4 := u64_wd ty
  have HW5 := u64_wd pr
  have HW6 := hqt
  have HW7 := hpe
  have HW8 := u64_wd en
  have PI := hid (pick_no 4 (inF id tg me si ty pr qt pe en) hout)
  clear hout
  have hmm := @run_makeMap Tryd.prog
  unfold iV at *
  go_enter Tryd.func23, Tryd.ntmps23
  go_wp2_with (first | (refine wpList_fm_put _ (by rfl) _ _ _ (Or.inr (by rfl)) (w.heap.size + 1 + 1 + 1) 0 _ 11 id (by rfl) (by rfl) (by rfl) SY0.out.m (by decide) (by decide) HW0 ?_; intro w1 hF hg; have SY1 := hid (SyR.step SY0.out hg hF); clear hF hg; refine Hid.out ?_))
  refine hid ?_
  clear SY0
  have cc : w1.cell? ⟨w.heap.size + 1 + 1, 2, none⟩ = some (.int .u64 tg) := row_cell SY1.out.c 2
  go_wp2_with (first | (refine wpList_fm_put _ (by rfl) _ _ _ (Or.inr (by rfl)) (w.heap.size + 1 + 1 + 1) 1 _ 41 tg (by rfl) (by rfl) (by rfl) SY1.out.m (by decide) (by decide) HW1 ?_; intro w2 hF hg; have SY2 := hid (SyR.step SY1.out hg hF); clear hF hg; refine Hid.out ?_))
  refine hid ?_
  clear cc SY1
  have cc : w2.cell? ⟨w.heap.size + 1 + 1, 3, none⟩ = some (.int .u32 me) := row_cell SY2.out.c 3
  go_wp2_with (first | (refine wpList_fm_put _ (by rfl) _ _ _ (Or.inr (by rfl)) (w.heap.size + 1 + 1 + 1) 2 _ 1 me (by rfl) (by rfl) (by rfl) SY2.out.m (by decide) (by decide) HW2 ?_; intro w3 hF hg; have SY3 := hid (SyR.step SY2.out hg hF); clear hF hg; refine Hid.out ?_))
  refine hid ?_
  clear cc SY2
  have cc : w3.cell? ⟨w.heap.size + 1 + 1, 4, none⟩ = some (.int .i64 si) := row_cell SY3.out.c 4
  go_wp2_with (first | (refine wpList_fm_put _ (by rfl) _ _ _ (Or.inr (by rfl)) (w.heap.size + 1 + 1 + 1) 3 _ 54 (u64 si) (by rfl) (by rfl) (by rfl) SY3.out.m (by decide) (by decide) HW3 ?_; intro w4 hF hg; have SY4 := hid (SyR.step SY3.out hg hF); clear hF hg; refine Hid.out ?_))
  refine hid ?_
  clear cc SY3
  have cc : w4.cell? ⟨w.heap.size + 1 + 1, 5, none⟩ = some (.int .i64 ty) := row_cell SY4.out.c 5
  go_wp2_with (first | (refine wpList_fm_put _ (by rfl) _ _ _ (Or.inr (by rfl)) (w.heap.size + 1 + 1 + 1) 4 _ 40 (u64 ty) (by rfl) (by rfl) (by rfl) SY4.out.m (by decide) (by decide) HW4 ?_; intro w5 hF hg; have SY5 := hid (SyR.step SY4.out hg hF); clear hF hg; refine Hid.out ?_))
  refine hid ?_
  clear cc SY4
  have cc : w5.cell? ⟨w.heap.size + 1 + 1, 6, none⟩ = some (.int .i64 pr) := row_cell SY5.out.c 6
  go_wp2_with (first | (refine wpList_fm_put _ (by rfl) _ _ _ (Or.inr (by rfl)) (w.heap.size + 1 + 1 + 1) 5 _ 44 (u64 pr) (by rfl) (by rfl) (by rfl) SY5.out.m (by decide) (by decide) HW5 ?_; intro w6 hF hg; have SY6 := hid (SyR.step SY5.out hg hF); clear hF hg; refine Hid.out ?_))
  refine hid ?_
  clear cc SY5
  have cc : w6.cell? ⟨w.heap.size + 1 + 1, 7, none⟩ = some (.int .u64 qt) := row_cell SY6.out.c 7
  go_wp2_with (first | (refine wpList_fm_put _ (by rfl) _ _ _ (Or.inr (by rfl)) (w.heap.size + 1 + 1 + 1) 6 _ 38 qt (by rfl) (by rfl) (by rfl) SY6.out.m (by decide) (by decide) HW6 ?_; intro w7 hF hg; have SY7 := hid (SyR.step SY6.out hg hF); clear hF hg; refine Hid.out ?_))
  refine hid ?_
  clear cc SY6
  have cc : w7.cell? ⟨w.heap.size + 1 + 1, 8, none⟩ = some (.int .u64 pe) := row_cell SY7.out.c 8
  go_wp2_with (first | (refine wpList_fm_put _ (by rfl) _ _ _ (Or.inr (by rfl)) (w.heap.size + 1 + 1 + 1) 7 _ 210 pe (by rfl) (by rfl) (by rfl) SY7.out.m (by decide) (by decide) HW7 ?_; intro w8 hF hg; have SY8 := hid (SyR.step SY7.out hg hF); clear hF hg; refine Hid.out ?_))
  refine hid ?_
  clear cc SY7
  have cc : w8.cell? ⟨w.heap.size, 10, none⟩ = some (.int .i64 en) := row_cell SY8.out.i 10
  go_wp2_with (first | (refine wpList_fm_put _ (by rfl) _ _ _ (Or.inr (by rfl)) (w.heap.size + 1 + 1 + 1) 8 _ 9001 (u64 en) (by rfl) (by rfl) (by rfl) SY8.out.m (by decide) (by decide) HW8 ?_; intro w9 hF hg; have SY9 := hid (SyR.step SY8.out hg hF); clear hF hg; refine Hid.out ?_))
  refine hid ?_
  clear cc SY8
  go_wp2_with (first | (go_at_call 49; refine (PI.out _ _ _ SY9.out.m).mono ?_; rintro e w10 ⟨rfl, hb⟩; have HB10 := hid hb; clear hb; refine Hid.out ?_))
  have HZ := hid (show ∀ o, (w10.alloc o).heap[w.heap.size + 1]? = some (.cells #[.int .u8 0, .map none] 61 (0, 0)) from fun o => row_on (row_on SY9.out.z HB10.out) (ball _ _))
  have HB := hid (btr SY9.out.b (HB10.out.mono (Nat.le_refl _)))
  clear SY9 HB10
  refine hid ?_
  go_wp2
  go_quiet (fail)
  go_wp2_with (first | (refine wpList_st (by rfl) 61 (.tmp 2) (.tmp 70) (by rfl) (w.heap.size + 1) #[.int .u8 0, .map none] (by rfl) (by rfl) 61 #[.int .u8 0, .map none] (HZ.out _) info46 rfl (by simp [Value.oneCell']) ?_; intro w3 hst; have HST := hid hst; clear hst; refine Hid.out ?_))
  refine hid ?_
  go_wp2
  exact bodyPost_ret (res46 Tryd.f23 2 3 Tryd.results23 _ _ (w.heap.size + 1) #[.int .u8 0, .map none] _ (by rfl) (by rfl) HST.out.row info46) rfl ⟨rfl, HST.out.bel _ _ (below_drewN (btr HB.out (ball _ _)) _) (by omega)⟩
set_option maxHeartbeats 2000000 in
set_option maxRecDepth 100000 in
theorem say_eng_no (co id tg me si ty pr qt pe en : Int) (w : World) (hid0 : Wd id) (htg : Wd tg) (hme : 0 ≤ me ∧ me < 4294967296) (hqt : Wd qt) (hpe : Wd pe) (hin : inB (tagsL 4) (inF id tg me si ty pr qt pe en) = true) (hto : ¬ inpV 4 (only (tagsL 4) (inF id tg me si ty pr qt pe en)) = iV 2 co id tg me si ty pr qt pe en) :
    Calls Tryd.prog 23 #[.agg (iV 2 co id tg me si ty pr qt pe en)] w fun e w' => e = .returned (.tuple #[.agg #[.int .u8 0, .map none], .int .i64 40]) ∧ Below w.heap.size w w' := by
  have SY0 := hid (syr0 w (iV 2 co id tg me si ty pr qt pe en) #[.int .i64 co, .int .u64 id, .int .u64 tg, .int .u32 me, .int .i64 si, .int .i64 ty, .int .i64 pr, .int .u64 qt, .int .u64 pe])
  have HW0 := hid0
  have HW1 := htg
  have HW2 : Wd me := ⟨hme.1, by omega⟩
  have HW3 := u64_wd si
  have HW4 := u64_wd ty
  have HW5 := u64_wd pr
  have HW6 := hqt
  have HW7 := hpe
  have HW8 := u64_wd en
  have PI := hid (pick_yes 4 (inF id tg me si ty pr qt pe en) hin)
  obtain ⟨y0, y1, y2, y3, y4, y5, y6, y7, y8, y9, y10, hy⟩ := inpV_form 4 (only (tagsL 4) (inF id tg me si ty pr qt pe en))
  have IN := hid (fun b n w => input_any 4 b n (only (tagsL 4) (inF id tg me si ty pr qt pe en)) w (by omega) (by omega))
  rw [hy] at hto IN
  have q := eqI_no y0 y1 y2 y3 y4 y5 y6 y7 y8 y9 y10 2 co id tg me si ty pr qt pe en hto
  obtain ⟨F, hF⟩ : ∃ F, only (tagsL 4) (inF id tg me si ty pr qt pe en) = F := ⟨_, rfl⟩
  rw [hF] at PI IN
  have HFF := hid hF
  clear hin hy hto hF
  have hmm := @run_makeMap Tryd.prog
  unfold iV at *
  go_enter Tryd.func23, Tryd.ntmps23
  go_wp2_with (first | (refine wpList_fm_put _ (by rfl) _ _ _ (Or.inr (by rfl)) (w.heap.size + 1 + 1 + 1) 0 _ 11 id (by rfl) (by rfl) (by rfl) SY0.out.m (by decide) (by decide) HW0 ?_; intro w1 hF hg; have SY1 := hid (SyR.step SY0.out hg hF); clear hF hg; refine Hid.out ?_))
  refine hid ?_
  clear SY0
  have cc : w1.cell? ⟨w.heap.size + 1 + 1, 2, none⟩ = some (.int .u64 tg) := row_cell SY1.out.c 2
  go_wp2_with (first | (refine wpList_fm_put _ (by rfl) _ _ _ (Or.inr (by rfl)) (w.heap.size + 1 + 1 + 1) 1 _ 41 tg (by rfl) (by rfl) (by rfl) SY1.out.m (by decide) (by decide) HW1 ?_; intro w2 hF hg; have SY2 := hid (SyR.step SY1.out hg hF); clear hF hg; refine Hid.out ?_))
  refine hid ?_
  clear cc SY1
  have cc : w2.cell? ⟨w.heap.size + 1 + 1, 3, none⟩ = some (.int .u32 me) := row_cell SY2.out.c 3
  go_wp2_with (first | (refine wpList_fm_put _ (by rfl) _ _ _ (Or.inr (by rfl)) (w.heap.size + 1 + 1 + 1) 2 _ 1 me (by rfl) (by rfl) (by rfl) SY2.out.m (by decide) (by decide) HW2 ?_; intro w3 hF hg; have SY3 := hid (SyR.step SY2.out hg hF); clear hF hg; refine Hid.out ?_))
  refine hid ?_
  clear cc SY2
  have cc : w3.cell? ⟨w.heap.size + 1 + 1, 4, none⟩ = some (.int .i64 si) := row_cell SY3.out.c 4
  go_wp2_with (first | (refine wpList_fm_put _ (by rfl) _ _ _ (Or.inr (by rfl)) (w.heap.size + 1 + 1 + 1) 3 _ 54 (u64 si) (by rfl) (by rfl) (by rfl) SY3.out.m (by decide) (by decide) HW3 ?_; intro w4 hF hg; have SY4 := hid (SyR.step SY3.out hg hF); clear hF hg; refine Hid.out ?_))
  refine hid ?_
  clear cc SY3
  have cc : w4.cell? ⟨w.heap.size + 1 + 1, 5, none⟩ = some (.int .i64 ty) := row_cell SY4.out.c 5
  go_wp2_with (first | (refine wpList_fm_put _ (by rfl) _ _ _ (Or.inr (by rfl)) (w.heap.size + 1 + 1 + 1) 4 _ 40 (u64 ty) (by rfl) (by rfl) (by rfl) SY4.out.m (by decide) (by decide) HW4 ?_; intro w5 hF hg; have SY5 := hid (SyR.step SY4.out hg hF); clear hF hg; refine Hid.out ?_))
  refine hid ?_
  clear cc SY4
  have cc : w5.cell? ⟨w.heap.size + 1 + 1, 6, none⟩ = some (.int .i64 pr) := row_cell SY5.out.c 6
  go_wp2_with (first | (refine wpList_fm_put _ (by rfl) _ _ _ (Or.inr (by rfl)) (w.heap.size + 1 + 1 + 1) 5 _ 44 (u64 pr) (by rfl) (by rfl) (by rfl) SY5.out.m (by decide) (by decide) HW5 ?_; intro w6 hF hg; have SY6 := hid (SyR.step SY5.out hg hF); clear hF hg; refine Hid.out ?_))
  refine hid ?_
  clear cc SY5
  have cc : w6.cell? ⟨w.heap.size + 1 + 1, 7, none⟩ = some (.int .u64 qt) := row_cell SY6.out.c 7
  go_wp2_with (first | (refine wpList_fm_put _ (by rfl) _ _ _ (Or.inr (by rfl)) (w.heap.size + 1 + 1 + 1) 6 _ 38 qt (by rfl) (by rfl) (by rfl) SY6.out.m (by decide) (by decide) HW6 ?_; intro w7 hF hg; have SY7 := hid (SyR.step SY6.out hg hF); clear hF hg; refine Hid.out ?_))
  refine hid ?_
  clear cc SY6
  have cc : w7.cell? ⟨w.heap.size + 1 + 1, 8, none⟩ = some (.int .u64 pe) := row_cell SY7.out.c 8
  go_wp2_with (first | (refine wpList_fm_put _ (by rfl) _ _ _ (Or.inr (by rfl)) (w.heap.size + 1 + 1 + 1) 7 _ 210 pe (by rfl) (by rfl) (by rfl) SY7.out.m (by decide) (by decide) HW7 ?_; intro w8 hF hg; have SY8 := hid (SyR.step SY7.out hg hF); clear hF hg; refine Hid.out ?_))
  refine hid ?_
  clear cc SY7
  have cc : w8.cell? ⟨w.heap.size, 10, none⟩ = some (.int .i64 en) := row_cell SY8.out.i 10
  go_wp2_with (first | (refine wpList_fm_put _ (by rfl) _ _ _ (Or.inr (by rfl)) (w.heap.size + 1 + 1 + 1) 8 _ 9001 (u64 en) (by rfl) (by rfl) (by rfl) SY8.out.m (by decide) (by decide) HW8 ?_; intro w9 hF hg; have SY9 := hid (SyR.step SY8.out hg hF); clear hF hg; refine Hid.out ?_))
  refine hid ?_
  clear cc SY8
  go_wp2_with (first | (go_at_call 49; refine (PI.out _ _ _ SY9.out.m).mono ?_; rintro e w10 ⟨b', n', rfl, hb2, hF10, hb⟩; have HB10 := hid hb; have HF10 := hid hF10; clear hb hF10; refine Hid.out ?_))
  have HZ := hid (show (w10.alloc (.cells #[.int .u8 (4), .map (some b')] 61)).heap[w.heap.size + 1]? = some (.cells #[.int .u8 0, .map none] 61 (0, 0)) from row_on (row_on SY9.out.z HB10.out) (ball _ _))
  have HI := hid (show (w10.alloc (.cells #[.int .u8 (4), .map (some b')] 61)).heap[w.heap.size]? = some (.cells (iV 2 co id tg me si ty pr qt pe en) 27 (0, 0)) from row_on (row_on SY9.out.i HB10.out) (ball _ _))
  have HB := hid (show Below w.heap.size w (w10.alloc (.cells #[.int .u8 (4), .map (some b')] 61)) from btr (btr SY9.out.b HB10.out) (ball _ _))
  have HF := hid (HF10.out.alloc (.cells #[.int .u8 (4), .map (some b')] 61))
  have HR := hid (show (w10.alloc (.cells #[.int .u8 (4), .map (some b')] 61)).heap[w10.heap.size]? = some (.cells #[.int .u8 (4), .map (some b')] 61 (0, 0)) from heap_alloc_new _ _)
  have hbz : b' ≠ w.heap.size + 1 := by
    have h1 := row_lt SY9.out.c
    omega
  have hne : w.heap.size + 1 < w10.heap.size := by
    have h1 := row_on SY9.out.c HB10.out
    rcases Nat.lt_or_ge (w.heap.size + 1 + 1) w10.heap.size with h' | h'
    · omega
    · simp [Array.getElem?_eq_none h'] at h1
  clear SY9 HB10 HF10
  refine hid ?_
  go_wp2
  obtain ⟨w11, hw11⟩ : ∃ x, w10.alloc (.cells #[.int .u8 (4), .map (some b')] 61) = x := ⟨_, rfl⟩
  obtain ⟨G, hG⟩ : ∃ x, w10.heap.size = x := ⟨_, rfl⟩
  rw [hG] at HR hne
  rw [hw11] at HZ HI HB HF HR
  rw [hw11, hG]
  clear hw11 hG
  obtain ⟨c0, c1, c2, c3, c4, c5, c6, c7, c8, c9, c10⟩ := cells_I HI.out
  have r0 : w11.cell? ⟨G, 0, none⟩ = some (.int .u8 (4)) := row_cell HR.out 0
  have r1 : w11.cell? ⟨G, 1, none⟩ = some (.map (some b')) := row_cell HR.out 1
  go_region_with (first | (go_at_call 38; refine (IN.out _ _ w11.drew HF.out).mono ?_; rintro e w12 ⟨rfl, hb⟩; obtain ⟨d0, d1, d2, d3, d4, d5, d6, d7, d8, d9, d10⟩ := cells_I (show w12.heap[w.heap.size]? = _ from row_on (w := w11.drew) HI.out hb); have HB12 := hid hb; clear hb))
  all_goals (
    have HZ12 := hid (show w12.heap[w.heap.size + 1]? = some (.cells #[.int .u8 0, .map none] 61 (0, 0)) from row_on (w := w11.drew) HZ.out HB12.out)
    have HBW := hid (show Below w.heap.size w w12 from btr (show Below w.heap.size w w11.drew from HB.out.drew) HB12.out)
    clear d0 d1 d2 d3 d4 d5 d6 d7 d8 d9 d10 c0 c1 c2 c3 c4 c5 c6 c7 c8 c9 c10 r0 r1 HB12
    go_wp2_with (first | (refine wpList_st (by rfl) 61 (.tmp 2) (.tmp 70) (by rfl) (w.heap.size + 1) #[.int .u8 0, .map none] (by rfl) (by rfl) 61 #[.int .u8 0, .map none] HZ12.out info46 rfl (by simp [Value.oneCell']) ?_; intro w3 hst; have HST := hid hst; clear hst; refine Hid.out ?_))
    refine hid ?_
    go_wp2
    exact bodyPost_ret (res46 Tryd.f23 2 3 Tryd.results23 _ _ (w.heap.size + 1) #[.int .u8 0, .map none] _ (by rfl) (by rfl) HST.out.row info46) rfl ⟨rfl, HST.out.bel _ _ HBW.out (by omega)⟩)
set_option maxHeartbeats 2000000 in
set_option maxRecDepth 100000 in
theorem say_eng_yes (co id tg me si ty pr qt pe en : Int) (w : World) (hid0 : Wd id) (htg : Wd tg) (hme : 0 ≤ me ∧ me < 4294967296) (hqt : Wd qt) (hpe : Wd pe) (hin : inB (tagsL 4) (inF id tg me si ty pr qt pe en) = true) (hto : inpV 4 (only (tagsL 4) (inF id tg me si ty pr qt pe en)) = iV 2 co id tg me si ty pr qt pe en) :
    Calls Tryd.prog 23 #[.agg (iV 2 co id tg me si ty pr qt pe en)] w fun e w' => ∃ b n, e = .returned (.tuple #[.agg #[.int .u8 4, .map (some b)], .int .i64 0]) ∧ Fm w' b n (only (tagsL 4) (inF id tg me si ty pr qt pe en)) ∧ Below w.heap.size w w' := by
  have SY0 := hid (syr0 w (iV 2 co id tg me si ty pr qt pe en) #[.int .i64 co, .int .u64 id, .int .u64 tg, .int .u32 me, .int .i64 si, .int .i64 ty, .int .i64 pr, .int .u64 qt, .int .u64 pe])
  have HW0 := hid0
  have HW1 := htg
  have HW2 : Wd me := ⟨hme.1, by omega⟩
  have HW3 := u64_wd si
  have HW4 := u64_wd ty
  have HW5 := u64_wd pr
  have HW6 := hqt
  have HW7 := hpe
  have HW8 := u64_wd en
  have PI := hid (pick_yes 4 (inF id tg me si ty pr qt pe en) hin)
  obtain ⟨y0, y1, y2, y3, y4, y5, y6, y7, y8, y9, y10, hy⟩ := inpV_form 4 (only (tagsL 4) (inF id tg me si ty pr qt pe en))
  have IN := hid (fun b n w => input_any 4 b n (only (tagsL 4) (inF id tg me si ty pr qt pe en)) w (by omega) (by omega))
  rw [hy] at hto IN
  have q := eqI_yes y0 y1 y2 y3 y4 y5 y6 y7 y8 y9 y10 2 co id tg me si ty pr qt pe en hto
  obtain ⟨F, hF⟩ : ∃ F, only (tagsL 4) (inF id tg me si ty pr qt pe en) = F := ⟨_, rfl⟩
  rw [hF] at PI IN
  have HFF := hid hF
  clear hin hy hto hF
  have hmm := @run_makeMap Tryd.prog
  unfold iV at *
  go_enter Tryd.func23, Tryd.ntmps23
  go_wp2_with (first | (refine wpList_fm_put _ (by rfl) _ _ _ (Or.inr (by rfl)) (w.heap.size + 1 + 1 + 1) 0 _ 11 id (by rfl) (by rfl) (by rfl) SY0.out.m (by decide) (by decide) HW0 ?_; intro w1 hF hg; have SY1 := hid (SyR.step SY0.out hg hF); clear hF hg; refine Hid.out ?_))
  refine hid ?_
  clear SY0
  have cc : w1.cell? ⟨w.heap.size + 1 + 1, 2, none⟩ = some (.int .u64 tg) := row_cell SY1.out.c 2
  go_wp2_with (first | (refine wpList_fm_put _ (by rfl) _ _ _ (Or.inr (by rfl)) (w.heap.size + 1 + 1 + 1) 1 _ 41 tg (by rfl) (by rfl) (by rfl) SY1.out.m (by decide) (by decide) HW1 ?_; intro w2 hF hg; have SY2 := hid (SyR.step SY1.out hg hF); clear hF hg; refine Hid.out ?_))
  refine hid ?_
  clear cc SY1
  have cc : w2.cell? ⟨w.heap.size + 1 + 1, 3, none⟩ = some (.int .u32 me) := row_cell SY2.out.c 3
  go_wp2_with (first | (refine wpList_fm_put _ (by rfl) _ _ _ (Or.inr (by rfl)) (w.heap.size + 1 + 1 + 1) 2 _ 1 me (by rfl) (by rfl) (by rfl) SY2.out.m (by decide) (by decide) HW2 ?_; intro w3 hF hg; have SY3 := hid (SyR.step SY2.out hg hF); clear hF hg; refine Hid.out ?_))
  refine hid ?_
  clear cc SY2
  have cc : w3.cell? ⟨w.heap.size + 1 + 1, 4, none⟩ = some (.int .i64 si) := row_cell SY3.out.c 4
  go_wp2_with (first | (refine wpList_fm_put _ (by rfl) _ _ _ (Or.inr (by rfl)) (w.heap.size + 1 + 1 + 1) 3 _ 54 (u64 si) (by rfl) (by rfl) (by rfl) SY3.out.m (by decide) (by decide) HW3 ?_; intro w4 hF hg; have SY4 := hid (SyR.step SY3.out hg hF); clear hF hg; refine Hid.out ?_))
  refine hid ?_
  clear cc SY3
  have cc : w4.cell? ⟨w.heap.size + 1 + 1, 5, none⟩ = some (.int .i64 ty) := row_cell SY4.out.c 5
  go_wp2_with (first | (refine wpList_fm_put _ (by rfl) _ _ _ (Or.inr (by rfl)) (w.heap.size + 1 + 1 + 1) 4 _ 40 (u64 ty) (by rfl) (by rfl) (by rfl) SY4.out.m (by decide) (by decide) HW4 ?_; intro w5 hF hg; have SY5 := hid (SyR.step SY4.out hg hF); clear hF hg; refine Hid.out ?_))
  refine hid ?_
  clear cc SY4
  have cc : w5.cell? ⟨w.heap.size + 1 + 1, 6, none⟩ = some (.int .i64 pr) := row_cell SY5.out.c 6
  go_wp2_with (first | (refine wpList_fm_put _ (by rfl) _ _ _ (Or.inr (by rfl)) (w.heap.size + 1 + 1 + 1) 5 _ 44 (u64 pr) (by rfl) (by rfl) (by rfl) SY5.out.m (by decide) (by decide) HW5 ?_; intro w6 hF hg; have SY6 := hid (SyR.step SY5.out hg hF); clear hF hg; refine Hid.out ?_))
  refine hid ?_
  clear cc SY5
  have cc : w6.cell? ⟨w.heap.size + 1 + 1, 7, none⟩ = some (.int .u64 qt) := row_cell SY6.out.c 7
  go_wp2_with (first | (refine wpList_fm_put _ (by rfl) _ _ _ (Or.inr (by rfl)) (w.heap.size + 1 + 1 + 1) 6 _ 38 qt (by rfl) (by rfl) (by rfl) SY6.out.m (by decide) (by decide) HW6 ?_; intro w7 hF hg; have SY7 := hid (SyR.step SY6.out hg hF); clear hF hg; refine Hid.out ?_))
  refine hid ?_
  clear cc SY6
  have cc : w7.cell? ⟨w.heap.size + 1 + 1, 8, none⟩ = some (.int .u64 pe) := row_cell SY7.out.c 8
  go_wp2_with (first | (refine wpList_fm_put _ (by rfl) _ _ _ (Or.inr (by rfl)) (w.heap.size + 1 + 1 + 1) 7 _ 210 pe (by rfl) (by rfl) (by rfl) SY7.out.m (by decide) (by decide) HW7 ?_; intro w8 hF hg; have SY8 := hid (SyR.step SY7.out hg hF); clear hF hg; refine Hid.out ?_))
  refine hid ?_
  clear cc SY7
  have cc : w8.cell? ⟨w.heap.size, 10, none⟩ = some (.int .i64 en) := row_cell SY8.out.i 10
  go_wp2_with (first | (refine wpList_fm_put _ (by rfl) _ _ _ (Or.inr (by rfl)) (w.heap.size + 1 + 1 + 1) 8 _ 9001 (u64 en) (by rfl) (by rfl) (by rfl) SY8.out.m (by decide) (by decide) HW8 ?_; intro w9 hF hg; have SY9 := hid (SyR.step SY8.out hg hF); clear hF hg; refine Hid.out ?_))
  refine hid ?_
  clear cc SY8
  go_wp2_with (first | (go_at_call 49; refine (PI.out _ _ _ SY9.out.m).mono ?_; rintro e w10 ⟨b', n', rfl, hb2, hF10, hb⟩; have HB10 := hid hb; have HF10 := hid hF10; clear hb hF10; refine Hid.out ?_))
  have HZ := hid (show (w10.alloc (.cells #[.int .u8 (4), .map (some b')] 61)).heap[w.heap.size + 1]? = some (.cells #[.int .u8 0, .map none] 61 (0, 0)) from row_on (row_on SY9.out.z HB10.out) (ball _ _))
  have HI := hid (show (w10.alloc (.cells #[.int .u8 (4), .map (some b')] 61)).heap[w.heap.size]? = some (.cells (iV 2 co id tg me si ty pr qt pe en) 27 (0, 0)) from row_on (row_on SY9.out.i HB10.out) (ball _ _))
  have HB := hid (show Below w.heap.size w (w10.alloc (.cells #[.int .u8 (4), .map (some b')] 61)) from btr (btr SY9.out.b HB10.out) (ball _ _))
  have HF := hid (HF10.out.alloc (.cells #[.int .u8 (4), .map (some b')] 61))
  have HR := hid (show (w10.alloc (.cells #[.int .u8 (4), .map (some b')] 61)).heap[w10.heap.size]? = some (.cells #[.int .u8 (4), .map (some b')] 61 (0, 0)) from heap_alloc_new _ _)
  have hbz : b' ≠ w.heap.size + 1 := by
    have h1 := row_lt SY9.out.c
    omega
  have hne : w.heap.size + 1 < w10.heap.size := by
    have h1 := row_on SY9.out.c HB10.out
    rcases Nat.lt_or_ge (w.heap.size + 1 + 1) w10.heap.size with h' | h'
    · omega
    · simp [Array.getElem?_eq_none h'] at h1
  clear SY9 HB10 HF10
  refine hid ?_
  go_wp2
  obtain ⟨w11, hw11⟩ : ∃ x, w10.alloc (.cells #[.int .u8 (4), .map (some b')] 61) = x := ⟨_, rfl⟩
  obtain ⟨G, hG⟩ : ∃ x, w10.heap.size = x := ⟨_, rfl⟩
  rw [hG] at HR hne
  rw [hw11] at HZ HI HB HF HR
  rw [hw11, hG]
  clear hw11 hG
  obtain ⟨c0, c1, c2, c3, c4, c5, c6, c7, c8, c9, c10⟩ := cells_I HI.out
  have r0 : w11.cell? ⟨G, 0, none⟩ = some (.int .u8 (4)) := row_cell HR.out 0
  have r1 : w11.cell? ⟨G, 1, none⟩ = some (.map (some b')) := row_cell HR.out 1
  go_region_with (first | (go_at_call 38; refine (IN.out _ _ w11.drew HF.out).mono ?_; rintro e w12 ⟨rfl, hb⟩; obtain ⟨d0, d1, d2, d3, d4, d5, d6, d7, d8, d9, d10⟩ := cells_I (show w12.heap[w.heap.size]? = _ from row_on (w := w11.drew) HI.out hb); have HB12 := hid hb; clear hb))
  all_goals (
    have HZ12 := hid (show w12.heap[w.heap.size + 1]? = some (.cells #[.int .u8 0, .map none] 61 (0, 0)) from row_on (w := w11.drew) HZ.out HB12.out)
    have HR12 := hid (show w12.heap[G]? = some (.cells #[.int .u8 (4), .map (some b')] 61 (0, 0)) from row_on (w := w11.drew) HR.out HB12.out)
    have HF12 := hid (Fm.on (w := w11.drew) HF.out HB12.out)
    have HBW := hid (show Below w.heap.size w w12 from btr (show Below w.heap.size w w11.drew from HB.out.drew) HB12.out)
    clear d0 d1 d2 d3 d4 d5 d6 d7 d8 d9 d10 c0 c1 c2 c3 c4 c5 c6 c7 c8 c9 c10 r0 r1 HB12
    go_wp2_with (first
      | (refine wpList_load_row (by rfl) 61 (.tmp 6) (by rfl) G (by rfl) 61 #[.int .u8 (4), .map (some b')] (0, 0) _ HR12.out Tryd.underlying61 rfl info46 ?_)
      | (refine wpList_st (by rfl) 61 (.tmp 2) (.tmp 71) (by rfl) (w.heap.size + 1) #[.int .u8 (4), .map (some b')] (by rfl) (by rfl) 61 #[.int .u8 0, .map none] HZ12.out info46 rfl (by simp [Value.oneCell']) ?_; intro w3 hst; have HST := hid hst; clear hst; refine Hid.out ?_))
    refine hid ?_
    go_wp2
    refine bodyPost_ret (res46 Tryd.f23 2 3 Tryd.results23 _ _ (w.heap.size + 1) #[.int .u8 (4), .map (some b')] _ (by rfl) (by rfl) HST.out.row info46) rfl ⟨b', n', rfl, ?_, HST.out.bel _ _ HBW.out (by omega)⟩
    rw [HFF.out]
    exact HST.out.fm hbz HF12.out)
set_option maxHeartbeats 2000000 in
set_option maxRecDepth 100000 in
theorem say_cmd_out (co id tg me si ty pr qt pe en : Int) (w : World) (h1 : 1 ≤ co) (h3 : co ≤ 3) (hid0 : Wd id) (htg : Wd tg) (hme : 0 ≤ me ∧ me < 4294967296) (hqt : Wd qt) (hpe : Wd pe) (hout : inB (tagsL co) (inF id tg me si ty pr qt pe en) = false) :
    Calls Tryd.prog 23 #[.agg (iV 1 co id tg me si ty pr qt pe en)] w fun e w' => e = .returned (.tuple #[.agg #[.int .u8 0, .map none], .int .i64 40]) ∧ Below w.heap.size w w' := by
  have SY0 := hid (syr0 w (iV 1 co id tg me si ty pr qt pe en) #[.int .i64 co, .int .u64 id, .int .u64 tg, .int .u32 me, .int .i64 si, .int .i64 ty, .int .i64 pr, .int .u64 qt, .int .u64 pe])
  have HW0 := hid0
  have HW1 := htg
  have HW2 : Wd me := ⟨hme.1, by omega⟩
  have HW3 := u64_wd si
  have HW4 := u64_wd ty
  have HW5 := u64_wd pr
  have HW6 := hqt
  have HW7 := hpe
  have HW8 := u64_wd en
  have hcv : co % 256 = co := by omega
  have PI := hid (pick_no co (inF id tg me si ty pr qt pe en) hout)
  clear hout
  have hmm := @run_makeMap Tryd.prog
  unfold iV at *
  go_enter Tryd.func23, Tryd.ntmps23
  go_wp2_with (first | (refine wpList_fm_put _ (by rfl) _ _ _ (Or.inr (by rfl)) (w.heap.size + 1 + 1 + 1) 0 _ 11 id (by rfl) (by rfl) (by rfl) SY0.out.m (by decide) (by decide) HW0 ?_; intro w1 hF hg; have SY1 := hid (SyR.step SY0.out hg hF); clear hF hg; refine Hid.out ?_))
  refine hid ?_
  clear SY0
  have cc : w1.cell? ⟨w.heap.size + 1 + 1, 2, none⟩ = some (.int .u64 tg) := row_cell SY1.out.c 2
  go_wp2_with (first | (refine wpList_fm_put _ (by rfl) _ _ _ (Or.inr (by rfl)) (w.heap.size + 1 + 1 + 1) 1 _ 41 tg (by rfl) (by rfl) (by rfl) SY1.out.m (by decide) (by decide) HW1 ?_; intro w2 hF hg; have SY2 := hid (SyR.step SY1.out hg hF); clear hF hg; refine Hid.out ?_))
  refine hid ?_
  clear cc SY1
  have cc : w2.cell? ⟨w.heap.size + 1 + 1, 3, none⟩ = some (.int .u32 me) := row_cell SY2.out.c 3
  go_wp2_with (first | (refine wpList_fm_put _ (by rfl) _ _ _ (Or.inr (by rfl)) (w.heap.size + 1 + 1 + 1) 2 _ 1 me (by rfl) (by rfl) (by rfl) SY2.out.m (by decide) (by decide) HW2 ?_; intro w3 hF hg; have SY3 := hid (SyR.step SY2.out hg hF); clear hF hg; refine Hid.out ?_))
  refine hid ?_
  clear cc SY2
  have cc : w3.cell? ⟨w.heap.size + 1 + 1, 4, none⟩ = some (.int .i64 si) := row_cell SY3.out.c 4
  go_wp2_with (first | (refine wpList_fm_put _ (by rfl) _ _ _ (Or.inr (by rfl)) (w.heap.size + 1 + 1 + 1) 3 _ 54 (u64 si) (by rfl) (by rfl) (by rfl) SY3.out.m (by decide) (by decide) HW3 ?_; intro w4 hF hg; have SY4 := hid (SyR.step SY3.out hg hF); clear hF hg; refine Hid.out ?_))
  refine hid ?_
  clear cc SY3
  have cc : w4.cell? ⟨w.heap.size + 1 + 1, 5, none⟩ = some (.int .i64 ty) := row_cell SY4.out.c 5
  go_wp2_with (first | (refine wpList_fm_put _ (by rfl) _ _ _ (Or.inr (by rfl)) (w.heap.size + 1 + 1 + 1) 4 _ 40 (u64 ty) (by rfl) (by rfl) (by rfl) SY4.out.m (by decide) (by decide) HW4 ?_; intro w5 hF hg; have SY5 := hid (SyR.step SY4.out hg hF); clear hF hg; refine Hid.out ?_))
  refine hid ?_
  clear cc SY4
  have cc : w5.cell? ⟨w.heap.size + 1 + 1, 6, none⟩ = some (.int .i64 pr) := row_cell SY5.out.c 6
  go_wp2_with (first | (refine wpList_fm_put _ (by rfl) _ _ _ (Or.inr (by rfl)) (w.heap.size + 1 + 1 + 1) 5 _ 44 (u64 pr) (by rfl) (by rfl) (by rfl) SY5.out.m (by decide) (by decide) HW5 ?_; intro w6 hF hg; have SY6 := hid (SyR.step SY5.out hg hF); clear hF hg; refine Hid.out ?_))
  refine hid ?_
  clear cc SY5
  have cc : w6.cell? ⟨w.heap.size + 1 + 1, 7, none⟩ = some (.int .u64 qt) := row_cell SY6.out.c 7
  go_wp2_with (first | (refine wpList_fm_put _ (by rfl) _ _ _ (Or.inr (by rfl)) (w.heap.size + 1 + 1 + 1) 6 _ 38 qt (by rfl) (by rfl) (by rfl) SY6.out.m (by decide) (by decide) HW6 ?_; intro w7 hF hg; have SY7 := hid (SyR.step SY6.out hg hF); clear hF hg; refine Hid.out ?_))
  refine hid ?_
  clear cc SY6
  have cc : w7.cell? ⟨w.heap.size + 1 + 1, 8, none⟩ = some (.int .u64 pe) := row_cell SY7.out.c 8
  go_wp2_with (first | (refine wpList_fm_put _ (by rfl) _ _ _ (Or.inr (by rfl)) (w.heap.size + 1 + 1 + 1) 7 _ 210 pe (by rfl) (by rfl) (by rfl) SY7.out.m (by decide) (by decide) HW7 ?_; intro w8 hF hg; have SY8 := hid (SyR.step SY7.out hg hF); clear hF hg; refine Hid.out ?_))
  refine hid ?_
  clear cc SY7
  have cc : w8.cell? ⟨w.heap.size, 10, none⟩ = some (.int .i64 en) := row_cell SY8.out.i 10
  go_wp2_with (first | (refine wpList_fm_put _ (by rfl) _ _ _ (Or.inr (by rfl)) (w.heap.size + 1 + 1 + 1) 8 _ 9001 (u64 en) (by rfl) (by rfl) (by rfl) SY8.out.m (by decide) (by decide) HW8 ?_; intro w9 hF hg; have SY9 := hid (SyR.step SY8.out hg hF); clear hF hg; refine Hid.out ?_))
  refine hid ?_
  clear cc SY8
  go_wp2_with (first | (go_at_call 49; refine (PI.out _ _ _ SY9.out.m).mono ?_; rintro e w10 ⟨rfl, hb⟩; have HB10 := hid hb; clear hb; refine Hid.out ?_))
  have HZ := hid (show ∀ o, (w10.alloc o).heap[w.heap.size + 1]? = some (.cells #[.int .u8 0, .map none] 61 (0, 0)) from fun o => row_on (row_on SY9.out.z HB10.out) (ball _ _))
  have HB := hid (btr SY9.out.b (HB10.out.mono (Nat.le_refl _)))
  clear SY9 HB10
  refine hid ?_
  go_wp2
  go_quiet (fail)
  go_wp2_with (first | (refine wpList_st (by rfl) 61 (.tmp 2) (.tmp 70) (by rfl) (w.heap.size + 1) #[.int .u8 0, .map none] (by rfl) (by rfl) 61 #[.int .u8 0, .map none] (HZ.out _) info46 rfl (by simp [Value.oneCell']) ?_; intro w3 hst; have HST := hid hst; clear hst; refine Hid.out ?_))
  refine hid ?_
  go_wp2
  exact bodyPost_ret (res46 Tryd.f23 2 3 Tryd.results23 _ _ (w.heap.size + 1) #[.int .u8 0, .map none] _ (by rfl) (by rfl) HST.out.row info46) rfl ⟨rfl, HST.out.bel _ _ (below_drewN (btr HB.out (ball _ _)) _) (by omega)⟩
set_option maxHeartbeats 2000000 in
set_option maxRecDepth 100000 in
theorem say_cmd_no (co id tg me si ty pr qt pe en : Int) (w : World) (h1 : 1 ≤ co) (h3 : co ≤ 3) (hid0 : Wd id) (htg : Wd tg) (hme : 0 ≤ me ∧ me < 4294967296) (hqt : Wd qt) (hpe : Wd pe) (hin : inB (tagsL co) (inF id tg me si ty pr qt pe en) = true) (hto : ¬ inpV co (only (tagsL co) (inF id tg me si ty pr qt pe en)) = iV 1 co id tg me si ty pr qt pe en) :
    Calls Tryd.prog 23 #[.agg (iV 1 co id tg me si ty pr qt pe en)] w fun e w' => e = .returned (.tuple #[.agg #[.int .u8 0, .map none], .int .i64 40]) ∧ Below w.heap.size w w' := by
  have SY0 := hid (syr0 w (iV 1 co id tg me si ty pr qt pe en) #[.int .i64 co, .int .u64 id, .int .u64 tg, .int .u32 me, .int .i64 si, .int .i64 ty, .int .i64 pr, .int .u64 qt, .int .u64 pe])
  have HW0 := hid0
  have HW1 := htg
  have HW2 : Wd me := ⟨hme.1, by omega⟩
  have HW3 := u64_wd si
  have HW4 := u64_wd ty
  have HW5 := u64_wd pr
  have HW6 := hqt
  have HW7 := hpe
  have HW8 := u64_wd en
  have hcv : co % 256 = co := by omega
  have PI := hid (pick_yes co (inF id tg me si ty pr qt pe en) hin)
  obtain ⟨y0, y1, y2, y3, y4, y5, y6, y7, y8, y9, y10, hy⟩ := inpV_form co (only (tagsL co) (inF id tg me si ty pr qt pe en))
  have IN := hid (fun b n w => input_any co b n (only (tagsL co) (inF id tg me si ty pr qt pe en)) w (by omega) (by omega))
  rw [hy] at hto IN
  have q := eqI_no y0 y1 y2 y3 y4 y5 y6 y7 y8 y9 y10 1 co id tg me si ty pr qt pe en hto
  obtain ⟨F, hF⟩ : ∃ F, only (tagsL co) (inF id tg me si ty pr qt pe en) = F := ⟨_, rfl⟩
  rw [hF] at PI IN
  have HFF := hid hF
  clear hin hy hto hF
  have hmm := @run_makeMap Tryd.prog
  unfold iV at *
  go_enter Tryd.func23, Tryd.ntmps23
  go_wp2_with (first | (refine wpList_fm_put _ (by rfl) _ _ _ (Or.inr (by rfl)) (w.heap.size + 1 + 1 + 1) 0 _ 11 id (by rfl) (by rfl) (by rfl) SY0.out.m (by decide) (by decide) HW0 ?_; intro w1 hF hg; have SY1 := hid (SyR.step SY0.out hg hF); clear hF hg; refine Hid.out ?_))
  refine hid ?_
  clear SY0
  have cc : w1.cell? ⟨w.heap.size + 1 + 1, 2, none⟩ = some (.int .u64 tg) := row_cell SY1.out.c 2
  go_wp2_with (first | (refine wpList_fm_put _ (by rfl) _ _ _ (Or.inr (by rfl)) (w.heap.size + 1 + 1 + 1) 1 _ 41 tg (by rfl) (by rfl) (by rfl) SY1.out.m (by decide) (by decide) HW1 ?_; intro w2 hF hg; have SY2 := hid (SyR.step SY1.out hg hF); clear hF hg; refine Hid.out ?_))
  refine hid ?_
  clear cc SY1
  have cc : w2.cell? ⟨w.heap.size + 1 + 1, 3, none⟩ = some (.int .u32 me) := row_cell SY2.out.c 3
  go_wp2_with (first | (refine wpList_fm_put _ (by rfl) _ _ _ (Or.inr (by rfl)) (w.heap.size + 1 + 1 + 1) 2 _ 1 me (by rfl) (by rfl) (by rfl) SY2.out.m (by decide) (by decide) HW2 ?_; intro w3 hF hg; have SY3 := hid (SyR.step SY2.out hg hF); clear hF hg; refine Hid.out ?_))
  refine hid ?_
  clear cc SY2
  have cc : w3.cell? ⟨w.heap.size + 1 + 1, 4, none⟩ = some (.int .i64 si) := row_cell SY3.out.c 4
  go_wp2_with (first | (refine wpList_fm_put _ (by rfl) _ _ _ (Or.inr (by rfl)) (w.heap.size + 1 + 1 + 1) 3 _ 54 (u64 si) (by rfl) (by rfl) (by rfl) SY3.out.m (by decide) (by decide) HW3 ?_; intro w4 hF hg; have SY4 := hid (SyR.step SY3.out hg hF); clear hF hg; refine Hid.out ?_))
  refine hid ?_
  clear cc SY3
  have cc : w4.cell? ⟨w.heap.size + 1 + 1, 5, none⟩ = some (.int .i64 ty) := row_cell SY4.out.c 5
  go_wp2_with (first | (refine wpList_fm_put _ (by rfl) _ _ _ (Or.inr (by rfl)) (w.heap.size + 1 + 1 + 1) 4 _ 40 (u64 ty) (by rfl) (by rfl) (by rfl) SY4.out.m (by decide) (by decide) HW4 ?_; intro w5 hF hg; have SY5 := hid (SyR.step SY4.out hg hF); clear hF hg; refine Hid.out ?_))
  refine hid ?_
  clear cc SY4
  have cc : w5.cell? ⟨w.heap.size + 1 + 1, 6, none⟩ = some (.int .i64 pr) := row_cell SY5.out.c 6
  go_wp2_with (first | (refine wpList_fm_put _ (by rfl) _ _ _ (Or.inr (by rfl)) (w.heap.size + 1 + 1 + 1) 5 _ 44 (u64 pr) (by rfl) (by rfl) (by rfl) SY5.out.m (by decide) (by decide) HW5 ?_; intro w6 hF hg; have SY6 := hid (SyR.step SY5.out hg hF); clear hF hg; refine Hid.out ?_))
  refine hid ?_
  clear cc SY5
  have cc : w6.cell? ⟨w.heap.size + 1 + 1, 7, none⟩ = some (.int .u64 qt) := row_cell SY6.out.c 7
  go_wp2_with (first | (refine wpList_fm_put _ (by rfl) _ _ _ (Or.inr (by rfl)) (w.heap.size + 1 + 1 + 1) 6 _ 38 qt (by rfl) (by rfl) (by rfl) SY6.out.m (by decide) (by decide) HW6 ?_; intro w7 hF hg; have SY7 := hid (SyR.step SY6.out hg hF); clear hF hg; refine Hid.out ?_))
  refine hid ?_
  clear cc SY6
  have cc : w7.cell? ⟨w.heap.size + 1 + 1, 8, none⟩ = some (.int .u64 pe) := row_cell SY7.out.c 8
  go_wp2_with (first | (refine wpList_fm_put _ (by rfl) _ _ _ (Or.inr (by rfl)) (w.heap.size + 1 + 1 + 1) 7 _ 210 pe (by rfl) (by rfl) (by rfl) SY7.out.m (by decide) (by decide) HW7 ?_; intro w8 hF hg; have SY8 := hid (SyR.step SY7.out hg hF); clear hF hg; refine Hid.out ?_))
  refine hid ?_
  clear cc SY7
  have cc : w8.cell? ⟨w.heap.size, 10, none⟩ = some (.int .i64 en) := row_cell SY8.out.i 10
  go_wp2_with (first | (refine wpList_fm_put _ (by rfl) _ _ _ (Or.inr (by rfl)) (w.heap.size + 1 + 1 + 1) 8 _ 9001 (u64 en) (by rfl) (by rfl) (by rfl) SY8.out.m (by decide) (by decide) HW8 ?_; intro w9 hF hg; have SY9 := hid (SyR.step SY8.out hg hF); clear hF hg; refine Hid.out ?_))
  refine hid ?_
  clear cc SY8
  go_wp2_with (first | (go_at_call 49; refine (PI.out _ _ _ SY9.out.m).mono ?_; rintro e w10 ⟨b', n', rfl, hb2, hF10, hb⟩; have HB10 := hid hb; have HF10 := hid hF10; clear hb hF10; refine Hid.out ?_))
  have HZ := hid (show (w10.alloc (.cells #[.int .u8 (co), .map (some b')] 61)).heap[w.heap.size + 1]? = some (.cells #[.int .u8 0, .map none] 61 (0, 0)) from row_on (row_on SY9.out.z HB10.out) (ball _ _))
  have HI := hid (show (w10.alloc (.cells #[.int .u8 (co), .map (some b')] 61)).heap[w.heap.size]? = some (.cells (iV 1 co id tg me si ty pr qt pe en) 27 (0, 0)) from row_on (row_on SY9.out.i HB10.out) (ball _ _))
  have HB := hid (show Below w.heap.size w (w10.alloc (.cells #[.int .u8 (co), .map (some b')] 61)) from btr (btr SY9.out.b HB10.out) (ball _ _))
  have HF := hid (HF10.out.alloc (.cells #[.int .u8 (co), .map (some b')] 61))
  have HR := hid (show (w10.alloc (.cells #[.int .u8 (co), .map (some b')] 61)).heap[w10.heap.size]? = some (.cells #[.int .u8 (co), .map (some b')] 61 (0, 0)) from heap_alloc_new _ _)
  have hbz : b' ≠ w.heap.size + 1 := by
    have h1 := row_lt SY9.out.c
    omega
  have hne : w.heap.size + 1 < w10.heap.size := by
    have h1 := row_on SY9.out.c HB10.out
    rcases Nat.lt_or_ge (w.heap.size + 1 + 1) w10.heap.size with h' | h'
    · omega
    · simp [Array.getElem?_eq_none h'] at h1
  clear SY9 HB10 HF10
  refine hid ?_
  go_wp2
  obtain ⟨w11, hw11⟩ : ∃ x, w10.alloc (.cells #[.int .u8 (co), .map (some b')] 61) = x := ⟨_, rfl⟩
  obtain ⟨G, hG⟩ : ∃ x, w10.heap.size = x := ⟨_, rfl⟩
  rw [hG] at HR hne
  rw [hw11] at HZ HI HB HF HR
  rw [hw11, hG]
  clear hw11 hG
  obtain ⟨c0, c1, c2, c3, c4, c5, c6, c7, c8, c9, c10⟩ := cells_I HI.out
  have r0 : w11.cell? ⟨G, 0, none⟩ = some (.int .u8 (co)) := row_cell HR.out 0
  have r1 : w11.cell? ⟨G, 1, none⟩ = some (.map (some b')) := row_cell HR.out 1
  go_region_with (first | (go_at_call 38; refine (IN.out _ _ w11.drew HF.out).mono ?_; rintro e w12 ⟨rfl, hb⟩; obtain ⟨d0, d1, d2, d3, d4, d5, d6, d7, d8, d9, d10⟩ := cells_I (show w12.heap[w.heap.size]? = _ from row_on (w := w11.drew) HI.out hb); have HB12 := hid hb; clear hb))
  all_goals (
    have HZ12 := hid (show w12.heap[w.heap.size + 1]? = some (.cells #[.int .u8 0, .map none] 61 (0, 0)) from row_on (w := w11.drew) HZ.out HB12.out)
    have HBW := hid (show Below w.heap.size w w12 from btr (show Below w.heap.size w w11.drew from HB.out.drew) HB12.out)
    clear d0 d1 d2 d3 d4 d5 d6 d7 d8 d9 d10 c0 c1 c2 c3 c4 c5 c6 c7 c8 c9 c10 r0 r1 HB12
    go_wp2_with (first | (refine wpList_st (by rfl) 61 (.tmp 2) (.tmp 70) (by rfl) (w.heap.size + 1) #[.int .u8 0, .map none] (by rfl) (by rfl) 61 #[.int .u8 0, .map none] HZ12.out info46 rfl (by simp [Value.oneCell']) ?_; intro w3 hst; have HST := hid hst; clear hst; refine Hid.out ?_))
    refine hid ?_
    go_wp2
    exact bodyPost_ret (res46 Tryd.f23 2 3 Tryd.results23 _ _ (w.heap.size + 1) #[.int .u8 0, .map none] _ (by rfl) (by rfl) HST.out.row info46) rfl ⟨rfl, HST.out.bel _ _ HBW.out (by omega)⟩)
set_option maxHeartbeats 2000000 in
set_option maxRecDepth 100000 in
theorem say_cmd_yes (co id tg me si ty pr qt pe en : Int) (w : World) (h1 : 1 ≤ co) (h3 : co ≤ 3) (hid0 : Wd id) (htg : Wd tg) (hme : 0 ≤ me ∧ me < 4294967296) (hqt : Wd qt) (hpe : Wd pe) (hin : inB (tagsL co) (inF id tg me si ty pr qt pe en) = true) (hto : inpV co (only (tagsL co) (inF id tg me si ty pr qt pe en)) = iV 1 co id tg me si ty pr qt pe en) :
    Calls Tryd.prog 23 #[.agg (iV 1 co id tg me si ty pr qt pe en)] w fun e w' => ∃ b n, e = .returned (.tuple #[.agg #[.int .u8 co, .map (some b)], .int .i64 0]) ∧ Fm w' b n (only (tagsL co) (inF id tg me si ty pr qt pe en)) ∧ Below w.heap.size w w' := by
  have SY0 := hid (syr0 w (iV 1 co id tg me si ty pr qt pe en) #[.int .i64 co, .int .u64 id, .int .u64 tg, .int .u32 me, .int .i64 si, .int .i64 ty, .int .i64 pr, .int .u64 qt, .int .u64 pe])
  have HW0 := hid0
  have HW1 := htg
  have HW2 : Wd me := ⟨hme.1, by omega⟩
  have HW3 := u64_wd si
  have HW4 := u64_wd ty
  have HW5 := u64_wd pr
  have HW6 := hqt
  have HW7 := hpe
  have HW8 := u64_wd en
  have hcv : co % 256 = co := by omega
  have PI := hid (pick_yes co (inF id tg me si ty pr qt pe en) hin)
  obtain ⟨y0, y1, y2, y3, y4, y5, y6, y7, y8, y9, y10, hy⟩ := inpV_form co (only (tagsL co) (inF id tg me si ty pr qt pe en))
  have IN := hid (fun b n w => input_any co b n (only (tagsL co) (inF id tg me si ty pr qt pe en)) w (by omega) (by omega))
  rw [hy] at hto IN
  have q := eqI_yes y0 y1 y2 y3 y4 y5 y6 y7 y8 y9 y10 1 co id tg me si ty pr qt pe en hto
  obtain ⟨F, hF⟩ : ∃ F, only (tagsL co) (inF id tg me si ty pr qt pe en) = F := ⟨_, rfl⟩
  rw [hF] at PI IN
  have HFF := hid hF
  clear hin hy hto hF
  have hmm := @run_makeMap Tryd.prog
  unfold iV at *
  go_enter Tryd.func23, Tryd.ntmps23
  go_wp2_with (first | (refine wpList_fm_put _ (by rfl) _ _ _ (Or.inr (by rfl)) (w.heap.size + 1 + 1 + 1) 0 _ 11 id (by rfl) (by rfl) (by rfl) SY0.out.m (by decide) (by decide) HW0 ?_; intro w1 hF hg; have SY1 := hid (SyR.step SY0.out hg hF); clear hF hg; refine Hid.out ?_))
  refine hid ?_
  clear SY0
  have cc : w1.cell? ⟨w.heap.size + 1 + 1, 2, none⟩ = some (.int .u64 tg) := row_cell SY1.out.c 2
  go_wp2_with (first | (refine wpList_fm_put _ (by rfl) _ _ _ (Or.inr (by rfl)) (w.heap.size + 1 + 1 + 1) 1 _ 41 tg (by rfl) (by rfl) (by rfl) SY1.out.m (by decide) (by decide) HW1 ?_; intro w2 hF hg; have SY2 := hid (SyR.step SY1.out hg hF); clear hF hg; refine Hid.out ?_))
  refine hid ?_
  clear cc SY1
  have cc : w2.cell? ⟨w.heap.size + 1 + 1, 3, none⟩ = some (.int .u32 me) := row_cell SY2.out.c 3
  go_wp2_with (first | (refine wpList_fm_put _ (by rfl) _ _ _ (Or.inr (by rfl)) (w.heap.size + 1 + 1 + 1) 2 _ 1 me (by rfl) (by rfl) (by rfl) SY2.out.m (by decide) (by decide) HW2 ?_; intro w3 hF hg; have SY3 := hid (SyR.step SY2.out hg hF); clear hF hg; refine Hid.out ?_))
  refine hid ?_
  clear cc SY2
  have cc : w3.cell? ⟨w.heap.size + 1 + 1, 4, none⟩ = some (.int .i64 si) := row_cell SY3.out.c 4
  go_wp2_with (first | (refine wpList_fm_put _ (by rfl) _ _ _ (Or.inr (by rfl)) (w.heap.size + 1 + 1 + 1) 3 _ 54 (u64 si) (by rfl) (by rfl) (by rfl) SY3.out.m (by decide) (by decide) HW3 ?_; intro w4 hF hg; have SY4 := hid (SyR.step SY3.out hg hF); clear hF hg; refine Hid.out ?_))
  refine hid ?_
  clear cc SY3
  have cc : w4.cell? ⟨w.heap.size + 1 + 1, 5, none⟩ = some (.int .i64 ty) := row_cell SY4.out.c 5
  go_wp2_with (first | (refine wpList_fm_put _ (by rfl) _ _ _ (Or.inr (by rfl)) (w.heap.size + 1 + 1 + 1) 4 _ 40 (u64 ty) (by rfl) (by rfl) (by rfl) SY4.out.m (by decide) (by decide) HW4 ?_; intro w5 hF hg; have SY5 := hid (SyR.step SY4.out hg hF); clear hF hg; refine Hid.out ?_))
  refine hid ?_
  clear cc SY4
  have cc : w5.cell? ⟨w.heap.size + 1 + 1, 6, none⟩ = some (.int .i64 pr) := row_cell SY5.out.c 6
  go_wp2_with (first | (refine wpList_fm_put _ (by rfl) _ _ _ (Or.inr (by rfl)) (w.heap.size + 1 + 1 + 1) 5 _ 44 (u64 pr) (by rfl) (by rfl) (by rfl) SY5.out.m (by decide) (by decide) HW5 ?_; intro w6 hF hg; have SY6 := hid (SyR.step SY5.out hg hF); clear hF hg; refine Hid.out ?_))
  refine hid ?_
  clear cc SY5
  have cc : w6.cell? ⟨w.heap.size + 1 + 1, 7, none⟩ = some (.int .u64 qt) := row_cell SY6.out.c 7
  go_wp2_with (first | (refine wpList_fm_put _ (by rfl) _ _ _ (Or.inr (by rfl)) (w.heap.size + 1 + 1 + 1) 6 _ 38 qt (by rfl) (by rfl) (by rfl) SY6.out.m (by decide) (by decide) HW6 ?_; intro w7 hF hg; have SY7 := hid (SyR.step SY6.out hg hF); clear hF hg; refine Hid.out ?_))
  refine hid ?_
  clear cc SY6
  have cc : w7.cell? ⟨w.heap.size + 1 + 1, 8, none⟩ = some (.int .u64 pe) := row_cell SY7.out.c 8
  go_wp2_with (first | (refine wpList_fm_put _ (by rfl) _ _ _ (Or.inr (by rfl)) (w.heap.size + 1 + 1 + 1) 7 _ 210 pe (by rfl) (by rfl) (by rfl) SY7.out.m (by decide) (by decide) HW7 ?_; intro w8 hF hg; have SY8 := hid (SyR.step SY7.out hg hF); clear hF hg; refine Hid.out ?_))
  refine hid ?_
  clear cc SY7
  have cc : w8.cell? ⟨w.heap.size, 10, none⟩ = some (.int .i64 en) := row_cell SY8.out.i 10
  go_wp2_with (first | (refine wpList_fm_put _ (by rfl) _ _ _ (Or.inr (by rfl)) (w.heap.size + 1 + 1 + 1) 8 _ 9001 (u64 en) (by rfl) (by rfl) (by rfl) SY8.out.m (by decide) (by decide) HW8 ?_; intro w9 hF hg; have SY9 := hid (SyR.step SY8.out hg hF); clear hF hg; refine Hid.out ?_))
  refine hid ?_
  clear cc SY8
  go_wp2_with (first | (go_at_call 49; refine (PI.out _ _ _ SY9.out.m).mono ?_; rintro e w10 ⟨b', n', rfl, hb2, hF10, hb⟩; have HB10 := hid hb; have HF10 := hid hF10; clear hb hF10; refine Hid.out ?_))
  have HZ := hid (show (w10.alloc (.cells #[.int .u8 (co), .map (some b')] 61)).heap[w.heap.size + 1]? = some (.cells #[.int .u8 0, .map none] 61 (0, 0)) from row_on (row_on SY9.out.z HB10.out) (ball _ _))
  have HI := hid (show (w10.alloc (.cells #[.int .u8 (co), .map (some b')] 61)).heap[w.heap.size]? = some (.cells (iV 1 co id tg me si ty pr qt pe en) 27 (0, 0)) from row_on (row_on SY9.out.i HB10.out) (ball _ _))
  have HB := hid (show Below w.heap.size w (w10.alloc (.cells #[.int .u8 (co), .map (some b')] 61)) from btr (btr SY9.out.b HB10.out) (ball _ _))
  have HF := hid (HF10.out.alloc (.cells #[.int .u8 (co), .map (some b')] 61))
  have HR := hid (show (w10.alloc (.cells #[.int .u8 (co), .map (some b')] 61)).heap[w10.heap.size]? = some (.cells #[.int .u8 (co), .map (some b')] 61 (0, 0)) from heap_alloc_new _ _)
  have hbz : b' ≠ w.heap.size + 1 := by
    have h1 := row_lt SY9.out.c
    omega
  have hne : w.heap.size + 1 < w10.heap.size := by
    have h1 := row_on SY9.out.c HB10.out
    rcases Nat.lt_or_ge (w.heap.size + 1 + 1) w10.heap.size with h' | h'
    · omega
    · simp [Array.getElem?_eq_none h'] at h1
  clear SY9 HB10 HF10
  refine hid ?_
  go_wp2
  obtain ⟨w11, hw11⟩ : ∃ x, w10.alloc (.cells #[.int .u8 (co), .map (some b')] 61) = x := ⟨_, rfl⟩
  obtain ⟨G, hG⟩ : ∃ x, w10.heap.size = x := ⟨_, rfl⟩
  rw [hG] at HR hne
  rw [hw11] at HZ HI HB HF HR
  rw [hw11, hG]
  clear hw11 hG
  obtain ⟨c0, c1, c2, c3, c4, c5, c6, c7, c8, c9, c10⟩ := cells_I HI.out
  have r0 : w11.cell? ⟨G, 0, none⟩ = some (.int .u8 (co)) := row_cell HR.out 0
  have r1 : w11.cell? ⟨G, 1, none⟩ = some (.map (some b')) := row_cell HR.out 1
  go_region_with (first | (go_at_call 38; refine (IN.out _ _ w11.drew HF.out).mono ?_; rintro e w12 ⟨rfl, hb⟩; obtain ⟨d0, d1, d2, d3, d4, d5, d6, d7, d8, d9, d10⟩ := cells_I (show w12.heap[w.heap.size]? = _ from row_on (w := w11.drew) HI.out hb); have HB12 := hid hb; clear hb))
  all_goals (
    have HZ12 := hid (show w12.heap[w.heap.size + 1]? = some (.cells #[.int .u8 0, .map none] 61 (0, 0)) from row_on (w := w11.drew) HZ.out HB12.out)
    have HR12 := hid (show w12.heap[G]? = some (.cells #[.int .u8 (co), .map (some b')] 61 (0, 0)) from row_on (w := w11.drew) HR.out HB12.out)
    have HF12 := hid (Fm.on (w := w11.drew) HF.out HB12.out)
    have HBW := hid (show Below w.heap.size w w12 from btr (show Below w.heap.size w w11.drew from HB.out.drew) HB12.out)
    clear d0 d1 d2 d3 d4 d5 d6 d7 d8 d9 d10 c0 c1 c2 c3 c4 c5 c6 c7 c8 c9 c10 r0 r1 HB12
    go_wp2_with (first
      | (refine wpList_load_row (by rfl) 61 (.tmp 6) (by rfl) G (by rfl) 61 #[.int .u8 (co), .map (some b')] (0, 0) _ HR12.out Tryd.underlying61 rfl info46 ?_)
      | (refine wpList_st (by rfl) 61 (.tmp 2) (.tmp 71) (by rfl) (w.heap.size + 1) #[.int .u8 (co), .map (some b')] (by rfl) (by rfl) 61 #[.int .u8 0, .map none] HZ12.out info46 rfl (by simp [Value.oneCell']) ?_; intro w3 hst; have HST := hid hst; clear hst; refine Hid.out ?_))
    refine hid ?_
    go_wp2
    refine bodyPost_ret (res46 Tryd.f23 2 3 Tryd.results23 _ _ (w.heap.size + 1) #[.int .u8 (co), .map (some b')] _ (by rfl) (by rfl) HST.out.row info46) rfl ⟨b', n', rfl, ?_, HST.out.bel _ _ HBW.out (by omega)⟩
    rw [HFF.out]
    exact HST.out.fm hbz HF12.out)

end Go.Proofs.YtacdjioieclggaaDoor.Msg
namespace Go.Proofs.YtacdjioieclggaaDoor.Msg
open Go.RowKit Go.Maps Go.Deep Go.Lib
set_option linter.unusedVariables false
set_option linter.unusedSimpArgs false
structure Inp where
  ki : Int
  co : Int
  id : Int
  tg : Int
  me : Int
  si : Int
  ty : Int
  pr : Int
  qt : Int
  pe : Int
  en : Int
def Inp.v (x : Inp) : Array Value := iV x.ki x.co x.id x.tg x.me x.si x.ty x.pr x.qt x.pe x.en
def Inp.l (x : Inp) : List Int := [x.ki, x.co, x.id, x.tg, x.me, x.si, x.ty, x.pr, x.qt, x.pe, x.en]
structure Inp.Ok (x : Inp) : Prop where
  id : Wd x.id
  tg : Wd x.tg
  me : 0 ≤ x.me ∧ x.me < 4294967296
  qt : Wd x.qt
  pe : Wd x.pe
/-- what it says: the kind of its frame, or 0. -/
def Inp.k (x : Inp) : Int := if x.ki = 2 then 4 else if x.ki = 1 ∧ 1 ≤ x.co ∧ x.co ≤ 3 then x.co else 0
def Inp.f (x : Inp) : Int → Int := inF x.id x.tg x.me x.si x.ty x.pr x.qt x.pe x.en
def Inp.F (x : Inp) : Int → Int := only (tagsL x.k) x.f
def iL (k : Int) (f : Int → Int) : List Int :=
  if k = 4 then [2, 0, 0, 0, 0, 0, 0, 0, 0, 0, s64 (f 9001)] else [1, k, f 11, f 41, u32 (f 1), s64 (f 54), s64 (f 40), s64 (f 44), f 38, f 210, 0]
def Inp.told (x : Inp) : Bool := inB (tagsL x.k) x.f && (iL x.k x.F == x.l)
def Inp.e (x : Inp) : Int := if x.k = 0 then 41 else if x.told then 0 else 40
def Inp.pk (x : Inp) : Int := if x.e = 0 then x.k else 0
def Inp.pw (x : Inp) : List Int := if x.e = 0 then frW x.k x.F (tagsL x.k) else zeros
theorem iL_iff (k : Int) (f : Int → Int) (x : Inp) : iL k f = x.l ↔ inpV k f = x.v := by
  unfold iL inpV Inp.l Inp.v iV
  split <;> simp
theorem say_none (x : Inp) (w : World) (h : x.k = 0) :
    Calls Tryd.prog 23 #[.agg x.v] w fun e w' => e = .returned (.tuple #[.agg #[.int .u8 0, .map none], .int .i64 41]) ∧ Below w.heap.size w w' := by
  unfold Inp.k at h
  unfold Inp.v iV
  obtain ⟨ki, co, id, tg, me, si, ty, pr, qt, pe, en⟩ := x
  simp only at h ⊢
  by_cases h2 : ki = 2
  · subst h2; simp at h
  · rw [if_neg h2] at h
    by_cases h1 : ki = 1
    · subst h1
      by_cases c1 : 1 ≤ co
      · by_cases c3 : co ≤ 3
        · rw [if_pos ⟨rfl, c1, c3⟩] at h; omega
        · clear h h2
          go_enter Tryd.func23, Tryd.ntmps23
          go_wp2
          exact bodyPost_ret (res46 Tryd.f23 2 3 Tryd.results23 _ _ (w.heap.size + 1) #[.int .u8 0, .map none] _ (by rfl) (by rfl) (row_on (heap2 _ _ _) (ball _ _)) info46) rfl ⟨rfl, btr (btr (ball _ _) (ball _ _)) (ball _ _)⟩
      · clear h h2
        go_enter Tryd.func23, Tryd.ntmps23
        go_wp2
        exact bodyPost_ret (res46 Tryd.f23 2 3 Tryd.results23 _ _ (w.heap.size + 1) #[.int .u8 0, .map none] _ (by rfl) (by rfl) (row_on (heap2 _ _ _) (ball _ _)) info46) rfl ⟨rfl, btr (btr (ball _ _) (ball _ _)) (ball _ _)⟩
    · clear h
      go_enter Tryd.func23, Tryd.ntmps23
      go_wp2
      exact bodyPost_ret (res46 Tryd.f23 2 3 Tryd.results23 _ _ (w.heap.size + 1) #[.int .u8 0, .map none] _ (by rfl) (by rfl) (row_on (heap2 _ _ _) (ball _ _)) info46) rfl ⟨rfl, btr (btr (ball _ _) (ball _ _)) (ball _ _)⟩
theorem k_cases (x : Inp) (h : ¬ x.k = 0) : (x.ki = 2 ∧ x.k = 4) ∨ (x.ki = 1 ∧ 1 ≤ x.co ∧ x.co ≤ 3 ∧ x.k = x.co) := by
  unfold Inp.k at h ⊢
  by_cases h2 : x.ki = 2
  · exact Or.inl ⟨h2, by rw [if_pos h2]⟩
  · rw [if_neg h2] at h ⊢
    by_cases h1 : x.ki = 1 ∧ 1 ≤ x.co ∧ x.co ≤ 3
    · exact Or.inr ⟨h1.1, h1.2.1, h1.2.2, by rw [if_pos h1]⟩
    · rw [if_neg h1] at h; exact absurd rfl h
theorem say_bad (x : Inp) (hx : x.Ok) (w : World) (h : ¬ x.e = 0) :
    Calls Tryd.prog 23 #[.agg x.v] w fun e w' => e = .returned (.tuple #[.agg #[.int .u8 0, .map none], .int .i64 x.e]) ∧ Below w.heap.size w w' := by
  by_cases h0 : x.k = 0
  · have : x.e = 41 := by unfold Inp.e; rw [if_pos h0]
    rw [this]
    exact say_none x w h0
  · have ht : x.told = false := by
      cases ht : x.told
      · rfl
      · exfalso; apply h; unfold Inp.e; rw [if_neg h0, ht]; rfl
    have he : x.e = 40 := by unfold Inp.e; rw [if_neg h0, ht]; rfl
    rw [he]
    clear h he
    have hio := (iL_iff x.k x.F x)
    unfold Inp.told at ht
    have hkk := k_cases x h0
    unfold Inp.F Inp.f at *
    obtain ⟨ki, co, id, tg, me, si, ty, pr, qt, pe, en⟩ := x
    unfold Inp.v Inp.l at *
    simp only at *
    obtain ⟨q1, q2, q3, q4, q5⟩ := hx
    cases hin : inB (tagsL (Inp.k ⟨ki, co, id, tg, me, si, ty, pr, qt, pe, en⟩)) (inF id tg me si ty pr qt pe en) with
    | false =>
      rcases hkk with ⟨rfl, hk⟩ | ⟨rfl, c1, c3, hk⟩
      · rw [hk] at hin
        exact say_eng_out co id tg me si ty pr qt pe en w q1 q2 q3 q4 q5 hin
      · rw [hk] at hin
        exact say_cmd_out co id tg me si ty pr qt pe en w c1 c3 q1 q2 q3 q4 q5 hin
    | true =>
      rw [hin] at ht
      simp only [Bool.true_and] at ht
      have hne : ¬ _ := fun e => by rw [hio.2 e] at ht; simp at ht
      rcases hkk with ⟨rfl, hk⟩ | ⟨rfl, c1, c3, hk⟩
      · rw [hk] at hin hne
        exact say_eng_no co id tg me si ty pr qt pe en w q1 q2 q3 q4 q5 hin hne
      · rw [hk] at hin hne
        exact say_cmd_no co id tg me si ty pr qt pe en w c1 c3 q1 q2 q3 q4 q5 hin hne
theorem e_zero (x : Inp) (h : x.e = 0) : ¬ x.k = 0 ∧ x.told = true := by
  unfold Inp.e at h
  by_cases h0 : x.k = 0
  · rw [if_pos h0] at h; omega
  · rw [if_neg h0] at h
    refine ⟨h0, ?_⟩
    cases ht : x.told
    · rw [ht] at h; simp at h
    · rfl
theorem say_ok (x : Inp) (hx : x.Ok) (w : World) (h : x.e = 0) :
    Calls Tryd.prog 23 #[.agg x.v] w fun e w' => ∃ b n, e = .returned (.tuple #[.agg #[.int .u8 x.k, .map (some b)], .int .i64 0]) ∧ Fm w' b n x.F ∧ Below w.heap.size w w' := by
  obtain ⟨h0, ht⟩ := e_zero x h
  have hio := (iL_iff x.k x.F x)
  unfold Inp.told at ht
  simp only [Bool.and_eq_true, beq_iff_eq] at ht
  obtain ⟨hin, hil⟩ := ht
  have heq := hio.1 hil
  have hkk := k_cases x h0
  unfold Inp.F Inp.f at *
  obtain ⟨ki, co, id, tg, me, si, ty, pr, qt, pe, en⟩ := x
  unfold Inp.v at *
  simp only at *
  obtain ⟨q1, q2, q3, q4, q5⟩ := hx
  rcases hkk with ⟨rfl, hk⟩ | ⟨rfl, c1, c3, hk⟩
  · rw [hk] at hin heq ⊢
    exact say_eng_yes co id tg me si ty pr qt pe en w q1 q2 q3 q4 q5 hin heq
  · rw [hk] at hin heq ⊢
    exact say_cmd_yes co id tg me si ty pr qt pe en w c1 c3 q1 q2 q3 q4 q5 hin heq
theorem res30 (fn : Func) (p u : Tmp) (h : fn.results = #[.cell p 40, .tmp u]) (tmps : Array Value) (w : World) (g : Nat) (cs : Array Value) (eu : Value)
    (hp : tmps.getD p undef = .pointer (some ⟨g, 0, none⟩)) (hu : tmps.getD u undef = eu) (hg : w.heap[g]? = some (.cells cs 40 (0, 0))) (hi : (Tryd.prog.info? 40).map (·.size) = some cs.size) :
    (results fn tmps).run Tryd.prog w = .ok (.tuple #[.agg cs, eu]) w := by
  have hp' : tmps[p]?.getD undef = .pointer (some ⟨g, 0, none⟩) := by simpa using hp
  have hu' : tmps[u]?.getD undef = eu := by simpa using hu
  simp [results, h, hp', hu', asAddr, run_loadVar_row w g 40 40 cs (0, 0) _ hg Tryd.underlying40 rfl hi]
theorem frV_zero : frV 0 zeros = z30 := rfl
set_option maxHeartbeats 2000000 in
set_option maxRecDepth 100000 in
theorem pack_any (x : Inp) (hx : x.Ok) (w : World) :
    Calls Tryd.prog 14 #[.agg x.v] w fun e w' => e = .returned (.tuple #[.agg (frV x.pk x.pw), .int .i64 x.e]) ∧ Below w.heap.size w w' := by
  by_cases h : x.e = 0
  · have SA := hid (fun w => say_ok x hx w h)
    have FR := hid (fun b n w => frame_any x.k b n x.F w)
    have ek : x.pk = x.k := by unfold Inp.pk; rw [if_pos h]
    have ew : x.pw = frW x.k x.F (tagsL x.k) := by unfold Inp.pw; rw [if_pos h]
    rw [ek, ew, h]
    have HFI := hid (info_fr x.k (frW x.k x.F (tagsL x.k)) (frW_len x.k x.F (tagsL x.k)))
    have HON := hid (one_fr x.k (frW x.k x.F (tagsL x.k)))
    have HSZ := hid (size_fr x.k (frW x.k x.F (tagsL x.k)) (frW_len x.k x.F (tagsL x.k)))
    obtain ⟨FV, hFV⟩ : ∃ y, frV x.k (frW x.k x.F (tagsL x.k)) = y := ⟨_, rfl⟩
    rw [hFV] at FR HFI HON HSZ
    rw [hFV]
    clear h ek ew hx hFV
    obtain ⟨k, hk⟩ : ∃ k, x.k = k := ⟨_, rfl⟩
    rw [hk] at SA FR
    clear hk
    unfold Inp.v iV at *
    go_enter Tryd.func14, Tryd.ntmps14
    go_wp2_with (first | (go_at_call 23; refine (SA.out _).mono ?_; rintro e w2 ⟨b, n, rfl, hF, hb⟩; have HF := hid hF; have HB := hid hb; clear hF hb; refine Hid.out ?_))
    have HF2 := hid (HF.out.alloc (.cells #[.int .u8 k, .map (some b)] 61))
    have HZ := hid (show (w2.alloc (.cells #[.int .u8 k, .map (some b)] 61)).heap[w.heap.size + 1]? = some (.cells z30 40 (0, 0)) from row_on (row_on (heap2 w _ _) HB.out) (ball _ _))
    have HB2 := hid (show Below w.heap.size w (w2.alloc (.cells #[.int .u8 k, .map (some b)] 61)) from btr (btr (btr (ball _ _) (ball _ _)) HB.out) (ball _ _))
    clear HF HB SA
    refine hid ?_
    go_wp2_with (first | (go_at_call 35; refine (FR.out _ _ _ HF2.out).mono ?_; rintro e w3 ⟨rfl, hb⟩; have HB3 := hid hb; clear hb; refine Hid.out ?_))
    have HZ3 := hid (row_on HZ.out HB3.out)
    have HB4 := hid (btr HB2.out HB3.out)
    clear HF2 HZ HB2 HB3 FR
    refine hid ?_
    go_wp2_with (first | (refine wpList_st (by rfl) 40 (.tmp 2) (.tmp 16) (by rfl) (w.heap.size + 1) FV (by rfl) (by rfl) 40 z30 HZ3.out HFI.out HSZ.out HON.out ?_; intro w5 hst; have HS5 := hid hst; clear hst; refine Hid.out ?_))
    refine hid ?_
    go_wp2
    exact bodyPost_ret (res30 Tryd.f14 2 3 Tryd.results14 _ _ (w.heap.size + 1) FV _ (by rfl) (by rfl) HS5.out.row HFI.out) rfl ⟨rfl, HS5.out.bel _ _ HB4.out (by omega)⟩
  · have SA := hid (fun w => say_bad x hx w h)
    have ek : x.pk = 0 := by unfold Inp.pk; rw [if_neg h]
    have ew : x.pw = zeros := by unfold Inp.pw; rw [if_neg h]
    rw [ek, ew, frV_zero]
    obtain ⟨E, hE⟩ : ∃ E, x.e = E := ⟨_, rfl⟩
    rw [hE] at SA h ⊢
    have hne : (E != 0) = true := by simpa using h
    clear h ek ew hx hE
    unfold Inp.v iV at *
    go_enter Tryd.func14, Tryd.ntmps14
    go_wp2_with (first | (go_at_call 23; refine (SA.out _).mono ?_; rintro e w2 ⟨rfl, hb⟩; have HB := hid hb; clear hb; refine Hid.out ?_))
    have HZ := hid (show (w2.alloc (.cells #[.int .u8 0, .map none] 61)).heap[w.heap.size + 1]? = some (.cells z30 40 (0, 0)) from row_on (row_on (heap2 w _ _) HB.out) (ball _ _))
    have HB2 := hid (show Below w.heap.size w (w2.alloc (.cells #[.int .u8 0, .map none] 61)) from btr (btr (btr (ball _ _) (ball _ _)) HB.out) (ball _ _))
    clear HB SA
    refine hid ?_
    go_wp2_with (first | (refine wpList_st (by rfl) 40 (.tmp 2) (.tmp 13) (by rfl) (w.heap.size + 1) z30 (by rfl) (by rfl) 40 z30 HZ.out info30 rfl (by simp [z30, Value.oneCell']) ?_; intro w5 hst; have HS5 := hid hst; clear hst; refine Hid.out ?_))
    refine hid ?_
    go_wp2
    exact bodyPost_ret (res30 Tryd.f14 2 3 Tryd.results14 _ _ (w.heap.size + 1) z30 _ (by rfl) (by rfl) HS5.out.row info30) rfl ⟨rfl, HS5.out.bel _ _ HB2.out (by omega)⟩
end Go.Proofs.YtacdjioieclggaaDoor.Msg
