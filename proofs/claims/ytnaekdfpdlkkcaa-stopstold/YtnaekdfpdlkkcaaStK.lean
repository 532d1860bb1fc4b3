/-
  StopsTold is walked.
-/
import Derived.Test.YtnaekdfpdlkkcaaStJ
namespace Go.Proofs.Ytnaekdfpdlkkcaa
open Go.RowKit Go.Deep Go.Shelf
set_option linter.unusedVariables false
set_option linter.unusedSimpArgs false
set_option maxHeartbeats 8000000
set_option maxRecDepth 100000
attribute [local go_sem ↓] Go.wp_at_zero Go.wp_at_succ
theorem Es.neL {w : World} {g G gc : Nat} {e : Ev} {x : Sp} (h : Es w g e) (hl : Lz w G gc x) : g ≠ G := by
  obtain ⟨cur, h1, _⟩ := hl
  exact h.ne h1 (by decide)
/-- the second one. -/
def fl (s : Int) : Sp := ⟨s, 0, 1, 2, 5, 0, 1, 0⟩
theorem fl_ok {s : Int} (h0 : 0 ≤ s) (h1 : s < 18446744073709551616) : SpOk (fl s) := ⟨h0, h1, by show (0 : Int) ≤ 0; decide, by show (0 : Int) < 4294967296; decide, by show (0 : Int) ≤ 1; decide, by show (1 : Int) < 18446744073709551616; decide, by show (0 : Int) ≤ 0; decide, by show (0 : Int) < 18446744073709551616; decide⟩
theorem fl_ck (s : Int) : ckS (fl s) = 0 := by
  have h1 : chk (cmd (fl s) 1) = 0 := by
    show chk ⟨1, 1, 0, 0, 1, 2, 0, 1, 0⟩ = 0
    decide
  unfold ckS
  rw [h1]
  show (if (0 : Int) ≠ 0 then (0 : Int) else if isPr 5 = false then 131 else 0) = 0
  decide
theorem fl_rf (nm : Int) (h0 : 0 ≤ nm) (h1 : nm < 18446744073709551616) : rfS (fl (IntKind.u64.wrap (nm + 1))) nm 1 ≠ 0 ∧ (IntKind.u64.wrap (nm + 1) ≠ 0 → rfS (fl (IntKind.u64.wrap (nm + 1))) nm 1 = 133) := by
  have hw : IntKind.u64.wrap (nm + 1) = (nm + 1) % 18446744073709551616 := by rw [IntKind.wrap_u64]
  have e : rfS (fl (IntKind.u64.wrap (nm + 1))) nm 1 = if IntKind.u64.wrap (nm + 1) ≤ nm then 132 else 133 := by
    unfold rfS
    rw [fl_ck]
    simp [fl]
  rw [e]
  constructor
  · split <;> decide
  · intro hz
    rw [if_neg]
    omega
theorem place_fl (K : Nat) (fv : Value) (G gc : Nat) (nm seq : Int) (w : World) (h0 : 0 ≤ nm) (h1 : nm < 18446744073709551616) (hK : w.heap[K]? = some (.cells #[fv, .int .i64 1, .slice (some ⟨G, 0, none⟩) 1 gc, .int .u64 nm, .int .u64 seq, .int .i64 0, .bool false] 54 (0, 0))) :
    Calls Try.prog 6 #[.pointer (some ⟨K, 0, none⟩), .agg #[.int .u64 (IntKind.u64.wrap (nm + 1)), .int .u32 0, .int .i64 1, .int .i64 2, .int .i64 5, .int .i64 0, .int .u64 1, .int .u64 0]] w fun r w' => ∃ g cap y, r = .returned (.slice (some ⟨g, 0, none⟩) 1 cap) ∧ Hid (w.heap.size ≤ g) ∧ Hid (Es w' g (⟨nx seq, 2, IntKind.u64.wrap (nm + 1), 0, 0, 0, 0, 0, 0, 0, 0, 0, y⟩ : Ev)) ∧ Hid (w'.heap[K]? = some (.cells #[fv, .int .i64 1, .slice (some ⟨G, 0, none⟩) 1 gc, .int .u64 nm, .int .u64 (nx seq), .int .i64 0, .bool false] 54 (0, 0))) ∧ Hid (Kp (fun j => j = K) w w') ∧ Hid (IntKind.u64.wrap (nm + 1) ≠ 0 → y = 133) := by
  have hw : IntKind.u64.wrap (nm + 1) = (nm + 1) % 18446744073709551616 := by rw [IntKind.wrap_u64]
  refine (place_ref K fv (some ⟨G, 0, none⟩) 1 gc nm seq _ (fl (IntKind.u64.wrap (nm + 1))) w (fl_ok (by omega) (by omega)) hK rfl (fl_rf nm h0 h1).1).mono ?_
  rintro r w' ⟨g, cap, rfl, h2, h3, h4, h5⟩
  exact ⟨g, cap, _, rfl, h2, h3, h4, h5, hid (fl_rf nm h0 h1).2⟩
theorem told_walk (cap meet : Int) (x : Sp) (w : World) (hx : SpOk x) :
    Calls Try.prog 3 #[.agg #[.int .i64 cap, .int .i64 meet], .agg #[.int .u64 x.nm, .int .u32 x.mb, .int .i64 x.sd, .int .i64 x.ty, .int .i64 x.tr, .int .i64 x.pr, .int .u64 x.qt, .int .u64 x.pk]] w fun e w' => e = .returned (.bool true) ∧ Below w.heap.size w w' := by
  have HX := hid hx
  clear hx
  have CN := hid (fun U => new_any cap meet U)
  obtain ⟨v, hv⟩ : ∃ v, cfg cap meet = v := ⟨_, rfl⟩
  rw [hv] at CN
  clear hv
  obtain ⟨R, hR⟩ : ∃ R, w.heap.size = R := ⟨_, rfl⟩
  obtain ⟨U0, hU0⟩ : ∃ U, w.alloc (.cells #[.int .i64 cap, .int .i64 meet] 23) = U := ⟨_, rfl⟩
  obtain ⟨W, hW⟩ : ∃ U, U0.alloc (.cells #[.int .u64 x.nm, .int .u32 x.mb, .int .i64 x.sd, .int .i64 x.ty, .int .i64 x.tr, .int .i64 x.pr, .int .u64 x.qt, .int .u64 x.pk] 27) = U := ⟨_, rfl⟩
  have s0 : U0.heap.size = R + 1 := by rw [← hU0]; simp [hR]
  have b0 : Below w.heap.size w U0 := by rw [← hU0]; exact ball _ _
  have b1 : Below U0.heap.size U0 W := by rw [← hW]; exact ball _ _
  have HBW := hid (btr b0 b1)
  have HR0 := hid (show W.heap[R]? = some (.cells #[.int .i64 cap, .int .i64 meet] 23 (0, 0)) from (row_on (by rw [← hU0, ← hR]; exact World.alloc_heap_new _ _) b1))
  have HR1 := hid (show W.heap[R + 1]? = some (.cells #[.int .u64 x.nm, .int .u32 x.mb, .int .i64 x.sd, .int .i64 x.ty, .int .i64 x.tr, .int .i64 x.pr, .int .u64 x.qt, .int .u64 x.pk] 27 (0, 0)) from (by rw [← hW, ← s0]; exact World.alloc_heap_new _ _))
  have HU0 := hid hU0
  have HW := hid hW
  have HRR := hid hR
  clear hR hU0 hW s0 b0 b1
  have c0 := row_cell HR0.out 0
  have c1 := row_cell HR0.out 1
  simp only [List.getElem?_toArray, List.getElem?_cons_succ, List.getElem?_cons_zero] at c0 c1
  cases v with
  | false =>
    have CN2 := hid (fun U => (CN.out U).mono (R' := fun e w' => e = .returned (.tuple #[.pointer none, .int .i64 1]) ∧ Hid (Below U.heap.size U w')) (by
      rintro e w' (⟨_, h1, h2⟩ | ⟨h, _⟩)
      · exact ⟨h1, hid h2⟩
      · cases h))
    go_enter Try.func3, Try.ntmps3
    go_upto_region 1 with fail
    rw [HU0.out, HW.out, HRR.out]
    go_wp2_with (go_at_call 4; with_reducible refine (CN2.out _).mono ?_; rintro e w1 ⟨rfl, HB1⟩)
    go_ret
    exact ⟨rfl, btr HBW.out HB1.out⟩
  | true =>
    have CN2 := hid (fun U => (CN.out U).mono (R' := fun e w' => ∃ B, e = .returned (.tuple #[.pointer (some ⟨B, 0, none⟩), .int .i64 0]) ∧ Hid (Below U.heap.size U w')) (by
      rintro e w' (⟨h, _⟩ | ⟨_, B, h1, h2⟩)
      · cases h
      · exact ⟨B, h1, hid h2⟩))
    go_enter Try.func3, Try.ntmps3
    go_upto_region 1 with fail
    rw [HU0.out, HW.out, HRR.out]
    go_upto_region 2 with (go_at_call 4; with_reducible refine (CN2.out _).mono ?_; rintro e w1 ⟨B, rfl, HB1⟩)
    clear c0 c1
    go_upto_region 5 with (go_at_call 5; with_reducible refine (stops_new B _).mono ?_; rintro e w2 ⟨K, rfl, HB2, HKW, HK2⟩)
    obtain ⟨fv, hfv⟩ : ∃ v, Value.iface 28 (.pointer (some ⟨B, 0, none⟩)) = v := ⟨_, rfl⟩
    rw [hfv] at HK2
    clear hfv
    have HWR := hid (show R + 1 < w2.heap.size from row_lt (row_on (row_on HR1.out HB1.out) HB2.out))
    have HX2 := hid (row_on (row_on HR1.out HB1.out) HB2.out)
    have HBB := hid (btr (btr HBW.out HB1.out) HB2.out)
    have HKN := hid (show w.heap.size ≤ K from Nat.le_trans HBW.out.size (Nat.le_trans HB1.out.size HKW.out))
    have hRK : R + 1 ≠ K := row_ne HX2.out HK2.out (by decide)
    go_upto_region 7 with fail
    obtain ⟨s1, hs1⟩ : ∃ s, nx 0 = s := ⟨_, rfl⟩
    obtain ⟨y, hy⟩ : ∃ y, rfS x 0 0 = y := ⟨_, rfl⟩
    by_cases y0 : y = 0
    · subst y0
      have CP := hid (place_new K fv 0 0 x w2 HX.out HK2.out hy)
      rw [hs1] at CP
      have HY := hid hy
      have HS1 := hid hs1
      clear hy hs1
      obtain ⟨x_0, x_1, x_2, x_3, x_4, x_5, x_6, x_7⟩ := row8 HX2.out
      go_upto_region 8 with (go_at_call 6; with_reducible refine (CP.out).mono ?_; rintro e w3 ⟨g, cp, G, gc, rfl, hg, hE, hK3, hL, hG, hp3⟩)
      clear x_0 x_1 x_2 x_3 x_4 x_5 x_6 x_7
      have hgK : g ≠ K := hE.out.ne hK3.out (by decide)
      have hGK : G ≠ K := hL.out.ls.ne hK3.out (by decide)
      have hgG : g ≠ G := hE.out.neL hL.out
      have HX3 := hid (hp3.out.row HX2.out hRK)
      have hRG : R + 1 ≠ G := by have := HWR.out; have := hG.out; omega
      have hRg : R + 1 ≠ g := by have := HWR.out; have := hg.out; omega
      obtain ⟨e_0, e_1, e_2, e_3, e_4, e_5, e_6, e_7, e_8, e_9, e_10, e_11, e_12⟩ := hE.out.cells
      go_upto_region 12 with fail
      clear e_0 e_1 e_2 e_3 e_4 e_5 e_6 e_7 e_8 e_9 e_10 e_11 e_12
      have CQ := hid (pend_one K fv G gc x.nm s1 x w3 hK3.out hL.out)
      go_upto_region 13 with (go_at_call 7; with_reducible refine (CQ.out).mono ?_; rintro e w4 ⟨g2, cp2, rfl, hP4, hb4⟩)
      obtain ⟨e_0, e_1, e_2, e_3, e_4, e_5, e_6, e_7, e_8, e_9, e_10, e_11, e_12⟩ := (hE.out.on hb4.out).cells
      obtain ⟨x_0, x_1, x_2, x_3, x_4, x_5, x_6, x_7⟩ := row8 (row_on HX3.out hb4.out)
      obtain ⟨p0, p1, p2, p3, p4, p5, p6, p7⟩ := hP4.out.cells
      go_quiet (fail)
      go_upto_region 15 with fail
      clear e_0 e_1 e_2 e_3 e_4 e_5 e_6 e_7 e_8 e_9 e_10 e_11 e_12 x_0 x_1 x_2 x_3 x_4 x_5 x_6 x_7 p0 p1 p2 p3 p4 p5 p6 p7
      obtain ⟨W5, hW5, HB5⟩ : ∃ W5, w4.drewN nq = W5 ∧ Hid (Below w3.heap.size w3 W5) := ⟨_, rfl, hid (btr hb4.out (bdrew _ _))⟩
      rw [hW5]
      clear hW5
      have hE5 := hid (hE.out.on HB5.out)
      have hK5 := hid (row_on hK3.out HB5.out)
      have hL5 := hid (hL.out.on HB5.out)
      have HX5 := hid (row_on HX3.out HB5.out)
      have HN5 := hid (show Below w.heap.size w W5 from HBB.out.trans ((hp3.out.below HBB.out.size (fun j hj e => by have := HKN.out; omega)).trans (HB5.out.mono (Nat.le_trans HBB.out.size hp3.out.size))))
      have HGN := hid (show w.heap.size ≤ G from Nat.le_trans HBB.out.size hG.out)
      clear hE hK3 hL HX3 hP4 hb4 HB5 hp3 hg hG HBB HX2 HWR
      have CP2 := hid (place_fl K fv G gc x.nm s1 W5 HX.out.nm0 HX.out.nm1 hK5.out)
      obtain ⟨x_0, x_1, x_2, x_3, x_4, x_5, x_6, x_7⟩ := row8 HX5.out
      go_upto_region 16 with (go_at_call 6; with_reducible refine (CP2.out).mono ?_; rintro e w6 ⟨g3, cp3, y2, rfl, hg3, hE6, hK6, hp6, hy2⟩)
      clear x_0 x_1 x_2 x_3 x_4 x_5 x_6 x_7
      have hEg6 := hid (hE5.out.kept (hp6.out.obj g hE5.out.lt hgK))
      have hL6 := hid (hL5.out.kept (hp6.out.obj G hL5.out.ls.lt hGK))
      have HX6 := hid (hp6.out.row HX5.out hRK)
      have HN6 := hid (HN5.out.trans (hp6.out.below HN5.out.size (fun j hj e => by have := HKN.out; omega)))
      clear hE5 hK5 hL5 HX5 hp6 HN5 hg3
      obtain ⟨e_0, e_1, e_2, e_3, e_4, e_5, e_6, e_7, e_8, e_9, e_10, e_11, e_12⟩ := hE6.out.cells
      obtain ⟨x_0, x_1, x_2, x_3, x_4, x_5, x_6, x_7⟩ := row8 HX6.out
      have hcase : (IntKind.u64.wrap (x.nm + 1) != 0) = false ∨ ((IntKind.u64.wrap (x.nm + 1) != 0) = true ∧ y2 = 133) := by
        by_cases hz : IntKind.u64.wrap (x.nm + 1) = 0
        · exact .inl (by simpa using hz)
        · exact .inr ⟨by simpa using hz, hy2.out hz⟩
      clear hy2
      obtain hz | ⟨hz, rfl⟩ := hcase
      all_goals (
        go_upto_region 18 with fail
        clear e_0 e_1 e_2 e_3 e_4 e_5 e_6 e_7 e_8 e_9 e_10 e_11 e_12 hz
        have CW := hid (with_one K fv G gc x.nm (nx s1) x.nm x w6 hK6.out hL6.out rfl)
        go_upto_region 19 with (go_at_call 8; with_reducible refine (CW.out).mono ?_; rintro e w7 ⟨g4, cp4, rfl, hg4, hE7, hK7, hp7⟩)
        clear x_0 x_1 x_2 x_3 x_4 x_5 x_6 x_7
        have h4g : g4 ≠ g := by have := hg4.out; have := hEg6.out.lt; omega
        have h4G : g4 ≠ G := by have := hg4.out; have := hL6.out.ls.lt; omega
        have h4K : g4 ≠ K := by have := hg4.out; have := row_lt hK6.out; omega
        have h4R : g4 ≠ R + 1 := by have := hg4.out; have := row_lt HX6.out; omega
        have h4N := hid (show w.heap.size ≤ g4 from Nat.le_trans HN6.out.size hg4.out)
        have hEg7 := hid (hEg6.out.kept (hp7.out.obj g hEg6.out.lt (fun h => h.elim hgK hgG)))
        have HX7 := hid (hp7.out.row HX6.out (fun h => h.elim hRK hRG))
        have HN7 := hid (HN6.out.trans (hp7.out.below HN6.out.size (fun j hj e => by have := HKN.out; have := HGN.out; omega)))
        clear hE6 hEg6 hK6 hL6 HX6 HN6 hp7 hg4
        have CZ := hid (pend_zero K fv G gc x.nm (nx (nx s1)) w7 hK7.out)
        obtain ⟨e_0, e_1, e_2, e_3, e_4, e_5, e_6, e_7, e_8, e_9, e_10, e_11, e_12⟩ := hE7.out.cells
        go_upto_region 21 with (go_at_call 7; with_reducible refine (CZ.out).mono ?_; rintro e w8 ⟨q8, c8, rfl, hb8⟩)
        clear e_0 e_1 e_2 e_3 e_4 e_5 e_6 e_7 e_8 e_9 e_10 e_11 e_12
        have hE8 := hid (hE7.out.on hb8.out)
        have hEg8 := hid (hEg7.out.on hb8.out)
        have hK8 := hid (row_on hK7.out hb8.out)
        have HX8 := hid (row_on HX7.out hb8.out)
        have HN8 := hid (HN7.out.trans (hb8.out.mono HN7.out.size))
        clear hE7 hEg7 hK7 HX7 HN7 hb8
        obtain ⟨e_0, e_1, e_2, e_3, e_4, e_5, e_6, e_7, e_8, e_9, e_10, e_11, e_12⟩ := hE8.out.cells
        obtain ⟨f_0, f_1, f_2, f_3, f_4, f_5, f_6, f_7, f_8, f_9, f_10, f_11, f_12⟩ := hEg8.out.cells
        have z0 := hE8.out.frz 0
        have z1 := hE8.out.frz 11
        go_upto_region 22 with fail
        clear e_0 e_1 e_2 e_3 e_4 e_5 e_6 e_7 e_8 e_9 e_10 e_11 e_12 f_0 f_1 f_2 f_3 f_4 f_5 f_6 f_7 f_8 f_9 f_10 f_11 f_12 z0 z1
        obtain ⟨W9, hW9, hE9, hp9⟩ : ∃ W9, (w8.setCell ⟨g4, 0, none⟩ (.int .u64 s1)).setCell ⟨g4, 11, none⟩ (.int .i64 0) = W9 ∧ Hid (Es W9 g4 ⟨s1, 6, x.nm, 0, IntKind.u64.wrap x.tr, x.mb, x.sd, x.ty, x.pr, x.qt, x.pk, 0, 0⟩) ∧ Hid (Kp (fun j => j = g4) w8 W9) :=
          ⟨_, rfl, hid ((hE8.out.set (e2 := ⟨s1, 6, x.nm, 0, IntKind.u64.wrap x.tr, x.mb, x.sd, x.ty, x.pr, x.qt, x.pk, 1, 0⟩) rfl).set rfl), hid ((Kp.set w8 g4 0 _).trans (Kp.set _ g4 11 _) (fun _ _ h => h))⟩
        rw [hW9]
        clear hW9
        have hEg9 := hid (hEg8.out.kept (hp9.out.obj g hEg8.out.lt h4g.symm))
        have hK9 := hid (hp9.out.row hK8.out h4K.symm)
        have HX9 := hid (hp9.out.row HX8.out h4R.symm)
        have HN9 := hid (HN8.out.trans (hp9.out.below HN8.out.size (fun j hj e => by have := h4N.out; omega)))
        clear hE8 hEg8 hK8 HX8 HN8 hp9
        have CV := hid (with_none K fv (some ⟨G, 0, none⟩) gc x.nm (nx (nx s1)) x.nm W9 hK9.out)
        obtain ⟨x_0, x_1, x_2, x_3, x_4, x_5, x_6, x_7⟩ := row8 HX9.out
        go_upto_region 23 with (go_at_call 8; with_reducible refine (CV.out).mono ?_; rintro e w10 ⟨g5, cp5, rfl, hg5, hE10, hp10⟩)
        clear x_0 x_1 x_2 x_3 x_4 x_5 x_6 x_7
        obtain ⟨e_0, e_1, e_2, e_3, e_4, e_5, e_6, e_7, e_8, e_9, e_10, e_11, e_12⟩ := (hE9.out.kept (hp10.out.obj g4 hE9.out.lt h4K)).cells
        obtain ⟨f_0, f_1, f_2, f_3, f_4, f_5, f_6, f_7, f_8, f_9, f_10, f_11, f_12⟩ := (hEg9.out.kept (hp10.out.obj g hEg9.out.lt hgK)).cells
        obtain ⟨h_0, h_1, h_2, h_3, h_4, h_5, h_6, h_7, h_8, h_9, h_10, h_11, h_12⟩ := hE10.out.cells
        have HN10 := hid (HN9.out.trans (hp10.out.below HN9.out.size (fun j hj e => by have := HKN.out; omega)))
        clear hE9 hEg9 hK9 HX9 HN9 hp10 hE10 hg5
        go_quiet (fail)
        go_wp2
        go_ret
        exact ⟨rfl, HN10.out.trans ((bdrew _ _).mono HN10.out.size)⟩)
    · have CP := hid (place_ref K fv none 0 0 0 0 y x w2 HX.out HK2.out hy y0)
      rw [hs1] at CP
      have y0' : (y != 0) = true := by simpa using y0
      clear hy hs1 y0
      obtain ⟨x_0, x_1, x_2, x_3, x_4, x_5, x_6, x_7⟩ := row8 HX2.out
      go_upto_region 8 with (go_at_call 6; with_reducible refine (CP.out).mono ?_; rintro e w3 ⟨g, cp, rfl, hg, hE, hK3, hp3⟩)
      clear x_0 x_1 x_2 x_3 x_4 x_5 x_6 x_7
      have hgK : g ≠ K := hE.out.ne hK3.out (by decide)
      have HX3 := hid (hp3.out.row HX2.out hRK)
      obtain ⟨e_0, e_1, e_2, e_3, e_4, e_5, e_6, e_7, e_8, e_9, e_10, e_11, e_12⟩ := hE.out.cells
      go_upto_region 11 with fail
      clear e_0 e_1 e_2 e_3 e_4 e_5 e_6 e_7 e_8 e_9 e_10 e_11 e_12
      have CQ := hid (fun (U : World) (hU : Below w3.heap.size w3 U) => pend_nil K fv 0 s1 U (row_on hK3.out hU))
      --have HCE := hid (fun (U : World) (hU : Below w3.heap.size w3 U) => (hE.out.on hU).cells)
      --have HCX := hid (fun (U : World) (hU : Below w3.heap.size w3 U) => row8 (row_on HX3.out hU))
      have HS := hid (fun (U : World) (hU : Below w3.heap.size w3 U) => (show U.cell? ⟨g, 2, none⟩ = some (.int .u64 x.nm) ∧ U.cell? ⟨g, 12, none⟩ = some (.int .i64 y) ∧ U.cell? ⟨R + 1, 0, none⟩ = some (.int .u64 x.nm) from ⟨(hE.out.on hU).cells.2.2.1, (hE.out.on hU).cells.2.2.2.2.2.2.2.2.2.2.2.2, (row8 (row_on HX3.out hU)).1⟩))
      obtain ⟨Y0, hY0⟩ : ∃ X, w3.drew = X := ⟨_, rfl⟩
      have HE0 := hid (show Below w3.heap.size w3 Y0 from by rw [← hY0]; exact bdrew1 _)
      refine wp_region_held_drew (S := (fun U => U.cell? ⟨g, 2, none⟩ = some (.int .u64 x.nm) ∧ U.cell? ⟨g, 12, none⟩ = some (.int .i64 y) ∧ U.cell? ⟨R + 1, 0, none⟩ = some (.int .u64 x.nm))) (by kernel_rfl) ?_ (fun hHeld => ?_)
      · (try dsimp only); ((rw [hY0]; exact HS.out _ HE0.out))
      rw [hY0] at hHeld ⊢
      clear hY0
      refine' wpAnyH_take (i := 0) (oi := _) (v := _) rfl (by kernel_rfl) (by kernel_rfl) (by kernel_rfl) (fun _ _ _ h => h) (Or.inl ⟨by kernel_rfl, ?_⟩) (by assumption) ?_
      rotate_left
      · (intro w hSw; (try dsimp only at hSw); go_simp; try (with_reducible rfl))
      try simp only [List.getElem_toArray, List.getElem_cons_succ, List.getElem_cons_zero, Act.put, List.setIfInBounds_toArray, List.set_cons_zero, List.set_cons_succ]
      refine wpAnyH_ready (rs := [1]) (by kernel_rfl) (by simp) ?_
      refine AllReadyH.cons (o := _) rfl (fun K hK => ?_) AllReadyH.nil
      go_simp
      go_at_call 7; with_reducible refine (CQ.out Y0 HE0.out).mono ?_; rintro e w4 ⟨rfl, hb4⟩
      (try go_wp2_with fail)
      have HB4 := hid (btr HE0.out hb4.out)
      refine hK.out _ _ ?_ (fun hHeld => ?_)
      · (try dsimp only); exact HS.out _ HB4.out
      clear hK K
      try simp only [List.getElem_toArray, List.getElem_cons_succ, List.getElem_cons_zero, Act.put, List.setIfInBounds_toArray, List.set_cons_zero, List.set_cons_succ]
      refine' wpAnyH_take (i := 2) (oi := _) (v := _) rfl (by kernel_rfl) (by kernel_rfl) (by kernel_rfl) (fun _ _ _ h => h) (Or.inl ⟨by kernel_rfl, ?_⟩) (by assumption) ?_
      rotate_left
      · (intro w hSw; (try dsimp only at hSw); go_simp; try (with_reducible rfl))
      try simp only [List.getElem_toArray, List.getElem_cons_succ, List.getElem_cons_zero, Act.put, List.setIfInBounds_toArray, List.set_cons_zero, List.set_cons_succ]
      refine' wpAnyH_take (i := 3) (oi := _) (v := .bool true) rfl (by kernel_rfl) (by kernel_rfl) (by kernel_rfl) (fun _ _ _ h => h) (Or.inl ⟨by kernel_rfl, ?_⟩) (by assumption) ?_
      · (intro w hSw; (try dsimp only at hSw); go_simp; try (with_reducible rfl))
      try simp only [List.getElem_toArray, List.getElem_cons_succ, List.getElem_cons_zero, Act.put, List.setIfInBounds_toArray, List.set_cons_zero, List.set_cons_succ]
      refine' wpAnyH_take (i := 4) (oi := _) (v := .bool true) rfl (by kernel_rfl) (by kernel_rfl) (by kernel_rfl) (fun _ _ _ h => h) (Or.inl ⟨by kernel_rfl, ?_⟩) (by assumption) ?_
      · (intro w hSw; (try dsimp only at hSw); go_simp; try (with_reducible rfl))
      try simp only [List.getElem_toArray, List.getElem_cons_succ, List.getElem_cons_zero, Act.put, List.setIfInBounds_toArray, List.set_cons_zero, List.set_cons_succ]
      refine' wpAnyH_take (i := 5) (oi := _) (v := _) rfl (by kernel_rfl) (by kernel_rfl) (by kernel_rfl) (fun _ _ _ h => h) (Or.inl ⟨by kernel_rfl, ?_⟩) (by assumption) ?_
      rotate_left
      · (intro w hSw; (try dsimp only at hSw); go_simp; try (with_reducible rfl))
      try simp only [List.getElem_toArray, List.getElem_cons_succ, List.getElem_cons_zero, Act.put, List.setIfInBounds_toArray, List.set_cons_zero, List.set_cons_succ]
      refine' wpAnyH_take (i := 6) (oi := _) (v := _) rfl (by kernel_rfl) (by kernel_rfl) (by kernel_rfl) (fun _ _ _ h => h) (Or.inl ⟨by kernel_rfl, ?_⟩) (by assumption) ?_
      rotate_left
      · (intro w hSw; (try dsimp only at hSw); go_simp; try (with_reducible rfl))
      try simp only [List.getElem_toArray, List.getElem_cons_succ, List.getElem_cons_zero, Act.put, List.setIfInBounds_toArray, List.set_cons_zero, List.set_cons_succ]
      refine' wpAnyH_take (i := 7) (oi := _) (v := _) rfl (by kernel_rfl) (by kernel_rfl) (by kernel_rfl) (fun _ _ _ h => h) (Or.inl ⟨by kernel_rfl, ?_⟩) (by assumption) ?_
      rotate_left
      · (intro w hSw; (try dsimp only at hSw); go_simp; try (with_reducible rfl))
      try simp only [List.getElem_toArray, List.getElem_cons_succ, List.getElem_cons_zero, Act.put, List.setIfInBounds_toArray, List.set_cons_zero, List.set_cons_succ]
      refine' wpAnyH_take (i := 8) (oi := _) (v := _) rfl (by kernel_rfl) (by kernel_rfl) (by kernel_rfl) (fun _ _ _ h => h) (Or.inl ⟨by kernel_rfl, ?_⟩) (by assumption) ?_
      rotate_left
      · (intro w hSw; (try dsimp only at hSw); go_simp; try (with_reducible rfl))
      try simp only [List.getElem_toArray, List.getElem_cons_succ, List.getElem_cons_zero, Act.put, List.setIfInBounds_toArray, List.set_cons_zero, List.set_cons_succ]
      refine' wpAnyH_take (i := 9) (oi := _) (v := _) rfl (by kernel_rfl) (by kernel_rfl) (by kernel_rfl) (fun _ _ _ h => h) (Or.inl ⟨by kernel_rfl, ?_⟩) (by assumption) ?_
      rotate_left
      · (intro w hSw; (try dsimp only at hSw); go_simp; try (with_reducible rfl))
      try simp only [List.getElem_toArray, List.getElem_cons_succ, List.getElem_cons_zero, Act.put, List.setIfInBounds_toArray, List.set_cons_zero, List.set_cons_succ]
      refine' wpAnyH_take (i := 10) (oi := _) (v := _) rfl (by kernel_rfl) (by kernel_rfl) (by kernel_rfl) (fun _ _ _ h => h) (Or.inl ⟨by kernel_rfl, ?_⟩) (by assumption) ?_
      rotate_left
      · (intro w hSw; (try dsimp only at hSw); go_simp; try (with_reducible rfl))
      try simp only [List.getElem_toArray, List.getElem_cons_succ, List.getElem_cons_zero, Act.put, List.setIfInBounds_toArray, List.set_cons_zero, List.set_cons_succ]
      refine' wpAnyH_take (i := 11) (oi := _) (v := .bool true) rfl (by kernel_rfl) (by kernel_rfl) (by kernel_rfl) (fun _ _ _ h => h) (Or.inl ⟨by kernel_rfl, ?_⟩) (by assumption) ?_
      · (intro w hSw; (try dsimp only at hSw); go_simp; try (with_reducible rfl))
      try simp only [List.getElem_toArray, List.getElem_cons_succ, List.getElem_cons_zero, Act.put, List.setIfInBounds_toArray, List.set_cons_zero, List.set_cons_succ]
      refine' wpAnyH_take (i := 12) (oi := _) (v := .bool true) rfl (by kernel_rfl) (by kernel_rfl) (by kernel_rfl) (fun _ _ _ h => h) (Or.inl ⟨by kernel_rfl, ?_⟩) (by assumption) ?_
      · (intro w hSw; (try dsimp only at hSw); go_simp; try (with_reducible rfl))
      try simp only [List.getElem_toArray, List.getElem_cons_succ, List.getElem_cons_zero, Act.put, List.setIfInBounds_toArray, List.set_cons_zero, List.set_cons_succ]
      refine' wpAnyH_take (i := 13) (oi := _) (v := .bool true) rfl (by kernel_rfl) (by kernel_rfl) (by kernel_rfl) (fun _ _ _ h => h) (Or.inl ⟨by kernel_rfl, ?_⟩) (by assumption) ?_
      · (intro w hSw; (try dsimp only at hSw); go_simp; try (with_reducible rfl))
      try simp only [List.getElem_toArray, List.getElem_cons_succ, List.getElem_cons_zero, Act.put, List.setIfInBounds_toArray, List.set_cons_zero, List.set_cons_succ]
      refine' wpAnyH_take (i := 14) (oi := _) (v := _) rfl (by kernel_rfl) (by kernel_rfl) (by kernel_rfl) (fun _ _ _ h => h) (Or.inl ⟨by kernel_rfl, ?_⟩) (by assumption) ?_
      rotate_left
      · (intro w hSw; (try dsimp only at hSw); go_simp; try (with_reducible rfl))
      try simp only [List.getElem_toArray, List.getElem_cons_succ, List.getElem_cons_zero, Act.put, List.setIfInBounds_toArray, List.set_cons_zero, List.set_cons_succ]
      refine' wpAnyH_take (i := 15) (oi := _) (v := _) rfl (by kernel_rfl) (by kernel_rfl) (by kernel_rfl) (fun _ _ _ h => h) (Or.inl ⟨by kernel_rfl, ?_⟩) (by assumption) ?_
      rotate_left
      · (intro w hSw; (try dsimp only at hSw); go_simp; try (with_reducible rfl))
      try simp only [List.getElem_toArray, List.getElem_cons_succ, List.getElem_cons_zero, Act.put, List.setIfInBounds_toArray, List.set_cons_zero, List.set_cons_succ]
      refine' wpAnyH_take (i := 16) (oi := _) (v := _) rfl (by kernel_rfl) (by kernel_rfl) (by kernel_rfl) (fun _ _ _ h => h) (Or.inl ⟨by kernel_rfl, ?_⟩) (by assumption) ?_
      rotate_left
      · (intro w hSw; (try dsimp only at hSw); go_simp; try (with_reducible rfl))
      try simp only [List.getElem_toArray, List.getElem_cons_succ, List.getElem_cons_zero, Act.put, List.setIfInBounds_toArray, List.set_cons_zero, List.set_cons_succ]
      refine' wpAnyH_take (i := 17) (oi := _) (v := _) rfl (by kernel_rfl) (by kernel_rfl) (by kernel_rfl) (fun _ _ _ h => h) (Or.inl ⟨by kernel_rfl, ?_⟩) (by assumption) ?_
      rotate_left
      · (intro w hSw; (try dsimp only at hSw); go_simp; try (with_reducible rfl))
      try simp only [List.getElem_toArray, List.getElem_cons_succ, List.getElem_cons_zero, Act.put, List.setIfInBounds_toArray, List.set_cons_zero, List.set_cons_succ]
      refine' wpAnyH_take (i := 18) (oi := _) (v := .bool true) rfl (by kernel_rfl) (by kernel_rfl) (by kernel_rfl) (fun _ _ _ h => h) (Or.inl ⟨by kernel_rfl, ?_⟩) (by assumption) ?_
      · (intro w hSw; (try dsimp only at hSw); go_simp; try (with_reducible rfl))
      try simp only [List.getElem_toArray, List.getElem_cons_succ, List.getElem_cons_zero, Act.put, List.setIfInBounds_toArray, List.set_cons_zero, List.set_cons_succ]
      refine' wpAnyH_take (i := 19) (oi := _) (v := .bool true) rfl (by kernel_rfl) (by kernel_rfl) (by kernel_rfl) (fun _ _ _ h => h) (Or.inl ⟨by kernel_rfl, ?_⟩) (by assumption) ?_
      · (intro w hSw; (try dsimp only at hSw); go_simp; try (with_reducible rfl))
      try simp only [List.getElem_toArray, List.getElem_cons_succ, List.getElem_cons_zero, Act.put, List.setIfInBounds_toArray, List.set_cons_zero, List.set_cons_succ]
      refine' wpAnyH_take (i := 20) (oi := _) (v := .bool true) rfl (by kernel_rfl) (by kernel_rfl) (by kernel_rfl) (fun _ _ _ h => h) (Or.inl ⟨by kernel_rfl, ?_⟩) (by assumption) ?_
      · (intro w hSw; (try dsimp only at hSw); go_simp; try (with_reducible rfl))
      try simp only [List.getElem_toArray, List.getElem_cons_succ, List.getElem_cons_zero, Act.put, List.setIfInBounds_toArray, List.set_cons_zero, List.set_cons_succ]
      refine wpAnyH_done (by kernel_rfl) ?_ _
      clear hHeld
      go_wp2
      go_ret
      exact ⟨rfl, HBB.out.trans ((hp3.out.below HBB.out.size (fun j hj e => by have := HKN.out; omega)).trans (HB4.out.mono (Nat.le_trans HBB.out.size hp3.out.size)))⟩
end Go.Proofs.Ytnaekdfpdlkkcaa
