/-
  A trade with the first order of the other side. Written by mku.py.
-/
import Derived.Test.YtojmcfkbekodpaaPf
namespace Go.Proofs.Ytojmcfkbekodpaa
open Go.RowKit Go.Deep Go.Shelf
set_option linter.unusedVariables false
set_option linter.unusedSimpArgs false
set_option maxHeartbeats 8000000
set_option maxRecDepth 100000
attribute [local go_sem ↓] Go.wp_at_zero Go.wp_at_succ
theorem put_put (b : Bs) (s : Int) (hs : s = 1 ∨ s = 2) (p : Option Addr) (c : Nat) (l : LO) (p' : Option Addr) (c' : Nat) (l' : LO) : (b.put s p c l).put s p' c' l' = b.put s p' c' l' := by
  rcases hs with rfl | rfl <;> rfl
theorem trade_any (w0 : World) (F : Nat → Prop) (T B O : Nat) (b : Bs) (ve : Value) (es : List Ev) (o : Or) (s q m : Int) (f : Nat) (x : Or) (r : LO) (w : World) (h : Cg w0 F T B O b ve es o s q w) (hs : s = 1 ∨ s = 2) (hl : b.sl (oth s) = (f, x) :: r) (hm : m = min q x.vi) (hq0 : 0 < q) (hq1 : q < 18446744073709551616) (hv0 : 0 < x.vi) (hv1 : x.vi < 18446744073709551616) (hh0 : 0 ≤ x.hi) (hh1 : x.hi < 18446744073709551616) (hp0 : 0 ≤ x.pk) (hn : es.length + 1 ≤ 17179869184) (hln : b.l1.length + b.l2.length ≤ 1048576) (ho : Srt (oth s) (b.sl (oth s))) :
    Calls Try.prog 87 #[.pointer (some ⟨T, 0, none⟩), .pointer (some ⟨O, 0, none⟩)] w fun e w' => e = .returned (.tuple #[]) ∧ ∃ ve', Cg w0 F T B O ((trb b x m).put (oth s) (b.sp (oth s)) (b.sc (oth s)) (trl (oth s) f x r m)) ve' (es ++ tre b.seq o s x m) o s (q - m) w' := by
  obtain ⟨k, hk, hks⟩ : ∃ k : Nat, k < 2 ∧ oth s = (k : Int) + 1 := by
    rcases hs with rfl | rfl
    · exact ⟨1, by decide, rfl⟩
    · exact ⟨0, by decide, rfl⟩
  obtain ⟨S, hS⟩ : ∃ S, oth s = S := ⟨_, rfl⟩
  have hSS : S = 1 ∨ S = 2 := by rw [← hS]; exact oth_side hs
  have hli := h.tn.bm.sli S
  rw [hS] at hl ho hks
  rw [hl] at hli
  obtain ⟨g, hp, hgc, hfr⟩ := hli.cell (i := 0) (by simp)
  simp only [List.getElem_cons_zero, pv] at hgc hfr
  have hbk := (row_cell h.tn.bm.row (2 + k)).trans (Bs.rowk hks hk)
  rw [hl, hp] at hbk
  obtain ⟨n, hnn⟩ : ∃ n, ((f, x) :: r : LO).length = n := ⟨_, rfl⟩
  have hn0 : 0 < n := by rw [← hnn]; simp
  rw [hnn] at hbk
  have t0 := row_cell h.tn.row 0
  have c0 := row_cell h.ow 0
  have c7 := row_cell h.ow 7
  have c8 := row_cell h.ow 8
  have f0 := row_cell hfr 0
  have f3 := row_cell hfr 3
  have f4 := row_cell hfr 4
  simp only [crow, orow, List.getElem?_toArray, List.getElem?_cons_succ, List.getElem?_cons_zero] at t0 c0 c7 c8 f0 f3 f4
  have CO := hid (fun U => other_any s U)
  rw [hS, hks] at CO
  have CS := hid (fun U => side_any B k U hk)
  have m0 : 0 < m := by omega
  have m1 : m ≤ q := by omega
  have m2 : m ≤ x.vi := by omega
  have HCG := hid h
  have HKS := hid hks
  have HL := hid hl
  have HO := hid ho
  have HP := hid hp
  have HFR := hid hfr
  have HS := hid hs
  have HSE := hid hS
  have HNN := hid hnn
  have HM := hid hm
  have HTE := hid (fun (U : World) (hU : Below w.heap.size w U) => (tell_any T B b ve es (evT o s x m) U (h.tn.on hU) (by omega)).mono (R' := fun e w' => e = .returned (.tuple #[]) ∧ ∃ ve1, Cg w0 F T B O b.told ve1 (es ++ [(evT o s x m).num (nx b.seq)]) o s q w') (fun e w' hh => ⟨hh.1, (h.on hU).told hh.2⟩))
  simp only [ecs, evT] at HTE
  have mw1 : IntKind.u64.wrap (q - m) = q - m := by rw [IntKind.wrap_u64]; omega
  have mw2 : IntKind.u64.wrap (x.vi - m) = x.vi - m := by rw [IntKind.wrap_u64]; omega
  have HK2 := hid (fun (U : World) (v1 : Value) (hU : Cg w0 F T B O b.told v1 (es ++ [(evT o s x m).num (nx b.seq)]) o s q U) => (show U.cell? ⟨O, 0, none⟩ = some (.int .u64 o.id) ∧ U.cell? ⟨O, 7, none⟩ = some (.int .i64 s) ∧ U.cell? ⟨f, 0, none⟩ = some (.int .u64 x.id) ∧ U.cell? ⟨f, 3, none⟩ = some (.int .i64 x.pr) from by
    have hf2 : U.heap[f]? = some (.cells (orow x) 86 (0, 0)) := (hU.tn.bm.sli S).at' (f, x) (by rw [(told_sl b S).1, hl]; simp)
    have a0 := row_cell hU.ow 0
    have a7 := row_cell hU.ow 7
    have d0 := row_cell hf2 0
    have d3 := row_cell hf2 3
    simp only [crow, orow, List.getElem?_toArray, List.getElem?_cons_succ, List.getElem?_cons_zero] at a0 a7 d0 d3
    exact ⟨a0, a7, d0, d3⟩))
  have HOF := hid (show O ≠ f from row_ne h.ow hfr (by decide))
  clear h hks hl ho hp hfr hs hS hnn hli hSS hm
  go_enter Try.func87, Try.ntmps87
  go_upto_region 3 with (first | (go_at_call 69; with_reducible refine (CO.out _).mono ?_; rintro e w1 ⟨rfl, rfl⟩) | (go_at_call 35; with_reducible refine (CS.out _).mono ?_; rintro e w1 ⟨rfl, rfl⟩))
  go_quiet (fail)
  rw [← HM.out]
  go_upto_region 4 with fail
  refine wp_region_held_drew (S := (fun U => U.cell? ⟨O, 0, none⟩ = some (.int .u64 o.id) ∧ U.cell? ⟨O, 7, none⟩ = some (.int .i64 s) ∧ U.cell? ⟨f, 0, none⟩ = some (.int .u64 x.id) ∧ U.cell? ⟨f, 3, none⟩ = some (.int .i64 x.pr))) (by kernel_rfl) ?_ (fun hHeld => ?_)
  · (try dsimp only); (exact ⟨c0, c7, f0, f3⟩)
  refine' wpAnyH_take (i := 0) (oi := _) (v := _) rfl (by kernel_rfl) (by kernel_rfl) (by kernel_rfl) (fun _ _ _ h => h) (Or.inl ⟨by kernel_rfl, ?hyq1⟩) (by assumption) ?restq1
  case hyq1 => (intro w hSw; (try dsimp only at hSw); go_simp; try (with_reducible rfl))
  try simp only [List.getElem_toArray, List.getElem_cons_succ, List.getElem_cons_zero, Act.put, List.setIfInBounds_toArray, List.set_cons_zero, List.set_cons_succ]
  refine' wpAnyH_take (i := 1) (oi := _) (v := _) rfl (by kernel_rfl) (by kernel_rfl) (by kernel_rfl) (fun _ _ _ h => h) (Or.inl ⟨by kernel_rfl, ?hyq2⟩) (by assumption) ?restq2
  case hyq2 => (intro w hSw; (try dsimp only at hSw); go_simp; try (with_reducible rfl))
  try simp only [List.getElem_toArray, List.getElem_cons_succ, List.getElem_cons_zero, Act.put, List.setIfInBounds_toArray, List.set_cons_zero, List.set_cons_succ]
  refine' wpAnyH_take (i := 2) (oi := _) (v := _) rfl (by kernel_rfl) (by kernel_rfl) (by kernel_rfl) (fun _ _ _ h => h) (Or.inl ⟨by kernel_rfl, ?hyq3⟩) (by assumption) ?restq3
  case hyq3 => (intro w hSw; (try dsimp only at hSw); go_simp; try (with_reducible rfl))
  try simp only [List.getElem_toArray, List.getElem_cons_succ, List.getElem_cons_zero, Act.put, List.setIfInBounds_toArray, List.set_cons_zero, List.set_cons_succ]
  refine' wpAnyH_take (i := 3) (oi := _) (v := _) rfl (by kernel_rfl) (by kernel_rfl) (by kernel_rfl) (fun _ _ _ h => h) (Or.inl ⟨by kernel_rfl, ?hyq4⟩) (by assumption) ?restq4
  case hyq4 => (intro w hSw; (try dsimp only at hSw); go_simp; try (with_reducible rfl))
  try simp only [List.getElem_toArray, List.getElem_cons_succ, List.getElem_cons_zero, Act.put, List.setIfInBounds_toArray, List.set_cons_zero, List.set_cons_succ]
  refine' wpAnyH_take (i := 4) (oi := _) (v := _) rfl (by kernel_rfl) (by kernel_rfl) (by kernel_rfl) (fun _ _ _ h => h) (Or.inl ⟨by kernel_rfl, ?hyq5⟩) (by assumption) ?restq5
  case hyq5 => (intro w hSw; (try dsimp only at hSw); go_simp; try (with_reducible rfl))
  try simp only [List.getElem_toArray, List.getElem_cons_succ, List.getElem_cons_zero, Act.put, List.setIfInBounds_toArray, List.set_cons_zero, List.set_cons_succ]
  refine' wpAnyH_take (i := 5) (oi := _) (v := _) rfl (by kernel_rfl) (by kernel_rfl) (by kernel_rfl) (fun _ _ _ h => h) (Or.inl ⟨by kernel_rfl, ?hyq6⟩) (by assumption) ?restq6
  case hyq6 => (intro w hSw; (try dsimp only at hSw); go_simp; try (with_reducible rfl))
  try simp only [List.getElem_toArray, List.getElem_cons_succ, List.getElem_cons_zero, Act.put, List.setIfInBounds_toArray, List.set_cons_zero, List.set_cons_succ]
  refine' wpAnyH_take (i := 6) (oi := _) (v := _) rfl (by kernel_rfl) (by kernel_rfl) (by kernel_rfl) (fun _ _ _ h => h) (Or.inl ⟨by kernel_rfl, ?hyq7⟩) (by assumption) ?restq7
  case hyq7 => (intro w hSw; (try dsimp only at hSw); go_simp; try (with_reducible rfl))
  try simp only [List.getElem_toArray, List.getElem_cons_succ, List.getElem_cons_zero, Act.put, List.setIfInBounds_toArray, List.set_cons_zero, List.set_cons_succ]
  refine' wpAnyH_take (i := 7) (oi := _) (v := _) rfl (by kernel_rfl) (by kernel_rfl) (by kernel_rfl) (fun _ _ _ h => h) (Or.inl ⟨by kernel_rfl, ?hyq8⟩) (by assumption) ?restq8
  case hyq8 => (intro w hSw; (try dsimp only at hSw); go_simp; try (with_reducible rfl))
  try simp only [List.getElem_toArray, List.getElem_cons_succ, List.getElem_cons_zero, Act.put, List.setIfInBounds_toArray, List.set_cons_zero, List.set_cons_succ]
  refine' wpAnyH_take (i := 8) (oi := _) (v := _) rfl (by kernel_rfl) (by kernel_rfl) (by kernel_rfl) (fun _ _ _ h => h) (Or.inl ⟨by kernel_rfl, ?hyq9⟩) (by assumption) ?restq9
  case hyq9 => (intro w hSw; (try dsimp only at hSw); go_simp; try (with_reducible rfl))
  try simp only [List.getElem_toArray, List.getElem_cons_succ, List.getElem_cons_zero, Act.put, List.setIfInBounds_toArray, List.set_cons_zero, List.set_cons_succ]
  refine' wpAnyH_take (i := 9) (oi := _) (v := _) rfl (by kernel_rfl) (by kernel_rfl) (by kernel_rfl) (fun _ _ _ h => h) (Or.inl ⟨by kernel_rfl, ?hyq10⟩) (by assumption) ?restq10
  case hyq10 => (intro w hSw; (try dsimp only at hSw); go_simp; try (with_reducible rfl))
  try simp only [List.getElem_toArray, List.getElem_cons_succ, List.getElem_cons_zero, Act.put, List.setIfInBounds_toArray, List.set_cons_zero, List.set_cons_succ]
  refine' wpAnyH_take (i := 10) (oi := _) (v := _) rfl (by kernel_rfl) (by kernel_rfl) (by kernel_rfl) (fun _ _ _ h => h) (Or.inl ⟨by kernel_rfl, ?hyq11⟩) (by assumption) ?restq11
  case hyq11 => (intro w hSw; (try dsimp only at hSw); go_simp; try (with_reducible rfl))
  try simp only [List.getElem_toArray, List.getElem_cons_succ, List.getElem_cons_zero, Act.put, List.setIfInBounds_toArray, List.set_cons_zero, List.set_cons_succ]
  refine' wpAnyH_take (i := 11) (oi := _) (v := _) rfl (by kernel_rfl) (by kernel_rfl) (by kernel_rfl) (fun _ _ _ h => h) (Or.inl ⟨by kernel_rfl, ?hyq12⟩) (by assumption) ?restq12
  case hyq12 => (intro w hSw; (try dsimp only at hSw); go_simp; try (with_reducible rfl))
  try simp only [List.getElem_toArray, List.getElem_cons_succ, List.getElem_cons_zero, Act.put, List.setIfInBounds_toArray, List.set_cons_zero, List.set_cons_succ]
  refine' wpAnyH_take (i := 12) (oi := _) (v := _) rfl (by kernel_rfl) (by kernel_rfl) (by kernel_rfl) (fun _ _ _ h => h) (Or.inl ⟨by kernel_rfl, ?hyq13⟩) (by assumption) ?restq13
  case hyq13 => (intro w hSw; (try dsimp only at hSw); go_simp; try (with_reducible rfl))
  try simp only [List.getElem_toArray, List.getElem_cons_succ, List.getElem_cons_zero, Act.put, List.setIfInBounds_toArray, List.set_cons_zero, List.set_cons_succ]
  refine' wpAnyH_take (i := 13) (oi := _) (v := _) rfl (by kernel_rfl) (by kernel_rfl) (by kernel_rfl) (fun _ _ _ h => h) (Or.inl ⟨by kernel_rfl, ?hyq14⟩) (by assumption) ?restq14
  case hyq14 => (intro w hSw; (try dsimp only at hSw); go_simp; try (with_reducible rfl))
  try simp only [List.getElem_toArray, List.getElem_cons_succ, List.getElem_cons_zero, Act.put, List.setIfInBounds_toArray, List.set_cons_zero, List.set_cons_succ]
  refine' wpAnyH_take (i := 14) (oi := _) (v := _) rfl (by kernel_rfl) (by kernel_rfl) (by kernel_rfl) (fun _ _ _ h => h) (Or.inl ⟨by kernel_rfl, ?hyq15⟩) (by assumption) ?restq15
  case hyq15 => (intro w hSw; (try dsimp only at hSw); go_simp; try (with_reducible rfl))
  try simp only [List.getElem_toArray, List.getElem_cons_succ, List.getElem_cons_zero, Act.put, List.setIfInBounds_toArray, List.set_cons_zero, List.set_cons_succ]
  refine' wpAnyH_take (i := 15) (oi := _) (v := _) rfl (by kernel_rfl) (by kernel_rfl) (by kernel_rfl) (fun _ _ _ h => h) (Or.inl ⟨by kernel_rfl, ?hyq16⟩) (by assumption) ?restq16
  case hyq16 => (intro w hSw; (try dsimp only at hSw); go_simp; try (with_reducible rfl))
  try simp only [List.getElem_toArray, List.getElem_cons_succ, List.getElem_cons_zero, Act.put, List.setIfInBounds_toArray, List.set_cons_zero, List.set_cons_succ]
  refine' wpAnyH_take (i := 16) (oi := _) (v := _) rfl (by kernel_rfl) (by kernel_rfl) (by kernel_rfl) (fun _ _ _ h => h) (Or.inl ⟨by kernel_rfl, ?hyq17⟩) (by assumption) ?restq17
  case hyq17 => (intro w hSw; (try dsimp only at hSw); go_simp; try (with_reducible rfl))
  try simp only [List.getElem_toArray, List.getElem_cons_succ, List.getElem_cons_zero, Act.put, List.setIfInBounds_toArray, List.set_cons_zero, List.set_cons_succ]
  refine' wpAnyH_take (i := 17) (oi := _) (v := _) rfl (by kernel_rfl) (by kernel_rfl) (by kernel_rfl) (fun _ _ _ h => h) (Or.inl ⟨by kernel_rfl, ?hyq18⟩) (by assumption) ?restq18
  case hyq18 => (intro w hSw; (try dsimp only at hSw); go_simp; try (with_reducible rfl))
  try simp only [List.getElem_toArray, List.getElem_cons_succ, List.getElem_cons_zero, Act.put, List.setIfInBounds_toArray, List.set_cons_zero, List.set_cons_succ]
  refine' wpAnyH_take (i := 18) (oi := _) (v := _) rfl (by kernel_rfl) (by kernel_rfl) (by kernel_rfl) (fun _ _ _ h => h) (Or.inl ⟨by kernel_rfl, ?hyq19⟩) (by assumption) ?restq19
  case hyq19 => (intro w hSw; (try dsimp only at hSw); go_simp; try (with_reducible rfl))
  try simp only [List.getElem_toArray, List.getElem_cons_succ, List.getElem_cons_zero, Act.put, List.setIfInBounds_toArray, List.set_cons_zero, List.set_cons_succ]
  refine' wpAnyH_take (i := 19) (oi := _) (v := _) rfl (by kernel_rfl) (by kernel_rfl) (by kernel_rfl) (fun _ _ _ h => h) (Or.inl ⟨by kernel_rfl, ?hyq20⟩) (by assumption) ?restq20
  case hyq20 => (intro w hSw; (try dsimp only at hSw); go_simp; try (with_reducible rfl))
  try simp only [List.getElem_toArray, List.getElem_cons_succ, List.getElem_cons_zero, Act.put, List.setIfInBounds_toArray, List.set_cons_zero, List.set_cons_succ]
  refine wpAnyH_ready (rs := [20]) (by kernel_rfl) (by simp) ?_
  refine AllReadyH.cons (o := _) rfl (fun K hK => ?_) AllReadyH.nil
  go_simp
  go_at_call 50; with_reducible refine (HTE.out _ (by first | exact btr (bdrew _ _) (bdrew1 _) | exact bdrew _ _ | exact bdrew1 _)).mono ?_; rintro e w2 ⟨rfl, ve1, hc2⟩; have H2 := hid hc2
  (try go_wp2_with fail)
  refine hK.out _ _ ?_ (fun hHeld => ?_)
  · (try dsimp only); (exact HK2.out w2 ve1 H2.out)
  clear hK K
  try simp only [List.getElem_toArray, List.getElem_cons_succ, List.getElem_cons_zero, Act.put, List.setIfInBounds_toArray, List.set_cons_zero, List.set_cons_succ]
  refine wpAnyH_done (by kernel_rfl) ?_ _
  have hf2 : w2.heap[f]? = some (.cells (orow x) 86 (0, 0)) := (H2.out.tn.bm.sli S).at' (f, x) (by rw [(told_sl b S).1, HL.out]; simp)
  have a8 := row_cell H2.out.ow 8
  have z8 := row_frz H2.out.ow 8
  have d4 := row_cell hf2 4
  have e4 := row_frz hf2 4
  simp only [crow, orow, List.getElem?_toArray, List.getElem?_cons_succ, List.getElem?_cons_zero] at a8 d4
  have hOf := HOF.out
  have H3 := hid (show Cg w0 F T B O (b.told.put S (b.sp S) (b.sc S) ((f, x.less m) :: r)) ve1 (es ++ [(evT o s x m).num (nx b.seq)]) o s (q - m) ((w2.setCell ⟨O, 8, none⟩ (.int .u64 (q - m))).setCell ⟨f, 4, none⟩ (.int .u64 (x.vi - m))) from by
    have h1 := H2.out.left (q - m)
    have hf3 := (Kp.set w2 O 8 (.int .u64 (q - m))).row hf2 (fun e => HOF.out e.symm)
    have h2 := h1.upd (x' := x.less m) HS.out (f := f) (x := x) (r := r) (by rw [HSE.out]; exact HL.out) (Kp.set _ f 4 (.int .u64 (x.vi - m))) (by rw [set_row _ hf3]; rfl)
    rw [HSE.out] at h2
    exact h2)
  clear hf2 c0 c7 c8 f0 f3 f4 t0 hgc hbk
  go_upto_region 10 with fail
  obtain ⟨W3, hW3⟩ : ∃ W3, (w2.setCell ⟨O, 8, none⟩ (.int .u64 (q - m))).setCell ⟨f, 4, none⟩ (.int .u64 (x.vi - m)) = W3 := ⟨_, rfl⟩
  rw [hW3] at H3
  rw [hW3]
  clear hW3 a8 z8 d4 e4 H2
  have hl3 : (b.told.put S (b.sp S) (b.sc S) ((f, x.less m) :: r)).sl S = (f, x.less m) :: r := ((b.told).put_sl S (by rw [← HSE.out]; exact oth_side HS.out) _ _ _).1
  have hfr3 : W3.heap[f]? = some (.cells (orow (x.less m)) 86 (0, 0)) := (H3.out.tn.bm.sli S).at' (f, x.less m) (by rw [hl3]; simp)
  have d4 := row_cell hfr3 4
  have d5 := row_cell hfr3 5
  simp only [orow, Or.less, List.getElem?_toArray, List.getElem?_cons_succ, List.getElem?_cons_zero] at d4 d5
  have HFR3 := hid hfr3
  have HL3 := hid hl3
  clear hfr3 hl3
  by_cases hA : 0 < x.vi - m
  · go_wp2
    go_end0
    refine ⟨rfl, ve1, ?_⟩
    have e1 : trb b x m = b.told := by simp only [trb, if_pos hA]
    have e2 : tre b.seq o s x m = [(evT o s x m).num (nx b.seq)] := by simp only [tre, if_pos hA]
    have e3 : trl S f x r m = (f, x.less m) :: r := by simp only [trl, if_pos hA]
    rw [e1, e2, HSE.out, e3]
    exact H3.out
  · have hv : x.vi - m = 0 := by omega
    have HA := hid hA
    rw [hv] at d4
    clear hA
    by_cases hB : x.hi = 0
    · have HB := hid hB
      rw [hB] at d5
      have hSS : S = 1 ∨ S = 2 := by rw [← HSE.out]; exact oth_side HS.out
      have HCD := hid (show Calls Try.prog 52 #[.pointer (some ⟨B, 2 + k, none⟩), .int .i64 0] W3 fun e w' => e = .returned (.tuple #[]) ∧ Cg w0 F T B O (b.told.put S (b.sp S) (b.sc S) r) ve1 (es ++ [(evT o s x m).num (nx b.seq)]) o s (q - m) w' from by
        have hC := H3.out
        have hsl := ((b.told).put_sl S hSS (b.sp S) (b.sc S) ((f, x.less m) :: r))
        have hli := hC.tn.bm.sli S
        have hrk := Bs.rowk (b := b.told.put S (b.sp S) (b.sc S) ((f, x.less m) :: r)) HKS.out hk
        rw [hsl.1, hsl.2.1, hsl.2.2] at hli hrk
        have hnd := hC.tn.bm.snd S
        rw [hsl.1] at hnd
        have hle := b.sl_le S
        rw [HL.out] at hle
        have D := drop_any B (2 + k) _ (b.sp S) (b.sc S) ((f, x.less m) :: r) 0 W3 hC.tn.bm.row hrk hli (by simp) (by simp at hle ⊢; omega) hnd
        refine D.mono ?_
        rintro e w' ⟨rfl, d1, d2, d3⟩
        refine ⟨rfl, ?_⟩
        have hkp : Kp (sfp (b.told.put S (b.sp S) (b.sc S) ((f, x.less m) :: r)) B S) W3 w' := by
          unfold sfp; rw [hsl.2.1]; exact d3
        have hb := hC.tn.bm.list (p := b.sp S) (c := b.sc S) (l := r) HKS.out hk d1 d2 hkp (fun g hg => .inl (by rw [hsl.2.1]; exact hg)) (fun y hy => .inl (by rw [hsl.1]; simp [hy])) (by simp only [List.map_cons, List.nodup_cons] at hnd; exact hnd.2)
        have hpp : ((b.told.put S (b.sp S) (b.sc S) ((f, x.less m) :: r)).put S (b.sp S) (b.sc S) r) = b.told.put S (b.sp S) (b.sc S) r := put_put _ _ hSS _ _ _ _ _ _
        have hcl := Cg.list (s := s) HS.out (l := r) hC (fun y hy => by rw [HSE.out, hsl.1]; simp [hy]) (by rw [HSE.out]; exact hkp) (by rw [HSE.out, hsl.2.1, hsl.2.2]; exact hb)
        rw [HSE.out, hsl.2.1, hsl.2.2, hpp] at hcl
        exact hcl)
      go_wp2_with (go_at_call 52; with_reducible refine (HCD.out).mono ?_; rintro e w4 ⟨rfl, h4⟩; have H4 := hid h4; clear h4)
      go_end0
      refine ⟨rfl, ve1, ?_⟩
      have e1 : trb b x m = b.told := by simp only [trb, if_neg (show ¬ 0 < x.vi - m by have := HA.out; omega), if_pos HB.out]
      have e2 : tre b.seq o s x m = [(evT o s x m).num (nx b.seq)] := by simp only [tre, if_neg (show ¬ 0 < x.vi - m by have := HA.out; omega), if_pos HB.out]
      have e3 : trl S f x r m = r := by simp only [trl, if_neg (show ¬ 0 < x.vi - m by have := HA.out; omega), if_pos HB.out]
      rw [e1, e2, HSE.out, e3]
      exact H4.out
    · have hB' : (x.hi == 0) = false := by simpa using hB
      have CSH := hid (fun U => shown_any x.pk x.hi U hp0 hh1)
      obtain ⟨v4, v5, hsh⟩ : ∃ a c, shw x.pk x.hi = (a, c) := ⟨_, _, rfl⟩
      rw [hsh] at CSH
      simp only at CSH
      have d6 := row_cell HFR3.out 6
      have z4 := row_frz HFR3.out 4
      have z5 := row_frz HFR3.out 5
      simp only [orow, Or.less, List.getElem?_toArray, List.getElem?_cons_succ, List.getElem?_cons_zero] at d6
      have HSH := hid hsh
      have HB := hid hB
      clear hsh hB
      go_upto_region 7 with fail
      go_region_with (go_at_call 76; with_reducible refine (CSH.out _).mono ?_; rintro e w5 ⟨rfl, rfl⟩)
      · obtain ⟨W4, hW4⟩ : ∃ W4, ((W3.setCell ⟨f, 4, none⟩ (.int .u64 v4)).setCell ⟨f, 5, none⟩ (.int .u64 v5)).drew = W4 := ⟨_, rfl⟩
        rw [hW4]
        obtain ⟨x2, hx2⟩ : ∃ x2, (x.less m).shn = x2 := ⟨_, rfl⟩
        have hxr : orow x2 = #[.int .u64 x.id, .int .u32 x.mb, .int .i64 x.ty, .int .i64 x.pr, .int .u64 v4, .int .u64 v5, .int .u64 x.pk] := by
          have e := HSH.out
          rw [← hx2]
          simp only [orow, Or.shn, Or.less]
          rw [e]
        have hxv : x2.id = x.id ∧ x2.pr = x.pr ∧ x2.vi = v4 := by
          have e := HSH.out
          rw [← hx2]
          simp only [Or.shn, Or.less]
          rw [e]
          simp
        have HX2 := hid hx2
        have HXV := hid hxv
        have hSS : S = 1 ∨ S = 2 := by rw [← HSE.out]; exact oth_side HS.out
        have hkp : Kp (fun j => j = f) W3 W4 := by
          rw [← hW4]
          exact ((Kp.set W3 f 4 _).trans (Kp.set _ f 5 _) (fun _ _ h => h)).trans (Kp.of (fun j => j = f) (bdrew1 _)) (fun _ _ h => h)
        have hf4 : W4.heap[f]? = some (.cells (orow x2) 86 (0, 0)) := by
          rw [← hW4, hxr]
          show ((W3.setCell ⟨f, 4, none⟩ (.int .u64 v4)).setCell ⟨f, 5, none⟩ (.int .u64 v5)).heap[f]? = _
          rw [set_row _ (set_row _ HFR3.out)]
          rfl
        have H4 := hid (show Cg w0 F T B O (b.told.put S (b.sp S) (b.sc S) ((f, x2) :: r)) ve1 (es ++ [(evT o s x m).num (nx b.seq)]) o s (q - m) W4 from by
          have h2 := H3.out.upd (x' := x2) HS.out (f := f) (x := x.less m) (r := r) (by rw [HSE.out]; exact HL3.out) hkp hf4
          have hsl := ((b.told).put_sl S hSS (b.sp S) (b.sc S) ((f, x.less m) :: r))
          rw [HSE.out, hsl.2.1, hsl.2.2, put_put _ _ hSS] at h2
          exact h2)
        have g0 := row_cell hf4 0
        have g3 := row_cell hf4 3
        have g4 := row_cell hf4 4
        rw [hxr] at g0 g3 g4
        simp only [List.getElem?_toArray, List.getElem?_cons_succ, List.getElem?_cons_zero] at g0 g3 g4
        clear hW4 d4 d5 d6 z4 z5 hkp hf4 hx2 hxv
        have HXR := hid hxr
        clear hxr
        obtain ⟨b4, hb4⟩ : ∃ b4, (b.told.put S (b.sp S) (b.sc S) ((f, x2) :: r)) = b4 := ⟨_, rfl⟩
        obtain ⟨es2, hes2⟩ : ∃ es2, es ++ tre b.seq o s x m = es2 := ⟨_, rfl⟩
        have HB4 := hid hb4
        have HES2 := hid hes2
        rw [hb4] at H4
        have h4f : b4.sl S = (f, x2) :: r ∧ b4.sp S = b.sp S ∧ b4.sc S = b.sc S ∧ b4.seq = nx b.seq := by
          rw [← hb4]
          exact ⟨(b.told.put_sl S hSS _ _ _).1, (b.told.put_sl S hSS _ _ _).2.1, (b.told.put_sl S hSS _ _ _).2.2, by rw [Bs.put_seq]; rfl⟩
        have H4F := hid h4f
        clear hb4 hes2 h4f
        have HTF := hid (fun (U : World) (hU : Below W4.heap.size W4 U) => (tell_any T B b4 ve1 _ (evF x2) U (H4.out.tn.on hU) (by simp; omega)).mono (R' := fun e w' => e = .returned (.tuple #[]) ∧ ∃ ve2, Cg w0 F T B O b4.told ve2 es2 o s (q - m) w') (fun e w' hh => by
          refine ⟨hh.1, ?_⟩
          obtain ⟨ve2, hc⟩ := (H4.out.on hU).told hh.2
          have e2 : (es ++ [(evT o s x m).num (nx b.seq)]) ++ [(evF x2).num (nx b4.seq)] = es2 := by
            rw [← HES2.out, H4F.out.2.2.2]
            simp only [tre, if_neg (show ¬ 0 < x.vi - m by have := HA.out; omega), if_neg (show ¬ x.hi = 0 from HB.out), HX2.out]
            simp
          rw [e2] at hc
          exact ⟨ve2, hc⟩))
        simp only [ecs, evF] at HTF
        rw [HXV.out.1, HXV.out.2.1, HXV.out.2.2] at HTF
        have HK8 := hid (fun (U : World) (v1 : Value) (hU : Cg w0 F T B O b4.told v1 es2 o s (q - m) U) => (show U.cell? ⟨f, 0, none⟩ = some (.int .u64 x.id) ∧ U.cell? ⟨f, 3, none⟩ = some (.int .i64 x.pr) ∧ U.cell? ⟨f, 4, none⟩ = some (.int .u64 v4) from by
          have hf2 : U.heap[f]? = some (.cells (orow x2) 86 (0, 0)) := (hU.tn.bm.sli S).at' (f, x2) (by rw [show b4.told.sl S = b4.sl S from rfl, H4F.out.1]; simp)
          have a0 := row_cell hf2 0
          have a3 := row_cell hf2 3
          have a4 := row_cell hf2 4
          rw [HXR.out] at a0 a3 a4
          simp only [List.getElem?_toArray, List.getElem?_cons_succ, List.getElem?_cons_zero] at a0 a3 a4
          exact ⟨a0, a3, a4⟩))
        have HLN := hid (show n ≤ 1048576 from by
          have hle := b.sl_le S
          rw [HL.out, HNN.out] at hle
          omega)
        have HSR := hid (show Srt S ((f, x2) :: r) from by
          have := HO.out
          rw [HL.out] at this
          exact this.upd HXV.out.2.1)
        have HNX := hid (show ((f, x2) :: r : LO).length = n from by rw [← HNN.out]; rfl)
        have HAG0 := hid (fun (U : World) (v1 : Value) (hU : Cg w0 F T B O b4.told v1 es2 o s (q - m) U) => again_cg w0 F T B O b4.told v1 es2 o s (q - m) S k f n x2 r (b.sp S) (b.sc S) U hU HS.out HSE.out HKS.out hk H4F.out.1 H4F.out.2.1 H4F.out.2.2.1 HNX.out HLN.out HSR.out)
        go_upto_region 8 with fail
        refine wp_region_held_drew (S := (fun U => U.cell? ⟨f, 0, none⟩ = some (.int .u64 x.id) ∧ U.cell? ⟨f, 3, none⟩ = some (.int .i64 x.pr) ∧ U.cell? ⟨f, 4, none⟩ = some (.int .u64 v4))) (by kernel_rfl) ?_ (fun hHeld => ?_)
        · (try dsimp only); (exact ⟨g0, g3, g4⟩)
        refine' wpAnyH_take (i := 0) (oi := _) (v := _) rfl (by kernel_rfl) (by kernel_rfl) (by kernel_rfl) (fun _ _ _ h => h) (Or.inl ⟨by kernel_rfl, ?hyq21⟩) (by assumption) ?restq21
        case hyq21 => (intro w hSw; (try dsimp only at hSw); go_simp; try (with_reducible rfl))
        try simp only [List.getElem_toArray, List.getElem_cons_succ, List.getElem_cons_zero, Act.put, List.setIfInBounds_toArray, List.set_cons_zero, List.set_cons_succ]
        refine' wpAnyH_take (i := 1) (oi := _) (v := _) rfl (by kernel_rfl) (by kernel_rfl) (by kernel_rfl) (fun _ _ _ h => h) (Or.inl ⟨by kernel_rfl, ?hyq22⟩) (by assumption) ?restq22
        case hyq22 => (intro w hSw; (try dsimp only at hSw); go_simp; try (with_reducible rfl))
        try simp only [List.getElem_toArray, List.getElem_cons_succ, List.getElem_cons_zero, Act.put, List.setIfInBounds_toArray, List.set_cons_zero, List.set_cons_succ]
        refine' wpAnyH_take (i := 2) (oi := _) (v := _) rfl (by kernel_rfl) (by kernel_rfl) (by kernel_rfl) (fun _ _ _ h => h) (Or.inl ⟨by kernel_rfl, ?hyq23⟩) (by assumption) ?restq23
        case hyq23 => (intro w hSw; (try dsimp only at hSw); go_simp; try (with_reducible rfl))
        try simp only [List.getElem_toArray, List.getElem_cons_succ, List.getElem_cons_zero, Act.put, List.setIfInBounds_toArray, List.set_cons_zero, List.set_cons_succ]
        refine' wpAnyH_take (i := 3) (oi := _) (v := _) rfl (by kernel_rfl) (by kernel_rfl) (by kernel_rfl) (fun _ _ _ h => h) (Or.inl ⟨by kernel_rfl, ?hyq24⟩) (by assumption) ?restq24
        case hyq24 => (intro w hSw; (try dsimp only at hSw); go_simp; try (with_reducible rfl))
        try simp only [List.getElem_toArray, List.getElem_cons_succ, List.getElem_cons_zero, Act.put, List.setIfInBounds_toArray, List.set_cons_zero, List.set_cons_succ]
        refine' wpAnyH_take (i := 4) (oi := _) (v := _) rfl (by kernel_rfl) (by kernel_rfl) (by kernel_rfl) (fun _ _ _ h => h) (Or.inl ⟨by kernel_rfl, ?hyq25⟩) (by assumption) ?restq25
        case hyq25 => (intro w hSw; (try dsimp only at hSw); go_simp; try (with_reducible rfl))
        try simp only [List.getElem_toArray, List.getElem_cons_succ, List.getElem_cons_zero, Act.put, List.setIfInBounds_toArray, List.set_cons_zero, List.set_cons_succ]
        refine' wpAnyH_take (i := 5) (oi := _) (v := _) rfl (by kernel_rfl) (by kernel_rfl) (by kernel_rfl) (fun _ _ _ h => h) (Or.inl ⟨by kernel_rfl, ?hyq26⟩) (by assumption) ?restq26
        case hyq26 => (intro w hSw; (try dsimp only at hSw); go_simp; try (with_reducible rfl))
        try simp only [List.getElem_toArray, List.getElem_cons_succ, List.getElem_cons_zero, Act.put, List.setIfInBounds_toArray, List.set_cons_zero, List.set_cons_succ]
        refine' wpAnyH_take (i := 6) (oi := _) (v := _) rfl (by kernel_rfl) (by kernel_rfl) (by kernel_rfl) (fun _ _ _ h => h) (Or.inl ⟨by kernel_rfl, ?hyq27⟩) (by assumption) ?restq27
        case hyq27 => (intro w hSw; (try dsimp only at hSw); go_simp; try (with_reducible rfl))
        try simp only [List.getElem_toArray, List.getElem_cons_succ, List.getElem_cons_zero, Act.put, List.setIfInBounds_toArray, List.set_cons_zero, List.set_cons_succ]
        refine' wpAnyH_take (i := 7) (oi := _) (v := _) rfl (by kernel_rfl) (by kernel_rfl) (by kernel_rfl) (fun _ _ _ h => h) (Or.inl ⟨by kernel_rfl, ?hyq28⟩) (by assumption) ?restq28
        case hyq28 => (intro w hSw; (try dsimp only at hSw); go_simp; try (with_reducible rfl))
        try simp only [List.getElem_toArray, List.getElem_cons_succ, List.getElem_cons_zero, Act.put, List.setIfInBounds_toArray, List.set_cons_zero, List.set_cons_succ]
        refine' wpAnyH_take (i := 8) (oi := _) (v := _) rfl (by kernel_rfl) (by kernel_rfl) (by kernel_rfl) (fun _ _ _ h => h) (Or.inl ⟨by kernel_rfl, ?hyq29⟩) (by assumption) ?restq29
        case hyq29 => (intro w hSw; (try dsimp only at hSw); go_simp; try (with_reducible rfl))
        try simp only [List.getElem_toArray, List.getElem_cons_succ, List.getElem_cons_zero, Act.put, List.setIfInBounds_toArray, List.set_cons_zero, List.set_cons_succ]
        refine' wpAnyH_take (i := 9) (oi := _) (v := _) rfl (by kernel_rfl) (by kernel_rfl) (by kernel_rfl) (fun _ _ _ h => h) (Or.inl ⟨by kernel_rfl, ?hyq30⟩) (by assumption) ?restq30
        case hyq30 => (intro w hSw; (try dsimp only at hSw); go_simp; try (with_reducible rfl))
        try simp only [List.getElem_toArray, List.getElem_cons_succ, List.getElem_cons_zero, Act.put, List.setIfInBounds_toArray, List.set_cons_zero, List.set_cons_succ]
        refine' wpAnyH_take (i := 10) (oi := _) (v := _) rfl (by kernel_rfl) (by kernel_rfl) (by kernel_rfl) (fun _ _ _ h => h) (Or.inl ⟨by kernel_rfl, ?hyq31⟩) (by assumption) ?restq31
        case hyq31 => (intro w hSw; (try dsimp only at hSw); go_simp; try (with_reducible rfl))
        try simp only [List.getElem_toArray, List.getElem_cons_succ, List.getElem_cons_zero, Act.put, List.setIfInBounds_toArray, List.set_cons_zero, List.set_cons_succ]
        refine' wpAnyH_take (i := 11) (oi := _) (v := _) rfl (by kernel_rfl) (by kernel_rfl) (by kernel_rfl) (fun _ _ _ h => h) (Or.inl ⟨by kernel_rfl, ?hyq32⟩) (by assumption) ?restq32
        case hyq32 => (intro w hSw; (try dsimp only at hSw); go_simp; try (with_reducible rfl))
        try simp only [List.getElem_toArray, List.getElem_cons_succ, List.getElem_cons_zero, Act.put, List.setIfInBounds_toArray, List.set_cons_zero, List.set_cons_succ]
        refine' wpAnyH_take (i := 12) (oi := _) (v := _) rfl (by kernel_rfl) (by kernel_rfl) (by kernel_rfl) (fun _ _ _ h => h) (Or.inl ⟨by kernel_rfl, ?hyq33⟩) (by assumption) ?restq33
        case hyq33 => (intro w hSw; (try dsimp only at hSw); go_simp; try (with_reducible rfl))
        try simp only [List.getElem_toArray, List.getElem_cons_succ, List.getElem_cons_zero, Act.put, List.setIfInBounds_toArray, List.set_cons_zero, List.set_cons_succ]
        refine' wpAnyH_take (i := 13) (oi := _) (v := _) rfl (by kernel_rfl) (by kernel_rfl) (by kernel_rfl) (fun _ _ _ h => h) (Or.inl ⟨by kernel_rfl, ?hyq34⟩) (by assumption) ?restq34
        case hyq34 => (intro w hSw; (try dsimp only at hSw); go_simp; try (with_reducible rfl))
        try simp only [List.getElem_toArray, List.getElem_cons_succ, List.getElem_cons_zero, Act.put, List.setIfInBounds_toArray, List.set_cons_zero, List.set_cons_succ]
        refine wpAnyH_ready (rs := [14]) (by kernel_rfl) (by simp) ?_
        refine AllReadyH.cons (o := _) rfl (fun K hK => ?_) AllReadyH.nil
        go_simp
        go_at_call 50; with_reducible refine (HTF.out _ (by first | exact bdrew1 _ | exact bdrew _ _)).mono ?_; rintro e w6 ⟨rfl, ve2, hc6⟩; have H6 := hid hc6
        (try go_wp2_with fail)
        refine hK.out _ _ ?_ (fun hHeld => ?_)
        · (try dsimp only); (exact HK8.out w6 ve2 H6.out)
        clear hK K
        try simp only [List.getElem_toArray, List.getElem_cons_succ, List.getElem_cons_zero, Act.put, List.setIfInBounds_toArray, List.set_cons_zero, List.set_cons_succ]
        refine wpAnyH_done (by kernel_rfl) ?_ _
        obtain ⟨hb6, hag⟩ := HAG0.out w6 ve2 H6.out
        have HAG := hid hag
        clear hag g0 g3 g4 hHeld
        go_wp2_with (go_at_call 92; with_reducible refine (HAG.out).mono ?_; rintro e w7 ⟨rfl, h7⟩; have H7 := hid h7; clear h7)
        go_end0
        refine ⟨rfl, ve2, ?_⟩
        have e1 : trb b x m = b.told.told := by simp only [trb, if_neg (show ¬ 0 < x.vi - m by have := HA.out; omega), if_neg (show ¬ x.hi = 0 from HB.out)]
        have e3 : trl S f x r m = agn S ((f, x2) :: r) := by simp only [trl, if_neg (show ¬ 0 < x.vi - m by have := HA.out; omega), if_neg (show ¬ x.hi = 0 from HB.out), HX2.out]
        have e4 : b4.told.put S (b.sp S) (b.sc S) (agn S ((f, x2) :: r)) = b.told.told.put S (b.sp S) (b.sc S) (agn S ((f, x2) :: r)) := by
          rw [← HB4.out]
          rcases hSS with h1 | h1 <;> rw [h1] <;> rfl
        rw [HSE.out, e1, e3, ← e4, HES2.out]
        exact H7.out
      · obtain ⟨W4, hW4⟩ : ∃ W4, ((W3.setCell ⟨f, 4, none⟩ (.int .u64 v4)).setCell ⟨f, 5, none⟩ (.int .u64 v5)).drew = W4 := ⟨_, rfl⟩
        rw [hW4]
        obtain ⟨x2, hx2⟩ : ∃ x2, (x.less m).shn = x2 := ⟨_, rfl⟩
        have hxr : orow x2 = #[.int .u64 x.id, .int .u32 x.mb, .int .i64 x.ty, .int .i64 x.pr, .int .u64 v4, .int .u64 v5, .int .u64 x.pk] := by
          have e := HSH.out
          rw [← hx2]
          simp only [orow, Or.shn, Or.less]
          rw [e]
        have hxv : x2.id = x.id ∧ x2.pr = x.pr ∧ x2.vi = v4 := by
          have e := HSH.out
          rw [← hx2]
          simp only [Or.shn, Or.less]
          rw [e]
          simp
        have HX2 := hid hx2
        have HXV := hid hxv
        have hSS : S = 1 ∨ S = 2 := by rw [← HSE.out]; exact oth_side HS.out
        have hkp : Kp (fun j => j = f) W3 W4 := by
          rw [← hW4]
          exact ((Kp.set W3 f 4 _).trans (Kp.set _ f 5 _) (fun _ _ h => h)).trans (Kp.of (fun j => j = f) (bdrew1 _)) (fun _ _ h => h)
        have hf4 : W4.heap[f]? = some (.cells (orow x2) 86 (0, 0)) := by
          rw [← hW4, hxr]
          show ((W3.setCell ⟨f, 4, none⟩ (.int .u64 v4)).setCell ⟨f, 5, none⟩ (.int .u64 v5)).heap[f]? = _
          rw [set_row _ (set_row _ HFR3.out)]
          rfl
        have H4 := hid (show Cg w0 F T B O (b.told.put S (b.sp S) (b.sc S) ((f, x2) :: r)) ve1 (es ++ [(evT o s x m).num (nx b.seq)]) o s (q - m) W4 from by
          have h2 := H3.out.upd (x' := x2) HS.out (f := f) (x := x.less m) (r := r) (by rw [HSE.out]; exact HL3.out) hkp hf4
          have hsl := ((b.told).put_sl S hSS (b.sp S) (b.sc S) ((f, x.less m) :: r))
          rw [HSE.out, hsl.2.1, hsl.2.2, put_put _ _ hSS] at h2
          exact h2)
        have g0 := row_cell hf4 0
        have g3 := row_cell hf4 3
        have g4 := row_cell hf4 4
        rw [hxr] at g0 g3 g4
        simp only [List.getElem?_toArray, List.getElem?_cons_succ, List.getElem?_cons_zero] at g0 g3 g4
        clear hW4 d4 d5 d6 z4 z5 hkp hf4 hx2 hxv
        have HXR := hid hxr
        clear hxr
        obtain ⟨b4, hb4⟩ : ∃ b4, (b.told.put S (b.sp S) (b.sc S) ((f, x2) :: r)) = b4 := ⟨_, rfl⟩
        obtain ⟨es2, hes2⟩ : ∃ es2, es ++ tre b.seq o s x m = es2 := ⟨_, rfl⟩
        have HB4 := hid hb4
        have HES2 := hid hes2
        rw [hb4] at H4
        have h4f : b4.sl S = (f, x2) :: r ∧ b4.sp S = b.sp S ∧ b4.sc S = b.sc S ∧ b4.seq = nx b.seq := by
          rw [← hb4]
          exact ⟨(b.told.put_sl S hSS _ _ _).1, (b.told.put_sl S hSS _ _ _).2.1, (b.told.put_sl S hSS _ _ _).2.2, by rw [Bs.put_seq]; rfl⟩
        have H4F := hid h4f
        clear hb4 hes2 h4f
        have HTF := hid (fun (U : World) (hU : Below W4.heap.size W4 U) => (tell_any T B b4 ve1 _ (evF x2) U (H4.out.tn.on hU) (by simp; omega)).mono (R' := fun e w' => e = .returned (.tuple #[]) ∧ ∃ ve2, Cg w0 F T B O b4.told ve2 es2 o s (q - m) w') (fun e w' hh => by
          refine ⟨hh.1, ?_⟩
          obtain ⟨ve2, hc⟩ := (H4.out.on hU).told hh.2
          have e2 : (es ++ [(evT o s x m).num (nx b.seq)]) ++ [(evF x2).num (nx b4.seq)] = es2 := by
            rw [← HES2.out, H4F.out.2.2.2]
            simp only [tre, if_neg (show ¬ 0 < x.vi - m by have := HA.out; omega), if_neg (show ¬ x.hi = 0 from HB.out), HX2.out]
            simp
          rw [e2] at hc
          exact ⟨ve2, hc⟩))
        simp only [ecs, evF] at HTF
        rw [HXV.out.1, HXV.out.2.1, HXV.out.2.2] at HTF
        have HK8 := hid (fun (U : World) (v1 : Value) (hU : Cg w0 F T B O b4.told v1 es2 o s (q - m) U) => (show U.cell? ⟨f, 0, none⟩ = some (.int .u64 x.id) ∧ U.cell? ⟨f, 3, none⟩ = some (.int .i64 x.pr) ∧ U.cell? ⟨f, 4, none⟩ = some (.int .u64 v4) from by
          have hf2 : U.heap[f]? = some (.cells (orow x2) 86 (0, 0)) := (hU.tn.bm.sli S).at' (f, x2) (by rw [show b4.told.sl S = b4.sl S from rfl, H4F.out.1]; simp)
          have a0 := row_cell hf2 0
          have a3 := row_cell hf2 3
          have a4 := row_cell hf2 4
          rw [HXR.out] at a0 a3 a4
          simp only [List.getElem?_toArray, List.getElem?_cons_succ, List.getElem?_cons_zero] at a0 a3 a4
          exact ⟨a0, a3, a4⟩))
        have HLN := hid (show n ≤ 1048576 from by
          have hle := b.sl_le S
          rw [HL.out, HNN.out] at hle
          omega)
        have HSR := hid (show Srt S ((f, x2) :: r) from by
          have := HO.out
          rw [HL.out] at this
          exact this.upd HXV.out.2.1)
        have HNX := hid (show ((f, x2) :: r : LO).length = n from by rw [← HNN.out]; rfl)
        have HAG0 := hid (fun (U : World) (v1 : Value) (hU : Cg w0 F T B O b4.told v1 es2 o s (q - m) U) => again_cg w0 F T B O b4.told v1 es2 o s (q - m) S k f n x2 r (b.sp S) (b.sc S) U hU HS.out HSE.out HKS.out hk H4F.out.1 H4F.out.2.1 H4F.out.2.2.1 HNX.out HLN.out HSR.out)
        go_upto_region 8 with fail
        refine wp_region_held_drew (S := (fun U => U.cell? ⟨f, 0, none⟩ = some (.int .u64 x.id) ∧ U.cell? ⟨f, 3, none⟩ = some (.int .i64 x.pr) ∧ U.cell? ⟨f, 4, none⟩ = some (.int .u64 v4))) (by kernel_rfl) ?_ (fun hHeld => ?_)
        · (try dsimp only); (exact ⟨g0, g3, g4⟩)
        refine' wpAnyH_take (i := 0) (oi := _) (v := _) rfl (by kernel_rfl) (by kernel_rfl) (by kernel_rfl) (fun _ _ _ h => h) (Or.inl ⟨by kernel_rfl, ?hyq35⟩) (by assumption) ?restq35
        case hyq35 => (intro w hSw; (try dsimp only at hSw); go_simp; try (with_reducible rfl))
        try simp only [List.getElem_toArray, List.getElem_cons_succ, List.getElem_cons_zero, Act.put, List.setIfInBounds_toArray, List.set_cons_zero, List.set_cons_succ]
        refine' wpAnyH_take (i := 1) (oi := _) (v := _) rfl (by kernel_rfl) (by kernel_rfl) (by kernel_rfl) (fun _ _ _ h => h) (Or.inl ⟨by kernel_rfl, ?hyq36⟩) (by assumption) ?restq36
        case hyq36 => (intro w hSw; (try dsimp only at hSw); go_simp; try (with_reducible rfl))
        try simp only [List.getElem_toArray, List.getElem_cons_succ, List.getElem_cons_zero, Act.put, List.setIfInBounds_toArray, List.set_cons_zero, List.set_cons_succ]
        refine' wpAnyH_take (i := 2) (oi := _) (v := _) rfl (by kernel_rfl) (by kernel_rfl) (by kernel_rfl) (fun _ _ _ h => h) (Or.inl ⟨by kernel_rfl, ?hyq37⟩) (by assumption) ?restq37
        case hyq37 => (intro w hSw; (try dsimp only at hSw); go_simp; try (with_reducible rfl))
        try simp only [List.getElem_toArray, List.getElem_cons_succ, List.getElem_cons_zero, Act.put, List.setIfInBounds_toArray, List.set_cons_zero, List.set_cons_succ]
        refine' wpAnyH_take (i := 3) (oi := _) (v := _) rfl (by kernel_rfl) (by kernel_rfl) (by kernel_rfl) (fun _ _ _ h => h) (Or.inl ⟨by kernel_rfl, ?hyq38⟩) (by assumption) ?restq38
        case hyq38 => (intro w hSw; (try dsimp only at hSw); go_simp; try (with_reducible rfl))
        try simp only [List.getElem_toArray, List.getElem_cons_succ, List.getElem_cons_zero, Act.put, List.setIfInBounds_toArray, List.set_cons_zero, List.set_cons_succ]
        refine' wpAnyH_take (i := 4) (oi := _) (v := _) rfl (by kernel_rfl) (by kernel_rfl) (by kernel_rfl) (fun _ _ _ h => h) (Or.inl ⟨by kernel_rfl, ?hyq39⟩) (by assumption) ?restq39
        case hyq39 => (intro w hSw; (try dsimp only at hSw); go_simp; try (with_reducible rfl))
        try simp only [List.getElem_toArray, List.getElem_cons_succ, List.getElem_cons_zero, Act.put, List.setIfInBounds_toArray, List.set_cons_zero, List.set_cons_succ]
        refine' wpAnyH_take (i := 5) (oi := _) (v := _) rfl (by kernel_rfl) (by kernel_rfl) (by kernel_rfl) (fun _ _ _ h => h) (Or.inl ⟨by kernel_rfl, ?hyq40⟩) (by assumption) ?restq40
        case hyq40 => (intro w hSw; (try dsimp only at hSw); go_simp; try (with_reducible rfl))
        try simp only [List.getElem_toArray, List.getElem_cons_succ, List.getElem_cons_zero, Act.put, List.setIfInBounds_toArray, List.set_cons_zero, List.set_cons_succ]
        refine' wpAnyH_take (i := 6) (oi := _) (v := _) rfl (by kernel_rfl) (by kernel_rfl) (by kernel_rfl) (fun _ _ _ h => h) (Or.inl ⟨by kernel_rfl, ?hyq41⟩) (by assumption) ?restq41
        case hyq41 => (intro w hSw; (try dsimp only at hSw); go_simp; try (with_reducible rfl))
        try simp only [List.getElem_toArray, List.getElem_cons_succ, List.getElem_cons_zero, Act.put, List.setIfInBounds_toArray, List.set_cons_zero, List.set_cons_succ]
        refine' wpAnyH_take (i := 7) (oi := _) (v := _) rfl (by kernel_rfl) (by kernel_rfl) (by kernel_rfl) (fun _ _ _ h => h) (Or.inl ⟨by kernel_rfl, ?hyq42⟩) (by assumption) ?restq42
        case hyq42 => (intro w hSw; (try dsimp only at hSw); go_simp; try (with_reducible rfl))
        try simp only [List.getElem_toArray, List.getElem_cons_succ, List.getElem_cons_zero, Act.put, List.setIfInBounds_toArray, List.set_cons_zero, List.set_cons_succ]
        refine' wpAnyH_take (i := 8) (oi := _) (v := _) rfl (by kernel_rfl) (by kernel_rfl) (by kernel_rfl) (fun _ _ _ h => h) (Or.inl ⟨by kernel_rfl, ?hyq43⟩) (by assumption) ?restq43
        case hyq43 => (intro w hSw; (try dsimp only at hSw); go_simp; try (with_reducible rfl))
        try simp only [List.getElem_toArray, List.getElem_cons_succ, List.getElem_cons_zero, Act.put, List.setIfInBounds_toArray, List.set_cons_zero, List.set_cons_succ]
        refine' wpAnyH_take (i := 9) (oi := _) (v := _) rfl (by kernel_rfl) (by kernel_rfl) (by kernel_rfl) (fun _ _ _ h => h) (Or.inl ⟨by kernel_rfl, ?hyq44⟩) (by assumption) ?restq44
        case hyq44 => (intro w hSw; (try dsimp only at hSw); go_simp; try (with_reducible rfl))
        try simp only [List.getElem_toArray, List.getElem_cons_succ, List.getElem_cons_zero, Act.put, List.setIfInBounds_toArray, List.set_cons_zero, List.set_cons_succ]
        refine' wpAnyH_take (i := 10) (oi := _) (v := _) rfl (by kernel_rfl) (by kernel_rfl) (by kernel_rfl) (fun _ _ _ h => h) (Or.inl ⟨by kernel_rfl, ?hyq45⟩) (by assumption) ?restq45
        case hyq45 => (intro w hSw; (try dsimp only at hSw); go_simp; try (with_reducible rfl))
        try simp only [List.getElem_toArray, List.getElem_cons_succ, List.getElem_cons_zero, Act.put, List.setIfInBounds_toArray, List.set_cons_zero, List.set_cons_succ]
        refine' wpAnyH_take (i := 11) (oi := _) (v := _) rfl (by kernel_rfl) (by kernel_rfl) (by kernel_rfl) (fun _ _ _ h => h) (Or.inl ⟨by kernel_rfl, ?hyq46⟩) (by assumption) ?restq46
        case hyq46 => (intro w hSw; (try dsimp only at hSw); go_simp; try (with_reducible rfl))
        try simp only [List.getElem_toArray, List.getElem_cons_succ, List.getElem_cons_zero, Act.put, List.setIfInBounds_toArray, List.set_cons_zero, List.set_cons_succ]
        refine' wpAnyH_take (i := 12) (oi := _) (v := _) rfl (by kernel_rfl) (by kernel_rfl) (by kernel_rfl) (fun _ _ _ h => h) (Or.inl ⟨by kernel_rfl, ?hyq47⟩) (by assumption) ?restq47
        case hyq47 => (intro w hSw; (try dsimp only at hSw); go_simp; try (with_reducible rfl))
        try simp only [List.getElem_toArray, List.getElem_cons_succ, List.getElem_cons_zero, Act.put, List.setIfInBounds_toArray, List.set_cons_zero, List.set_cons_succ]
        refine' wpAnyH_take (i := 13) (oi := _) (v := _) rfl (by kernel_rfl) (by kernel_rfl) (by kernel_rfl) (fun _ _ _ h => h) (Or.inl ⟨by kernel_rfl, ?hyq48⟩) (by assumption) ?restq48
        case hyq48 => (intro w hSw; (try dsimp only at hSw); go_simp; try (with_reducible rfl))
        try simp only [List.getElem_toArray, List.getElem_cons_succ, List.getElem_cons_zero, Act.put, List.setIfInBounds_toArray, List.set_cons_zero, List.set_cons_succ]
        refine wpAnyH_ready (rs := [14]) (by kernel_rfl) (by simp) ?_
        refine AllReadyH.cons (o := _) rfl (fun K hK => ?_) AllReadyH.nil
        go_simp
        go_at_call 50; with_reducible refine (HTF.out _ (by first | exact bdrew1 _ | exact bdrew _ _)).mono ?_; rintro e w6 ⟨rfl, ve2, hc6⟩; have H6 := hid hc6
        (try go_wp2_with fail)
        refine hK.out _ _ ?_ (fun hHeld => ?_)
        · (try dsimp only); (exact HK8.out w6 ve2 H6.out)
        clear hK K
        try simp only [List.getElem_toArray, List.getElem_cons_succ, List.getElem_cons_zero, Act.put, List.setIfInBounds_toArray, List.set_cons_zero, List.set_cons_succ]
        refine wpAnyH_done (by kernel_rfl) ?_ _
        obtain ⟨hb6, hag⟩ := HAG0.out w6 ve2 H6.out
        have HAG := hid hag
        clear hag g0 g3 g4 hHeld
        go_wp2_with (go_at_call 92; with_reducible refine (HAG.out).mono ?_; rintro e w7 ⟨rfl, h7⟩; have H7 := hid h7; clear h7)
        go_end0
        refine ⟨rfl, ve2, ?_⟩
        have e1 : trb b x m = b.told.told := by simp only [trb, if_neg (show ¬ 0 < x.vi - m by have := HA.out; omega), if_neg (show ¬ x.hi = 0 from HB.out)]
        have e3 : trl S f x r m = agn S ((f, x2) :: r) := by simp only [trl, if_neg (show ¬ 0 < x.vi - m by have := HA.out; omega), if_neg (show ¬ x.hi = 0 from HB.out), HX2.out]
        have e4 : b4.told.put S (b.sp S) (b.sc S) (agn S ((f, x2) :: r)) = b.told.told.put S (b.sp S) (b.sc S) (agn S ((f, x2) :: r)) := by
          rw [← HB4.out]
          rcases hSS with h1 | h1 <;> rw [h1] <;> rfl
        rw [HSE.out, e1, e3, ← e4, HES2.out]
        exact H7.out
end Go.Proofs.Ytojmcfkbekodpaa
