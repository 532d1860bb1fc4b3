/-
  What waits is told, and withdrawn.
-/
import Derived.Test.YtnaekdfpdlkkcaaStH
namespace Go.Proofs.Ytnaekdfpdlkkcaa
open Go.RowKit Go.Deep Go.Shelf
set_option linter.unusedVariables false
set_option linter.unusedSimpArgs false
set_option maxHeartbeats 4000000
set_option maxRecDepth 100000
theorem nilq (U : World) (a : Option Addr) (n c : Nat) : (binOp .eql 39 (.slice a n c) (.slice none 0 0)).run Try.prog U = .ok (.bool a.isNone) U := Lib.run_eql_slice_nil U 39 27 a n c 0 0 Try.underlying39
theorem clone_nil (w : World) : Calls Try.prog 16 #[.slice none 0 0] w fun e w' => e = .returned (.slice none 0 0) ∧ Below w.heap.size w w' := by
  have hq := nilq w none 0 0
  simp only [Option.isNone] at hq
  go_enter Try.func16, Try.ntmps16
  go_wp2
  go_ret
  exact ⟨rfl, Below.refl _ _⟩
theorem clone_one (G gc : Nat) (x : Sp) (w : World) (h : Lz w G gc x) : Calls Try.prog 16 #[.slice (some ⟨G, 0, none⟩) 1 gc] w fun e w' => ∃ g cap, e = .returned (.slice (some ⟨g, 0, none⟩) 1 cap) ∧ Hid (Ls w' g x) ∧ Hid (Below w.heap.size w w') := by
  obtain ⟨i0, hi, hz0, hz1, hz2⟩ := info_parts info27all
  have HI := hid hi
  have HZ0 := hid hz0
  have HZ1 := hid hz1
  have HZ2 := hid hz2
  have HM := hid (show (w.alloc (.cells #[] 27)).ownsRow w.heap.size 27 8 (.slice (some ⟨w.heap.size, 0, none⟩) 0 0) 0 [] from World.ownsRow_made w #[] 0 (Nat.le_refl _) (by unfold maxLen; omega) (by simp))
  have HN := hid (h.on (ball w (.cells #[] 27))).own
  clear hi hz0 hz1 hz2 h
  have hq := nilq w (some ⟨G, 0, none⟩) 1 gc
  simp only [Option.isNone] at hq
  go_enter Try.func16, Try.ntmps16
  go_wp2_with (at_builtin; refine wpList_app_rows (by rfl) (.tmp 5) (.tmp 6) 39 (by rfl) w.heap.size 0 27 i0 _ 8 64 Try.underlying39 HI.out HZ0.out HZ1.out HZ2.out rfl (by decide) _ 0 [] (by rfl) HM.out _ 1 (#[.int .u64 x.nm, .int .u32 x.mb, .int .i64 x.sd, .int .i64 x.ty, .int .i64 x.tr, .int .i64 x.pr, .int .u64 x.qt, .int .u64 x.pk] : Array Value).toList (by rfl) HN.out (by simp [Value.oneCell']) (by unfold maxLen; omega) (by omega) (by simp) ?_; intro v1 w1 hown hgrow; obtain ⟨g, cap, cur, hv, hg, hr, hc1, hcm, hcs, hct⟩ := one_row hown; subst hv; have HLS := hid (ls_of hr hc1 hcs hct); have HBW := hid (show Below w.heap.size w w1 from (ball _ _).grown hgrow (by simp) (fun j hj => by cases hj; exact Nat.le_refl _)); clear hown hgrow hr hcs hct cur)
  go_ret
  first | exact ⟨g, cap, rfl, HLS, HBW⟩ | exact ⟨g, ⟨cap, rfl⟩, HLS, HBW⟩
theorem clone_zero (G gc : Nat) (w : World) : Calls Try.prog 16 #[.slice (some ⟨G, 0, none⟩) 0 gc] w fun e w' => ∃ q c, e = .returned (.slice q 0 c) ∧ Hid (Below w.heap.size w w') := by
  obtain ⟨i0, hi, hz0, hz1, hz2⟩ := info_parts info27all
  have HI := hid hi
  clear hi hz0 hz1 hz2
  have hq := nilq w (some ⟨G, 0, none⟩) 0 gc
  simp only [Option.isNone] at hq
  go_enter Try.func16, Try.ntmps16
  go_wp2_with (at_builtin; refine wpList_app0 (by rfl) (.tmp 5) (.tmp 6) 39 (by rfl) 27 i0 Try.underlying39 HI.out _ 0 0 (Nat.le_refl _) (by rfl) ⟨G, 0, none⟩ gc (by rfl) ?_)
  go_ret
  exact ⟨_, _, rfl, hid (ball _ _)⟩
theorem pend_nil (K : Nat) (fv : Value) (high seq : Int) (w : World) (hK : w.heap[K]? = some (.cells #[fv, .int .i64 1, .slice none 0 0, .int .u64 high, .int .u64 seq, .int .i64 0, .bool false] 54 (0, 0))) : Calls Try.prog 7 #[.pointer (some ⟨K, 0, none⟩)] w fun e w' => e = .returned (.slice none 0 0) ∧ Hid (Below w.heap.size w w') := by
  obtain ⟨k0, k1, k2, k3, k4, k5, k6⟩ := row7 hK
  have C := hid (fun (U : World) => clone_nil U)
  clear hK
  go_enter Try.func7, Try.ntmps7
  go_wp2_with (go_at_call 16; with_reducible refine (C.out _).mono ?_; rintro e w1 ⟨rfl, hb1⟩; have HB1 := hid hb1; clear hb1)
  go_ret
  exact ⟨rfl, HB1⟩
theorem pend_one (K : Nat) (fv : Value) (G gc : Nat) (high seq : Int) (x : Sp) (w : World) (hK : w.heap[K]? = some (.cells #[fv, .int .i64 1, .slice (some ⟨G, 0, none⟩) 1 gc, .int .u64 high, .int .u64 seq, .int .i64 0, .bool false] 54 (0, 0))) (hL : Lz w G gc x) : Calls Try.prog 7 #[.pointer (some ⟨K, 0, none⟩)] w fun e w' => ∃ g cap, e = .returned (.slice (some ⟨g, 0, none⟩) 1 cap) ∧ Hid (Ls w' g x) ∧ Hid (Below w.heap.size w w') := by
  obtain ⟨k0, k1, k2, k3, k4, k5, k6⟩ := row7 hK
  have C := hid (clone_one G gc x w hL)
  clear hK hL
  go_enter Try.func7, Try.ntmps7
  go_wp2_with (go_at_call 16; with_reducible refine (C.out).mono ?_; rintro e w1 ⟨g, cap, rfl, h1, h2⟩)
  go_ret
  exact ⟨g, cap, rfl, h1, h2⟩
theorem pend_zero (K : Nat) (fv : Value) (G gc : Nat) (high seq : Int) (w : World) (hK : w.heap[K]? = some (.cells #[fv, .int .i64 1, .slice (some ⟨G, 0, none⟩) 0 gc, .int .u64 high, .int .u64 seq, .int .i64 0, .bool false] 54 (0, 0))) : Calls Try.prog 7 #[.pointer (some ⟨K, 0, none⟩)] w fun e w' => ∃ q c, e = .returned (.slice q 0 c) ∧ Hid (Below w.heap.size w w') := by
  obtain ⟨k0, k1, k2, k3, k4, k5, k6⟩ := row7 hK
  have C := hid (fun (U : World) => clone_zero G gc U)
  clear hK
  go_enter Try.func7, Try.ntmps7
  go_wp2_with (go_at_call 16; with_reducible refine (C.out _).mono ?_; rintro e w1 ⟨q, c, rfl, h1⟩)
  go_ret
  exact ⟨q, c, rfl, h1⟩
theorem drop_any (K : Nat) (fv : Value) (G gc : Nat) (high seq : Int) (x : Sp) (w : World) (hK : w.heap[K]? = some (.cells #[fv, .int .i64 1, .slice (some ⟨G, 0, none⟩) 1 gc, .int .u64 high, .int .u64 seq, .int .i64 0, .bool false] 54 (0, 0))) (hL : Lz w G gc x) :
    Calls Try.prog 19 #[.pointer (some ⟨K, 0, none⟩), .int .i64 0] w fun e w' => e = .returned (.agg #[.int .u64 x.nm, .int .u32 x.mb, .int .i64 x.sd, .int .i64 x.ty, .int .i64 x.tr, .int .i64 x.pr, .int .u64 x.qt, .int .u64 x.pk]) ∧ Hid (w'.heap[K]? = some (.cells #[fv, .int .i64 1, .slice (some ⟨G, 0, none⟩) 0 gc, .int .u64 high, .int .u64 seq, .int .i64 0, .bool false] 54 (0, 0))) ∧ Hid (Kp (fun j => j = K ∨ j = G) w w') := by
  have HK := hid hK
  have HL := hid hL
  have hGl := hL.ls.lt
  have hKl := row_lt hK
  have hGK := hL.ls.ne hK (by decide)
  have HGK := hid (show ¬ (fun j => j = G) K from fun e => hGK e.symm)
  clear hK hL
  obtain ⟨R, hR⟩ : ∃ R, w.heap.size = R := ⟨_, rfl⟩
  obtain ⟨W, hW⟩ : ∃ U, w.alloc (.cells #[.int .u64 0, .int .u32 0, .int .i64 0, .int .i64 0, .int .i64 0, .int .i64 0, .int .u64 0, .int .u64 0] 27) = U := ⟨_, rfl⟩
  have b0 : Below w.heap.size w W := by rw [← hW]; exact ball _ _
  have HBW := hid b0
  have HR0 := hid (show W.heap[R]? = some (.cells #[.int .u64 0, .int .u32 0, .int .i64 0, .int .i64 0, .int .i64 0, .int .i64 0, .int .u64 0, .int .u64 0] 27 (0, 0)) from (by rw [← hW, ← hR]; exact World.alloc_heap_new _ _))
  have HW := hid hW
  have HRR := hid hR
  clear hR hW  b0
  have HKW := hid (row_on HK.out HBW.out)
  have HLW := hid (HL.out.on HBW.out)
  go_enter Try.func19, Try.ntmps19
  go_upto_region 1 with fail
  rw [HW.out, HRR.out]
  obtain ⟨k0, k1, k2, k3, k4, k5, k6⟩ := row7 HKW.out
  obtain ⟨a0, a1, a2, a3, a4, a5, a6, a7⟩ := HLW.out.ls.cells
  go_upto_region 2 with fail
  clear k0 k1 k2 k3 k4 k5 k6 a0 a1 a2 a3 a4 a5 a6 a7
  have hRW : R < W.heap.size := row_lt HR0.out
  have hRG : w.heap.size = R := HRR.out
  obtain ⟨m, hm⟩ : ∃ m, W.heap.size = m := ⟨_, rfl⟩
  obtain ⟨M, hM⟩ : ∃ M, W.alloc (.cells #[.int .u64 x.nm, .int .u32 x.mb, .int .i64 x.sd, .int .i64 x.ty, .int .i64 x.tr, .int .i64 x.pr, .int .u64 x.qt, .int .u64 x.pk] 27) = M := ⟨_, rfl⟩
  have HBM := hid (show Below W.heap.size W M from by rw [← hM]; exact ball _ _)
  have HMM := hid (show M.heap[m]? = some (.cells #[.int .u64 x.nm, .int .u32 x.mb, .int .i64 x.sd, .int .i64 x.ty, .int .i64 x.tr, .int .i64 x.pr, .int .u64 x.qt, .int .u64 x.pk] 27 (0, 0)) from by rw [← hM, ← hm]; exact World.alloc_heap_new _ _)
  rw [hM, hm]
  rw [hm] at hRW
  clear hM hm
  have HKM := hid (row_on HKW.out HBM.out)
  have HRM := hid (row_on HR0.out HBM.out)
  have CD := hid (delete_any G gc x M (HLW.out.on HBM.out))
  obtain ⟨k0, k1, k2, k3, k4, k5, k6⟩ := row7 HKM.out
  go_upto_region 3 with (go_at_call 26; with_reducible refine (CD.out).mono ?_; rintro e w1 ⟨rfl, hk1⟩; have HK1 := hid (hk1.out.row HKM.out HGK.out); have fz := row_frz HK1.out 2; obtain ⟨k0, k1, k2, k3, k4, k5, k6⟩ := row7 HK1.out)
  clear k0 k1 k2 k3 k4 k5 k6
  have HM1 := hid (hk1.out.row HMM.out (by omega))
  have HR1 := hid (hk1.out.row HRM.out (by omega))
  have ks := Kp.set w1 K 2 (.slice (some ⟨G, 0, none⟩) 0 gc)
  have HK2 := hid (show (w1.setCell ⟨K, 2, none⟩ (.slice (some ⟨G, 0, none⟩) 0 gc)).heap[K]? = some (.cells #[fv, .int .i64 1, .slice (some ⟨G, 0, none⟩) 0 gc, .int .u64 high, .int .u64 seq, .int .i64 0, .bool false] 54 (0, 0)) from set_row (k := 2) _ HK1.out)
  have HM2 := hid (ks.row HM1.out (by omega))
  have HR2 := hid (ks.row HR1.out (by omega))
  have HP2 := hid (show Kp (fun j => j = K ∨ j = G) w (w1.setCell ⟨K, 2, none⟩ (.slice (some ⟨G, 0, none⟩) 0 gc)) from (((Kp.of _ (btr HBW.out HBM.out)).trans hk1.out (fun _ _ h => .inr h))).trans ks (fun _ _ h => .inl h))
  obtain ⟨W2, hW2⟩ : ∃ X, w1.setCell ⟨K, 2, none⟩ (.slice (some ⟨G, 0, none⟩) 0 gc) = X := ⟨_, rfl⟩
  rw [hW2] at HK2 HM2 HR2 HP2 ⊢
  clear hW2 ks
  have AI := hid (show (Try.prog.info? 27).map (·.size) = some (#[.int .u64 x.nm, .int .u32 x.mb, .int .i64 x.sd, .int .i64 x.ty, .int .i64 x.tr, .int .i64 x.pr, .int .u64 x.qt, .int .u64 x.pk] : Array Value).size from info27)
  have AS := hid (show (#[.int .u64 0, .int .u32 0, .int .i64 0, .int .i64 0, .int .i64 0, .int .i64 0, .int .u64 0, .int .u64 0] : Array Value).size = (#[.int .u64 x.nm, .int .u32 x.mb, .int .i64 x.sd, .int .i64 x.ty, .int .i64 x.tr, .int .i64 x.pr, .int .u64 x.qt, .int .u64 x.pk] : Array Value).size from rfl)
  have AA := hid (show (#[.int .u64 x.nm, .int .u32 x.mb, .int .i64 x.sd, .int .i64 x.ty, .int .i64 x.tr, .int .i64 x.pr, .int .u64 x.qt, .int .u64 x.pk] : Array Value).all (·.oneCell') = true from by simp [Value.oneCell'])
  obtain ⟨a0, a1, a2, a3, a4, a5, a6, a7⟩ := row8 HM2.out
  go_wp2_with (refine wpList_store_row (by rfl) 27 (.tmp 4) (.tmp 27) (by rfl) R #[.int .u64 x.nm, .int .u32 x.mb, .int .i64 x.sd, .int .i64 x.ty, .int .i64 x.tr, .int .i64 x.pr, .int .u64 x.qt, .int .u64 x.pk] (by rfl) (by rfl) 27 _ HR2.out AI.out AS.out AA.out ?_)
  refine bodyPost_ret (results_cell_row (fn := Try.f19) Try.results19 _ _ R 27 #[.int .u64 x.nm, .int .u32 x.mb, .int .i64 x.sd, .int .i64 x.ty, .int .i64 x.tr, .int .i64 x.pr, .int .u64 x.qt, .int .u64 x.pk] (0, 0) _ (by rfl) (setRow_heap _ _ _ _ 27 (0, 0) HR2.out) Try.underlying27 rfl info27) rfl ⟨rfl, hid ((setRow_kp W2 R _).row HK2.out (by omega)), hid (HP2.out.trans (setRow_kp W2 R _) (fun j hj e => by omega))⟩
theorem with_one (K : Nat) (fv : Value) (G gc : Nat) (high seq num : Int) (x : Sp) (w : World) (hK : w.heap[K]? = some (.cells #[fv, .int .i64 1, .slice (some ⟨G, 0, none⟩) 1 gc, .int .u64 high, .int .u64 seq, .int .i64 0, .bool false] 54 (0, 0))) (hL : Lz w G gc x) (hn : x.nm = num) :
    Calls Try.prog 8 #[.pointer (some ⟨K, 0, none⟩), .int .u64 num] w fun r w' => ∃ g cap, r = .returned (.slice (some ⟨g, 0, none⟩) 1 cap) ∧ Hid (w.heap.size ≤ g) ∧ Hid (Es w' g (⟨nx seq, 6, x.nm, 0, IntKind.u64.wrap x.tr, x.mb, x.sd, x.ty, x.pr, x.qt, x.pk, 1, 0⟩ : Ev)) ∧ Hid (w'.heap[K]? = some (.cells #[fv, .int .i64 1, .slice (some ⟨G, 0, none⟩) 0 gc, .int .u64 high, .int .u64 (nx seq), .int .i64 0, .bool false] 54 (0, 0))) ∧ Hid (Kp (fun j => j = K ∨ j = G) w w') := by
  have HK := hid hK
  have HL := hid hL
  have hn' : (x.nm == num) = true := by simpa using hn
  clear hK hL hn
  obtain ⟨R, hR⟩ : ∃ R, w.heap.size = R := ⟨_, rfl⟩
  obtain ⟨W, hW⟩ : ∃ U, w.alloc (.cells #[.int .u64 num] 24) = U := ⟨_, rfl⟩
  have b0 : Below w.heap.size w W := by rw [← hW]; exact ball _ _
  have HBW := hid b0
  have HR0 := hid (show W.heap[R]? = some (.cells #[.int .u64 num] 24 (0, 0)) from (by rw [← hW, ← hR]; exact World.alloc_heap_new _ _))
  have HW := hid hW
  have HRR := hid hR
  clear hR hW  b0
  have HKW := hid (row_on HK.out HBW.out)
  have HLW := hid (HL.out.on HBW.out)
  have CI := hid (idx_wd R num G gc x W HLW.out.ls HR0.out hn')
  have CD := hid (fun (U : World) (hU : Below W.heap.size W U) => drop_any K fv G gc high seq x U (row_on HKW.out hU) (HLW.out.on hU))
  have CE := hid (fun (U : World) => eventOf_any x 1 U)
  have CT := hid (fun (U : World) (hU : U.heap[K]? = some (.cells #[fv, .int .i64 1, .slice (some ⟨G, 0, none⟩) 0 gc, .int .u64 high, .int .u64 seq, .int .i64 0, .bool false] 54 (0, 0))) => wtell K fv (some ⟨G, 0, none⟩) 0 gc high seq U.heap.size ⟨0, 6, x.nm, 0, IntKind.u64.wrap x.tr, x.mb, x.sd, x.ty, x.pr, x.qt, x.pk, 1, 0⟩ (U.alloc (.cells #[.int .u64 0, .int .i64 6, .int .u64 x.nm, .int .u64 0, .int .u64 (IntKind.u64.wrap x.tr), .int .u32 x.mb, .int .i64 x.sd, .int .i64 x.ty, .int .i64 x.pr, .int .u64 x.qt, .int .u64 x.pk, .int .i64 1, .int .i64 0] 38)) (row_on hU (ball _ _)) (World.alloc_heap_new _ _))
  clear hn'
  obtain ⟨k0, k1, k2, k3, k4, k5, k6⟩ := row7 HKW.out
  go_enter Try.func8, Try.ntmps8
  go_upto_region 1 with fail
  rw [HW.out, HRR.out]
  go_wp2_with (first | (go_at_call 17; with_reducible refine (CI.out).mono ?_; rintro e w1 ⟨rfl, hb1⟩; have HB1 := hid hb1; clear hb1) | (go_at_call 19; with_reducible refine (CD.out w1 HB1.out).mono ?_; rintro e w2 ⟨rfl, hk2, hp2⟩) | (go_at_call 15; with_reducible refine (CE.out _).mono ?_; rintro e w3 ⟨rfl, hb3⟩; have HB3 := hid hb3; clear hb3) | (go_at_call 13; with_reducible refine (CT.out w3 (row_on hk2.out HB3.out)).mono ?_; rintro e w4 ⟨g, cap, rfl, h1, h2, h3, h4⟩))
  go_ret
  refine ⟨g, cap, rfl, hid ?_, h2, h3, hid ?_⟩
  · exact Nat.le_trans HBW.out.size (Nat.le_trans HB1.out.size (Nat.le_trans hp2.out.size (Nat.le_trans HB3.out.size (Nat.le_trans (ball w3 _).size h1.out))))
  · exact (((Kp.of _ (btr HBW.out HB1.out)).trans hp2.out (fun _ _ h => h)).trans (Kp.of (fun _ => False) (btr HB3.out (ball w3 _))) (fun _ _ h => h.elim)).trans h4.out (fun _ _ h => .inl h)
theorem with_none (K : Nat) (fv : Value) (q : Option Addr) (c : Nat) (high seq num : Int) (w : World) (hK : w.heap[K]? = some (.cells #[fv, .int .i64 1, .slice q 0 c, .int .u64 high, .int .u64 seq, .int .i64 0, .bool false] 54 (0, 0))) :
    Calls Try.prog 8 #[.pointer (some ⟨K, 0, none⟩), .int .u64 num] w fun r w' => ∃ g cap, r = .returned (.slice (some ⟨g, 0, none⟩) 1 cap) ∧ Hid (w.heap.size ≤ g) ∧ Hid (Es w' g (⟨nx seq, 2, 0, 0, num, 0, 0, 0, 0, 0, 0, 0, 130⟩ : Ev)) ∧ Hid (Kp (fun j => j = K) w w') := by
  have HK := hid hK
  clear hK
  obtain ⟨R, hR⟩ : ∃ R, w.heap.size = R := ⟨_, rfl⟩
  obtain ⟨W, hW⟩ : ∃ U, w.alloc (.cells #[.int .u64 num] 24) = U := ⟨_, rfl⟩
  have b0 : Below w.heap.size w W := by rw [← hW]; exact ball _ _
  have HBW := hid b0
  have HR0 := hid (show W.heap[R]? = some (.cells #[.int .u64 num] 24 (0, 0)) from (by rw [← hW, ← hR]; exact World.alloc_heap_new _ _))
  have HW := hid hW
  have HRR := hid hR
  clear hR hW  b0
  have HKW := hid (row_on HK.out HBW.out)
  have CI := hid (fun (fn : Value) (U : World) => idx_none fn q c U)
  have CT := hid (fun (U : World) (hU : Below W.heap.size W U) => wtell K fv q 0 c high seq U.heap.size ⟨0, 2, 0, 0, num, 0, 0, 0, 0, 0, 0, 0, 130⟩ (U.alloc (.cells #[.int .u64 0, .int .i64 2, .int .u64 0, .int .u64 0, .int .u64 num, .int .u32 0, .int .i64 0, .int .i64 0, .int .i64 0, .int .u64 0, .int .u64 0, .int .i64 0, .int .i64 130] 38)) (row_on HKW.out (btr hU (ball _ _))) (World.alloc_heap_new _ _))
  have HCR := hid (fun (U : World) (hU : Below W.heap.size W U) => row_cell (row_on HR0.out hU) 0)
  obtain ⟨k0, k1, k2, k3, k4, k5, k6⟩ := row7 HKW.out
  go_enter Try.func8, Try.ntmps8
  go_upto_region 1 with fail
  rw [HW.out, HRR.out]
  go_wp2_with (first | (go_at_call 17; with_reducible refine (CI.out _ _).mono ?_; rintro e w1 ⟨rfl, hb1⟩; have HB1 := hid hb1; have r0 := HCR.out w1 hb1; simp only [List.getElem?_toArray, List.getElem?_cons_zero] at r0; clear hb1) | (go_at_call 13; with_reducible refine (CT.out w1 HB1.out).mono ?_; rintro e w4 ⟨g, cap, rfl, h1, h2, h3, h4⟩))
  go_ret
  exact ⟨g, cap, rfl, hid (Nat.le_trans HBW.out.size (Nat.le_trans HB1.out.size (Nat.le_trans (ball w1 _).size h1.out))), h2, hid ((Kp.of _ (btr (btr HBW.out HB1.out) (ball w1 _))).trans h4.out (fun _ _ h => h))⟩
end Go.Proofs.Ytnaekdfpdlkkcaa
