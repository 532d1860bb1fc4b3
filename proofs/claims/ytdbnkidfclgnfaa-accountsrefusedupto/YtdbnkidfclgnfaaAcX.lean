/-
  AccountsRefused: the walk.
-/
import Derived.Test.YtdbnkidfclgnfaaAcV
namespace Go.Proofs.Ytdbnkidfclgnfaa.Ac
open Go.RowKit Go.Deep Go.Maps Go.Proofs.Ytdbnkidfclgnfaa.MonM
set_option linter.unusedVariables false
set_option linter.unusedSimpArgs false
set_option maxHeartbeats 8000000
set_option maxRecDepth 100000
attribute [local go_sem ↓] Go.wp_at_zero Go.wp_at_succ
/-- deals that came in. -/
def Dz (w : World) (q : Option Addr) (l : List De) : Prop := ∀ i (h : i < l.length), ∃ b off, q = some ⟨b, off, none⟩ ∧ b < w.heap.size ∧ ∀ j, j < 6 → w.cell? ⟨b, off + i * 6 + j, none⟩ = (l[i].row)[j]?
theorem Dz.at {w U : World} {q : Option Addr} {l : List De} (h : Dz w q l) (hU : Below w.heap.size w U) {i : Nat} (hi : i < l.length) : ∃ b off, q = some ⟨b, off, none⟩ ∧ U.cell? ⟨b, off + i * 6, none⟩ = some (.int .u32 l[i].it) ∧ U.cell? ⟨b, off + i * 6 + 1, none⟩ = some (.int .u32 l[i].bu) ∧ U.cell? ⟨b, off + i * 6 + 2, none⟩ = some (.int .u32 l[i].se) ∧ U.cell? ⟨b, off + i * 6 + 3, none⟩ = some (.int .i64 l[i].ta) ∧ U.cell? ⟨b, off + i * 6 + 4, none⟩ = some (.int .i64 l[i].pr) ∧ U.cell? ⟨b, off + i * 6 + 5, none⟩ = some (.int .u64 l[i].qt) := by
  obtain ⟨b, off, e, hb, hc⟩ := h i hi
  have g : ∀ j, j < 6 → U.cell? ⟨b, off + i * 6 + j, none⟩ = (l[i].row)[j]? := fun j hj => by rw [hU.cell (p := ⟨b, off + i * 6 + j, none⟩) hb]; exact hc j hj
  exact ⟨b, off, e, g 0 (by decide), g 1 (by decide), g 2 (by decide), g 3 (by decide), g 4 (by decide), g 5 (by decide)⟩
theorem infoD : (Try.prog.info? 32).map (·.size) = some 6 := by kernel_rfl
theorem ptr_nil (B : Nat) (U : World) : (binOp .eql 28 (.pointer (some ⟨B, 0, none⟩)) (.pointer none)).run Try.prog U = .ok (.bool false) U := by kernel_rfl
theorem refused_no (ma ta bb : Int) (q : Option Addr) (n c : Nat) (q2 : Option Addr) (n2 c2 : Nat) (w : World) (h : bb = 0 ∨ bb < ma ∨ bb < ta) :
    Calls Try.prog 3 #[.agg #[.int .u32 ma, .int .u32 ta, .int .u32 bb], .slice q n c, .slice q2 n2 c2] w fun e w' => e = .returned (.bool true) ∧ Below w.heap.size w w' := by
  obtain ⟨Wa, hWa⟩ : ∃ W, w.alloc (.cells #[.int .u32 ma, .int .u32 ta, .int .u32 bb] 24) = W := ⟨_, rfl⟩
  have HBA := hid (show Below w.heap.size w Wa from by rw [← hWa]; exact ball _ _)
  have HRA := hid (show Wa.heap[w.heap.size]? = some (.cells #[.int .u32 ma, .int .u32 ta, .int .u32 bb] 24 (0, 0)) from by rw [← hWa]; exact World.alloc_heap_new _ _)
  have C := hid (fun U => opened_no ma ta bb q n c U h)
  have CL := hid lives_ok
  have HWa := hid hWa
  clear hWa
  have h3 : (bb == 0) = true ∨ (bb == 0) = false ∧ decide (bb < ma) = true ∨ (bb == 0) = false ∧ decide (bb < ma) = false ∧ decide (bb < ta) = true := by
    by_cases a : bb = 0
    · exact .inl (by simpa using a)
    · by_cases b : bb < ma
      · exact .inr (.inl ⟨by simpa using a, by simpa using b⟩)
      · refine .inr (.inr ⟨by simpa using a, by simpa using b, ?_⟩)
        rcases h with h | h | h
        · exact absurd h a
        · exact absurd h b
        · simpa using h
  clear h
  rcases h3 with e1 | ⟨e1, e2⟩ | ⟨e1, e2, e3⟩
  all_goals (
    go_enter Try.func3, Try.ntmps3
    go_upto_region 1 with fail
    rw [HWa.out]
    go_wp2_with (first | (go_at_call 4; with_reducible refine (CL.out _).mono ?_; rintro e w1 ⟨rfl, hb⟩; have HB1 := hid (btr HBA.out hb); have HR1 := hid (row_on HRA.out hb); have c0 := row_cell HR1.out 0; have c1 := row_cell HR1.out 1; have c2 := row_cell HR1.out 2; simp only [List.getElem?_toArray, List.getElem?_cons_succ, List.getElem?_cons_zero] at c0 c1 c2; clear hb) | (go_at_call 5; with_reducible refine (C.out _).mono ?_; rintro e w2 ⟨rfl, hb⟩; have HB2 := hid (btr HB1.out hb); have HR2 := hid (row_on HR1.out hb); have d0 := row_cell HR2.out 0; have d1 := row_cell HR2.out 1; have d2 := row_cell HR2.out 2; simp only [List.getElem?_toArray, List.getElem?_cons_succ, List.getElem?_cons_zero] at d0 d1 d2; clear hb))
    go_ret
    exact ⟨rfl, HB2.out⟩)
theorem refused_ok (ma ta bb : Int) (q : Option Addr) (c : Nat) (us : List Int) (q2 : Option Addr) (c2 : Nat) (l : List De) (w : World) (h0 : 0 ≤ ma) (h1 : 0 ≤ ta) (h2 : 0 < bb) (h3 : ma ≤ bb) (h4 : ta ≤ bb) (h5 : bb < 4294967296) (hu : Uz w q us) (hus : ∀ x ∈ us, U32 x) (hum : us.length ≤ 1048576) (hd : Dz w q2 l) (hdl : ∀ x ∈ l, DeOk x) (hm : l.length ≤ 1048576) :
    Calls Try.prog 3 #[.agg #[.int .u32 ma, .int .u32 ta, .int .u32 bb], .slice q us.length c, .slice q2 l.length c2] w fun e w' => e = .returned (.bool true) ∧ Below w.heap.size w w' := by
  obtain ⟨Wa, hWa⟩ : ∃ W, w.alloc (.cells #[.int .u32 ma, .int .u32 ta, .int .u32 bb] 24) = W := ⟨_, rfl⟩
  have HBA := hid (show Below w.heap.size w Wa from by rw [← hWa]; exact ball _ _)
  have HRA := hid (show Wa.heap[w.heap.size]? = some (.cells #[.int .u32 ma, .int .u32 ta, .int .u32 bb] 24 (0, 0)) from by rw [← hWa]; exact World.alloc_heap_new _ _)
  have C := hid (show ∀ U, Below w.heap.size w U → Calls Try.prog 5 #[.agg #[.int .u32 ma, .int .u32 ta, .int .u32 bb], .slice q us.length c] U fun e w' => ∃ G s, e = .returned (.pointer (some ⟨G, 0, none⟩)) ∧ Nl U w' G us.length s from fun U hU => opened_ok ma ta bb q c us U h0 h1 h2 h3 h4 h5 (fun i hi => by
    obtain ⟨b, off, e, hb, hc⟩ := hu i hi
    exact ⟨b, off, e, Nat.lt_of_lt_of_le hb hU.size, by rw [hU.cell (p := ⟨b, off + i, none⟩) hb]; exact hc⟩) hus hum)
  have CL := hid lives_ok
  have HWa := hid hWa
  obtain ⟨K, hK⟩ : ∃ n, us.length = n := ⟨_, rfl⟩
  rw [hK] at C hum ⊢
  obtain ⟨n, hn⟩ : ∃ n, l.length = n := ⟨_, rfl⟩
  have HN := hid hn
  have HD := hid hd
  have HDL := hid hdl
  have HMM := hid (And.intro hum hm)
  rw [hn] at hm HMM ⊢
  clear hWa h0 h1 h2 h3 h4 h5 hu hus hd hdl hn hK hum
  have pq := ptr_nil
  go_enter Try.func3, Try.ntmps3
  go_upto_region 1 with fail
  rw [HWa.out]
  go_upto_region 7 with (first | (go_at_call 4; with_reducible refine (CL.out _).mono ?_; rintro e w1 ⟨rfl, hb⟩; have HB1 := hid (btr HBA.out hb); have HR1 := hid (row_on HRA.out hb); have c0 := row_cell HR1.out 0; have c1 := row_cell HR1.out 1; have c2 := row_cell HR1.out 2; simp only [List.getElem?_toArray, List.getElem?_cons_succ, List.getElem?_cons_zero] at c0 c1 c2; clear hb) | (go_at_call 5; with_reducible refine (C.out _ HB1.out).mono ?_; rintro e w2 ⟨G, s0, rfl, hg⟩; have HG := hid hg; clear hg))
  clear c0 c1 c2 C CL HWa HRA HR1
  have HB2 := hid (show Nl w w2 G (K + 13 * 0) s0 from by
    obtain ⟨O, a1, a2, a3⟩ := HG.out
    exact ⟨O, a1, btr HB1.out a2, fun b hb => Nat.le_trans HB1.out.size (a3 b hb)⟩)
  go_loopw [8] (fun iv wr => ∃ i s, i ≤ n ∧ iv = .int .i64 (i : Nat) ∧ Hid (Nl w wr G (K + 13 * i) s)) (fun iv _ => n - (intOf iv).toNat)
  case atStart => exact ⟨0, _, by omega, rfl, HB2⟩
  case round =>
    obtain ⟨i, s, hin, rfl, HE⟩ := hrel
    clear HG HB2
    by_cases hlt : i < n
    · have hi : i < l.length := by rw [HN.out]; exact hlt
      obtain ⟨b, off, eq, a0, a1, a2, a3, a4, a5⟩ := HD.out.at HE.out.below hi
      subst eq
      have hz := HDL.out _ (List.getElem_mem hi)
      obtain ⟨z, hz0⟩ : ∃ z, l[i] = z := ⟨_, rfl⟩
      rw [hz0] at a0 a1 a2 a3 a4 a5 hz
      obtain ⟨it, bu, se, ta9, pr, qt⟩ := z
      simp only at a0 a1 a2 a3 a4 a5
      have HZ := hid hz
      clear hz hz0
      obtain ⟨O, lg, hbw, how⟩ := HE.out
      have LG := hid lg
      have HBW := hid hbw
      have HOW := hid how
      have HLT := hid lg.lt
      clear lg hbw how
      have i0 : (0 : Int) ≤ (i : Int) := by omega
      have i1 : (i : Int) < (n : Int) := by omega
      have HZ9 := hid (World.alloc_heap_new wr (.cells #[.int .u32 0, .int .u32 0, .int .u32 0, .int .i64 0, .int .i64 0, .int .u64 0] 32))
      go_upto_region 10 with (refine wpList_store_row (by rfl) 32 (.tmp 9) (.tmp 49) (by rfl) wr.heap.size #[.int .u32 it, .int .u32 bu, .int .u32 se, .int .i64 ta9, .int .i64 pr, .int .u64 qt] (by rfl) (by rfl) 32 _ HZ9.out infoD (by rfl) (by simp [Value.oneCell']) ?_)
      obtain ⟨X9, hX9⟩ : ∃ X, (wr.alloc (.cells #[.int .u32 0, .int .u32 0, .int .u32 0, .int .i64 0, .int .i64 0, .int .u64 0] 32)).setRow wr.heap.size #[.int .u32 it, .int .u32 bu, .int .u32 se, .int .i64 ta9, .int .i64 pr, .int .u64 qt] = X := ⟨_, rfl⟩
      have GD := hid (show X9.heap[wr.heap.size]? = some (.cells #[.int .u32 it, .int .u32 bu, .int .u32 se, .int .i64 ta9, .int .i64 pr, .int .u64 qt] 32 (0, 0)) from by rw [← hX9]; exact setRow_heap _ _ _ _ 32 (0, 0) HZ9.out)
      have BX9 := hid (show Below wr.heap.size wr X9 from by rw [← hX9]; exact setRow_below (ball _ _) (Nat.le_refl _))
      rw [hX9]
      obtain ⟨R, hR⟩ : ∃ t, wr.heap.size = t := ⟨_, rfl⟩
      rw [hR] at GD ⊢
      have HR := hid hR
      clear hX9 HZ9 hR a0 a1 a2 a3 a4 a5
      have HLR := hid (show ∀ j, O j → j < R from fun j hj => by rw [← HR.out]; exact HLT.out j hj)
      have CEn := hid (entries_any (LG.out.on BX9.out) (by have := HMM.out; omega))
      go_upto_region 11 with (go_at_call 6; with_reducible refine CEn.out.mono ?_; rintro e w10 ⟨p1, c1, rfl, hb⟩; have HB10 := hid hb; clear hb)
      have B10 := hid (btr BX9.out HB10.out)
      have GD10 := hid (row_on GD.out HB10.out)
      clear GD HB10 CEn
      obtain ⟨pa, hpa⟩ : ∃ x, s.g bu it = x := ⟨_, rfl⟩
      obtain ⟨pb, hpb⟩ : ∃ x, s.g se it = x := ⟨_, rfl⟩
      have CPa := hid (show ∀ U, Below w10.heap.size w10 U → Calls Try.prog 7 #[.pointer (some ⟨G, 0, none⟩), .int .u32 bu, .int .u32 it] U fun e w' => e = .returned (.agg pa.row) ∧ Hid (Below U.heap.size U w') from fun U hU => by rw [← hpa]; exact position_any (LG.out.on (btr B10.out hU)) bu it HZ.out.bu HZ.out.it)
      have CPb := hid (show ∀ U, Below w10.heap.size w10 U → Calls Try.prog 7 #[.pointer (some ⟨G, 0, none⟩), .int .u32 se, .int .u32 it] U fun e w' => e = .returned (.agg pb.row) ∧ Hid (Below U.heap.size U w') from fun U hU => by rw [← hpb]; exact position_any (LG.out.on (btr B10.out hU)) se it HZ.out.se HZ.out.it)
      unfold Po.row at CPa CPb
      have HPA := hid hpa
      have HPB := hid hpb
      clear hpa hpb
      refine reg_cut (X := Nat × Nat) (fun a t => ((((((((((((((a.put (some 53) (.pointer (some ⟨G, 0, none⟩))).put (some 54) (.pointer (some ⟨R, 1, none⟩))).put (some 55) (.int .u32 bu)).put (some 56) (.pointer (some ⟨R, 0, none⟩))).put (some 57) (.int .u32 it)).put (some 58) (.agg #[.int .i64 pa.qt, .int .u64 (hiW pa.co), .int .u64 (loW pa.co), .int .u64 (hiW pa.ga), .int .u64 (loW pa.ga)])).put (some 59) (.pointer (some ⟨G, 0, none⟩))).put (some 60) (.pointer (some ⟨R, 2, none⟩))).put (some 61) (.int .u32 se)).put (some 62) (.pointer (some ⟨R, 0, none⟩))).put (some 63) (.int .u32 it)).put (some 64) (.agg #[.int .i64 pb.qt, .int .u64 (hiW pb.co), .int .u64 (loW pb.co), .int .u64 (hiW pb.ga), .int .u64 (loW pb.ga)])).put (some 11) (.pointer (some ⟨t.1, 0, none⟩))).put (some 12) (.pointer (some ⟨t.2, 0, none⟩)))) (fun t V => Hid (Below w10.heap.size w10 V) ∧ Hid (V.heap[t.1]? = some (.cells #[.int .i64 pa.qt, .int .u64 (hiW pa.co), .int .u64 (loW pa.co), .int .u64 (hiW pa.ga), .int .u64 (loW pa.ga)] 38 (0, 0))) ∧ Hid (V.heap[t.2]? = some (.cells #[.int .i64 pb.qt, .int .u64 (hiW pb.co), .int .u64 (loW pb.co), .int .u64 (hiW pb.ga), .int .u64 (loW pb.ga)] 38 (0, 0))) ∧ Hid (w10.heap.size ≤ t.1) ∧ Hid (w10.heap.size ≤ t.2)) ?_ ?_
      · obtain ⟨V1, hV1⟩ : ∃ U, w10.drew = U := ⟨_, rfl⟩
        have BV1 := hid (show Below w10.heap.size w10 V1 from by rw [← hV1]; exact bdrew1 _)
        have r2 := hid (row_on GD10.out BV1.out)
        refine wp_region_held_drew (S := (fun U => U.cell? ⟨R, 0, none⟩ = some (.int .u32 it) ∧ U.cell? ⟨R, 1, none⟩ = some (.int .u32 bu) ∧ U.cell? ⟨R, 2, none⟩ = some (.int .u32 se))) (by kernel_rfl) ?_ (fun hHeld => ?_)
        · (try dsimp only); rw [hV1]; exact ⟨row_cell r2.out 0, row_cell r2.out 1, row_cell r2.out 2⟩
        rw [hV1] at hHeld ⊢
        clear hV1
        refine' wpAnyH_take (i := 0) (oi := _) (v := _) rfl (by kernel_rfl) (by kernel_rfl) (by kernel_rfl) (fun _ _ _ h => h) (Or.inl ⟨by kernel_rfl, ?_⟩) (by assumption) ?_
        rotate_left
        · (intro w hSw; (try dsimp only at hSw); go_simp; try (with_reducible rfl))
        try simp only [List.getElem_toArray, List.getElem_cons_succ, List.getElem_cons_zero, Act.put, List.setIfInBounds_toArray, List.set_cons_zero, List.set_cons_succ]
        refine' wpAnyH_take (i := 1) (oi := _) (v := _) rfl (by kernel_rfl) (by kernel_rfl) (by kernel_rfl) (fun _ _ _ h => h) (Or.inl ⟨by kernel_rfl, ?_⟩) (by assumption) ?_
        rotate_left
        · (intro w hSw; (try dsimp only at hSw); go_simp; try (with_reducible rfl))
        try simp only [List.getElem_toArray, List.getElem_cons_succ, List.getElem_cons_zero, Act.put, List.setIfInBounds_toArray, List.set_cons_zero, List.set_cons_succ]
        refine' wpAnyH_take (i := 2) (oi := _) (v := _) rfl (by kernel_rfl) (by kernel_rfl) (by kernel_rfl) (fun _ _ _ h => h) (Or.inl ⟨by kernel_rfl, ?_⟩) (by assumption) ?_
        rotate_left
        · (intro w hSw; (try dsimp only at hSw); go_simp; try (with_reducible rfl))
        try simp only [List.getElem_toArray, List.getElem_cons_succ, List.getElem_cons_zero, Act.put, List.setIfInBounds_toArray, List.set_cons_zero, List.set_cons_succ]
        refine' wpAnyH_take (i := 3) (oi := _) (v := _) rfl (by kernel_rfl) (by kernel_rfl) (by kernel_rfl) (fun _ _ _ h => h) (Or.inl ⟨by kernel_rfl, ?_⟩) (by assumption) ?_
        rotate_left
        · (intro w hSw; (try dsimp only at hSw); go_simp; try (with_reducible rfl))
        try simp only [List.getElem_toArray, List.getElem_cons_succ, List.getElem_cons_zero, Act.put, List.setIfInBounds_toArray, List.set_cons_zero, List.set_cons_succ]
        refine' wpAnyH_take (i := 4) (oi := _) (v := _) rfl (by kernel_rfl) (by kernel_rfl) (by kernel_rfl) (fun _ _ _ h => h) (Or.inl ⟨by kernel_rfl, ?_⟩) (by assumption) ?_
        rotate_left
        · (intro w hSw; (try dsimp only at hSw); go_simp; try (with_reducible rfl))
        try simp only [List.getElem_toArray, List.getElem_cons_succ, List.getElem_cons_zero, Act.put, List.setIfInBounds_toArray, List.set_cons_zero, List.set_cons_succ]
        refine' wpAnyH_take (i := 6) (oi := _) (v := _) rfl (by kernel_rfl) (by kernel_rfl) (by kernel_rfl) (fun _ _ _ h => h) (Or.inl ⟨by kernel_rfl, ?_⟩) (by assumption) ?_
        rotate_left
        · (intro w hSw; (try dsimp only at hSw); go_simp; try (with_reducible rfl))
        try simp only [List.getElem_toArray, List.getElem_cons_succ, List.getElem_cons_zero, Act.put, List.setIfInBounds_toArray, List.set_cons_zero, List.set_cons_succ]
        refine' wpAnyH_take (i := 7) (oi := _) (v := _) rfl (by kernel_rfl) (by kernel_rfl) (by kernel_rfl) (fun _ _ _ h => h) (Or.inl ⟨by kernel_rfl, ?_⟩) (by assumption) ?_
        rotate_left
        · (intro w hSw; (try dsimp only at hSw); go_simp; try (with_reducible rfl))
        try simp only [List.getElem_toArray, List.getElem_cons_succ, List.getElem_cons_zero, Act.put, List.setIfInBounds_toArray, List.set_cons_zero, List.set_cons_succ]
        refine' wpAnyH_take (i := 8) (oi := _) (v := _) rfl (by kernel_rfl) (by kernel_rfl) (by kernel_rfl) (fun _ _ _ h => h) (Or.inl ⟨by kernel_rfl, ?_⟩) (by assumption) ?_
        rotate_left
        · (intro w hSw; (try dsimp only at hSw); go_simp; try (with_reducible rfl))
        try simp only [List.getElem_toArray, List.getElem_cons_succ, List.getElem_cons_zero, Act.put, List.setIfInBounds_toArray, List.set_cons_zero, List.set_cons_succ]
        refine' wpAnyH_take (i := 9) (oi := _) (v := _) rfl (by kernel_rfl) (by kernel_rfl) (by kernel_rfl) (fun _ _ _ h => h) (Or.inl ⟨by kernel_rfl, ?_⟩) (by assumption) ?_
        rotate_left
        · (intro w hSw; (try dsimp only at hSw); go_simp; try (with_reducible rfl))
        try simp only [List.getElem_toArray, List.getElem_cons_succ, List.getElem_cons_zero, Act.put, List.setIfInBounds_toArray, List.set_cons_zero, List.set_cons_succ]
        refine' wpAnyH_take (i := 10) (oi := _) (v := _) rfl (by kernel_rfl) (by kernel_rfl) (by kernel_rfl) (fun _ _ _ h => h) (Or.inl ⟨by kernel_rfl, ?_⟩) (by assumption) ?_
        rotate_left
        · (intro w hSw; (try dsimp only at hSw); go_simp; try (with_reducible rfl))
        try simp only [List.getElem_toArray, List.getElem_cons_succ, List.getElem_cons_zero, Act.put, List.setIfInBounds_toArray, List.set_cons_zero, List.set_cons_succ]
        refine wpAnyH_ready (rs := [5, 12, 13]) (by kernel_rfl) (by simp) ?_
        refine (AllReadyH.cons (o := _) rfl (fun K hK => ?_) (AllReadyH.cons (o := _) rfl (fun K hK => ?_) (AllReadyH.cons (o := _) rfl (fun K hK => ?_) AllReadyH.nil)))
        · go_simp
          go_at_call 7
          with_reducible refine (CPa.out V1 BV1.out).mono ?_
          rintro e X3 ⟨rfl, DbX3⟩
          have r4 := hid (row_on r2.out DbX3.out)
          have DX3 := hid (btr BV1.out DbX3.out)
          have UX3 := hid (BV1.out.size)
          (try go_wp2_with fail)
          refine hK.out _ _ ?_ (fun hHeld => ?_)
          · (try dsimp only); exact ⟨row_cell r4.out 0, row_cell r4.out 1, row_cell r4.out 2⟩
          clear hK K
          try simp only [List.getElem_toArray, List.getElem_cons_succ, List.getElem_cons_zero, Act.put, List.setIfInBounds_toArray, List.set_cons_zero, List.set_cons_succ]
          refine wpAnyH_ready (rs := [11, 12, 13]) (by kernel_rfl) (by simp) ?_
          refine (AllReadyH.cons (o := _) rfl (fun K hK => ?_) (AllReadyH.cons (o := _) rfl (fun K hK => ?_) (AllReadyH.cons (o := _) rfl (fun K hK => ?_) AllReadyH.nil)))
          · go_simp
            go_at_call 7
            with_reducible refine (CPb.out X3 DX3.out).mono ?_
            rintro e X5 ⟨rfl, DbX5⟩
            have r6 := hid (row_on r4.out DbX5.out)
            have DX5 := hid (btr DX3.out DbX5.out)
            have UX5 := hid (DX3.out.size)
            (try go_wp2_with fail)
            refine hK.out _ _ ?_ (fun hHeld => ?_)
            · (try dsimp only); exact ⟨row_cell r6.out 0, row_cell r6.out 1, row_cell r6.out 2⟩
            clear hK K
            try simp only [List.getElem_toArray, List.getElem_cons_succ, List.getElem_cons_zero, Act.put, List.setIfInBounds_toArray, List.set_cons_zero, List.set_cons_succ]
            refine wpAnyH_ready (rs := [12, 13]) (by kernel_rfl) (by simp) ?_
            refine (AllReadyH.cons (o := _) rfl (fun K hK => ?_) (AllReadyH.cons (o := _) rfl (fun K hK => ?_) AllReadyH.nil))
            · go_simp
              obtain ⟨X7, hX7⟩ : ∃ X, X5.alloc (.cells #[.int .i64 0, .int .u64 0, .int .u64 0, .int .u64 0, .int .u64 0] 38) = X := ⟨_, rfl⟩
              have bX7 : Below X5.heap.size X5 X7 := by rw [← hX7]; exact ball _ _
              have r9 := hid (row_on r6.out bX7)
              have DX7 := hid (btr DX5.out bX7)
              have zX7 : X7.heap[X5.heap.size]? = some (.cells #[.int .i64 0, .int .u64 0, .int .u64 0, .int .u64 0, .int .u64 0] 38 (0, 0)) := by rw [← hX7]; exact World.alloc_heap_new _ _
              have yg8 := DX5.out.size
              obtain ⟨g8, hg8⟩ : ∃ g, X5.heap.size = g := ⟨_, rfl⟩
              have n10 : g8 ≠ R := by have := row_lt r6.out; omega
              rw [hg8] at zX7 yg8
              have ZX7 := hid zX7
              rw [hX7, hg8]
              clear hX7 hg8 zX7 bX7
              refine hK.out _ _ ?_ (fun hHeld => ?_)
              · (try dsimp only); exact ⟨row_cell r9.out 0, row_cell r9.out 1, row_cell r9.out 2⟩
              clear hK K
              try simp only [List.getElem_toArray, List.getElem_cons_succ, List.getElem_cons_zero, Act.put, List.setIfInBounds_toArray, List.set_cons_zero, List.set_cons_succ]
              refine wpAnyH_ready (rs := [13]) (by kernel_rfl) (by simp) ?_
              refine (AllReadyH.cons (o := _) rfl (fun K hK => ?_) AllReadyH.nil)
              go_simp
              obtain ⟨X11, hX11⟩ : ∃ X, X7.alloc (.cells #[.int .i64 0, .int .u64 0, .int .u64 0, .int .u64 0, .int .u64 0] 38) = X := ⟨_, rfl⟩
              have bX11 : Below X7.heap.size X7 X11 := by rw [← hX11]; exact ball _ _
              have r13 := hid (row_on r9.out bX11)
              have r14 := hid (row_on ZX7.out bX11)
              have DX11 := hid (btr DX7.out bX11)
              have zX11 : X11.heap[X7.heap.size]? = some (.cells #[.int .i64 0, .int .u64 0, .int .u64 0, .int .u64 0, .int .u64 0] 38 (0, 0)) := by rw [← hX11]; exact World.alloc_heap_new _ _
              have yg12 := DX7.out.size
              obtain ⟨g12, hg12⟩ : ∃ g, X7.heap.size = g := ⟨_, rfl⟩
              have n15 : g12 ≠ R := by have := row_lt r9.out; omega
              have n16 : g12 ≠ g8 := by have := row_lt ZX7.out; omega
              rw [hg12] at zX11 yg12
              have ZX11 := hid zX11
              rw [hX11, hg12]
              clear hX11 hg12 zX11 bX11
              refine hK.out _ _ ?_ (fun hHeld => ?_)
              · (try dsimp only); exact ⟨row_cell r13.out 0, row_cell r13.out 1, row_cell r13.out 2⟩
              clear hK K
              try simp only [List.getElem_toArray, List.getElem_cons_succ, List.getElem_cons_zero, Act.put, List.setIfInBounds_toArray, List.set_cons_zero, List.set_cons_succ]
              refine wpAnyH_ready (rs := [14]) (by kernel_rfl) (by simp) ?_
              refine (AllReadyH.cons (o := _) rfl (fun K hK => ?_) AllReadyH.nil)
              refine step_store_row (by rfl) 38 (.tmp 11) (.tmp 58) (by rfl) g8 #[.int .i64 pa.qt, .int .u64 (hiW pa.co), .int .u64 (loW pa.co), .int .u64 (hiW pa.ga), .int .u64 (loW pa.ga)] (by rfl) (by rfl) 38 _ r14.out infoPo5 (by rfl) (by simp [Value.oneCell']) ?_
              obtain ⟨Y17, hY17⟩ : ∃ Y, X11.setRow g8 #[.int .i64 pa.qt, .int .u64 (hiW pa.co), .int .u64 (loW pa.co), .int .u64 (hiW pa.ga), .int .u64 (loW pa.ga)] = Y := ⟨_, rfl⟩
              have KY17 := hid (show Kp (fun j => j = g8) X11 Y17 from by rw [← hY17]; exact setRow_kp _ _ _)
              have AY17 := hid (show Y17.heap[g8]? = some (.cells #[.int .i64 pa.qt, .int .u64 (hiW pa.co), .int .u64 (loW pa.co), .int .u64 (hiW pa.ga), .int .u64 (loW pa.ga)] 38 (0, 0)) from by rw [← hY17]; exact setRow_heap X11 g8 _ _ 38 (0, 0) r14.out)
              have DY17 := hid (show Below w10.heap.size w10 Y17 from by rw [← hY17]; exact setRow_below DX11.out yg8)
              have r18 := hid (KY17.out.row r13.out (fun e => n10.symm e))
              have r19 := hid (KY17.out.row ZX11.out (fun e => n16 e))
              rw [hY17]
              refine hK.out _ _ ?_ (fun hHeld => ?_)
              · (try dsimp only); exact ⟨row_cell r18.out 0, row_cell r18.out 1, row_cell r18.out 2⟩
              clear hK K hY17
              try simp only [List.getElem_toArray, List.getElem_cons_succ, List.getElem_cons_zero, Act.put, List.setIfInBounds_toArray, List.set_cons_zero, List.set_cons_succ]
              refine wpAnyH_ready (rs := [15]) (by kernel_rfl) (by simp) ?_
              refine (AllReadyH.cons (o := _) rfl (fun K hK => ?_) AllReadyH.nil)
              refine step_store_row (by rfl) 38 (.tmp 12) (.tmp 64) (by rfl) g12 #[.int .i64 pb.qt, .int .u64 (hiW pb.co), .int .u64 (loW pb.co), .int .u64 (hiW pb.ga), .int .u64 (loW pb.ga)] (by rfl) (by rfl) 38 _ r19.out infoPo5 (by rfl) (by simp [Value.oneCell']) ?_
              obtain ⟨Y20, hY20⟩ : ∃ Y, Y17.setRow g12 #[.int .i64 pb.qt, .int .u64 (hiW pb.co), .int .u64 (loW pb.co), .int .u64 (hiW pb.ga), .int .u64 (loW pb.ga)] = Y := ⟨_, rfl⟩
              have KY20 := hid (show Kp (fun j => j = g12) Y17 Y20 from by rw [← hY20]; exact setRow_kp _ _ _)
              have AY20 := hid (show Y20.heap[g12]? = some (.cells #[.int .i64 pb.qt, .int .u64 (hiW pb.co), .int .u64 (loW pb.co), .int .u64 (hiW pb.ga), .int .u64 (loW pb.ga)] 38 (0, 0)) from by rw [← hY20]; exact setRow_heap Y17 g12 _ _ 38 (0, 0) r19.out)
              have DY20 := hid (show Below w10.heap.size w10 Y20 from by rw [← hY20]; exact setRow_below DY17.out yg12)
              have r21 := hid (KY20.out.row r18.out (fun e => n15.symm e))
              have r22 := hid (KY20.out.row AY17.out (fun e => n16.symm e))
              rw [hY20]
              refine hK.out _ _ ?_ (fun hHeld => ?_)
              · (try dsimp only); exact ⟨row_cell r21.out 0, row_cell r21.out 1, row_cell r21.out 2⟩
              clear hK K hY20
              try simp only [List.getElem_toArray, List.getElem_cons_succ, List.getElem_cons_zero, Act.put, List.setIfInBounds_toArray, List.set_cons_zero, List.set_cons_succ]
              refine wpAnyH_done (by kernel_rfl) ?_ _
              exact ⟨(g8, g12), by kernel_rfl, DY20, r22, AY20, yg8, yg12⟩
            · go_simp
              obtain ⟨X23, hX23⟩ : ∃ X, X5.alloc (.cells #[.int .i64 0, .int .u64 0, .int .u64 0, .int .u64 0, .int .u64 0] 38) = X := ⟨_, rfl⟩
              have bX23 : Below X5.heap.size X5 X23 := by rw [← hX23]; exact ball _ _
              have r25 := hid (row_on r6.out bX23)
              have DX23 := hid (btr DX5.out bX23)
              have zX23 : X23.heap[X5.heap.size]? = some (.cells #[.int .i64 0, .int .u64 0, .int .u64 0, .int .u64 0, .int .u64 0] 38 (0, 0)) := by rw [← hX23]; exact World.alloc_heap_new _ _
              have yg24 := DX5.out.size
              obtain ⟨g24, hg24⟩ : ∃ g, X5.heap.size = g := ⟨_, rfl⟩
              have n26 : g24 ≠ R := by have := row_lt r6.out; omega
              rw [hg24] at zX23 yg24
              have ZX23 := hid zX23
              rw [hX23, hg24]
              clear hX23 hg24 zX23 bX23
              refine hK.out _ _ ?_ (fun hHeld => ?_)
              · (try dsimp only); exact ⟨row_cell r25.out 0, row_cell r25.out 1, row_cell r25.out 2⟩
              clear hK K
              try simp only [List.getElem_toArray, List.getElem_cons_succ, List.getElem_cons_zero, Act.put, List.setIfInBounds_toArray, List.set_cons_zero, List.set_cons_succ]
              refine wpAnyH_ready (rs := [12]) (by kernel_rfl) (by simp) ?_
              refine (AllReadyH.cons (o := _) rfl (fun K hK => ?_) AllReadyH.nil)
              go_simp
              obtain ⟨X27, hX27⟩ : ∃ X, X23.alloc (.cells #[.int .i64 0, .int .u64 0, .int .u64 0, .int .u64 0, .int .u64 0] 38) = X := ⟨_, rfl⟩
              have bX27 : Below X23.heap.size X23 X27 := by rw [← hX27]; exact ball _ _
              have r29 := hid (row_on r25.out bX27)
              have r30 := hid (row_on ZX23.out bX27)
              have DX27 := hid (btr DX23.out bX27)
              have zX27 : X27.heap[X23.heap.size]? = some (.cells #[.int .i64 0, .int .u64 0, .int .u64 0, .int .u64 0, .int .u64 0] 38 (0, 0)) := by rw [← hX27]; exact World.alloc_heap_new _ _
              have yg28 := DX23.out.size
              obtain ⟨g28, hg28⟩ : ∃ g, X23.heap.size = g := ⟨_, rfl⟩
              have n31 : g28 ≠ R := by have := row_lt r25.out; omega
              have n32 : g28 ≠ g24 := by have := row_lt ZX23.out; omega
              rw [hg28] at zX27 yg28
              have ZX27 := hid zX27
              rw [hX27, hg28]
              clear hX27 hg28 zX27 bX27
              refine hK.out _ _ ?_ (fun hHeld => ?_)
              · (try dsimp only); exact ⟨row_cell r29.out 0, row_cell r29.out 1, row_cell r29.out 2⟩
              clear hK K
              try simp only [List.getElem_toArray, List.getElem_cons_succ, List.getElem_cons_zero, Act.put, List.setIfInBounds_toArray, List.set_cons_zero, List.set_cons_succ]
              refine wpAnyH_ready (rs := [14]) (by kernel_rfl) (by simp) ?_
              refine (AllReadyH.cons (o := _) rfl (fun K hK => ?_) AllReadyH.nil)
              refine step_store_row (by rfl) 38 (.tmp 11) (.tmp 58) (by rfl) g28 #[.int .i64 pa.qt, .int .u64 (hiW pa.co), .int .u64 (loW pa.co), .int .u64 (hiW pa.ga), .int .u64 (loW pa.ga)] (by rfl) (by rfl) 38 _ ZX27.out infoPo5 (by rfl) (by simp [Value.oneCell']) ?_
              obtain ⟨Y33, hY33⟩ : ∃ Y, X27.setRow g28 #[.int .i64 pa.qt, .int .u64 (hiW pa.co), .int .u64 (loW pa.co), .int .u64 (hiW pa.ga), .int .u64 (loW pa.ga)] = Y := ⟨_, rfl⟩
              have KY33 := hid (show Kp (fun j => j = g28) X27 Y33 from by rw [← hY33]; exact setRow_kp _ _ _)
              have AY33 := hid (show Y33.heap[g28]? = some (.cells #[.int .i64 pa.qt, .int .u64 (hiW pa.co), .int .u64 (loW pa.co), .int .u64 (hiW pa.ga), .int .u64 (loW pa.ga)] 38 (0, 0)) from by rw [← hY33]; exact setRow_heap X27 g28 _ _ 38 (0, 0) ZX27.out)
              have DY33 := hid (show Below w10.heap.size w10 Y33 from by rw [← hY33]; exact setRow_below DX27.out yg28)
              have r34 := hid (KY33.out.row r29.out (fun e => n31.symm e))
              have r35 := hid (KY33.out.row r30.out (fun e => n32.symm e))
              rw [hY33]
              refine hK.out _ _ ?_ (fun hHeld => ?_)
              · (try dsimp only); exact ⟨row_cell r34.out 0, row_cell r34.out 1, row_cell r34.out 2⟩
              clear hK K hY33
              try simp only [List.getElem_toArray, List.getElem_cons_succ, List.getElem_cons_zero, Act.put, List.setIfInBounds_toArray, List.set_cons_zero, List.set_cons_succ]
              refine wpAnyH_ready (rs := [15]) (by kernel_rfl) (by simp) ?_
              refine (AllReadyH.cons (o := _) rfl (fun K hK => ?_) AllReadyH.nil)
              refine step_store_row (by rfl) 38 (.tmp 12) (.tmp 64) (by rfl) g24 #[.int .i64 pb.qt, .int .u64 (hiW pb.co), .int .u64 (loW pb.co), .int .u64 (hiW pb.ga), .int .u64 (loW pb.ga)] (by rfl) (by rfl) 38 _ r35.out infoPo5 (by rfl) (by simp [Value.oneCell']) ?_
              obtain ⟨Y36, hY36⟩ : ∃ Y, Y33.setRow g24 #[.int .i64 pb.qt, .int .u64 (hiW pb.co), .int .u64 (loW pb.co), .int .u64 (hiW pb.ga), .int .u64 (loW pb.ga)] = Y := ⟨_, rfl⟩
              have KY36 := hid (show Kp (fun j => j = g24) Y33 Y36 from by rw [← hY36]; exact setRow_kp _ _ _)
              have AY36 := hid (show Y36.heap[g24]? = some (.cells #[.int .i64 pb.qt, .int .u64 (hiW pb.co), .int .u64 (loW pb.co), .int .u64 (hiW pb.ga), .int .u64 (loW pb.ga)] 38 (0, 0)) from by rw [← hY36]; exact setRow_heap Y33 g24 _ _ 38 (0, 0) r35.out)
              have DY36 := hid (show Below w10.heap.size w10 Y36 from by rw [← hY36]; exact setRow_below DY33.out yg24)
              have r37 := hid (KY36.out.row r34.out (fun e => n26.symm e))
              have r38 := hid (KY36.out.row AY33.out (fun e => n32 e))
              rw [hY36]
              refine hK.out _ _ ?_ (fun hHeld => ?_)
              · (try dsimp only); exact ⟨row_cell r37.out 0, row_cell r37.out 1, row_cell r37.out 2⟩
              clear hK K hY36
              try simp only [List.getElem_toArray, List.getElem_cons_succ, List.getElem_cons_zero, Act.put, List.setIfInBounds_toArray, List.set_cons_zero, List.set_cons_succ]
              refine wpAnyH_done (by kernel_rfl) ?_ _
              exact ⟨(g28, g24), by kernel_rfl, DY36, r38, AY36, yg28, yg24⟩
          · go_simp
            obtain ⟨X39, hX39⟩ : ∃ X, X3.alloc (.cells #[.int .i64 0, .int .u64 0, .int .u64 0, .int .u64 0, .int .u64 0] 38) = X := ⟨_, rfl⟩
            have bX39 : Below X3.heap.size X3 X39 := by rw [← hX39]; exact ball _ _
            have r41 := hid (row_on r4.out bX39)
            have DX39 := hid (btr DX3.out bX39)
            have zX39 : X39.heap[X3.heap.size]? = some (.cells #[.int .i64 0, .int .u64 0, .int .u64 0, .int .u64 0, .int .u64 0] 38 (0, 0)) := by rw [← hX39]; exact World.alloc_heap_new _ _
            have yg40 := DX3.out.size
            obtain ⟨g40, hg40⟩ : ∃ g, X3.heap.size = g := ⟨_, rfl⟩
            have n42 : g40 ≠ R := by have := row_lt r4.out; omega
            rw [hg40] at zX39 yg40
            have ZX39 := hid zX39
            rw [hX39, hg40]
            clear hX39 hg40 zX39 bX39
            refine hK.out _ _ ?_ (fun hHeld => ?_)
            · (try dsimp only); exact ⟨row_cell r41.out 0, row_cell r41.out 1, row_cell r41.out 2⟩
            clear hK K
            try simp only [List.getElem_toArray, List.getElem_cons_succ, List.getElem_cons_zero, Act.put, List.setIfInBounds_toArray, List.set_cons_zero, List.set_cons_succ]
            refine wpAnyH_ready (rs := [11, 13]) (by kernel_rfl) (by simp) ?_
            refine (AllReadyH.cons (o := _) rfl (fun K hK => ?_) (AllReadyH.cons (o := _) rfl (fun K hK => ?_) AllReadyH.nil))
            · go_simp
              go_at_call 7
              with_reducible refine (CPb.out X39 DX39.out).mono ?_
              rintro e X43 ⟨rfl, DbX43⟩
              have r44 := hid (row_on r41.out DbX43.out)
              have r45 := hid (row_on ZX39.out DbX43.out)
              have DX43 := hid (btr DX39.out DbX43.out)
              have UX43 := hid (DX39.out.size)
              (try go_wp2_with fail)
              refine hK.out _ _ ?_ (fun hHeld => ?_)
              · (try dsimp only); exact ⟨row_cell r44.out 0, row_cell r44.out 1, row_cell r44.out 2⟩
              clear hK K
              try simp only [List.getElem_toArray, List.getElem_cons_succ, List.getElem_cons_zero, Act.put, List.setIfInBounds_toArray, List.set_cons_zero, List.set_cons_succ]
              refine wpAnyH_ready (rs := [13]) (by kernel_rfl) (by simp) ?_
              refine (AllReadyH.cons (o := _) rfl (fun K hK => ?_) AllReadyH.nil)
              go_simp
              obtain ⟨X46, hX46⟩ : ∃ X, X43.alloc (.cells #[.int .i64 0, .int .u64 0, .int .u64 0, .int .u64 0, .int .u64 0] 38) = X := ⟨_, rfl⟩
              have bX46 : Below X43.heap.size X43 X46 := by rw [← hX46]; exact ball _ _
              have r48 := hid (row_on r44.out bX46)
              have r49 := hid (row_on r45.out bX46)
              have DX46 := hid (btr DX43.out bX46)
              have zX46 : X46.heap[X43.heap.size]? = some (.cells #[.int .i64 0, .int .u64 0, .int .u64 0, .int .u64 0, .int .u64 0] 38 (0, 0)) := by rw [← hX46]; exact World.alloc_heap_new _ _
              have yg47 := DX43.out.size
              obtain ⟨g47, hg47⟩ : ∃ g, X43.heap.size = g := ⟨_, rfl⟩
              have n50 : g47 ≠ R := by have := row_lt r44.out; omega
              have n51 : g47 ≠ g40 := by have := row_lt r45.out; omega
              rw [hg47] at zX46 yg47
              have ZX46 := hid zX46
              rw [hX46, hg47]
              clear hX46 hg47 zX46 bX46
              refine hK.out _ _ ?_ (fun hHeld => ?_)
              · (try dsimp only); exact ⟨row_cell r48.out 0, row_cell r48.out 1, row_cell r48.out 2⟩
              clear hK K
              try simp only [List.getElem_toArray, List.getElem_cons_succ, List.getElem_cons_zero, Act.put, List.setIfInBounds_toArray, List.set_cons_zero, List.set_cons_succ]
              refine wpAnyH_ready (rs := [14]) (by kernel_rfl) (by simp) ?_
              refine (AllReadyH.cons (o := _) rfl (fun K hK => ?_) AllReadyH.nil)
              refine step_store_row (by rfl) 38 (.tmp 11) (.tmp 58) (by rfl) g40 #[.int .i64 pa.qt, .int .u64 (hiW pa.co), .int .u64 (loW pa.co), .int .u64 (hiW pa.ga), .int .u64 (loW pa.ga)] (by rfl) (by rfl) 38 _ r49.out infoPo5 (by rfl) (by simp [Value.oneCell']) ?_
              obtain ⟨Y52, hY52⟩ : ∃ Y, X46.setRow g40 #[.int .i64 pa.qt, .int .u64 (hiW pa.co), .int .u64 (loW pa.co), .int .u64 (hiW pa.ga), .int .u64 (loW pa.ga)] = Y := ⟨_, rfl⟩
              have KY52 := hid (show Kp (fun j => j = g40) X46 Y52 from by rw [← hY52]; exact setRow_kp _ _ _)
              have AY52 := hid (show Y52.heap[g40]? = some (.cells #[.int .i64 pa.qt, .int .u64 (hiW pa.co), .int .u64 (loW pa.co), .int .u64 (hiW pa.ga), .int .u64 (loW pa.ga)] 38 (0, 0)) from by rw [← hY52]; exact setRow_heap X46 g40 _ _ 38 (0, 0) r49.out)
              have DY52 := hid (show Below w10.heap.size w10 Y52 from by rw [← hY52]; exact setRow_below DX46.out yg40)
              have r53 := hid (KY52.out.row r48.out (fun e => n42.symm e))
              have r54 := hid (KY52.out.row ZX46.out (fun e => n51 e))
              rw [hY52]
              refine hK.out _ _ ?_ (fun hHeld => ?_)
              · (try dsimp only); exact ⟨row_cell r53.out 0, row_cell r53.out 1, row_cell r53.out 2⟩
              clear hK K hY52
              try simp only [List.getElem_toArray, List.getElem_cons_succ, List.getElem_cons_zero, Act.put, List.setIfInBounds_toArray, List.set_cons_zero, List.set_cons_succ]
              refine wpAnyH_ready (rs := [15]) (by kernel_rfl) (by simp) ?_
              refine (AllReadyH.cons (o := _) rfl (fun K hK => ?_) AllReadyH.nil)
              refine step_store_row (by rfl) 38 (.tmp 12) (.tmp 64) (by rfl) g47 #[.int .i64 pb.qt, .int .u64 (hiW pb.co), .int .u64 (loW pb.co), .int .u64 (hiW pb.ga), .int .u64 (loW pb.ga)] (by rfl) (by rfl) 38 _ r54.out infoPo5 (by rfl) (by simp [Value.oneCell']) ?_
              obtain ⟨Y55, hY55⟩ : ∃ Y, Y52.setRow g47 #[.int .i64 pb.qt, .int .u64 (hiW pb.co), .int .u64 (loW pb.co), .int .u64 (hiW pb.ga), .int .u64 (loW pb.ga)] = Y := ⟨_, rfl⟩
              have KY55 := hid (show Kp (fun j => j = g47) Y52 Y55 from by rw [← hY55]; exact setRow_kp _ _ _)
              have AY55 := hid (show Y55.heap[g47]? = some (.cells #[.int .i64 pb.qt, .int .u64 (hiW pb.co), .int .u64 (loW pb.co), .int .u64 (hiW pb.ga), .int .u64 (loW pb.ga)] 38 (0, 0)) from by rw [← hY55]; exact setRow_heap Y52 g47 _ _ 38 (0, 0) r54.out)
              have DY55 := hid (show Below w10.heap.size w10 Y55 from by rw [← hY55]; exact setRow_below DY52.out yg47)
              have r56 := hid (KY55.out.row r53.out (fun e => n50.symm e))
              have r57 := hid (KY55.out.row AY52.out (fun e => n51.symm e))
              rw [hY55]
              refine hK.out _ _ ?_ (fun hHeld => ?_)
              · (try dsimp only); exact ⟨row_cell r56.out 0, row_cell r56.out 1, row_cell r56.out 2⟩
              clear hK K hY55
              try simp only [List.getElem_toArray, List.getElem_cons_succ, List.getElem_cons_zero, Act.put, List.setIfInBounds_toArray, List.set_cons_zero, List.set_cons_succ]
              refine wpAnyH_done (by kernel_rfl) ?_ _
              exact ⟨(g40, g47), by kernel_rfl, DY55, r57, AY55, yg40, yg47⟩
            · go_simp
              obtain ⟨X58, hX58⟩ : ∃ X, X39.alloc (.cells #[.int .i64 0, .int .u64 0, .int .u64 0, .int .u64 0, .int .u64 0] 38) = X := ⟨_, rfl⟩
              have bX58 : Below X39.heap.size X39 X58 := by rw [← hX58]; exact ball _ _
              have r60 := hid (row_on r41.out bX58)
              have r61 := hid (row_on ZX39.out bX58)
              have DX58 := hid (btr DX39.out bX58)
              have zX58 : X58.heap[X39.heap.size]? = some (.cells #[.int .i64 0, .int .u64 0, .int .u64 0, .int .u64 0, .int .u64 0] 38 (0, 0)) := by rw [← hX58]; exact World.alloc_heap_new _ _
              have yg59 := DX39.out.size
              obtain ⟨g59, hg59⟩ : ∃ g, X39.heap.size = g := ⟨_, rfl⟩
              have n62 : g59 ≠ R := by have := row_lt r41.out; omega
              have n63 : g59 ≠ g40 := by have := row_lt ZX39.out; omega
              rw [hg59] at zX58 yg59
              have ZX58 := hid zX58
              rw [hX58, hg59]
              clear hX58 hg59 zX58 bX58
              refine hK.out _ _ ?_ (fun hHeld => ?_)
              · (try dsimp only); exact ⟨row_cell r60.out 0, row_cell r60.out 1, row_cell r60.out 2⟩
              clear hK K
              try simp only [List.getElem_toArray, List.getElem_cons_succ, List.getElem_cons_zero, Act.put, List.setIfInBounds_toArray, List.set_cons_zero, List.set_cons_succ]
              refine wpAnyH_ready (rs := [11]) (by kernel_rfl) (by simp) ?_
              refine (AllReadyH.cons (o := _) rfl (fun K hK => ?_) AllReadyH.nil)
              go_simp
              go_at_call 7
              with_reducible refine (CPb.out X58 DX58.out).mono ?_
              rintro e X64 ⟨rfl, DbX64⟩
              have r65 := hid (row_on r60.out DbX64.out)
              have r66 := hid (row_on r61.out DbX64.out)
              have r67 := hid (row_on ZX58.out DbX64.out)
              have DX64 := hid (btr DX58.out DbX64.out)
              have UX64 := hid (DX58.out.size)
              (try go_wp2_with fail)
              refine hK.out _ _ ?_ (fun hHeld => ?_)
              · (try dsimp only); exact ⟨row_cell r65.out 0, row_cell r65.out 1, row_cell r65.out 2⟩
              clear hK K
              try simp only [List.getElem_toArray, List.getElem_cons_succ, List.getElem_cons_zero, Act.put, List.setIfInBounds_toArray, List.set_cons_zero, List.set_cons_succ]
              refine wpAnyH_ready (rs := [14]) (by kernel_rfl) (by simp) ?_
              refine (AllReadyH.cons (o := _) rfl (fun K hK => ?_) AllReadyH.nil)
              refine step_store_row (by rfl) 38 (.tmp 11) (.tmp 58) (by rfl) g40 #[.int .i64 pa.qt, .int .u64 (hiW pa.co), .int .u64 (loW pa.co), .int .u64 (hiW pa.ga), .int .u64 (loW pa.ga)] (by rfl) (by rfl) 38 _ r66.out infoPo5 (by rfl) (by simp [Value.oneCell']) ?_
              obtain ⟨Y68, hY68⟩ : ∃ Y, X64.setRow g40 #[.int .i64 pa.qt, .int .u64 (hiW pa.co), .int .u64 (loW pa.co), .int .u64 (hiW pa.ga), .int .u64 (loW pa.ga)] = Y := ⟨_, rfl⟩
              have KY68 := hid (show Kp (fun j => j = g40) X64 Y68 from by rw [← hY68]; exact setRow_kp _ _ _)
              have AY68 := hid (show Y68.heap[g40]? = some (.cells #[.int .i64 pa.qt, .int .u64 (hiW pa.co), .int .u64 (loW pa.co), .int .u64 (hiW pa.ga), .int .u64 (loW pa.ga)] 38 (0, 0)) from by rw [← hY68]; exact setRow_heap X64 g40 _ _ 38 (0, 0) r66.out)
              have DY68 := hid (show Below w10.heap.size w10 Y68 from by rw [← hY68]; exact setRow_below DX64.out yg40)
              have r69 := hid (KY68.out.row r65.out (fun e => n42.symm e))
              have r70 := hid (KY68.out.row r67.out (fun e => n63 e))
              rw [hY68]
              refine hK.out _ _ ?_ (fun hHeld => ?_)
              · (try dsimp only); exact ⟨row_cell r69.out 0, row_cell r69.out 1, row_cell r69.out 2⟩
              clear hK K hY68
              try simp only [List.getElem_toArray, List.getElem_cons_succ, List.getElem_cons_zero, Act.put, List.setIfInBounds_toArray, List.set_cons_zero, List.set_cons_succ]
              refine wpAnyH_ready (rs := [15]) (by kernel_rfl) (by simp) ?_
              refine (AllReadyH.cons (o := _) rfl (fun K hK => ?_) AllReadyH.nil)
              refine step_store_row (by rfl) 38 (.tmp 12) (.tmp 64) (by rfl) g59 #[.int .i64 pb.qt, .int .u64 (hiW pb.co), .int .u64 (loW pb.co), .int .u64 (hiW pb.ga), .int .u64 (loW pb.ga)] (by rfl) (by rfl) 38 _ r70.out infoPo5 (by rfl) (by simp [Value.oneCell']) ?_
              obtain ⟨Y71, hY71⟩ : ∃ Y, Y68.setRow g59 #[.int .i64 pb.qt, .int .u64 (hiW pb.co), .int .u64 (loW pb.co), .int .u64 (hiW pb.ga), .int .u64 (loW pb.ga)] = Y := ⟨_, rfl⟩
              have KY71 := hid (show Kp (fun j => j = g59) Y68 Y71 from by rw [← hY71]; exact setRow_kp _ _ _)
              have AY71 := hid (show Y71.heap[g59]? = some (.cells #[.int .i64 pb.qt, .int .u64 (hiW pb.co), .int .u64 (loW pb.co), .int .u64 (hiW pb.ga), .int .u64 (loW pb.ga)] 38 (0, 0)) from by rw [← hY71]; exact setRow_heap Y68 g59 _ _ 38 (0, 0) r70.out)
              have DY71 := hid (show Below w10.heap.size w10 Y71 from by rw [← hY71]; exact setRow_below DY68.out yg59)
              have r72 := hid (KY71.out.row r69.out (fun e => n62.symm e))
              have r73 := hid (KY71.out.row AY68.out (fun e => n63.symm e))
              rw [hY71]
              refine hK.out _ _ ?_ (fun hHeld => ?_)
              · (try dsimp only); exact ⟨row_cell r72.out 0, row_cell r72.out 1, row_cell r72.out 2⟩
              clear hK K hY71
              try simp only [List.getElem_toArray, List.getElem_cons_succ, List.getElem_cons_zero, Act.put, List.setIfInBounds_toArray, List.set_cons_zero, List.set_cons_succ]
              refine wpAnyH_done (by kernel_rfl) ?_ _
              exact ⟨(g40, g59), by kernel_rfl, DY71, r73, AY71, yg40, yg59⟩
          · go_simp
            obtain ⟨X74, hX74⟩ : ∃ X, X3.alloc (.cells #[.int .i64 0, .int .u64 0, .int .u64 0, .int .u64 0, .int .u64 0] 38) = X := ⟨_, rfl⟩
            have bX74 : Below X3.heap.size X3 X74 := by rw [← hX74]; exact ball _ _
            have r76 := hid (row_on r4.out bX74)
            have DX74 := hid (btr DX3.out bX74)
            have zX74 : X74.heap[X3.heap.size]? = some (.cells #[.int .i64 0, .int .u64 0, .int .u64 0, .int .u64 0, .int .u64 0] 38 (0, 0)) := by rw [← hX74]; exact World.alloc_heap_new _ _
            have yg75 := DX3.out.size
            obtain ⟨g75, hg75⟩ : ∃ g, X3.heap.size = g := ⟨_, rfl⟩
            have n77 : g75 ≠ R := by have := row_lt r4.out; omega
            rw [hg75] at zX74 yg75
            have ZX74 := hid zX74
            rw [hX74, hg75]
            clear hX74 hg75 zX74 bX74
            refine hK.out _ _ ?_ (fun hHeld => ?_)
            · (try dsimp only); exact ⟨row_cell r76.out 0, row_cell r76.out 1, row_cell r76.out 2⟩
            clear hK K
            try simp only [List.getElem_toArray, List.getElem_cons_succ, List.getElem_cons_zero, Act.put, List.setIfInBounds_toArray, List.set_cons_zero, List.set_cons_succ]
            refine wpAnyH_ready (rs := [11, 12]) (by kernel_rfl) (by simp) ?_
            refine (AllReadyH.cons (o := _) rfl (fun K hK => ?_) (AllReadyH.cons (o := _) rfl (fun K hK => ?_) AllReadyH.nil))
            · go_simp
              go_at_call 7
              with_reducible refine (CPb.out X74 DX74.out).mono ?_
              rintro e X78 ⟨rfl, DbX78⟩
              have r79 := hid (row_on r76.out DbX78.out)
              have r80 := hid (row_on ZX74.out DbX78.out)
              have DX78 := hid (btr DX74.out DbX78.out)
              have UX78 := hid (DX74.out.size)
              (try go_wp2_with fail)
              refine hK.out _ _ ?_ (fun hHeld => ?_)
              · (try dsimp only); exact ⟨row_cell r79.out 0, row_cell r79.out 1, row_cell r79.out 2⟩
              clear hK K
              try simp only [List.getElem_toArray, List.getElem_cons_succ, List.getElem_cons_zero, Act.put, List.setIfInBounds_toArray, List.set_cons_zero, List.set_cons_succ]
              refine wpAnyH_ready (rs := [12]) (by kernel_rfl) (by simp) ?_
              refine (AllReadyH.cons (o := _) rfl (fun K hK => ?_) AllReadyH.nil)
              go_simp
              obtain ⟨X81, hX81⟩ : ∃ X, X78.alloc (.cells #[.int .i64 0, .int .u64 0, .int .u64 0, .int .u64 0, .int .u64 0] 38) = X := ⟨_, rfl⟩
              have bX81 : Below X78.heap.size X78 X81 := by rw [← hX81]; exact ball _ _
              have r83 := hid (row_on r79.out bX81)
              have r84 := hid (row_on r80.out bX81)
              have DX81 := hid (btr DX78.out bX81)
              have zX81 : X81.heap[X78.heap.size]? = some (.cells #[.int .i64 0, .int .u64 0, .int .u64 0, .int .u64 0, .int .u64 0] 38 (0, 0)) := by rw [← hX81]; exact World.alloc_heap_new _ _
              have yg82 := DX78.out.size
              obtain ⟨g82, hg82⟩ : ∃ g, X78.heap.size = g := ⟨_, rfl⟩
              have n85 : g82 ≠ R := by have := row_lt r79.out; omega
              have n86 : g82 ≠ g75 := by have := row_lt r80.out; omega
              rw [hg82] at zX81 yg82
              have ZX81 := hid zX81
              rw [hX81, hg82]
              clear hX81 hg82 zX81 bX81
              refine hK.out _ _ ?_ (fun hHeld => ?_)
              · (try dsimp only); exact ⟨row_cell r83.out 0, row_cell r83.out 1, row_cell r83.out 2⟩
              clear hK K
              try simp only [List.getElem_toArray, List.getElem_cons_succ, List.getElem_cons_zero, Act.put, List.setIfInBounds_toArray, List.set_cons_zero, List.set_cons_succ]
              refine wpAnyH_ready (rs := [14]) (by kernel_rfl) (by simp) ?_
              refine (AllReadyH.cons (o := _) rfl (fun K hK => ?_) AllReadyH.nil)
              refine step_store_row (by rfl) 38 (.tmp 11) (.tmp 58) (by rfl) g82 #[.int .i64 pa.qt, .int .u64 (hiW pa.co), .int .u64 (loW pa.co), .int .u64 (hiW pa.ga), .int .u64 (loW pa.ga)] (by rfl) (by rfl) 38 _ ZX81.out infoPo5 (by rfl) (by simp [Value.oneCell']) ?_
              obtain ⟨Y87, hY87⟩ : ∃ Y, X81.setRow g82 #[.int .i64 pa.qt, .int .u64 (hiW pa.co), .int .u64 (loW pa.co), .int .u64 (hiW pa.ga), .int .u64 (loW pa.ga)] = Y := ⟨_, rfl⟩
              have KY87 := hid (show Kp (fun j => j = g82) X81 Y87 from by rw [← hY87]; exact setRow_kp _ _ _)
              have AY87 := hid (show Y87.heap[g82]? = some (.cells #[.int .i64 pa.qt, .int .u64 (hiW pa.co), .int .u64 (loW pa.co), .int .u64 (hiW pa.ga), .int .u64 (loW pa.ga)] 38 (0, 0)) from by rw [← hY87]; exact setRow_heap X81 g82 _ _ 38 (0, 0) ZX81.out)
              have DY87 := hid (show Below w10.heap.size w10 Y87 from by rw [← hY87]; exact setRow_below DX81.out yg82)
              have r88 := hid (KY87.out.row r83.out (fun e => n85.symm e))
              have r89 := hid (KY87.out.row r84.out (fun e => n86.symm e))
              rw [hY87]
              refine hK.out _ _ ?_ (fun hHeld => ?_)
              · (try dsimp only); exact ⟨row_cell r88.out 0, row_cell r88.out 1, row_cell r88.out 2⟩
              clear hK K hY87
              try simp only [List.getElem_toArray, List.getElem_cons_succ, List.getElem_cons_zero, Act.put, List.setIfInBounds_toArray, List.set_cons_zero, List.set_cons_succ]
              refine wpAnyH_ready (rs := [15]) (by kernel_rfl) (by simp) ?_
              refine (AllReadyH.cons (o := _) rfl (fun K hK => ?_) AllReadyH.nil)
              refine step_store_row (by rfl) 38 (.tmp 12) (.tmp 64) (by rfl) g75 #[.int .i64 pb.qt, .int .u64 (hiW pb.co), .int .u64 (loW pb.co), .int .u64 (hiW pb.ga), .int .u64 (loW pb.ga)] (by rfl) (by rfl) 38 _ r89.out infoPo5 (by rfl) (by simp [Value.oneCell']) ?_
              obtain ⟨Y90, hY90⟩ : ∃ Y, Y87.setRow g75 #[.int .i64 pb.qt, .int .u64 (hiW pb.co), .int .u64 (loW pb.co), .int .u64 (hiW pb.ga), .int .u64 (loW pb.ga)] = Y := ⟨_, rfl⟩
              have KY90 := hid (show Kp (fun j => j = g75) Y87 Y90 from by rw [← hY90]; exact setRow_kp _ _ _)
              have AY90 := hid (show Y90.heap[g75]? = some (.cells #[.int .i64 pb.qt, .int .u64 (hiW pb.co), .int .u64 (loW pb.co), .int .u64 (hiW pb.ga), .int .u64 (loW pb.ga)] 38 (0, 0)) from by rw [← hY90]; exact setRow_heap Y87 g75 _ _ 38 (0, 0) r89.out)
              have DY90 := hid (show Below w10.heap.size w10 Y90 from by rw [← hY90]; exact setRow_below DY87.out yg75)
              have r91 := hid (KY90.out.row r88.out (fun e => n77.symm e))
              have r92 := hid (KY90.out.row AY87.out (fun e => n86 e))
              rw [hY90]
              refine hK.out _ _ ?_ (fun hHeld => ?_)
              · (try dsimp only); exact ⟨row_cell r91.out 0, row_cell r91.out 1, row_cell r91.out 2⟩
              clear hK K hY90
              try simp only [List.getElem_toArray, List.getElem_cons_succ, List.getElem_cons_zero, Act.put, List.setIfInBounds_toArray, List.set_cons_zero, List.set_cons_succ]
              refine wpAnyH_done (by kernel_rfl) ?_ _
              exact ⟨(g82, g75), by kernel_rfl, DY90, r92, AY90, yg82, yg75⟩
            · go_simp
              obtain ⟨X93, hX93⟩ : ∃ X, X74.alloc (.cells #[.int .i64 0, .int .u64 0, .int .u64 0, .int .u64 0, .int .u64 0] 38) = X := ⟨_, rfl⟩
              have bX93 : Below X74.heap.size X74 X93 := by rw [← hX93]; exact ball _ _
              have r95 := hid (row_on r76.out bX93)
              have r96 := hid (row_on ZX74.out bX93)
              have DX93 := hid (btr DX74.out bX93)
              have zX93 : X93.heap[X74.heap.size]? = some (.cells #[.int .i64 0, .int .u64 0, .int .u64 0, .int .u64 0, .int .u64 0] 38 (0, 0)) := by rw [← hX93]; exact World.alloc_heap_new _ _
              have yg94 := DX74.out.size
              obtain ⟨g94, hg94⟩ : ∃ g, X74.heap.size = g := ⟨_, rfl⟩
              have n97 : g94 ≠ R := by have := row_lt r76.out; omega
              have n98 : g94 ≠ g75 := by have := row_lt ZX74.out; omega
              rw [hg94] at zX93 yg94
              have ZX93 := hid zX93
              rw [hX93, hg94]
              clear hX93 hg94 zX93 bX93
              refine hK.out _ _ ?_ (fun hHeld => ?_)
              · (try dsimp only); exact ⟨row_cell r95.out 0, row_cell r95.out 1, row_cell r95.out 2⟩
              clear hK K
              try simp only [List.getElem_toArray, List.getElem_cons_succ, List.getElem_cons_zero, Act.put, List.setIfInBounds_toArray, List.set_cons_zero, List.set_cons_succ]
              refine wpAnyH_ready (rs := [11]) (by kernel_rfl) (by simp) ?_
              refine (AllReadyH.cons (o := _) rfl (fun K hK => ?_) AllReadyH.nil)
              go_simp
              go_at_call 7
              with_reducible refine (CPb.out X93 DX93.out).mono ?_
              rintro e X99 ⟨rfl, DbX99⟩
              have r100 := hid (row_on r95.out DbX99.out)
              have r101 := hid (row_on r96.out DbX99.out)
              have r102 := hid (row_on ZX93.out DbX99.out)
              have DX99 := hid (btr DX93.out DbX99.out)
              have UX99 := hid (DX93.out.size)
              (try go_wp2_with fail)
              refine hK.out _ _ ?_ (fun hHeld => ?_)
              · (try dsimp only); exact ⟨row_cell r100.out 0, row_cell r100.out 1, row_cell r100.out 2⟩
              clear hK K
              try simp only [List.getElem_toArray, List.getElem_cons_succ, List.getElem_cons_zero, Act.put, List.setIfInBounds_toArray, List.set_cons_zero, List.set_cons_succ]
              refine wpAnyH_ready (rs := [14]) (by kernel_rfl) (by simp) ?_
              refine (AllReadyH.cons (o := _) rfl (fun K hK => ?_) AllReadyH.nil)
              refine step_store_row (by rfl) 38 (.tmp 11) (.tmp 58) (by rfl) g94 #[.int .i64 pa.qt, .int .u64 (hiW pa.co), .int .u64 (loW pa.co), .int .u64 (hiW pa.ga), .int .u64 (loW pa.ga)] (by rfl) (by rfl) 38 _ r102.out infoPo5 (by rfl) (by simp [Value.oneCell']) ?_
              obtain ⟨Y103, hY103⟩ : ∃ Y, X99.setRow g94 #[.int .i64 pa.qt, .int .u64 (hiW pa.co), .int .u64 (loW pa.co), .int .u64 (hiW pa.ga), .int .u64 (loW pa.ga)] = Y := ⟨_, rfl⟩
              have KY103 := hid (show Kp (fun j => j = g94) X99 Y103 from by rw [← hY103]; exact setRow_kp _ _ _)
              have AY103 := hid (show Y103.heap[g94]? = some (.cells #[.int .i64 pa.qt, .int .u64 (hiW pa.co), .int .u64 (loW pa.co), .int .u64 (hiW pa.ga), .int .u64 (loW pa.ga)] 38 (0, 0)) from by rw [← hY103]; exact setRow_heap X99 g94 _ _ 38 (0, 0) r102.out)
              have DY103 := hid (show Below w10.heap.size w10 Y103 from by rw [← hY103]; exact setRow_below DX99.out yg94)
              have r104 := hid (KY103.out.row r100.out (fun e => n97.symm e))
              have r105 := hid (KY103.out.row r101.out (fun e => n98.symm e))
              rw [hY103]
              refine hK.out _ _ ?_ (fun hHeld => ?_)
              · (try dsimp only); exact ⟨row_cell r104.out 0, row_cell r104.out 1, row_cell r104.out 2⟩
              clear hK K hY103
              try simp only [List.getElem_toArray, List.getElem_cons_succ, List.getElem_cons_zero, Act.put, List.setIfInBounds_toArray, List.set_cons_zero, List.set_cons_succ]
              refine wpAnyH_ready (rs := [15]) (by kernel_rfl) (by simp) ?_
              refine (AllReadyH.cons (o := _) rfl (fun K hK => ?_) AllReadyH.nil)
              refine step_store_row (by rfl) 38 (.tmp 12) (.tmp 64) (by rfl) g75 #[.int .i64 pb.qt, .int .u64 (hiW pb.co), .int .u64 (loW pb.co), .int .u64 (hiW pb.ga), .int .u64 (loW pb.ga)] (by rfl) (by rfl) 38 _ r105.out infoPo5 (by rfl) (by simp [Value.oneCell']) ?_
              obtain ⟨Y106, hY106⟩ : ∃ Y, Y103.setRow g75 #[.int .i64 pb.qt, .int .u64 (hiW pb.co), .int .u64 (loW pb.co), .int .u64 (hiW pb.ga), .int .u64 (loW pb.ga)] = Y := ⟨_, rfl⟩
              have KY106 := hid (show Kp (fun j => j = g75) Y103 Y106 from by rw [← hY106]; exact setRow_kp _ _ _)
              have AY106 := hid (show Y106.heap[g75]? = some (.cells #[.int .i64 pb.qt, .int .u64 (hiW pb.co), .int .u64 (loW pb.co), .int .u64 (hiW pb.ga), .int .u64 (loW pb.ga)] 38 (0, 0)) from by rw [← hY106]; exact setRow_heap Y103 g75 _ _ 38 (0, 0) r105.out)
              have DY106 := hid (show Below w10.heap.size w10 Y106 from by rw [← hY106]; exact setRow_below DY103.out yg75)
              have r107 := hid (KY106.out.row r104.out (fun e => n77.symm e))
              have r108 := hid (KY106.out.row AY103.out (fun e => n98 e))
              rw [hY106]
              refine hK.out _ _ ?_ (fun hHeld => ?_)
              · (try dsimp only); exact ⟨row_cell r107.out 0, row_cell r107.out 1, row_cell r107.out 2⟩
              clear hK K hY106
              try simp only [List.getElem_toArray, List.getElem_cons_succ, List.getElem_cons_zero, Act.put, List.setIfInBounds_toArray, List.set_cons_zero, List.set_cons_succ]
              refine wpAnyH_done (by kernel_rfl) ?_ _
              exact ⟨(g94, g75), by kernel_rfl, DY106, r108, AY106, yg94, yg75⟩
        · go_simp
          obtain ⟨X109, hX109⟩ : ∃ X, V1.alloc (.cells #[.int .i64 0, .int .u64 0, .int .u64 0, .int .u64 0, .int .u64 0] 38) = X := ⟨_, rfl⟩
          have bX109 : Below V1.heap.size V1 X109 := by rw [← hX109]; exact ball _ _
          have r111 := hid (row_on r2.out bX109)
          have DX109 := hid (btr BV1.out bX109)
          have zX109 : X109.heap[V1.heap.size]? = some (.cells #[.int .i64 0, .int .u64 0, .int .u64 0, .int .u64 0, .int .u64 0] 38 (0, 0)) := by rw [← hX109]; exact World.alloc_heap_new _ _
          have yg110 := BV1.out.size
          obtain ⟨g110, hg110⟩ : ∃ g, V1.heap.size = g := ⟨_, rfl⟩
          have n112 : g110 ≠ R := by have := row_lt r2.out; omega
          rw [hg110] at zX109 yg110
          have ZX109 := hid zX109
          rw [hX109, hg110]
          clear hX109 hg110 zX109 bX109
          refine hK.out _ _ ?_ (fun hHeld => ?_)
          · (try dsimp only); exact ⟨row_cell r111.out 0, row_cell r111.out 1, row_cell r111.out 2⟩
          clear hK K
          try simp only [List.getElem_toArray, List.getElem_cons_succ, List.getElem_cons_zero, Act.put, List.setIfInBounds_toArray, List.set_cons_zero, List.set_cons_succ]
          refine wpAnyH_ready (rs := [5, 13]) (by kernel_rfl) (by simp) ?_
          refine (AllReadyH.cons (o := _) rfl (fun K hK => ?_) (AllReadyH.cons (o := _) rfl (fun K hK => ?_) AllReadyH.nil))
          · go_simp
            go_at_call 7
            with_reducible refine (CPa.out X109 DX109.out).mono ?_
            rintro e X113 ⟨rfl, DbX113⟩
            have r114 := hid (row_on r111.out DbX113.out)
            have r115 := hid (row_on ZX109.out DbX113.out)
            have DX113 := hid (btr DX109.out DbX113.out)
            have UX113 := hid (DX109.out.size)
            (try go_wp2_with fail)
            refine hK.out _ _ ?_ (fun hHeld => ?_)
            · (try dsimp only); exact ⟨row_cell r114.out 0, row_cell r114.out 1, row_cell r114.out 2⟩
            clear hK K
            try simp only [List.getElem_toArray, List.getElem_cons_succ, List.getElem_cons_zero, Act.put, List.setIfInBounds_toArray, List.set_cons_zero, List.set_cons_succ]
            refine wpAnyH_ready (rs := [11, 13]) (by kernel_rfl) (by simp) ?_
            refine (AllReadyH.cons (o := _) rfl (fun K hK => ?_) (AllReadyH.cons (o := _) rfl (fun K hK => ?_) AllReadyH.nil))
            · go_simp
              go_at_call 7
              with_reducible refine (CPb.out X113 DX113.out).mono ?_
              rintro e X116 ⟨rfl, DbX116⟩
              have r117 := hid (row_on r114.out DbX116.out)
              have r118 := hid (row_on r115.out DbX116.out)
              have DX116 := hid (btr DX113.out DbX116.out)
              have UX116 := hid (DX113.out.size)
              (try go_wp2_with fail)
              refine hK.out _ _ ?_ (fun hHeld => ?_)
              · (try dsimp only); exact ⟨row_cell r117.out 0, row_cell r117.out 1, row_cell r117.out 2⟩
              clear hK K
              try simp only [List.getElem_toArray, List.getElem_cons_succ, List.getElem_cons_zero, Act.put, List.setIfInBounds_toArray, List.set_cons_zero, List.set_cons_succ]
              refine wpAnyH_ready (rs := [13]) (by kernel_rfl) (by simp) ?_
              refine (AllReadyH.cons (o := _) rfl (fun K hK => ?_) AllReadyH.nil)
              go_simp
              obtain ⟨X119, hX119⟩ : ∃ X, X116.alloc (.cells #[.int .i64 0, .int .u64 0, .int .u64 0, .int .u64 0, .int .u64 0] 38) = X := ⟨_, rfl⟩
              have bX119 : Below X116.heap.size X116 X119 := by rw [← hX119]; exact ball _ _
              have r121 := hid (row_on r117.out bX119)
              have r122 := hid (row_on r118.out bX119)
              have DX119 := hid (btr DX116.out bX119)
              have zX119 : X119.heap[X116.heap.size]? = some (.cells #[.int .i64 0, .int .u64 0, .int .u64 0, .int .u64 0, .int .u64 0] 38 (0, 0)) := by rw [← hX119]; exact World.alloc_heap_new _ _
              have yg120 := DX116.out.size
              obtain ⟨g120, hg120⟩ : ∃ g, X116.heap.size = g := ⟨_, rfl⟩
              have n123 : g120 ≠ R := by have := row_lt r117.out; omega
              have n124 : g120 ≠ g110 := by have := row_lt r118.out; omega
              rw [hg120] at zX119 yg120
              have ZX119 := hid zX119
              rw [hX119, hg120]
              clear hX119 hg120 zX119 bX119
              refine hK.out _ _ ?_ (fun hHeld => ?_)
              · (try dsimp only); exact ⟨row_cell r121.out 0, row_cell r121.out 1, row_cell r121.out 2⟩
              clear hK K
              try simp only [List.getElem_toArray, List.getElem_cons_succ, List.getElem_cons_zero, Act.put, List.setIfInBounds_toArray, List.set_cons_zero, List.set_cons_succ]
              refine wpAnyH_ready (rs := [14]) (by kernel_rfl) (by simp) ?_
              refine (AllReadyH.cons (o := _) rfl (fun K hK => ?_) AllReadyH.nil)
              refine step_store_row (by rfl) 38 (.tmp 11) (.tmp 58) (by rfl) g110 #[.int .i64 pa.qt, .int .u64 (hiW pa.co), .int .u64 (loW pa.co), .int .u64 (hiW pa.ga), .int .u64 (loW pa.ga)] (by rfl) (by rfl) 38 _ r122.out infoPo5 (by rfl) (by simp [Value.oneCell']) ?_
              obtain ⟨Y125, hY125⟩ : ∃ Y, X119.setRow g110 #[.int .i64 pa.qt, .int .u64 (hiW pa.co), .int .u64 (loW pa.co), .int .u64 (hiW pa.ga), .int .u64 (loW pa.ga)] = Y := ⟨_, rfl⟩
              have KY125 := hid (show Kp (fun j => j = g110) X119 Y125 from by rw [← hY125]; exact setRow_kp _ _ _)
              have AY125 := hid (show Y125.heap[g110]? = some (.cells #[.int .i64 pa.qt, .int .u64 (hiW pa.co), .int .u64 (loW pa.co), .int .u64 (hiW pa.ga), .int .u64 (loW pa.ga)] 38 (0, 0)) from by rw [← hY125]; exact setRow_heap X119 g110 _ _ 38 (0, 0) r122.out)
              have DY125 := hid (show Below w10.heap.size w10 Y125 from by rw [← hY125]; exact setRow_below DX119.out yg110)
              have r126 := hid (KY125.out.row r121.out (fun e => n112.symm e))
              have r127 := hid (KY125.out.row ZX119.out (fun e => n124 e))
              rw [hY125]
              refine hK.out _ _ ?_ (fun hHeld => ?_)
              · (try dsimp only); exact ⟨row_cell r126.out 0, row_cell r126.out 1, row_cell r126.out 2⟩
              clear hK K hY125
              try simp only [List.getElem_toArray, List.getElem_cons_succ, List.getElem_cons_zero, Act.put, List.setIfInBounds_toArray, List.set_cons_zero, List.set_cons_succ]
              refine wpAnyH_ready (rs := [15]) (by kernel_rfl) (by simp) ?_
              refine (AllReadyH.cons (o := _) rfl (fun K hK => ?_) AllReadyH.nil)
              refine step_store_row (by rfl) 38 (.tmp 12) (.tmp 64) (by rfl) g120 #[.int .i64 pb.qt, .int .u64 (hiW pb.co), .int .u64 (loW pb.co), .int .u64 (hiW pb.ga), .int .u64 (loW pb.ga)] (by rfl) (by rfl) 38 _ r127.out infoPo5 (by rfl) (by simp [Value.oneCell']) ?_
              obtain ⟨Y128, hY128⟩ : ∃ Y, Y125.setRow g120 #[.int .i64 pb.qt, .int .u64 (hiW pb.co), .int .u64 (loW pb.co), .int .u64 (hiW pb.ga), .int .u64 (loW pb.ga)] = Y := ⟨_, rfl⟩
              have KY128 := hid (show Kp (fun j => j = g120) Y125 Y128 from by rw [← hY128]; exact setRow_kp _ _ _)
              have AY128 := hid (show Y128.heap[g120]? = some (.cells #[.int .i64 pb.qt, .int .u64 (hiW pb.co), .int .u64 (loW pb.co), .int .u64 (hiW pb.ga), .int .u64 (loW pb.ga)] 38 (0, 0)) from by rw [← hY128]; exact setRow_heap Y125 g120 _ _ 38 (0, 0) r127.out)
              have DY128 := hid (show Below w10.heap.size w10 Y128 from by rw [← hY128]; exact setRow_below DY125.out yg120)
              have r129 := hid (KY128.out.row r126.out (fun e => n123.symm e))
              have r130 := hid (KY128.out.row AY125.out (fun e => n124.symm e))
              rw [hY128]
              refine hK.out _ _ ?_ (fun hHeld => ?_)
              · (try dsimp only); exact ⟨row_cell r129.out 0, row_cell r129.out 1, row_cell r129.out 2⟩
              clear hK K hY128
              try simp only [List.getElem_toArray, List.getElem_cons_succ, List.getElem_cons_zero, Act.put, List.setIfInBounds_toArray, List.set_cons_zero, List.set_cons_succ]
              refine wpAnyH_done (by kernel_rfl) ?_ _
              exact ⟨(g110, g120), by kernel_rfl, DY128, r130, AY128, yg110, yg120⟩
            · go_simp
              obtain ⟨X131, hX131⟩ : ∃ X, X113.alloc (.cells #[.int .i64 0, .int .u64 0, .int .u64 0, .int .u64 0, .int .u64 0] 38) = X := ⟨_, rfl⟩
              have bX131 : Below X113.heap.size X113 X131 := by rw [← hX131]; exact ball _ _
              have r133 := hid (row_on r114.out bX131)
              have r134 := hid (row_on r115.out bX131)
              have DX131 := hid (btr DX113.out bX131)
              have zX131 : X131.heap[X113.heap.size]? = some (.cells #[.int .i64 0, .int .u64 0, .int .u64 0, .int .u64 0, .int .u64 0] 38 (0, 0)) := by rw [← hX131]; exact World.alloc_heap_new _ _
              have yg132 := DX113.out.size
              obtain ⟨g132, hg132⟩ : ∃ g, X113.heap.size = g := ⟨_, rfl⟩
              have n135 : g132 ≠ R := by have := row_lt r114.out; omega
              have n136 : g132 ≠ g110 := by have := row_lt r115.out; omega
              rw [hg132] at zX131 yg132
              have ZX131 := hid zX131
              rw [hX131, hg132]
              clear hX131 hg132 zX131 bX131
              refine hK.out _ _ ?_ (fun hHeld => ?_)
              · (try dsimp only); exact ⟨row_cell r133.out 0, row_cell r133.out 1, row_cell r133.out 2⟩
              clear hK K
              try simp only [List.getElem_toArray, List.getElem_cons_succ, List.getElem_cons_zero, Act.put, List.setIfInBounds_toArray, List.set_cons_zero, List.set_cons_succ]
              refine wpAnyH_ready (rs := [11]) (by kernel_rfl) (by simp) ?_
              refine (AllReadyH.cons (o := _) rfl (fun K hK => ?_) AllReadyH.nil)
              go_simp
              go_at_call 7
              with_reducible refine (CPb.out X131 DX131.out).mono ?_
              rintro e X137 ⟨rfl, DbX137⟩
              have r138 := hid (row_on r133.out DbX137.out)
              have r139 := hid (row_on r134.out DbX137.out)
              have r140 := hid (row_on ZX131.out DbX137.out)
              have DX137 := hid (btr DX131.out DbX137.out)
              have UX137 := hid (DX131.out.size)
              (try go_wp2_with fail)
              refine hK.out _ _ ?_ (fun hHeld => ?_)
              · (try dsimp only); exact ⟨row_cell r138.out 0, row_cell r138.out 1, row_cell r138.out 2⟩
              clear hK K
              try simp only [List.getElem_toArray, List.getElem_cons_succ, List.getElem_cons_zero, Act.put, List.setIfInBounds_toArray, List.set_cons_zero, List.set_cons_succ]
              refine wpAnyH_ready (rs := [14]) (by kernel_rfl) (by simp) ?_
              refine (AllReadyH.cons (o := _) rfl (fun K hK => ?_) AllReadyH.nil)
              refine step_store_row (by rfl) 38 (.tmp 11) (.tmp 58) (by rfl) g110 #[.int .i64 pa.qt, .int .u64 (hiW pa.co), .int .u64 (loW pa.co), .int .u64 (hiW pa.ga), .int .u64 (loW pa.ga)] (by rfl) (by rfl) 38 _ r139.out infoPo5 (by rfl) (by simp [Value.oneCell']) ?_
              obtain ⟨Y141, hY141⟩ : ∃ Y, X137.setRow g110 #[.int .i64 pa.qt, .int .u64 (hiW pa.co), .int .u64 (loW pa.co), .int .u64 (hiW pa.ga), .int .u64 (loW pa.ga)] = Y := ⟨_, rfl⟩
              have KY141 := hid (show Kp (fun j => j = g110) X137 Y141 from by rw [← hY141]; exact setRow_kp _ _ _)
              have AY141 := hid (show Y141.heap[g110]? = some (.cells #[.int .i64 pa.qt, .int .u64 (hiW pa.co), .int .u64 (loW pa.co), .int .u64 (hiW pa.ga), .int .u64 (loW pa.ga)] 38 (0, 0)) from by rw [← hY141]; exact setRow_heap X137 g110 _ _ 38 (0, 0) r139.out)
              have DY141 := hid (show Below w10.heap.size w10 Y141 from by rw [← hY141]; exact setRow_below DX137.out yg110)
              have r142 := hid (KY141.out.row r138.out (fun e => n112.symm e))
              have r143 := hid (KY141.out.row r140.out (fun e => n136 e))
              rw [hY141]
              refine hK.out _ _ ?_ (fun hHeld => ?_)
              · (try dsimp only); exact ⟨row_cell r142.out 0, row_cell r142.out 1, row_cell r142.out 2⟩
              clear hK K hY141
              try simp only [List.getElem_toArray, List.getElem_cons_succ, List.getElem_cons_zero, Act.put, List.setIfInBounds_toArray, List.set_cons_zero, List.set_cons_succ]
              refine wpAnyH_ready (rs := [15]) (by kernel_rfl) (by simp) ?_
              refine (AllReadyH.cons (o := _) rfl (fun K hK => ?_) AllReadyH.nil)
              refine step_store_row (by rfl) 38 (.tmp 12) (.tmp 64) (by rfl) g132 #[.int .i64 pb.qt, .int .u64 (hiW pb.co), .int .u64 (loW pb.co), .int .u64 (hiW pb.ga), .int .u64 (loW pb.ga)] (by rfl) (by rfl) 38 _ r143.out infoPo5 (by rfl) (by simp [Value.oneCell']) ?_
              obtain ⟨Y144, hY144⟩ : ∃ Y, Y141.setRow g132 #[.int .i64 pb.qt, .int .u64 (hiW pb.co), .int .u64 (loW pb.co), .int .u64 (hiW pb.ga), .int .u64 (loW pb.ga)] = Y := ⟨_, rfl⟩
              have KY144 := hid (show Kp (fun j => j = g132) Y141 Y144 from by rw [← hY144]; exact setRow_kp _ _ _)
              have AY144 := hid (show Y144.heap[g132]? = some (.cells #[.int .i64 pb.qt, .int .u64 (hiW pb.co), .int .u64 (loW pb.co), .int .u64 (hiW pb.ga), .int .u64 (loW pb.ga)] 38 (0, 0)) from by rw [← hY144]; exact setRow_heap Y141 g132 _ _ 38 (0, 0) r143.out)
              have DY144 := hid (show Below w10.heap.size w10 Y144 from by rw [← hY144]; exact setRow_below DY141.out yg132)
              have r145 := hid (KY144.out.row r142.out (fun e => n135.symm e))
              have r146 := hid (KY144.out.row AY141.out (fun e => n136.symm e))
              rw [hY144]
              refine hK.out _ _ ?_ (fun hHeld => ?_)
              · (try dsimp only); exact ⟨row_cell r145.out 0, row_cell r145.out 1, row_cell r145.out 2⟩
              clear hK K hY144
              try simp only [List.getElem_toArray, List.getElem_cons_succ, List.getElem_cons_zero, Act.put, List.setIfInBounds_toArray, List.set_cons_zero, List.set_cons_succ]
              refine wpAnyH_done (by kernel_rfl) ?_ _
              exact ⟨(g110, g132), by kernel_rfl, DY144, r146, AY144, yg110, yg132⟩
          · go_simp
            obtain ⟨X147, hX147⟩ : ∃ X, X109.alloc (.cells #[.int .i64 0, .int .u64 0, .int .u64 0, .int .u64 0, .int .u64 0] 38) = X := ⟨_, rfl⟩
            have bX147 : Below X109.heap.size X109 X147 := by rw [← hX147]; exact ball _ _
            have r149 := hid (row_on r111.out bX147)
            have r150 := hid (row_on ZX109.out bX147)
            have DX147 := hid (btr DX109.out bX147)
            have zX147 : X147.heap[X109.heap.size]? = some (.cells #[.int .i64 0, .int .u64 0, .int .u64 0, .int .u64 0, .int .u64 0] 38 (0, 0)) := by rw [← hX147]; exact World.alloc_heap_new _ _
            have yg148 := DX109.out.size
            obtain ⟨g148, hg148⟩ : ∃ g, X109.heap.size = g := ⟨_, rfl⟩
            have n151 : g148 ≠ R := by have := row_lt r111.out; omega
            have n152 : g148 ≠ g110 := by have := row_lt ZX109.out; omega
            rw [hg148] at zX147 yg148
            have ZX147 := hid zX147
            rw [hX147, hg148]
            clear hX147 hg148 zX147 bX147
            refine hK.out _ _ ?_ (fun hHeld => ?_)
            · (try dsimp only); exact ⟨row_cell r149.out 0, row_cell r149.out 1, row_cell r149.out 2⟩
            clear hK K
            try simp only [List.getElem_toArray, List.getElem_cons_succ, List.getElem_cons_zero, Act.put, List.setIfInBounds_toArray, List.set_cons_zero, List.set_cons_succ]
            refine wpAnyH_ready (rs := [5]) (by kernel_rfl) (by simp) ?_
            refine (AllReadyH.cons (o := _) rfl (fun K hK => ?_) AllReadyH.nil)
            go_simp
            go_at_call 7
            with_reducible refine (CPa.out X147 DX147.out).mono ?_
            rintro e X153 ⟨rfl, DbX153⟩
            have r154 := hid (row_on r149.out DbX153.out)
            have r155 := hid (row_on r150.out DbX153.out)
            have r156 := hid (row_on ZX147.out DbX153.out)
            have DX153 := hid (btr DX147.out DbX153.out)
            have UX153 := hid (DX147.out.size)
            (try go_wp2_with fail)
            refine hK.out _ _ ?_ (fun hHeld => ?_)
            · (try dsimp only); exact ⟨row_cell r154.out 0, row_cell r154.out 1, row_cell r154.out 2⟩
            clear hK K
            try simp only [List.getElem_toArray, List.getElem_cons_succ, List.getElem_cons_zero, Act.put, List.setIfInBounds_toArray, List.set_cons_zero, List.set_cons_succ]
            refine wpAnyH_ready (rs := [11]) (by kernel_rfl) (by simp) ?_
            refine (AllReadyH.cons (o := _) rfl (fun K hK => ?_) AllReadyH.nil)
            go_simp
            go_at_call 7
            with_reducible refine (CPb.out X153 DX153.out).mono ?_
            rintro e X157 ⟨rfl, DbX157⟩
            have r158 := hid (row_on r154.out DbX157.out)
            have r159 := hid (row_on r155.out DbX157.out)
            have r160 := hid (row_on r156.out DbX157.out)
            have DX157 := hid (btr DX153.out DbX157.out)
            have UX157 := hid (DX153.out.size)
            (try go_wp2_with fail)
            refine hK.out _ _ ?_ (fun hHeld => ?_)
            · (try dsimp only); exact ⟨row_cell r158.out 0, row_cell r158.out 1, row_cell r158.out 2⟩
            clear hK K
            try simp only [List.getElem_toArray, List.getElem_cons_succ, List.getElem_cons_zero, Act.put, List.setIfInBounds_toArray, List.set_cons_zero, List.set_cons_succ]
            refine wpAnyH_ready (rs := [14]) (by kernel_rfl) (by simp) ?_
            refine (AllReadyH.cons (o := _) rfl (fun K hK => ?_) AllReadyH.nil)
            refine step_store_row (by rfl) 38 (.tmp 11) (.tmp 58) (by rfl) g110 #[.int .i64 pa.qt, .int .u64 (hiW pa.co), .int .u64 (loW pa.co), .int .u64 (hiW pa.ga), .int .u64 (loW pa.ga)] (by rfl) (by rfl) 38 _ r159.out infoPo5 (by rfl) (by simp [Value.oneCell']) ?_
            obtain ⟨Y161, hY161⟩ : ∃ Y, X157.setRow g110 #[.int .i64 pa.qt, .int .u64 (hiW pa.co), .int .u64 (loW pa.co), .int .u64 (hiW pa.ga), .int .u64 (loW pa.ga)] = Y := ⟨_, rfl⟩
            have KY161 := hid (show Kp (fun j => j = g110) X157 Y161 from by rw [← hY161]; exact setRow_kp _ _ _)
            have AY161 := hid (show Y161.heap[g110]? = some (.cells #[.int .i64 pa.qt, .int .u64 (hiW pa.co), .int .u64 (loW pa.co), .int .u64 (hiW pa.ga), .int .u64 (loW pa.ga)] 38 (0, 0)) from by rw [← hY161]; exact setRow_heap X157 g110 _ _ 38 (0, 0) r159.out)
            have DY161 := hid (show Below w10.heap.size w10 Y161 from by rw [← hY161]; exact setRow_below DX157.out yg110)
            have r162 := hid (KY161.out.row r158.out (fun e => n112.symm e))
            have r163 := hid (KY161.out.row r160.out (fun e => n152 e))
            rw [hY161]
            refine hK.out _ _ ?_ (fun hHeld => ?_)
            · (try dsimp only); exact ⟨row_cell r162.out 0, row_cell r162.out 1, row_cell r162.out 2⟩
            clear hK K hY161
            try simp only [List.getElem_toArray, List.getElem_cons_succ, List.getElem_cons_zero, Act.put, List.setIfInBounds_toArray, List.set_cons_zero, List.set_cons_succ]
            refine wpAnyH_ready (rs := [15]) (by kernel_rfl) (by simp) ?_
            refine (AllReadyH.cons (o := _) rfl (fun K hK => ?_) AllReadyH.nil)
            refine step_store_row (by rfl) 38 (.tmp 12) (.tmp 64) (by rfl) g148 #[.int .i64 pb.qt, .int .u64 (hiW pb.co), .int .u64 (loW pb.co), .int .u64 (hiW pb.ga), .int .u64 (loW pb.ga)] (by rfl) (by rfl) 38 _ r163.out infoPo5 (by rfl) (by simp [Value.oneCell']) ?_
            obtain ⟨Y164, hY164⟩ : ∃ Y, Y161.setRow g148 #[.int .i64 pb.qt, .int .u64 (hiW pb.co), .int .u64 (loW pb.co), .int .u64 (hiW pb.ga), .int .u64 (loW pb.ga)] = Y := ⟨_, rfl⟩
            have KY164 := hid (show Kp (fun j => j = g148) Y161 Y164 from by rw [← hY164]; exact setRow_kp _ _ _)
            have AY164 := hid (show Y164.heap[g148]? = some (.cells #[.int .i64 pb.qt, .int .u64 (hiW pb.co), .int .u64 (loW pb.co), .int .u64 (hiW pb.ga), .int .u64 (loW pb.ga)] 38 (0, 0)) from by rw [← hY164]; exact setRow_heap Y161 g148 _ _ 38 (0, 0) r163.out)
            have DY164 := hid (show Below w10.heap.size w10 Y164 from by rw [← hY164]; exact setRow_below DY161.out yg148)
            have r165 := hid (KY164.out.row r162.out (fun e => n151.symm e))
            have r166 := hid (KY164.out.row AY161.out (fun e => n152.symm e))
            rw [hY164]
            refine hK.out _ _ ?_ (fun hHeld => ?_)
            · (try dsimp only); exact ⟨row_cell r165.out 0, row_cell r165.out 1, row_cell r165.out 2⟩
            clear hK K hY164
            try simp only [List.getElem_toArray, List.getElem_cons_succ, List.getElem_cons_zero, Act.put, List.setIfInBounds_toArray, List.set_cons_zero, List.set_cons_succ]
            refine wpAnyH_done (by kernel_rfl) ?_ _
            exact ⟨(g110, g148), by kernel_rfl, DY164, r166, AY164, yg110, yg148⟩
        · go_simp
          obtain ⟨X167, hX167⟩ : ∃ X, V1.alloc (.cells #[.int .i64 0, .int .u64 0, .int .u64 0, .int .u64 0, .int .u64 0] 38) = X := ⟨_, rfl⟩
          have bX167 : Below V1.heap.size V1 X167 := by rw [← hX167]; exact ball _ _
          have r169 := hid (row_on r2.out bX167)
          have DX167 := hid (btr BV1.out bX167)
          have zX167 : X167.heap[V1.heap.size]? = some (.cells #[.int .i64 0, .int .u64 0, .int .u64 0, .int .u64 0, .int .u64 0] 38 (0, 0)) := by rw [← hX167]; exact World.alloc_heap_new _ _
          have yg168 := BV1.out.size
          obtain ⟨g168, hg168⟩ : ∃ g, V1.heap.size = g := ⟨_, rfl⟩
          have n170 : g168 ≠ R := by have := row_lt r2.out; omega
          rw [hg168] at zX167 yg168
          have ZX167 := hid zX167
          rw [hX167, hg168]
          clear hX167 hg168 zX167 bX167
          refine hK.out _ _ ?_ (fun hHeld => ?_)
          · (try dsimp only); exact ⟨row_cell r169.out 0, row_cell r169.out 1, row_cell r169.out 2⟩
          clear hK K
          try simp only [List.getElem_toArray, List.getElem_cons_succ, List.getElem_cons_zero, Act.put, List.setIfInBounds_toArray, List.set_cons_zero, List.set_cons_succ]
          refine wpAnyH_ready (rs := [5, 12]) (by kernel_rfl) (by simp) ?_
          refine (AllReadyH.cons (o := _) rfl (fun K hK => ?_) (AllReadyH.cons (o := _) rfl (fun K hK => ?_) AllReadyH.nil))
          · go_simp
            go_at_call 7
            with_reducible refine (CPa.out X167 DX167.out).mono ?_
            rintro e X171 ⟨rfl, DbX171⟩
            have r172 := hid (row_on r169.out DbX171.out)
            have r173 := hid (row_on ZX167.out DbX171.out)
            have DX171 := hid (btr DX167.out DbX171.out)
            have UX171 := hid (DX167.out.size)
            (try go_wp2_with fail)
            refine hK.out _ _ ?_ (fun hHeld => ?_)
            · (try dsimp only); exact ⟨row_cell r172.out 0, row_cell r172.out 1, row_cell r172.out 2⟩
            clear hK K
            try simp only [List.getElem_toArray, List.getElem_cons_succ, List.getElem_cons_zero, Act.put, List.setIfInBounds_toArray, List.set_cons_zero, List.set_cons_succ]
            refine wpAnyH_ready (rs := [11, 12]) (by kernel_rfl) (by simp) ?_
            refine (AllReadyH.cons (o := _) rfl (fun K hK => ?_) (AllReadyH.cons (o := _) rfl (fun K hK => ?_) AllReadyH.nil))
            · go_simp
              go_at_call 7
              with_reducible refine (CPb.out X171 DX171.out).mono ?_
              rintro e X174 ⟨rfl, DbX174⟩
              have r175 := hid (row_on r172.out DbX174.out)
              have r176 := hid (row_on r173.out DbX174.out)
              have DX174 := hid (btr DX171.out DbX174.out)
              have UX174 := hid (DX171.out.size)
              (try go_wp2_with fail)
              refine hK.out _ _ ?_ (fun hHeld => ?_)
              · (try dsimp only); exact ⟨row_cell r175.out 0, row_cell r175.out 1, row_cell r175.out 2⟩
              clear hK K
              try simp only [List.getElem_toArray, List.getElem_cons_succ, List.getElem_cons_zero, Act.put, List.setIfInBounds_toArray, List.set_cons_zero, List.set_cons_succ]
              refine wpAnyH_ready (rs := [12]) (by kernel_rfl) (by simp) ?_
              refine (AllReadyH.cons (o := _) rfl (fun K hK => ?_) AllReadyH.nil)
              go_simp
              obtain ⟨X177, hX177⟩ : ∃ X, X174.alloc (.cells #[.int .i64 0, .int .u64 0, .int .u64 0, .int .u64 0, .int .u64 0] 38) = X := ⟨_, rfl⟩
              have bX177 : Below X174.heap.size X174 X177 := by rw [← hX177]; exact ball _ _
              have r179 := hid (row_on r175.out bX177)
              have r180 := hid (row_on r176.out bX177)
              have DX177 := hid (btr DX174.out bX177)
              have zX177 : X177.heap[X174.heap.size]? = some (.cells #[.int .i64 0, .int .u64 0, .int .u64 0, .int .u64 0, .int .u64 0] 38 (0, 0)) := by rw [← hX177]; exact World.alloc_heap_new _ _
              have yg178 := DX174.out.size
              obtain ⟨g178, hg178⟩ : ∃ g, X174.heap.size = g := ⟨_, rfl⟩
              have n181 : g178 ≠ R := by have := row_lt r175.out; omega
              have n182 : g178 ≠ g168 := by have := row_lt r176.out; omega
              rw [hg178] at zX177 yg178
              have ZX177 := hid zX177
              rw [hX177, hg178]
              clear hX177 hg178 zX177 bX177
              refine hK.out _ _ ?_ (fun hHeld => ?_)
              · (try dsimp only); exact ⟨row_cell r179.out 0, row_cell r179.out 1, row_cell r179.out 2⟩
              clear hK K
              try simp only [List.getElem_toArray, List.getElem_cons_succ, List.getElem_cons_zero, Act.put, List.setIfInBounds_toArray, List.set_cons_zero, List.set_cons_succ]
              refine wpAnyH_ready (rs := [14]) (by kernel_rfl) (by simp) ?_
              refine (AllReadyH.cons (o := _) rfl (fun K hK => ?_) AllReadyH.nil)
              refine step_store_row (by rfl) 38 (.tmp 11) (.tmp 58) (by rfl) g178 #[.int .i64 pa.qt, .int .u64 (hiW pa.co), .int .u64 (loW pa.co), .int .u64 (hiW pa.ga), .int .u64 (loW pa.ga)] (by rfl) (by rfl) 38 _ ZX177.out infoPo5 (by rfl) (by simp [Value.oneCell']) ?_
              obtain ⟨Y183, hY183⟩ : ∃ Y, X177.setRow g178 #[.int .i64 pa.qt, .int .u64 (hiW pa.co), .int .u64 (loW pa.co), .int .u64 (hiW pa.ga), .int .u64 (loW pa.ga)] = Y := ⟨_, rfl⟩
              have KY183 := hid (show Kp (fun j => j = g178) X177 Y183 from by rw [← hY183]; exact setRow_kp _ _ _)
              have AY183 := hid (show Y183.heap[g178]? = some (.cells #[.int .i64 pa.qt, .int .u64 (hiW pa.co), .int .u64 (loW pa.co), .int .u64 (hiW pa.ga), .int .u64 (loW pa.ga)] 38 (0, 0)) from by rw [← hY183]; exact setRow_heap X177 g178 _ _ 38 (0, 0) ZX177.out)
              have DY183 := hid (show Below w10.heap.size w10 Y183 from by rw [← hY183]; exact setRow_below DX177.out yg178)
              have r184 := hid (KY183.out.row r179.out (fun e => n181.symm e))
              have r185 := hid (KY183.out.row r180.out (fun e => n182.symm e))
              rw [hY183]
              refine hK.out _ _ ?_ (fun hHeld => ?_)
              · (try dsimp only); exact ⟨row_cell r184.out 0, row_cell r184.out 1, row_cell r184.out 2⟩
              clear hK K hY183
              try simp only [List.getElem_toArray, List.getElem_cons_succ, List.getElem_cons_zero, Act.put, List.setIfInBounds_toArray, List.set_cons_zero, List.set_cons_succ]
              refine wpAnyH_ready (rs := [15]) (by kernel_rfl) (by simp) ?_
              refine (AllReadyH.cons (o := _) rfl (fun K hK => ?_) AllReadyH.nil)
              refine step_store_row (by rfl) 38 (.tmp 12) (.tmp 64) (by rfl) g168 #[.int .i64 pb.qt, .int .u64 (hiW pb.co), .int .u64 (loW pb.co), .int .u64 (hiW pb.ga), .int .u64 (loW pb.ga)] (by rfl) (by rfl) 38 _ r185.out infoPo5 (by rfl) (by simp [Value.oneCell']) ?_
              obtain ⟨Y186, hY186⟩ : ∃ Y, Y183.setRow g168 #[.int .i64 pb.qt, .int .u64 (hiW pb.co), .int .u64 (loW pb.co), .int .u64 (hiW pb.ga), .int .u64 (loW pb.ga)] = Y := ⟨_, rfl⟩
              have KY186 := hid (show Kp (fun j => j = g168) Y183 Y186 from by rw [← hY186]; exact setRow_kp _ _ _)
              have AY186 := hid (show Y186.heap[g168]? = some (.cells #[.int .i64 pb.qt, .int .u64 (hiW pb.co), .int .u64 (loW pb.co), .int .u64 (hiW pb.ga), .int .u64 (loW pb.ga)] 38 (0, 0)) from by rw [← hY186]; exact setRow_heap Y183 g168 _ _ 38 (0, 0) r185.out)
              have DY186 := hid (show Below w10.heap.size w10 Y186 from by rw [← hY186]; exact setRow_below DY183.out yg168)
              have r187 := hid (KY186.out.row r184.out (fun e => n170.symm e))
              have r188 := hid (KY186.out.row AY183.out (fun e => n182 e))
              rw [hY186]
              refine hK.out _ _ ?_ (fun hHeld => ?_)
              · (try dsimp only); exact ⟨row_cell r187.out 0, row_cell r187.out 1, row_cell r187.out 2⟩
              clear hK K hY186
              try simp only [List.getElem_toArray, List.getElem_cons_succ, List.getElem_cons_zero, Act.put, List.setIfInBounds_toArray, List.set_cons_zero, List.set_cons_succ]
              refine wpAnyH_done (by kernel_rfl) ?_ _
              exact ⟨(g178, g168), by kernel_rfl, DY186, r188, AY186, yg178, yg168⟩
            · go_simp
              obtain ⟨X189, hX189⟩ : ∃ X, X171.alloc (.cells #[.int .i64 0, .int .u64 0, .int .u64 0, .int .u64 0, .int .u64 0] 38) = X := ⟨_, rfl⟩
              have bX189 : Below X171.heap.size X171 X189 := by rw [← hX189]; exact ball _ _
              have r191 := hid (row_on r172.out bX189)
              have r192 := hid (row_on r173.out bX189)
              have DX189 := hid (btr DX171.out bX189)
              have zX189 : X189.heap[X171.heap.size]? = some (.cells #[.int .i64 0, .int .u64 0, .int .u64 0, .int .u64 0, .int .u64 0] 38 (0, 0)) := by rw [← hX189]; exact World.alloc_heap_new _ _
              have yg190 := DX171.out.size
              obtain ⟨g190, hg190⟩ : ∃ g, X171.heap.size = g := ⟨_, rfl⟩
              have n193 : g190 ≠ R := by have := row_lt r172.out; omega
              have n194 : g190 ≠ g168 := by have := row_lt r173.out; omega
              rw [hg190] at zX189 yg190
              have ZX189 := hid zX189
              rw [hX189, hg190]
              clear hX189 hg190 zX189 bX189
              refine hK.out _ _ ?_ (fun hHeld => ?_)
              · (try dsimp only); exact ⟨row_cell r191.out 0, row_cell r191.out 1, row_cell r191.out 2⟩
              clear hK K
              try simp only [List.getElem_toArray, List.getElem_cons_succ, List.getElem_cons_zero, Act.put, List.setIfInBounds_toArray, List.set_cons_zero, List.set_cons_succ]
              refine wpAnyH_ready (rs := [11]) (by kernel_rfl) (by simp) ?_
              refine (AllReadyH.cons (o := _) rfl (fun K hK => ?_) AllReadyH.nil)
              go_simp
              go_at_call 7
              with_reducible refine (CPb.out X189 DX189.out).mono ?_
              rintro e X195 ⟨rfl, DbX195⟩
              have r196 := hid (row_on r191.out DbX195.out)
              have r197 := hid (row_on r192.out DbX195.out)
              have r198 := hid (row_on ZX189.out DbX195.out)
              have DX195 := hid (btr DX189.out DbX195.out)
              have UX195 := hid (DX189.out.size)
              (try go_wp2_with fail)
              refine hK.out _ _ ?_ (fun hHeld => ?_)
              · (try dsimp only); exact ⟨row_cell r196.out 0, row_cell r196.out 1, row_cell r196.out 2⟩
              clear hK K
              try simp only [List.getElem_toArray, List.getElem_cons_succ, List.getElem_cons_zero, Act.put, List.setIfInBounds_toArray, List.set_cons_zero, List.set_cons_succ]
              refine wpAnyH_ready (rs := [14]) (by kernel_rfl) (by simp) ?_
              refine (AllReadyH.cons (o := _) rfl (fun K hK => ?_) AllReadyH.nil)
              refine step_store_row (by rfl) 38 (.tmp 11) (.tmp 58) (by rfl) g190 #[.int .i64 pa.qt, .int .u64 (hiW pa.co), .int .u64 (loW pa.co), .int .u64 (hiW pa.ga), .int .u64 (loW pa.ga)] (by rfl) (by rfl) 38 _ r198.out infoPo5 (by rfl) (by simp [Value.oneCell']) ?_
              obtain ⟨Y199, hY199⟩ : ∃ Y, X195.setRow g190 #[.int .i64 pa.qt, .int .u64 (hiW pa.co), .int .u64 (loW pa.co), .int .u64 (hiW pa.ga), .int .u64 (loW pa.ga)] = Y := ⟨_, rfl⟩
              have KY199 := hid (show Kp (fun j => j = g190) X195 Y199 from by rw [← hY199]; exact setRow_kp _ _ _)
              have AY199 := hid (show Y199.heap[g190]? = some (.cells #[.int .i64 pa.qt, .int .u64 (hiW pa.co), .int .u64 (loW pa.co), .int .u64 (hiW pa.ga), .int .u64 (loW pa.ga)] 38 (0, 0)) from by rw [← hY199]; exact setRow_heap X195 g190 _ _ 38 (0, 0) r198.out)
              have DY199 := hid (show Below w10.heap.size w10 Y199 from by rw [← hY199]; exact setRow_below DX195.out yg190)
              have r200 := hid (KY199.out.row r196.out (fun e => n193.symm e))
              have r201 := hid (KY199.out.row r197.out (fun e => n194.symm e))
              rw [hY199]
              refine hK.out _ _ ?_ (fun hHeld => ?_)
              · (try dsimp only); exact ⟨row_cell r200.out 0, row_cell r200.out 1, row_cell r200.out 2⟩
              clear hK K hY199
              try simp only [List.getElem_toArray, List.getElem_cons_succ, List.getElem_cons_zero, Act.put, List.setIfInBounds_toArray, List.set_cons_zero, List.set_cons_succ]
              refine wpAnyH_ready (rs := [15]) (by kernel_rfl) (by simp) ?_
              refine (AllReadyH.cons (o := _) rfl (fun K hK => ?_) AllReadyH.nil)
              refine step_store_row (by rfl) 38 (.tmp 12) (.tmp 64) (by rfl) g168 #[.int .i64 pb.qt, .int .u64 (hiW pb.co), .int .u64 (loW pb.co), .int .u64 (hiW pb.ga), .int .u64 (loW pb.ga)] (by rfl) (by rfl) 38 _ r201.out infoPo5 (by rfl) (by simp [Value.oneCell']) ?_
              obtain ⟨Y202, hY202⟩ : ∃ Y, Y199.setRow g168 #[.int .i64 pb.qt, .int .u64 (hiW pb.co), .int .u64 (loW pb.co), .int .u64 (hiW pb.ga), .int .u64 (loW pb.ga)] = Y := ⟨_, rfl⟩
              have KY202 := hid (show Kp (fun j => j = g168) Y199 Y202 from by rw [← hY202]; exact setRow_kp _ _ _)
              have AY202 := hid (show Y202.heap[g168]? = some (.cells #[.int .i64 pb.qt, .int .u64 (hiW pb.co), .int .u64 (loW pb.co), .int .u64 (hiW pb.ga), .int .u64 (loW pb.ga)] 38 (0, 0)) from by rw [← hY202]; exact setRow_heap Y199 g168 _ _ 38 (0, 0) r201.out)
              have DY202 := hid (show Below w10.heap.size w10 Y202 from by rw [← hY202]; exact setRow_below DY199.out yg168)
              have r203 := hid (KY202.out.row r200.out (fun e => n170.symm e))
              have r204 := hid (KY202.out.row AY199.out (fun e => n194 e))
              rw [hY202]
              refine hK.out _ _ ?_ (fun hHeld => ?_)
              · (try dsimp only); exact ⟨row_cell r203.out 0, row_cell r203.out 1, row_cell r203.out 2⟩
              clear hK K hY202
              try simp only [List.getElem_toArray, List.getElem_cons_succ, List.getElem_cons_zero, Act.put, List.setIfInBounds_toArray, List.set_cons_zero, List.set_cons_succ]
              refine wpAnyH_done (by kernel_rfl) ?_ _
              exact ⟨(g190, g168), by kernel_rfl, DY202, r204, AY202, yg190, yg168⟩
          · go_simp
            obtain ⟨X205, hX205⟩ : ∃ X, X167.alloc (.cells #[.int .i64 0, .int .u64 0, .int .u64 0, .int .u64 0, .int .u64 0] 38) = X := ⟨_, rfl⟩
            have bX205 : Below X167.heap.size X167 X205 := by rw [← hX205]; exact ball _ _
            have r207 := hid (row_on r169.out bX205)
            have r208 := hid (row_on ZX167.out bX205)
            have DX205 := hid (btr DX167.out bX205)
            have zX205 : X205.heap[X167.heap.size]? = some (.cells #[.int .i64 0, .int .u64 0, .int .u64 0, .int .u64 0, .int .u64 0] 38 (0, 0)) := by rw [← hX205]; exact World.alloc_heap_new _ _
            have yg206 := DX167.out.size
            obtain ⟨g206, hg206⟩ : ∃ g, X167.heap.size = g := ⟨_, rfl⟩
            have n209 : g206 ≠ R := by have := row_lt r169.out; omega
            have n210 : g206 ≠ g168 := by have := row_lt ZX167.out; omega
            rw [hg206] at zX205 yg206
            have ZX205 := hid zX205
            rw [hX205, hg206]
            clear hX205 hg206 zX205 bX205
            refine hK.out _ _ ?_ (fun hHeld => ?_)
            · (try dsimp only); exact ⟨row_cell r207.out 0, row_cell r207.out 1, row_cell r207.out 2⟩
            clear hK K
            try simp only [List.getElem_toArray, List.getElem_cons_succ, List.getElem_cons_zero, Act.put, List.setIfInBounds_toArray, List.set_cons_zero, List.set_cons_succ]
            refine wpAnyH_ready (rs := [5]) (by kernel_rfl) (by simp) ?_
            refine (AllReadyH.cons (o := _) rfl (fun K hK => ?_) AllReadyH.nil)
            go_simp
            go_at_call 7
            with_reducible refine (CPa.out X205 DX205.out).mono ?_
            rintro e X211 ⟨rfl, DbX211⟩
            have r212 := hid (row_on r207.out DbX211.out)
            have r213 := hid (row_on r208.out DbX211.out)
            have r214 := hid (row_on ZX205.out DbX211.out)
            have DX211 := hid (btr DX205.out DbX211.out)
            have UX211 := hid (DX205.out.size)
            (try go_wp2_with fail)
            refine hK.out _ _ ?_ (fun hHeld => ?_)
            · (try dsimp only); exact ⟨row_cell r212.out 0, row_cell r212.out 1, row_cell r212.out 2⟩
            clear hK K
            try simp only [List.getElem_toArray, List.getElem_cons_succ, List.getElem_cons_zero, Act.put, List.setIfInBounds_toArray, List.set_cons_zero, List.set_cons_succ]
            refine wpAnyH_ready (rs := [11]) (by kernel_rfl) (by simp) ?_
            refine (AllReadyH.cons (o := _) rfl (fun K hK => ?_) AllReadyH.nil)
            go_simp
            go_at_call 7
            with_reducible refine (CPb.out X211 DX211.out).mono ?_
            rintro e X215 ⟨rfl, DbX215⟩
            have r216 := hid (row_on r212.out DbX215.out)
            have r217 := hid (row_on r213.out DbX215.out)
            have r218 := hid (row_on r214.out DbX215.out)
            have DX215 := hid (btr DX211.out DbX215.out)
            have UX215 := hid (DX211.out.size)
            (try go_wp2_with fail)
            refine hK.out _ _ ?_ (fun hHeld => ?_)
            · (try dsimp only); exact ⟨row_cell r216.out 0, row_cell r216.out 1, row_cell r216.out 2⟩
            clear hK K
            try simp only [List.getElem_toArray, List.getElem_cons_succ, List.getElem_cons_zero, Act.put, List.setIfInBounds_toArray, List.set_cons_zero, List.set_cons_succ]
            refine wpAnyH_ready (rs := [14]) (by kernel_rfl) (by simp) ?_
            refine (AllReadyH.cons (o := _) rfl (fun K hK => ?_) AllReadyH.nil)
            refine step_store_row (by rfl) 38 (.tmp 11) (.tmp 58) (by rfl) g206 #[.int .i64 pa.qt, .int .u64 (hiW pa.co), .int .u64 (loW pa.co), .int .u64 (hiW pa.ga), .int .u64 (loW pa.ga)] (by rfl) (by rfl) 38 _ r218.out infoPo5 (by rfl) (by simp [Value.oneCell']) ?_
            obtain ⟨Y219, hY219⟩ : ∃ Y, X215.setRow g206 #[.int .i64 pa.qt, .int .u64 (hiW pa.co), .int .u64 (loW pa.co), .int .u64 (hiW pa.ga), .int .u64 (loW pa.ga)] = Y := ⟨_, rfl⟩
            have KY219 := hid (show Kp (fun j => j = g206) X215 Y219 from by rw [← hY219]; exact setRow_kp _ _ _)
            have AY219 := hid (show Y219.heap[g206]? = some (.cells #[.int .i64 pa.qt, .int .u64 (hiW pa.co), .int .u64 (loW pa.co), .int .u64 (hiW pa.ga), .int .u64 (loW pa.ga)] 38 (0, 0)) from by rw [← hY219]; exact setRow_heap X215 g206 _ _ 38 (0, 0) r218.out)
            have DY219 := hid (show Below w10.heap.size w10 Y219 from by rw [← hY219]; exact setRow_below DX215.out yg206)
            have r220 := hid (KY219.out.row r216.out (fun e => n209.symm e))
            have r221 := hid (KY219.out.row r217.out (fun e => n210.symm e))
            rw [hY219]
            refine hK.out _ _ ?_ (fun hHeld => ?_)
            · (try dsimp only); exact ⟨row_cell r220.out 0, row_cell r220.out 1, row_cell r220.out 2⟩
            clear hK K hY219
            try simp only [List.getElem_toArray, List.getElem_cons_succ, List.getElem_cons_zero, Act.put, List.setIfInBounds_toArray, List.set_cons_zero, List.set_cons_succ]
            refine wpAnyH_ready (rs := [15]) (by kernel_rfl) (by simp) ?_
            refine (AllReadyH.cons (o := _) rfl (fun K hK => ?_) AllReadyH.nil)
            refine step_store_row (by rfl) 38 (.tmp 12) (.tmp 64) (by rfl) g168 #[.int .i64 pb.qt, .int .u64 (hiW pb.co), .int .u64 (loW pb.co), .int .u64 (hiW pb.ga), .int .u64 (loW pb.ga)] (by rfl) (by rfl) 38 _ r221.out infoPo5 (by rfl) (by simp [Value.oneCell']) ?_
            obtain ⟨Y222, hY222⟩ : ∃ Y, Y219.setRow g168 #[.int .i64 pb.qt, .int .u64 (hiW pb.co), .int .u64 (loW pb.co), .int .u64 (hiW pb.ga), .int .u64 (loW pb.ga)] = Y := ⟨_, rfl⟩
            have KY222 := hid (show Kp (fun j => j = g168) Y219 Y222 from by rw [← hY222]; exact setRow_kp _ _ _)
            have AY222 := hid (show Y222.heap[g168]? = some (.cells #[.int .i64 pb.qt, .int .u64 (hiW pb.co), .int .u64 (loW pb.co), .int .u64 (hiW pb.ga), .int .u64 (loW pb.ga)] 38 (0, 0)) from by rw [← hY222]; exact setRow_heap Y219 g168 _ _ 38 (0, 0) r221.out)
            have DY222 := hid (show Below w10.heap.size w10 Y222 from by rw [← hY222]; exact setRow_below DY219.out yg168)
            have r223 := hid (KY222.out.row r220.out (fun e => n170.symm e))
            have r224 := hid (KY222.out.row AY219.out (fun e => n210 e))
            rw [hY222]
            refine hK.out _ _ ?_ (fun hHeld => ?_)
            · (try dsimp only); exact ⟨row_cell r223.out 0, row_cell r223.out 1, row_cell r223.out 2⟩
            clear hK K hY222
            try simp only [List.getElem_toArray, List.getElem_cons_succ, List.getElem_cons_zero, Act.put, List.setIfInBounds_toArray, List.set_cons_zero, List.set_cons_succ]
            refine wpAnyH_done (by kernel_rfl) ?_ _
            exact ⟨(g206, g168), by kernel_rfl, DY222, r224, AY222, yg206, yg168⟩
      rintro ⟨t1, t2⟩ V1 ⟨B11, GA, GB, N1, N2⟩
      try simp only [List.getElem_toArray, List.getElem_cons_succ, List.getElem_cons_zero, Act.put, List.setIfInBounds_toArray, List.set_cons_zero, List.set_cons_succ]
      dsimp only at GA GB N1 N2
      have BV1 := hid (btr B10.out B11.out)
      have GD1 := hid (row_on GD10.out B11.out)
      clear CPa CPb GD10
      have CBk := hid (show Calls Try.prog 8 #[.pointer (some ⟨G, 0, none⟩), .agg #[.int .u32 it, .int .u32 bu, .int .u32 se, .int .i64 ta9, .int .i64 pr, .int .u64 qt]] V1 _ from book_any (LG.out.on BV1.out) ⟨it, bu, se, ta9, pr, qt⟩ HZ.out (by have := HMM.out; omega))
      go_upto_region 12 with fail
      have d0 := row_cell GD1.out 0
      have d1 := row_cell GD1.out 1
      have d2 := row_cell GD1.out 2
      have d3 := row_cell GD1.out 3
      have d4 := row_cell GD1.out 4
      have d5 := row_cell GD1.out 5
      simp only [List.getElem?_toArray, List.getElem?_cons_succ, List.getElem?_cons_zero] at d0 d1 d2 d3 d4 d5
      go_upto_region 13 with (go_at_call 8; with_reducible refine CBk.out.mono ?_; rintro e Z ⟨r, s', O', rfl, z1, z2, z3, z4⟩; have LZ := hid z1; have KZ := hid z2; have EZ := hid z3; have HCZ := hid z4; clear z1 z2 z3 z4)
      clear d0 d1 d2 d3 d4 d5 CBk
      have GDz := hid (KZ.out.row GD1.out (fun e => by have := HLR.out _ e; omega))
      have GAz := hid (KZ.out.row GA.out (fun e => by have h1 := HLR.out _ e; have h2 := N1.out; have h3 := B10.out.size; have h4 := HR.out; omega))
      have GBz := hid (KZ.out.row GB.out (fun e => by have h1 := HLR.out _ e; have h2 := N2.out; have h3 := B10.out.size; have h4 := HR.out; omega))
      have NZ := hid (Nl.step (btr HBW.out BV1.out) HOW.out ⟨O', LZ.out, KZ.out, EZ.out⟩)
      obtain ⟨pc, hpc⟩ : ∃ x, s'.g bu it = x := ⟨_, rfl⟩
      obtain ⟨pe, hpe⟩ : ∃ x, s'.g se it = x := ⟨_, rfl⟩
      have CQa := hid (show ∀ U, Below Z.heap.size Z U → Calls Try.prog 7 #[.pointer (some ⟨G, 0, none⟩), .int .u32 bu, .int .u32 it] U fun e w' => e = .returned (.agg pc.row) ∧ Hid (Below U.heap.size U w') from fun U hU => by rw [← hpc]; exact position_any (LZ.out.on hU) bu it HZ.out.bu HZ.out.it)
      have CQb := hid (show ∀ U, Below Z.heap.size Z U → Calls Try.prog 7 #[.pointer (some ⟨G, 0, none⟩), .int .u32 se, .int .u32 it] U fun e w' => e = .returned (.agg pe.row) ∧ Hid (Below U.heap.size U w') from fun U hU => by rw [← hpe]; exact position_any (LZ.out.on hU) se it HZ.out.se HZ.out.it)
      unfold Po.row at CQa CQb
      have HPC := hid hpc
      have HPE := hid hpe
      clear hpc hpe GA GB GD1 N1 N2
      refine reg_cut (X := Nat × Nat) (fun a t => ((((((((((((((a.put (some 68) (.pointer (some ⟨G, 0, none⟩))).put (some 69) (.pointer (some ⟨R, 1, none⟩))).put (some 70) (.int .u32 bu)).put (some 71) (.pointer (some ⟨R, 0, none⟩))).put (some 72) (.int .u32 it)).put (some 73) (.agg #[.int .i64 pc.qt, .int .u64 (hiW pc.co), .int .u64 (loW pc.co), .int .u64 (hiW pc.ga), .int .u64 (loW pc.ga)])).put (some 74) (.pointer (some ⟨G, 0, none⟩))).put (some 75) (.pointer (some ⟨R, 2, none⟩))).put (some 76) (.int .u32 se)).put (some 77) (.pointer (some ⟨R, 0, none⟩))).put (some 78) (.int .u32 it)).put (some 79) (.agg #[.int .i64 pe.qt, .int .u64 (hiW pe.co), .int .u64 (loW pe.co), .int .u64 (hiW pe.ga), .int .u64 (loW pe.ga)])).put (some 14) (.pointer (some ⟨t.1, 0, none⟩))).put (some 15) (.pointer (some ⟨t.2, 0, none⟩)))) (fun t V => Hid (Below Z.heap.size Z V) ∧ Hid (V.heap[t.1]? = some (.cells #[.int .i64 pc.qt, .int .u64 (hiW pc.co), .int .u64 (loW pc.co), .int .u64 (hiW pc.ga), .int .u64 (loW pc.ga)] 38 (0, 0))) ∧ Hid (V.heap[t.2]? = some (.cells #[.int .i64 pe.qt, .int .u64 (hiW pe.co), .int .u64 (loW pe.co), .int .u64 (hiW pe.ga), .int .u64 (loW pe.ga)] 38 (0, 0))) ∧ Hid (Z.heap.size ≤ t.1) ∧ Hid (Z.heap.size ≤ t.2)) ?_ ?_
      · obtain ⟨V225, hV225⟩ : ∃ U, Z.drew = U := ⟨_, rfl⟩
        have BV225 := hid (show Below Z.heap.size Z V225 from by rw [← hV225]; exact bdrew1 _)
        have r226 := hid (row_on GDz.out BV225.out)
        refine wp_region_held_drew (S := (fun U => U.cell? ⟨R, 0, none⟩ = some (.int .u32 it) ∧ U.cell? ⟨R, 1, none⟩ = some (.int .u32 bu) ∧ U.cell? ⟨R, 2, none⟩ = some (.int .u32 se))) (by kernel_rfl) ?_ (fun hHeld => ?_)
        · (try dsimp only); rw [hV225]; exact ⟨row_cell r226.out 0, row_cell r226.out 1, row_cell r226.out 2⟩
        rw [hV225] at hHeld ⊢
        clear hV225
        refine' wpAnyH_take (i := 0) (oi := _) (v := _) rfl (by kernel_rfl) (by kernel_rfl) (by kernel_rfl) (fun _ _ _ h => h) (Or.inl ⟨by kernel_rfl, ?_⟩) (by assumption) ?_
        rotate_left
        · (intro w hSw; (try dsimp only at hSw); go_simp; try (with_reducible rfl))
        try simp only [List.getElem_toArray, List.getElem_cons_succ, List.getElem_cons_zero, Act.put, List.setIfInBounds_toArray, List.set_cons_zero, List.set_cons_succ]
        refine' wpAnyH_take (i := 1) (oi := _) (v := _) rfl (by kernel_rfl) (by kernel_rfl) (by kernel_rfl) (fun _ _ _ h => h) (Or.inl ⟨by kernel_rfl, ?_⟩) (by assumption) ?_
        rotate_left
        · (intro w hSw; (try dsimp only at hSw); go_simp; try (with_reducible rfl))
        try simp only [List.getElem_toArray, List.getElem_cons_succ, List.getElem_cons_zero, Act.put, List.setIfInBounds_toArray, List.set_cons_zero, List.set_cons_succ]
        refine' wpAnyH_take (i := 2) (oi := _) (v := _) rfl (by kernel_rfl) (by kernel_rfl) (by kernel_rfl) (fun _ _ _ h => h) (Or.inl ⟨by kernel_rfl, ?_⟩) (by assumption) ?_
        rotate_left
        · (intro w hSw; (try dsimp only at hSw); go_simp; try (with_reducible rfl))
        try simp only [List.getElem_toArray, List.getElem_cons_succ, List.getElem_cons_zero, Act.put, List.setIfInBounds_toArray, List.set_cons_zero, List.set_cons_succ]
        refine' wpAnyH_take (i := 3) (oi := _) (v := _) rfl (by kernel_rfl) (by kernel_rfl) (by kernel_rfl) (fun _ _ _ h => h) (Or.inl ⟨by kernel_rfl, ?_⟩) (by assumption) ?_
        rotate_left
        · (intro w hSw; (try dsimp only at hSw); go_simp; try (with_reducible rfl))
        try simp only [List.getElem_toArray, List.getElem_cons_succ, List.getElem_cons_zero, Act.put, List.setIfInBounds_toArray, List.set_cons_zero, List.set_cons_succ]
        refine' wpAnyH_take (i := 4) (oi := _) (v := _) rfl (by kernel_rfl) (by kernel_rfl) (by kernel_rfl) (fun _ _ _ h => h) (Or.inl ⟨by kernel_rfl, ?_⟩) (by assumption) ?_
        rotate_left
        · (intro w hSw; (try dsimp only at hSw); go_simp; try (with_reducible rfl))
        try simp only [List.getElem_toArray, List.getElem_cons_succ, List.getElem_cons_zero, Act.put, List.setIfInBounds_toArray, List.set_cons_zero, List.set_cons_succ]
        refine' wpAnyH_take (i := 6) (oi := _) (v := _) rfl (by kernel_rfl) (by kernel_rfl) (by kernel_rfl) (fun _ _ _ h => h) (Or.inl ⟨by kernel_rfl, ?_⟩) (by assumption) ?_
        rotate_left
        · (intro w hSw; (try dsimp only at hSw); go_simp; try (with_reducible rfl))
        try simp only [List.getElem_toArray, List.getElem_cons_succ, List.getElem_cons_zero, Act.put, List.setIfInBounds_toArray, List.set_cons_zero, List.set_cons_succ]
        refine' wpAnyH_take (i := 7) (oi := _) (v := _) rfl (by kernel_rfl) (by kernel_rfl) (by kernel_rfl) (fun _ _ _ h => h) (Or.inl ⟨by kernel_rfl, ?_⟩) (by assumption) ?_
        rotate_left
        · (intro w hSw; (try dsimp only at hSw); go_simp; try (with_reducible rfl))
        try simp only [List.getElem_toArray, List.getElem_cons_succ, List.getElem_cons_zero, Act.put, List.setIfInBounds_toArray, List.set_cons_zero, List.set_cons_succ]
        refine' wpAnyH_take (i := 8) (oi := _) (v := _) rfl (by kernel_rfl) (by kernel_rfl) (by kernel_rfl) (fun _ _ _ h => h) (Or.inl ⟨by kernel_rfl, ?_⟩) (by assumption) ?_
        rotate_left
        · (intro w hSw; (try dsimp only at hSw); go_simp; try (with_reducible rfl))
        try simp only [List.getElem_toArray, List.getElem_cons_succ, List.getElem_cons_zero, Act.put, List.setIfInBounds_toArray, List.set_cons_zero, List.set_cons_succ]
        refine' wpAnyH_take (i := 9) (oi := _) (v := _) rfl (by kernel_rfl) (by kernel_rfl) (by kernel_rfl) (fun _ _ _ h => h) (Or.inl ⟨by kernel_rfl, ?_⟩) (by assumption) ?_
        rotate_left
        · (intro w hSw; (try dsimp only at hSw); go_simp; try (with_reducible rfl))
        try simp only [List.getElem_toArray, List.getElem_cons_succ, List.getElem_cons_zero, Act.put, List.setIfInBounds_toArray, List.set_cons_zero, List.set_cons_succ]
        refine' wpAnyH_take (i := 10) (oi := _) (v := _) rfl (by kernel_rfl) (by kernel_rfl) (by kernel_rfl) (fun _ _ _ h => h) (Or.inl ⟨by kernel_rfl, ?_⟩) (by assumption) ?_
        rotate_left
        · (intro w hSw; (try dsimp only at hSw); go_simp; try (with_reducible rfl))
        try simp only [List.getElem_toArray, List.getElem_cons_succ, List.getElem_cons_zero, Act.put, List.setIfInBounds_toArray, List.set_cons_zero, List.set_cons_succ]
        refine wpAnyH_ready (rs := [5, 12, 13]) (by kernel_rfl) (by simp) ?_
        refine (AllReadyH.cons (o := _) rfl (fun K hK => ?_) (AllReadyH.cons (o := _) rfl (fun K hK => ?_) (AllReadyH.cons (o := _) rfl (fun K hK => ?_) AllReadyH.nil)))
        · go_simp
          go_at_call 7
          with_reducible refine (CQa.out V225 BV225.out).mono ?_
          rintro e X227 ⟨rfl, DbX227⟩
          have r228 := hid (row_on r226.out DbX227.out)
          have DX227 := hid (btr BV225.out DbX227.out)
          have UX227 := hid (BV225.out.size)
          (try go_wp2_with fail)
          refine hK.out _ _ ?_ (fun hHeld => ?_)
          · (try dsimp only); exact ⟨row_cell r228.out 0, row_cell r228.out 1, row_cell r228.out 2⟩
          clear hK K
          try simp only [List.getElem_toArray, List.getElem_cons_succ, List.getElem_cons_zero, Act.put, List.setIfInBounds_toArray, List.set_cons_zero, List.set_cons_succ]
          refine wpAnyH_ready (rs := [11, 12, 13]) (by kernel_rfl) (by simp) ?_
          refine (AllReadyH.cons (o := _) rfl (fun K hK => ?_) (AllReadyH.cons (o := _) rfl (fun K hK => ?_) (AllReadyH.cons (o := _) rfl (fun K hK => ?_) AllReadyH.nil)))
          · go_simp
            go_at_call 7
            with_reducible refine (CQb.out X227 DX227.out).mono ?_
            rintro e X229 ⟨rfl, DbX229⟩
            have r230 := hid (row_on r228.out DbX229.out)
            have DX229 := hid (btr DX227.out DbX229.out)
            have UX229 := hid (DX227.out.size)
            (try go_wp2_with fail)
            refine hK.out _ _ ?_ (fun hHeld => ?_)
            · (try dsimp only); exact ⟨row_cell r230.out 0, row_cell r230.out 1, row_cell r230.out 2⟩
            clear hK K
            try simp only [List.getElem_toArray, List.getElem_cons_succ, List.getElem_cons_zero, Act.put, List.setIfInBounds_toArray, List.set_cons_zero, List.set_cons_succ]
            refine wpAnyH_ready (rs := [12, 13]) (by kernel_rfl) (by simp) ?_
            refine (AllReadyH.cons (o := _) rfl (fun K hK => ?_) (AllReadyH.cons (o := _) rfl (fun K hK => ?_) AllReadyH.nil))
            · go_simp
              obtain ⟨X231, hX231⟩ : ∃ X, X229.alloc (.cells #[.int .i64 0, .int .u64 0, .int .u64 0, .int .u64 0, .int .u64 0] 38) = X := ⟨_, rfl⟩
              have bX231 : Below X229.heap.size X229 X231 := by rw [← hX231]; exact ball _ _
              have r233 := hid (row_on r230.out bX231)
              have DX231 := hid (btr DX229.out bX231)
              have zX231 : X231.heap[X229.heap.size]? = some (.cells #[.int .i64 0, .int .u64 0, .int .u64 0, .int .u64 0, .int .u64 0] 38 (0, 0)) := by rw [← hX231]; exact World.alloc_heap_new _ _
              have yg232 := DX229.out.size
              obtain ⟨g232, hg232⟩ : ∃ g, X229.heap.size = g := ⟨_, rfl⟩
              have n234 : g232 ≠ R := by have := row_lt r230.out; omega
              rw [hg232] at zX231 yg232
              have ZX231 := hid zX231
              rw [hX231, hg232]
              clear hX231 hg232 zX231 bX231
              refine hK.out _ _ ?_ (fun hHeld => ?_)
              · (try dsimp only); exact ⟨row_cell r233.out 0, row_cell r233.out 1, row_cell r233.out 2⟩
              clear hK K
              try simp only [List.getElem_toArray, List.getElem_cons_succ, List.getElem_cons_zero, Act.put, List.setIfInBounds_toArray, List.set_cons_zero, List.set_cons_succ]
              refine wpAnyH_ready (rs := [13]) (by kernel_rfl) (by simp) ?_
              refine (AllReadyH.cons (o := _) rfl (fun K hK => ?_) AllReadyH.nil)
              go_simp
              obtain ⟨X235, hX235⟩ : ∃ X, X231.alloc (.cells #[.int .i64 0, .int .u64 0, .int .u64 0, .int .u64 0, .int .u64 0] 38) = X := ⟨_, rfl⟩
              have bX235 : Below X231.heap.size X231 X235 := by rw [← hX235]; exact ball _ _
              have r237 := hid (row_on r233.out bX235)
              have r238 := hid (row_on ZX231.out bX235)
              have DX235 := hid (btr DX231.out bX235)
              have zX235 : X235.heap[X231.heap.size]? = some (.cells #[.int .i64 0, .int .u64 0, .int .u64 0, .int .u64 0, .int .u64 0] 38 (0, 0)) := by rw [← hX235]; exact World.alloc_heap_new _ _
              have yg236 := DX231.out.size
              obtain ⟨g236, hg236⟩ : ∃ g, X231.heap.size = g := ⟨_, rfl⟩
              have n239 : g236 ≠ R := by have := row_lt r233.out; omega
              have n240 : g236 ≠ g232 := by have := row_lt ZX231.out; omega
              rw [hg236] at zX235 yg236
              have ZX235 := hid zX235
              rw [hX235, hg236]
              clear hX235 hg236 zX235 bX235
              refine hK.out _ _ ?_ (fun hHeld => ?_)
              · (try dsimp only); exact ⟨row_cell r237.out 0, row_cell r237.out 1, row_cell r237.out 2⟩
              clear hK K
              try simp only [List.getElem_toArray, List.getElem_cons_succ, List.getElem_cons_zero, Act.put, List.setIfInBounds_toArray, List.set_cons_zero, List.set_cons_succ]
              refine wpAnyH_ready (rs := [14]) (by kernel_rfl) (by simp) ?_
              refine (AllReadyH.cons (o := _) rfl (fun K hK => ?_) AllReadyH.nil)
              refine step_store_row (by rfl) 38 (.tmp 14) (.tmp 73) (by rfl) g232 #[.int .i64 pc.qt, .int .u64 (hiW pc.co), .int .u64 (loW pc.co), .int .u64 (hiW pc.ga), .int .u64 (loW pc.ga)] (by rfl) (by rfl) 38 _ r238.out infoPo5 (by rfl) (by simp [Value.oneCell']) ?_
              obtain ⟨Y241, hY241⟩ : ∃ Y, X235.setRow g232 #[.int .i64 pc.qt, .int .u64 (hiW pc.co), .int .u64 (loW pc.co), .int .u64 (hiW pc.ga), .int .u64 (loW pc.ga)] = Y := ⟨_, rfl⟩
              have KY241 := hid (show Kp (fun j => j = g232) X235 Y241 from by rw [← hY241]; exact setRow_kp _ _ _)
              have AY241 := hid (show Y241.heap[g232]? = some (.cells #[.int .i64 pc.qt, .int .u64 (hiW pc.co), .int .u64 (loW pc.co), .int .u64 (hiW pc.ga), .int .u64 (loW pc.ga)] 38 (0, 0)) from by rw [← hY241]; exact setRow_heap X235 g232 _ _ 38 (0, 0) r238.out)
              have DY241 := hid (show Below Z.heap.size Z Y241 from by rw [← hY241]; exact setRow_below DX235.out yg232)
              have r242 := hid (KY241.out.row r237.out (fun e => n234.symm e))
              have r243 := hid (KY241.out.row ZX235.out (fun e => n240 e))
              rw [hY241]
              refine hK.out _ _ ?_ (fun hHeld => ?_)
              · (try dsimp only); exact ⟨row_cell r242.out 0, row_cell r242.out 1, row_cell r242.out 2⟩
              clear hK K hY241
              try simp only [List.getElem_toArray, List.getElem_cons_succ, List.getElem_cons_zero, Act.put, List.setIfInBounds_toArray, List.set_cons_zero, List.set_cons_succ]
              refine wpAnyH_ready (rs := [15]) (by kernel_rfl) (by simp) ?_
              refine (AllReadyH.cons (o := _) rfl (fun K hK => ?_) AllReadyH.nil)
              refine step_store_row (by rfl) 38 (.tmp 15) (.tmp 79) (by rfl) g236 #[.int .i64 pe.qt, .int .u64 (hiW pe.co), .int .u64 (loW pe.co), .int .u64 (hiW pe.ga), .int .u64 (loW pe.ga)] (by rfl) (by rfl) 38 _ r243.out infoPo5 (by rfl) (by simp [Value.oneCell']) ?_
              obtain ⟨Y244, hY244⟩ : ∃ Y, Y241.setRow g236 #[.int .i64 pe.qt, .int .u64 (hiW pe.co), .int .u64 (loW pe.co), .int .u64 (hiW pe.ga), .int .u64 (loW pe.ga)] = Y := ⟨_, rfl⟩
              have KY244 := hid (show Kp (fun j => j = g236) Y241 Y244 from by rw [← hY244]; exact setRow_kp _ _ _)
              have AY244 := hid (show Y244.heap[g236]? = some (.cells #[.int .i64 pe.qt, .int .u64 (hiW pe.co), .int .u64 (loW pe.co), .int .u64 (hiW pe.ga), .int .u64 (loW pe.ga)] 38 (0, 0)) from by rw [← hY244]; exact setRow_heap Y241 g236 _ _ 38 (0, 0) r243.out)
              have DY244 := hid (show Below Z.heap.size Z Y244 from by rw [← hY244]; exact setRow_below DY241.out yg236)
              have r245 := hid (KY244.out.row r242.out (fun e => n239.symm e))
              have r246 := hid (KY244.out.row AY241.out (fun e => n240.symm e))
              rw [hY244]
              refine hK.out _ _ ?_ (fun hHeld => ?_)
              · (try dsimp only); exact ⟨row_cell r245.out 0, row_cell r245.out 1, row_cell r245.out 2⟩
              clear hK K hY244
              try simp only [List.getElem_toArray, List.getElem_cons_succ, List.getElem_cons_zero, Act.put, List.setIfInBounds_toArray, List.set_cons_zero, List.set_cons_succ]
              refine wpAnyH_done (by kernel_rfl) ?_ _
              exact ⟨(g232, g236), by kernel_rfl, DY244, r246, AY244, yg232, yg236⟩
            · go_simp
              obtain ⟨X247, hX247⟩ : ∃ X, X229.alloc (.cells #[.int .i64 0, .int .u64 0, .int .u64 0, .int .u64 0, .int .u64 0] 38) = X := ⟨_, rfl⟩
              have bX247 : Below X229.heap.size X229 X247 := by rw [← hX247]; exact ball _ _
              have r249 := hid (row_on r230.out bX247)
              have DX247 := hid (btr DX229.out bX247)
              have zX247 : X247.heap[X229.heap.size]? = some (.cells #[.int .i64 0, .int .u64 0, .int .u64 0, .int .u64 0, .int .u64 0] 38 (0, 0)) := by rw [← hX247]; exact World.alloc_heap_new _ _
              have yg248 := DX229.out.size
              obtain ⟨g248, hg248⟩ : ∃ g, X229.heap.size = g := ⟨_, rfl⟩
              have n250 : g248 ≠ R := by have := row_lt r230.out; omega
              rw [hg248] at zX247 yg248
              have ZX247 := hid zX247
              rw [hX247, hg248]
              clear hX247 hg248 zX247 bX247
              refine hK.out _ _ ?_ (fun hHeld => ?_)
              · (try dsimp only); exact ⟨row_cell r249.out 0, row_cell r249.out 1, row_cell r249.out 2⟩
              clear hK K
              try simp only [List.getElem_toArray, List.getElem_cons_succ, List.getElem_cons_zero, Act.put, List.setIfInBounds_toArray, List.set_cons_zero, List.set_cons_succ]
              refine wpAnyH_ready (rs := [12]) (by kernel_rfl) (by simp) ?_
              refine (AllReadyH.cons (o := _) rfl (fun K hK => ?_) AllReadyH.nil)
              go_simp
              obtain ⟨X251, hX251⟩ : ∃ X, X247.alloc (.cells #[.int .i64 0, .int .u64 0, .int .u64 0, .int .u64 0, .int .u64 0] 38) = X := ⟨_, rfl⟩
              have bX251 : Below X247.heap.size X247 X251 := by rw [← hX251]; exact ball _ _
              have r253 := hid (row_on r249.out bX251)
              have r254 := hid (row_on ZX247.out bX251)
              have DX251 := hid (btr DX247.out bX251)
              have zX251 : X251.heap[X247.heap.size]? = some (.cells #[.int .i64 0, .int .u64 0, .int .u64 0, .int .u64 0, .int .u64 0] 38 (0, 0)) := by rw [← hX251]; exact World.alloc_heap_new _ _
              have yg252 := DX247.out.size
              obtain ⟨g252, hg252⟩ : ∃ g, X247.heap.size = g := ⟨_, rfl⟩
              have n255 : g252 ≠ R := by have := row_lt r249.out; omega
              have n256 : g252 ≠ g248 := by have := row_lt ZX247.out; omega
              rw [hg252] at zX251 yg252
              have ZX251 := hid zX251
              rw [hX251, hg252]
              clear hX251 hg252 zX251 bX251
              refine hK.out _ _ ?_ (fun hHeld => ?_)
              · (try dsimp only); exact ⟨row_cell r253.out 0, row_cell r253.out 1, row_cell r253.out 2⟩
              clear hK K
              try simp only [List.getElem_toArray, List.getElem_cons_succ, List.getElem_cons_zero, Act.put, List.setIfInBounds_toArray, List.set_cons_zero, List.set_cons_succ]
              refine wpAnyH_ready (rs := [14]) (by kernel_rfl) (by simp) ?_
              refine (AllReadyH.cons (o := _) rfl (fun K hK => ?_) AllReadyH.nil)
              refine step_store_row (by rfl) 38 (.tmp 14) (.tmp 73) (by rfl) g252 #[.int .i64 pc.qt, .int .u64 (hiW pc.co), .int .u64 (loW pc.co), .int .u64 (hiW pc.ga), .int .u64 (loW pc.ga)] (by rfl) (by rfl) 38 _ ZX251.out infoPo5 (by rfl) (by simp [Value.oneCell']) ?_
              obtain ⟨Y257, hY257⟩ : ∃ Y, X251.setRow g252 #[.int .i64 pc.qt, .int .u64 (hiW pc.co), .int .u64 (loW pc.co), .int .u64 (hiW pc.ga), .int .u64 (loW pc.ga)] = Y := ⟨_, rfl⟩
              have KY257 := hid (show Kp (fun j => j = g252) X251 Y257 from by rw [← hY257]; exact setRow_kp _ _ _)
              have AY257 := hid (show Y257.heap[g252]? = some (.cells #[.int .i64 pc.qt, .int .u64 (hiW pc.co), .int .u64 (loW pc.co), .int .u64 (hiW pc.ga), .int .u64 (loW pc.ga)] 38 (0, 0)) from by rw [← hY257]; exact setRow_heap X251 g252 _ _ 38 (0, 0) ZX251.out)
              have DY257 := hid (show Below Z.heap.size Z Y257 from by rw [← hY257]; exact setRow_below DX251.out yg252)
              have r258 := hid (KY257.out.row r253.out (fun e => n255.symm e))
              have r259 := hid (KY257.out.row r254.out (fun e => n256.symm e))
              rw [hY257]
              refine hK.out _ _ ?_ (fun hHeld => ?_)
              · (try dsimp only); exact ⟨row_cell r258.out 0, row_cell r258.out 1, row_cell r258.out 2⟩
              clear hK K hY257
              try simp only [List.getElem_toArray, List.getElem_cons_succ, List.getElem_cons_zero, Act.put, List.setIfInBounds_toArray, List.set_cons_zero, List.set_cons_succ]
              refine wpAnyH_ready (rs := [15]) (by kernel_rfl) (by simp) ?_
              refine (AllReadyH.cons (o := _) rfl (fun K hK => ?_) AllReadyH.nil)
              refine step_store_row (by rfl) 38 (.tmp 15) (.tmp 79) (by rfl) g248 #[.int .i64 pe.qt, .int .u64 (hiW pe.co), .int .u64 (loW pe.co), .int .u64 (hiW pe.ga), .int .u64 (loW pe.ga)] (by rfl) (by rfl) 38 _ r259.out infoPo5 (by rfl) (by simp [Value.oneCell']) ?_
              obtain ⟨Y260, hY260⟩ : ∃ Y, Y257.setRow g248 #[.int .i64 pe.qt, .int .u64 (hiW pe.co), .int .u64 (loW pe.co), .int .u64 (hiW pe.ga), .int .u64 (loW pe.ga)] = Y := ⟨_, rfl⟩
              have KY260 := hid (show Kp (fun j => j = g248) Y257 Y260 from by rw [← hY260]; exact setRow_kp _ _ _)
              have AY260 := hid (show Y260.heap[g248]? = some (.cells #[.int .i64 pe.qt, .int .u64 (hiW pe.co), .int .u64 (loW pe.co), .int .u64 (hiW pe.ga), .int .u64 (loW pe.ga)] 38 (0, 0)) from by rw [← hY260]; exact setRow_heap Y257 g248 _ _ 38 (0, 0) r259.out)
              have DY260 := hid (show Below Z.heap.size Z Y260 from by rw [← hY260]; exact setRow_below DY257.out yg248)
              have r261 := hid (KY260.out.row r258.out (fun e => n250.symm e))
              have r262 := hid (KY260.out.row AY257.out (fun e => n256 e))
              rw [hY260]
              refine hK.out _ _ ?_ (fun hHeld => ?_)
              · (try dsimp only); exact ⟨row_cell r261.out 0, row_cell r261.out 1, row_cell r261.out 2⟩
              clear hK K hY260
              try simp only [List.getElem_toArray, List.getElem_cons_succ, List.getElem_cons_zero, Act.put, List.setIfInBounds_toArray, List.set_cons_zero, List.set_cons_succ]
              refine wpAnyH_done (by kernel_rfl) ?_ _
              exact ⟨(g252, g248), by kernel_rfl, DY260, r262, AY260, yg252, yg248⟩
          · go_simp
            obtain ⟨X263, hX263⟩ : ∃ X, X227.alloc (.cells #[.int .i64 0, .int .u64 0, .int .u64 0, .int .u64 0, .int .u64 0] 38) = X := ⟨_, rfl⟩
            have bX263 : Below X227.heap.size X227 X263 := by rw [← hX263]; exact ball _ _
            have r265 := hid (row_on r228.out bX263)
            have DX263 := hid (btr DX227.out bX263)
            have zX263 : X263.heap[X227.heap.size]? = some (.cells #[.int .i64 0, .int .u64 0, .int .u64 0, .int .u64 0, .int .u64 0] 38 (0, 0)) := by rw [← hX263]; exact World.alloc_heap_new _ _
            have yg264 := DX227.out.size
            obtain ⟨g264, hg264⟩ : ∃ g, X227.heap.size = g := ⟨_, rfl⟩
            have n266 : g264 ≠ R := by have := row_lt r228.out; omega
            rw [hg264] at zX263 yg264
            have ZX263 := hid zX263
            rw [hX263, hg264]
            clear hX263 hg264 zX263 bX263
            refine hK.out _ _ ?_ (fun hHeld => ?_)
            · (try dsimp only); exact ⟨row_cell r265.out 0, row_cell r265.out 1, row_cell r265.out 2⟩
            clear hK K
            try simp only [List.getElem_toArray, List.getElem_cons_succ, List.getElem_cons_zero, Act.put, List.setIfInBounds_toArray, List.set_cons_zero, List.set_cons_succ]
            refine wpAnyH_ready (rs := [11, 13]) (by kernel_rfl) (by simp) ?_
            refine (AllReadyH.cons (o := _) rfl (fun K hK => ?_) (AllReadyH.cons (o := _) rfl (fun K hK => ?_) AllReadyH.nil))
            · go_simp
              go_at_call 7
              with_reducible refine (CQb.out X263 DX263.out).mono ?_
              rintro e X267 ⟨rfl, DbX267⟩
              have r268 := hid (row_on r265.out DbX267.out)
              have r269 := hid (row_on ZX263.out DbX267.out)
              have DX267 := hid (btr DX263.out DbX267.out)
              have UX267 := hid (DX263.out.size)
              (try go_wp2_with fail)
              refine hK.out _ _ ?_ (fun hHeld => ?_)
              · (try dsimp only); exact ⟨row_cell r268.out 0, row_cell r268.out 1, row_cell r268.out 2⟩
              clear hK K
              try simp only [List.getElem_toArray, List.getElem_cons_succ, List.getElem_cons_zero, Act.put, List.setIfInBounds_toArray, List.set_cons_zero, List.set_cons_succ]
              refine wpAnyH_ready (rs := [13]) (by kernel_rfl) (by simp) ?_
              refine (AllReadyH.cons (o := _) rfl (fun K hK => ?_) AllReadyH.nil)
              go_simp
              obtain ⟨X270, hX270⟩ : ∃ X, X267.alloc (.cells #[.int .i64 0, .int .u64 0, .int .u64 0, .int .u64 0, .int .u64 0] 38) = X := ⟨_, rfl⟩
              have bX270 : Below X267.heap.size X267 X270 := by rw [← hX270]; exact ball _ _
              have r272 := hid (row_on r268.out bX270)
              have r273 := hid (row_on r269.out bX270)
              have DX270 := hid (btr DX267.out bX270)
              have zX270 : X270.heap[X267.heap.size]? = some (.cells #[.int .i64 0, .int .u64 0, .int .u64 0, .int .u64 0, .int .u64 0] 38 (0, 0)) := by rw [← hX270]; exact World.alloc_heap_new _ _
              have yg271 := DX267.out.size
              obtain ⟨g271, hg271⟩ : ∃ g, X267.heap.size = g := ⟨_, rfl⟩
              have n274 : g271 ≠ R := by have := row_lt r268.out; omega
              have n275 : g271 ≠ g264 := by have := row_lt r269.out; omega
              rw [hg271] at zX270 yg271
              have ZX270 := hid zX270
              rw [hX270, hg271]
              clear hX270 hg271 zX270 bX270
              refine hK.out _ _ ?_ (fun hHeld => ?_)
              · (try dsimp only); exact ⟨row_cell r272.out 0, row_cell r272.out 1, row_cell r272.out 2⟩
              clear hK K
              try simp only [List.getElem_toArray, List.getElem_cons_succ, List.getElem_cons_zero, Act.put, List.setIfInBounds_toArray, List.set_cons_zero, List.set_cons_succ]
              refine wpAnyH_ready (rs := [14]) (by kernel_rfl) (by simp) ?_
              refine (AllReadyH.cons (o := _) rfl (fun K hK => ?_) AllReadyH.nil)
              refine step_store_row (by rfl) 38 (.tmp 14) (.tmp 73) (by rfl) g264 #[.int .i64 pc.qt, .int .u64 (hiW pc.co), .int .u64 (loW pc.co), .int .u64 (hiW pc.ga), .int .u64 (loW pc.ga)] (by rfl) (by rfl) 38 _ r273.out infoPo5 (by rfl) (by simp [Value.oneCell']) ?_
              obtain ⟨Y276, hY276⟩ : ∃ Y, X270.setRow g264 #[.int .i64 pc.qt, .int .u64 (hiW pc.co), .int .u64 (loW pc.co), .int .u64 (hiW pc.ga), .int .u64 (loW pc.ga)] = Y := ⟨_, rfl⟩
              have KY276 := hid (show Kp (fun j => j = g264) X270 Y276 from by rw [← hY276]; exact setRow_kp _ _ _)
              have AY276 := hid (show Y276.heap[g264]? = some (.cells #[.int .i64 pc.qt, .int .u64 (hiW pc.co), .int .u64 (loW pc.co), .int .u64 (hiW pc.ga), .int .u64 (loW pc.ga)] 38 (0, 0)) from by rw [← hY276]; exact setRow_heap X270 g264 _ _ 38 (0, 0) r273.out)
              have DY276 := hid (show Below Z.heap.size Z Y276 from by rw [← hY276]; exact setRow_below DX270.out yg264)
              have r277 := hid (KY276.out.row r272.out (fun e => n266.symm e))
              have r278 := hid (KY276.out.row ZX270.out (fun e => n275 e))
              rw [hY276]
              refine hK.out _ _ ?_ (fun hHeld => ?_)
              · (try dsimp only); exact ⟨row_cell r277.out 0, row_cell r277.out 1, row_cell r277.out 2⟩
              clear hK K hY276
              try simp only [List.getElem_toArray, List.getElem_cons_succ, List.getElem_cons_zero, Act.put, List.setIfInBounds_toArray, List.set_cons_zero, List.set_cons_succ]
              refine wpAnyH_ready (rs := [15]) (by kernel_rfl) (by simp) ?_
              refine (AllReadyH.cons (o := _) rfl (fun K hK => ?_) AllReadyH.nil)
              refine step_store_row (by rfl) 38 (.tmp 15) (.tmp 79) (by rfl) g271 #[.int .i64 pe.qt, .int .u64 (hiW pe.co), .int .u64 (loW pe.co), .int .u64 (hiW pe.ga), .int .u64 (loW pe.ga)] (by rfl) (by rfl) 38 _ r278.out infoPo5 (by rfl) (by simp [Value.oneCell']) ?_
              obtain ⟨Y279, hY279⟩ : ∃ Y, Y276.setRow g271 #[.int .i64 pe.qt, .int .u64 (hiW pe.co), .int .u64 (loW pe.co), .int .u64 (hiW pe.ga), .int .u64 (loW pe.ga)] = Y := ⟨_, rfl⟩
              have KY279 := hid (show Kp (fun j => j = g271) Y276 Y279 from by rw [← hY279]; exact setRow_kp _ _ _)
              have AY279 := hid (show Y279.heap[g271]? = some (.cells #[.int .i64 pe.qt, .int .u64 (hiW pe.co), .int .u64 (loW pe.co), .int .u64 (hiW pe.ga), .int .u64 (loW pe.ga)] 38 (0, 0)) from by rw [← hY279]; exact setRow_heap Y276 g271 _ _ 38 (0, 0) r278.out)
              have DY279 := hid (show Below Z.heap.size Z Y279 from by rw [← hY279]; exact setRow_below DY276.out yg271)
              have r280 := hid (KY279.out.row r277.out (fun e => n274.symm e))
              have r281 := hid (KY279.out.row AY276.out (fun e => n275.symm e))
              rw [hY279]
              refine hK.out _ _ ?_ (fun hHeld => ?_)
              · (try dsimp only); exact ⟨row_cell r280.out 0, row_cell r280.out 1, row_cell r280.out 2⟩
              clear hK K hY279
              try simp only [List.getElem_toArray, List.getElem_cons_succ, List.getElem_cons_zero, Act.put, List.setIfInBounds_toArray, List.set_cons_zero, List.set_cons_succ]
              refine wpAnyH_done (by kernel_rfl) ?_ _
              exact ⟨(g264, g271), by kernel_rfl, DY279, r281, AY279, yg264, yg271⟩
            · go_simp
              obtain ⟨X282, hX282⟩ : ∃ X, X263.alloc (.cells #[.int .i64 0, .int .u64 0, .int .u64 0, .int .u64 0, .int .u64 0] 38) = X := ⟨_, rfl⟩
              have bX282 : Below X263.heap.size X263 X282 := by rw [← hX282]; exact ball _ _
              have r284 := hid (row_on r265.out bX282)
              have r285 := hid (row_on ZX263.out bX282)
              have DX282 := hid (btr DX263.out bX282)
              have zX282 : X282.heap[X263.heap.size]? = some (.cells #[.int .i64 0, .int .u64 0, .int .u64 0, .int .u64 0, .int .u64 0] 38 (0, 0)) := by rw [← hX282]; exact World.alloc_heap_new _ _
              have yg283 := DX263.out.size
              obtain ⟨g283, hg283⟩ : ∃ g, X263.heap.size = g := ⟨_, rfl⟩
              have n286 : g283 ≠ R := by have := row_lt r265.out; omega
              have n287 : g283 ≠ g264 := by have := row_lt ZX263.out; omega
              rw [hg283] at zX282 yg283
              have ZX282 := hid zX282
              rw [hX282, hg283]
              clear hX282 hg283 zX282 bX282
              refine hK.out _ _ ?_ (fun hHeld => ?_)
              · (try dsimp only); exact ⟨row_cell r284.out 0, row_cell r284.out 1, row_cell r284.out 2⟩
              clear hK K
              try simp only [List.getElem_toArray, List.getElem_cons_succ, List.getElem_cons_zero, Act.put, List.setIfInBounds_toArray, List.set_cons_zero, List.set_cons_succ]
              refine wpAnyH_ready (rs := [11]) (by kernel_rfl) (by simp) ?_
              refine (AllReadyH.cons (o := _) rfl (fun K hK => ?_) AllReadyH.nil)
              go_simp
              go_at_call 7
              with_reducible refine (CQb.out X282 DX282.out).mono ?_
              rintro e X288 ⟨rfl, DbX288⟩
              have r289 := hid (row_on r284.out DbX288.out)
              have r290 := hid (row_on r285.out DbX288.out)
              have r291 := hid (row_on ZX282.out DbX288.out)
              have DX288 := hid (btr DX282.out DbX288.out)
              have UX288 := hid (DX282.out.size)
              (try go_wp2_with fail)
              refine hK.out _ _ ?_ (fun hHeld => ?_)
              · (try dsimp only); exact ⟨row_cell r289.out 0, row_cell r289.out 1, row_cell r289.out 2⟩
              clear hK K
              try simp only [List.getElem_toArray, List.getElem_cons_succ, List.getElem_cons_zero, Act.put, List.setIfInBounds_toArray, List.set_cons_zero, List.set_cons_succ]
              refine wpAnyH_ready (rs := [14]) (by kernel_rfl) (by simp) ?_
              refine (AllReadyH.cons (o := _) rfl (fun K hK => ?_) AllReadyH.nil)
              refine step_store_row (by rfl) 38 (.tmp 14) (.tmp 73) (by rfl) g264 #[.int .i64 pc.qt, .int .u64 (hiW pc.co), .int .u64 (loW pc.co), .int .u64 (hiW pc.ga), .int .u64 (loW pc.ga)] (by rfl) (by rfl) 38 _ r290.out infoPo5 (by rfl) (by simp [Value.oneCell']) ?_
              obtain ⟨Y292, hY292⟩ : ∃ Y, X288.setRow g264 #[.int .i64 pc.qt, .int .u64 (hiW pc.co), .int .u64 (loW pc.co), .int .u64 (hiW pc.ga), .int .u64 (loW pc.ga)] = Y := ⟨_, rfl⟩
              have KY292 := hid (show Kp (fun j => j = g264) X288 Y292 from by rw [← hY292]; exact setRow_kp _ _ _)
              have AY292 := hid (show Y292.heap[g264]? = some (.cells #[.int .i64 pc.qt, .int .u64 (hiW pc.co), .int .u64 (loW pc.co), .int .u64 (hiW pc.ga), .int .u64 (loW pc.ga)] 38 (0, 0)) from by rw [← hY292]; exact setRow_heap X288 g264 _ _ 38 (0, 0) r290.out)
              have DY292 := hid (show Below Z.heap.size Z Y292 from by rw [← hY292]; exact setRow_below DX288.out yg264)
              have r293 := hid (KY292.out.row r289.out (fun e => n266.symm e))
              have r294 := hid (KY292.out.row r291.out (fun e => n287 e))
              rw [hY292]
              refine hK.out _ _ ?_ (fun hHeld => ?_)
              · (try dsimp only); exact ⟨row_cell r293.out 0, row_cell r293.out 1, row_cell r293.out 2⟩
              clear hK K hY292
              try simp only [List.getElem_toArray, List.getElem_cons_succ, List.getElem_cons_zero, Act.put, List.setIfInBounds_toArray, List.set_cons_zero, List.set_cons_succ]
              refine wpAnyH_ready (rs := [15]) (by kernel_rfl) (by simp) ?_
              refine (AllReadyH.cons (o := _) rfl (fun K hK => ?_) AllReadyH.nil)
              refine step_store_row (by rfl) 38 (.tmp 15) (.tmp 79) (by rfl) g283 #[.int .i64 pe.qt, .int .u64 (hiW pe.co), .int .u64 (loW pe.co), .int .u64 (hiW pe.ga), .int .u64 (loW pe.ga)] (by rfl) (by rfl) 38 _ r294.out infoPo5 (by rfl) (by simp [Value.oneCell']) ?_
              obtain ⟨Y295, hY295⟩ : ∃ Y, Y292.setRow g283 #[.int .i64 pe.qt, .int .u64 (hiW pe.co), .int .u64 (loW pe.co), .int .u64 (hiW pe.ga), .int .u64 (loW pe.ga)] = Y := ⟨_, rfl⟩
              have KY295 := hid (show Kp (fun j => j = g283) Y292 Y295 from by rw [← hY295]; exact setRow_kp _ _ _)
              have AY295 := hid (show Y295.heap[g283]? = some (.cells #[.int .i64 pe.qt, .int .u64 (hiW pe.co), .int .u64 (loW pe.co), .int .u64 (hiW pe.ga), .int .u64 (loW pe.ga)] 38 (0, 0)) from by rw [← hY295]; exact setRow_heap Y292 g283 _ _ 38 (0, 0) r294.out)
              have DY295 := hid (show Below Z.heap.size Z Y295 from by rw [← hY295]; exact setRow_below DY292.out yg283)
              have r296 := hid (KY295.out.row r293.out (fun e => n286.symm e))
              have r297 := hid (KY295.out.row AY292.out (fun e => n287.symm e))
              rw [hY295]
              refine hK.out _ _ ?_ (fun hHeld => ?_)
              · (try dsimp only); exact ⟨row_cell r296.out 0, row_cell r296.out 1, row_cell r296.out 2⟩
              clear hK K hY295
              try simp only [List.getElem_toArray, List.getElem_cons_succ, List.getElem_cons_zero, Act.put, List.setIfInBounds_toArray, List.set_cons_zero, List.set_cons_succ]
              refine wpAnyH_done (by kernel_rfl) ?_ _
              exact ⟨(g264, g283), by kernel_rfl, DY295, r297, AY295, yg264, yg283⟩
          · go_simp
            obtain ⟨X298, hX298⟩ : ∃ X, X227.alloc (.cells #[.int .i64 0, .int .u64 0, .int .u64 0, .int .u64 0, .int .u64 0] 38) = X := ⟨_, rfl⟩
            have bX298 : Below X227.heap.size X227 X298 := by rw [← hX298]; exact ball _ _
            have r300 := hid (row_on r228.out bX298)
            have DX298 := hid (btr DX227.out bX298)
            have zX298 : X298.heap[X227.heap.size]? = some (.cells #[.int .i64 0, .int .u64 0, .int .u64 0, .int .u64 0, .int .u64 0] 38 (0, 0)) := by rw [← hX298]; exact World.alloc_heap_new _ _
            have yg299 := DX227.out.size
            obtain ⟨g299, hg299⟩ : ∃ g, X227.heap.size = g := ⟨_, rfl⟩
            have n301 : g299 ≠ R := by have := row_lt r228.out; omega
            rw [hg299] at zX298 yg299
            have ZX298 := hid zX298
            rw [hX298, hg299]
            clear hX298 hg299 zX298 bX298
            refine hK.out _ _ ?_ (fun hHeld => ?_)
            · (try dsimp only); exact ⟨row_cell r300.out 0, row_cell r300.out 1, row_cell r300.out 2⟩
            clear hK K
            try simp only [List.getElem_toArray, List.getElem_cons_succ, List.getElem_cons_zero, Act.put, List.setIfInBounds_toArray, List.set_cons_zero, List.set_cons_succ]
            refine wpAnyH_ready (rs := [11, 12]) (by kernel_rfl) (by simp) ?_
            refine (AllReadyH.cons (o := _) rfl (fun K hK => ?_) (AllReadyH.cons (o := _) rfl (fun K hK => ?_) AllReadyH.nil))
            · go_simp
              go_at_call 7
              with_reducible refine (CQb.out X298 DX298.out).mono ?_
              rintro e X302 ⟨rfl, DbX302⟩
              have r303 := hid (row_on r300.out DbX302.out)
              have r304 := hid (row_on ZX298.out DbX302.out)
              have DX302 := hid (btr DX298.out DbX302.out)
              have UX302 := hid (DX298.out.size)
              (try go_wp2_with fail)
              refine hK.out _ _ ?_ (fun hHeld => ?_)
              · (try dsimp only); exact ⟨row_cell r303.out 0, row_cell r303.out 1, row_cell r303.out 2⟩
              clear hK K
              try simp only [List.getElem_toArray, List.getElem_cons_succ, List.getElem_cons_zero, Act.put, List.setIfInBounds_toArray, List.set_cons_zero, List.set_cons_succ]
              refine wpAnyH_ready (rs := [12]) (by kernel_rfl) (by simp) ?_
              refine (AllReadyH.cons (o := _) rfl (fun K hK => ?_) AllReadyH.nil)
              go_simp
              obtain ⟨X305, hX305⟩ : ∃ X, X302.alloc (.cells #[.int .i64 0, .int .u64 0, .int .u64 0, .int .u64 0, .int .u64 0] 38) = X := ⟨_, rfl⟩
              have bX305 : Below X302.heap.size X302 X305 := by rw [← hX305]; exact ball _ _
              have r307 := hid (row_on r303.out bX305)
              have r308 := hid (row_on r304.out bX305)
              have DX305 := hid (btr DX302.out bX305)
              have zX305 : X305.heap[X302.heap.size]? = some (.cells #[.int .i64 0, .int .u64 0, .int .u64 0, .int .u64 0, .int .u64 0] 38 (0, 0)) := by rw [← hX305]; exact World.alloc_heap_new _ _
              have yg306 := DX302.out.size
              obtain ⟨g306, hg306⟩ : ∃ g, X302.heap.size = g := ⟨_, rfl⟩
              have n309 : g306 ≠ R := by have := row_lt r303.out; omega
              have n310 : g306 ≠ g299 := by have := row_lt r304.out; omega
              rw [hg306] at zX305 yg306
              have ZX305 := hid zX305
              rw [hX305, hg306]
              clear hX305 hg306 zX305 bX305
              refine hK.out _ _ ?_ (fun hHeld => ?_)
              · (try dsimp only); exact ⟨row_cell r307.out 0, row_cell r307.out 1, row_cell r307.out 2⟩
              clear hK K
              try simp only [List.getElem_toArray, List.getElem_cons_succ, List.getElem_cons_zero, Act.put, List.setIfInBounds_toArray, List.set_cons_zero, List.set_cons_succ]
              refine wpAnyH_ready (rs := [14]) (by kernel_rfl) (by simp) ?_
              refine (AllReadyH.cons (o := _) rfl (fun K hK => ?_) AllReadyH.nil)
              refine step_store_row (by rfl) 38 (.tmp 14) (.tmp 73) (by rfl) g306 #[.int .i64 pc.qt, .int .u64 (hiW pc.co), .int .u64 (loW pc.co), .int .u64 (hiW pc.ga), .int .u64 (loW pc.ga)] (by rfl) (by rfl) 38 _ ZX305.out infoPo5 (by rfl) (by simp [Value.oneCell']) ?_
              obtain ⟨Y311, hY311⟩ : ∃ Y, X305.setRow g306 #[.int .i64 pc.qt, .int .u64 (hiW pc.co), .int .u64 (loW pc.co), .int .u64 (hiW pc.ga), .int .u64 (loW pc.ga)] = Y := ⟨_, rfl⟩
              have KY311 := hid (show Kp (fun j => j = g306) X305 Y311 from by rw [← hY311]; exact setRow_kp _ _ _)
              have AY311 := hid (show Y311.heap[g306]? = some (.cells #[.int .i64 pc.qt, .int .u64 (hiW pc.co), .int .u64 (loW pc.co), .int .u64 (hiW pc.ga), .int .u64 (loW pc.ga)] 38 (0, 0)) from by rw [← hY311]; exact setRow_heap X305 g306 _ _ 38 (0, 0) ZX305.out)
              have DY311 := hid (show Below Z.heap.size Z Y311 from by rw [← hY311]; exact setRow_below DX305.out yg306)
              have r312 := hid (KY311.out.row r307.out (fun e => n309.symm e))
              have r313 := hid (KY311.out.row r308.out (fun e => n310.symm e))
              rw [hY311]
              refine hK.out _ _ ?_ (fun hHeld => ?_)
              · (try dsimp only); exact ⟨row_cell r312.out 0, row_cell r312.out 1, row_cell r312.out 2⟩
              clear hK K hY311
              try simp only [List.getElem_toArray, List.getElem_cons_succ, List.getElem_cons_zero, Act.put, List.setIfInBounds_toArray, List.set_cons_zero, List.set_cons_succ]
              refine wpAnyH_ready (rs := [15]) (by kernel_rfl) (by simp) ?_
              refine (AllReadyH.cons (o := _) rfl (fun K hK => ?_) AllReadyH.nil)
              refine step_store_row (by rfl) 38 (.tmp 15) (.tmp 79) (by rfl) g299 #[.int .i64 pe.qt, .int .u64 (hiW pe.co), .int .u64 (loW pe.co), .int .u64 (hiW pe.ga), .int .u64 (loW pe.ga)] (by rfl) (by rfl) 38 _ r313.out infoPo5 (by rfl) (by simp [Value.oneCell']) ?_
              obtain ⟨Y314, hY314⟩ : ∃ Y, Y311.setRow g299 #[.int .i64 pe.qt, .int .u64 (hiW pe.co), .int .u64 (loW pe.co), .int .u64 (hiW pe.ga), .int .u64 (loW pe.ga)] = Y := ⟨_, rfl⟩
              have KY314 := hid (show Kp (fun j => j = g299) Y311 Y314 from by rw [← hY314]; exact setRow_kp _ _ _)
              have AY314 := hid (show Y314.heap[g299]? = some (.cells #[.int .i64 pe.qt, .int .u64 (hiW pe.co), .int .u64 (loW pe.co), .int .u64 (hiW pe.ga), .int .u64 (loW pe.ga)] 38 (0, 0)) from by rw [← hY314]; exact setRow_heap Y311 g299 _ _ 38 (0, 0) r313.out)
              have DY314 := hid (show Below Z.heap.size Z Y314 from by rw [← hY314]; exact setRow_below DY311.out yg299)
              have r315 := hid (KY314.out.row r312.out (fun e => n301.symm e))
              have r316 := hid (KY314.out.row AY311.out (fun e => n310 e))
              rw [hY314]
              refine hK.out _ _ ?_ (fun hHeld => ?_)
              · (try dsimp only); exact ⟨row_cell r315.out 0, row_cell r315.out 1, row_cell r315.out 2⟩
              clear hK K hY314
              try simp only [List.getElem_toArray, List.getElem_cons_succ, List.getElem_cons_zero, Act.put, List.setIfInBounds_toArray, List.set_cons_zero, List.set_cons_succ]
              refine wpAnyH_done (by kernel_rfl) ?_ _
              exact ⟨(g306, g299), by kernel_rfl, DY314, r316, AY314, yg306, yg299⟩
            · go_simp
              obtain ⟨X317, hX317⟩ : ∃ X, X298.alloc (.cells #[.int .i64 0, .int .u64 0, .int .u64 0, .int .u64 0, .int .u64 0] 38) = X := ⟨_, rfl⟩
              have bX317 : Below X298.heap.size X298 X317 := by rw [← hX317]; exact ball _ _
              have r319 := hid (row_on r300.out bX317)
              have r320 := hid (row_on ZX298.out bX317)
              have DX317 := hid (btr DX298.out bX317)
              have zX317 : X317.heap[X298.heap.size]? = some (.cells #[.int .i64 0, .int .u64 0, .int .u64 0, .int .u64 0, .int .u64 0] 38 (0, 0)) := by rw [← hX317]; exact World.alloc_heap_new _ _
              have yg318 := DX298.out.size
              obtain ⟨g318, hg318⟩ : ∃ g, X298.heap.size = g := ⟨_, rfl⟩
              have n321 : g318 ≠ R := by have := row_lt r300.out; omega
              have n322 : g318 ≠ g299 := by have := row_lt ZX298.out; omega
              rw [hg318] at zX317 yg318
              have ZX317 := hid zX317
              rw [hX317, hg318]
              clear hX317 hg318 zX317 bX317
              refine hK.out _ _ ?_ (fun hHeld => ?_)
              · (try dsimp only); exact ⟨row_cell r319.out 0, row_cell r319.out 1, row_cell r319.out 2⟩
              clear hK K
              try simp only [List.getElem_toArray, List.getElem_cons_succ, List.getElem_cons_zero, Act.put, List.setIfInBounds_toArray, List.set_cons_zero, List.set_cons_succ]
              refine wpAnyH_ready (rs := [11]) (by kernel_rfl) (by simp) ?_
              refine (AllReadyH.cons (o := _) rfl (fun K hK => ?_) AllReadyH.nil)
              go_simp
              go_at_call 7
              with_reducible refine (CQb.out X317 DX317.out).mono ?_
              rintro e X323 ⟨rfl, DbX323⟩
              have r324 := hid (row_on r319.out DbX323.out)
              have r325 := hid (row_on r320.out DbX323.out)
              have r326 := hid (row_on ZX317.out DbX323.out)
              have DX323 := hid (btr DX317.out DbX323.out)
              have UX323 := hid (DX317.out.size)
              (try go_wp2_with fail)
              refine hK.out _ _ ?_ (fun hHeld => ?_)
              · (try dsimp only); exact ⟨row_cell r324.out 0, row_cell r324.out 1, row_cell r324.out 2⟩
              clear hK K
              try simp only [List.getElem_toArray, List.getElem_cons_succ, List.getElem_cons_zero, Act.put, List.setIfInBounds_toArray, List.set_cons_zero, List.set_cons_succ]
              refine wpAnyH_ready (rs := [14]) (by kernel_rfl) (by simp) ?_
              refine (AllReadyH.cons (o := _) rfl (fun K hK => ?_) AllReadyH.nil)
              refine step_store_row (by rfl) 38 (.tmp 14) (.tmp 73) (by rfl) g318 #[.int .i64 pc.qt, .int .u64 (hiW pc.co), .int .u64 (loW pc.co), .int .u64 (hiW pc.ga), .int .u64 (loW pc.ga)] (by rfl) (by rfl) 38 _ r326.out infoPo5 (by rfl) (by simp [Value.oneCell']) ?_
              obtain ⟨Y327, hY327⟩ : ∃ Y, X323.setRow g318 #[.int .i64 pc.qt, .int .u64 (hiW pc.co), .int .u64 (loW pc.co), .int .u64 (hiW pc.ga), .int .u64 (loW pc.ga)] = Y := ⟨_, rfl⟩
              have KY327 := hid (show Kp (fun j => j = g318) X323 Y327 from by rw [← hY327]; exact setRow_kp _ _ _)
              have AY327 := hid (show Y327.heap[g318]? = some (.cells #[.int .i64 pc.qt, .int .u64 (hiW pc.co), .int .u64 (loW pc.co), .int .u64 (hiW pc.ga), .int .u64 (loW pc.ga)] 38 (0, 0)) from by rw [← hY327]; exact setRow_heap X323 g318 _ _ 38 (0, 0) r326.out)
              have DY327 := hid (show Below Z.heap.size Z Y327 from by rw [← hY327]; exact setRow_below DX323.out yg318)
              have r328 := hid (KY327.out.row r324.out (fun e => n321.symm e))
              have r329 := hid (KY327.out.row r325.out (fun e => n322.symm e))
              rw [hY327]
              refine hK.out _ _ ?_ (fun hHeld => ?_)
              · (try dsimp only); exact ⟨row_cell r328.out 0, row_cell r328.out 1, row_cell r328.out 2⟩
              clear hK K hY327
              try simp only [List.getElem_toArray, List.getElem_cons_succ, List.getElem_cons_zero, Act.put, List.setIfInBounds_toArray, List.set_cons_zero, List.set_cons_succ]
              refine wpAnyH_ready (rs := [15]) (by kernel_rfl) (by simp) ?_
              refine (AllReadyH.cons (o := _) rfl (fun K hK => ?_) AllReadyH.nil)
              refine step_store_row (by rfl) 38 (.tmp 15) (.tmp 79) (by rfl) g299 #[.int .i64 pe.qt, .int .u64 (hiW pe.co), .int .u64 (loW pe.co), .int .u64 (hiW pe.ga), .int .u64 (loW pe.ga)] (by rfl) (by rfl) 38 _ r329.out infoPo5 (by rfl) (by simp [Value.oneCell']) ?_
              obtain ⟨Y330, hY330⟩ : ∃ Y, Y327.setRow g299 #[.int .i64 pe.qt, .int .u64 (hiW pe.co), .int .u64 (loW pe.co), .int .u64 (hiW pe.ga), .int .u64 (loW pe.ga)] = Y := ⟨_, rfl⟩
              have KY330 := hid (show Kp (fun j => j = g299) Y327 Y330 from by rw [← hY330]; exact setRow_kp _ _ _)
              have AY330 := hid (show Y330.heap[g299]? = some (.cells #[.int .i64 pe.qt, .int .u64 (hiW pe.co), .int .u64 (loW pe.co), .int .u64 (hiW pe.ga), .int .u64 (loW pe.ga)] 38 (0, 0)) from by rw [← hY330]; exact setRow_heap Y327 g299 _ _ 38 (0, 0) r329.out)
              have DY330 := hid (show Below Z.heap.size Z Y330 from by rw [← hY330]; exact setRow_below DY327.out yg299)
              have r331 := hid (KY330.out.row r328.out (fun e => n301.symm e))
              have r332 := hid (KY330.out.row AY327.out (fun e => n322 e))
              rw [hY330]
              refine hK.out _ _ ?_ (fun hHeld => ?_)
              · (try dsimp only); exact ⟨row_cell r331.out 0, row_cell r331.out 1, row_cell r331.out 2⟩
              clear hK K hY330
              try simp only [List.getElem_toArray, List.getElem_cons_succ, List.getElem_cons_zero, Act.put, List.setIfInBounds_toArray, List.set_cons_zero, List.set_cons_succ]
              refine wpAnyH_done (by kernel_rfl) ?_ _
              exact ⟨(g318, g299), by kernel_rfl, DY330, r332, AY330, yg318, yg299⟩
        · go_simp
          obtain ⟨X333, hX333⟩ : ∃ X, V225.alloc (.cells #[.int .i64 0, .int .u64 0, .int .u64 0, .int .u64 0, .int .u64 0] 38) = X := ⟨_, rfl⟩
          have bX333 : Below V225.heap.size V225 X333 := by rw [← hX333]; exact ball _ _
          have r335 := hid (row_on r226.out bX333)
          have DX333 := hid (btr BV225.out bX333)
          have zX333 : X333.heap[V225.heap.size]? = some (.cells #[.int .i64 0, .int .u64 0, .int .u64 0, .int .u64 0, .int .u64 0] 38 (0, 0)) := by rw [← hX333]; exact World.alloc_heap_new _ _
          have yg334 := BV225.out.size
          obtain ⟨g334, hg334⟩ : ∃ g, V225.heap.size = g := ⟨_, rfl⟩
          have n336 : g334 ≠ R := by have := row_lt r226.out; omega
          rw [hg334] at zX333 yg334
          have ZX333 := hid zX333
          rw [hX333, hg334]
          clear hX333 hg334 zX333 bX333
          refine hK.out _ _ ?_ (fun hHeld => ?_)
          · (try dsimp only); exact ⟨row_cell r335.out 0, row_cell r335.out 1, row_cell r335.out 2⟩
          clear hK K
          try simp only [List.getElem_toArray, List.getElem_cons_succ, List.getElem_cons_zero, Act.put, List.setIfInBounds_toArray, List.set_cons_zero, List.set_cons_succ]
          refine wpAnyH_ready (rs := [5, 13]) (by kernel_rfl) (by simp) ?_
          refine (AllReadyH.cons (o := _) rfl (fun K hK => ?_) (AllReadyH.cons (o := _) rfl (fun K hK => ?_) AllReadyH.nil))
          · go_simp
            go_at_call 7
            with_reducible refine (CQa.out X333 DX333.out).mono ?_
            rintro e X337 ⟨rfl, DbX337⟩
            have r338 := hid (row_on r335.out DbX337.out)
            have r339 := hid (row_on ZX333.out DbX337.out)
            have DX337 := hid (btr DX333.out DbX337.out)
            have UX337 := hid (DX333.out.size)
            (try go_wp2_with fail)
            refine hK.out _ _ ?_ (fun hHeld => ?_)
            · (try dsimp only); exact ⟨row_cell r338.out 0, row_cell r338.out 1, row_cell r338.out 2⟩
            clear hK K
            try simp only [List.getElem_toArray, List.getElem_cons_succ, List.getElem_cons_zero, Act.put, List.setIfInBounds_toArray, List.set_cons_zero, List.set_cons_succ]
            refine wpAnyH_ready (rs := [11, 13]) (by kernel_rfl) (by simp) ?_
            refine (AllReadyH.cons (o := _) rfl (fun K hK => ?_) (AllReadyH.cons (o := _) rfl (fun K hK => ?_) AllReadyH.nil))
            · go_simp
              go_at_call 7
              with_reducible refine (CQb.out X337 DX337.out).mono ?_
              rintro e X340 ⟨rfl, DbX340⟩
              have r341 := hid (row_on r338.out DbX340.out)
              have r342 := hid (row_on r339.out DbX340.out)
              have DX340 := hid (btr DX337.out DbX340.out)
              have UX340 := hid (DX337.out.size)
              (try go_wp2_with fail)
              refine hK.out _ _ ?_ (fun hHeld => ?_)
              · (try dsimp only); exact ⟨row_cell r341.out 0, row_cell r341.out 1, row_cell r341.out 2⟩
              clear hK K
              try simp only [List.getElem_toArray, List.getElem_cons_succ, List.getElem_cons_zero, Act.put, List.setIfInBounds_toArray, List.set_cons_zero, List.set_cons_succ]
              refine wpAnyH_ready (rs := [13]) (by kernel_rfl) (by simp) ?_
              refine (AllReadyH.cons (o := _) rfl (fun K hK => ?_) AllReadyH.nil)
              go_simp
              obtain ⟨X343, hX343⟩ : ∃ X, X340.alloc (.cells #[.int .i64 0, .int .u64 0, .int .u64 0, .int .u64 0, .int .u64 0] 38) = X := ⟨_, rfl⟩
              have bX343 : Below X340.heap.size X340 X343 := by rw [← hX343]; exact ball _ _
              have r345 := hid (row_on r341.out bX343)
              have r346 := hid (row_on r342.out bX343)
              have DX343 := hid (btr DX340.out bX343)
              have zX343 : X343.heap[X340.heap.size]? = some (.cells #[.int .i64 0, .int .u64 0, .int .u64 0, .int .u64 0, .int .u64 0] 38 (0, 0)) := by rw [← hX343]; exact World.alloc_heap_new _ _
              have yg344 := DX340.out.size
              obtain ⟨g344, hg344⟩ : ∃ g, X340.heap.size = g := ⟨_, rfl⟩
              have n347 : g344 ≠ R := by have := row_lt r341.out; omega
              have n348 : g344 ≠ g334 := by have := row_lt r342.out; omega
              rw [hg344] at zX343 yg344
              have ZX343 := hid zX343
              rw [hX343, hg344]
              clear hX343 hg344 zX343 bX343
              refine hK.out _ _ ?_ (fun hHeld => ?_)
              · (try dsimp only); exact ⟨row_cell r345.out 0, row_cell r345.out 1, row_cell r345.out 2⟩
              clear hK K
              try simp only [List.getElem_toArray, List.getElem_cons_succ, List.getElem_cons_zero, Act.put, List.setIfInBounds_toArray, List.set_cons_zero, List.set_cons_succ]
              refine wpAnyH_ready (rs := [14]) (by kernel_rfl) (by simp) ?_
              refine (AllReadyH.cons (o := _) rfl (fun K hK => ?_) AllReadyH.nil)
              refine step_store_row (by rfl) 38 (.tmp 14) (.tmp 73) (by rfl) g334 #[.int .i64 pc.qt, .int .u64 (hiW pc.co), .int .u64 (loW pc.co), .int .u64 (hiW pc.ga), .int .u64 (loW pc.ga)] (by rfl) (by rfl) 38 _ r346.out infoPo5 (by rfl) (by simp [Value.oneCell']) ?_
              obtain ⟨Y349, hY349⟩ : ∃ Y, X343.setRow g334 #[.int .i64 pc.qt, .int .u64 (hiW pc.co), .int .u64 (loW pc.co), .int .u64 (hiW pc.ga), .int .u64 (loW pc.ga)] = Y := ⟨_, rfl⟩
              have KY349 := hid (show Kp (fun j => j = g334) X343 Y349 from by rw [← hY349]; exact setRow_kp _ _ _)
              have AY349 := hid (show Y349.heap[g334]? = some (.cells #[.int .i64 pc.qt, .int .u64 (hiW pc.co), .int .u64 (loW pc.co), .int .u64 (hiW pc.ga), .int .u64 (loW pc.ga)] 38 (0, 0)) from by rw [← hY349]; exact setRow_heap X343 g334 _ _ 38 (0, 0) r346.out)
              have DY349 := hid (show Below Z.heap.size Z Y349 from by rw [← hY349]; exact setRow_below DX343.out yg334)
              have r350 := hid (KY349.out.row r345.out (fun e => n336.symm e))
              have r351 := hid (KY349.out.row ZX343.out (fun e => n348 e))
              rw [hY349]
              refine hK.out _ _ ?_ (fun hHeld => ?_)
              · (try dsimp only); exact ⟨row_cell r350.out 0, row_cell r350.out 1, row_cell r350.out 2⟩
              clear hK K hY349
              try simp only [List.getElem_toArray, List.getElem_cons_succ, List.getElem_cons_zero, Act.put, List.setIfInBounds_toArray, List.set_cons_zero, List.set_cons_succ]
              refine wpAnyH_ready (rs := [15]) (by kernel_rfl) (by simp) ?_
              refine (AllReadyH.cons (o := _) rfl (fun K hK => ?_) AllReadyH.nil)
              refine step_store_row (by rfl) 38 (.tmp 15) (.tmp 79) (by rfl) g344 #[.int .i64 pe.qt, .int .u64 (hiW pe.co), .int .u64 (loW pe.co), .int .u64 (hiW pe.ga), .int .u64 (loW pe.ga)] (by rfl) (by rfl) 38 _ r351.out infoPo5 (by rfl) (by simp [Value.oneCell']) ?_
              obtain ⟨Y352, hY352⟩ : ∃ Y, Y349.setRow g344 #[.int .i64 pe.qt, .int .u64 (hiW pe.co), .int .u64 (loW pe.co), .int .u64 (hiW pe.ga), .int .u64 (loW pe.ga)] = Y := ⟨_, rfl⟩
              have KY352 := hid (show Kp (fun j => j = g344) Y349 Y352 from by rw [← hY352]; exact setRow_kp _ _ _)
              have AY352 := hid (show Y352.heap[g344]? = some (.cells #[.int .i64 pe.qt, .int .u64 (hiW pe.co), .int .u64 (loW pe.co), .int .u64 (hiW pe.ga), .int .u64 (loW pe.ga)] 38 (0, 0)) from by rw [← hY352]; exact setRow_heap Y349 g344 _ _ 38 (0, 0) r351.out)
              have DY352 := hid (show Below Z.heap.size Z Y352 from by rw [← hY352]; exact setRow_below DY349.out yg344)
              have r353 := hid (KY352.out.row r350.out (fun e => n347.symm e))
              have r354 := hid (KY352.out.row AY349.out (fun e => n348.symm e))
              rw [hY352]
              refine hK.out _ _ ?_ (fun hHeld => ?_)
              · (try dsimp only); exact ⟨row_cell r353.out 0, row_cell r353.out 1, row_cell r353.out 2⟩
              clear hK K hY352
              try simp only [List.getElem_toArray, List.getElem_cons_succ, List.getElem_cons_zero, Act.put, List.setIfInBounds_toArray, List.set_cons_zero, List.set_cons_succ]
              refine wpAnyH_done (by kernel_rfl) ?_ _
              exact ⟨(g334, g344), by kernel_rfl, DY352, r354, AY352, yg334, yg344⟩
            · go_simp
              obtain ⟨X355, hX355⟩ : ∃ X, X337.alloc (.cells #[.int .i64 0, .int .u64 0, .int .u64 0, .int .u64 0, .int .u64 0] 38) = X := ⟨_, rfl⟩
              have bX355 : Below X337.heap.size X337 X355 := by rw [← hX355]; exact ball _ _
              have r357 := hid (row_on r338.out bX355)
              have r358 := hid (row_on r339.out bX355)
              have DX355 := hid (btr DX337.out bX355)
              have zX355 : X355.heap[X337.heap.size]? = some (.cells #[.int .i64 0, .int .u64 0, .int .u64 0, .int .u64 0, .int .u64 0] 38 (0, 0)) := by rw [← hX355]; exact World.alloc_heap_new _ _
              have yg356 := DX337.out.size
              obtain ⟨g356, hg356⟩ : ∃ g, X337.heap.size = g := ⟨_, rfl⟩
              have n359 : g356 ≠ R := by have := row_lt r338.out; omega
              have n360 : g356 ≠ g334 := by have := row_lt r339.out; omega
              rw [hg356] at zX355 yg356
              have ZX355 := hid zX355
              rw [hX355, hg356]
              clear hX355 hg356 zX355 bX355
              refine hK.out _ _ ?_ (fun hHeld => ?_)
              · (try dsimp only); exact ⟨row_cell r357.out 0, row_cell r357.out 1, row_cell r357.out 2⟩
              clear hK K
              try simp only [List.getElem_toArray, List.getElem_cons_succ, List.getElem_cons_zero, Act.put, List.setIfInBounds_toArray, List.set_cons_zero, List.set_cons_succ]
              refine wpAnyH_ready (rs := [11]) (by kernel_rfl) (by simp) ?_
              refine (AllReadyH.cons (o := _) rfl (fun K hK => ?_) AllReadyH.nil)
              go_simp
              go_at_call 7
              with_reducible refine (CQb.out X355 DX355.out).mono ?_
              rintro e X361 ⟨rfl, DbX361⟩
              have r362 := hid (row_on r357.out DbX361.out)
              have r363 := hid (row_on r358.out DbX361.out)
              have r364 := hid (row_on ZX355.out DbX361.out)
              have DX361 := hid (btr DX355.out DbX361.out)
              have UX361 := hid (DX355.out.size)
              (try go_wp2_with fail)
              refine hK.out _ _ ?_ (fun hHeld => ?_)
              · (try dsimp only); exact ⟨row_cell r362.out 0, row_cell r362.out 1, row_cell r362.out 2⟩
              clear hK K
              try simp only [List.getElem_toArray, List.getElem_cons_succ, List.getElem_cons_zero, Act.put, List.setIfInBounds_toArray, List.set_cons_zero, List.set_cons_succ]
              refine wpAnyH_ready (rs := [14]) (by kernel_rfl) (by simp) ?_
              refine (AllReadyH.cons (o := _) rfl (fun K hK => ?_) AllReadyH.nil)
              refine step_store_row (by rfl) 38 (.tmp 14) (.tmp 73) (by rfl) g334 #[.int .i64 pc.qt, .int .u64 (hiW pc.co), .int .u64 (loW pc.co), .int .u64 (hiW pc.ga), .int .u64 (loW pc.ga)] (by rfl) (by rfl) 38 _ r363.out infoPo5 (by rfl) (by simp [Value.oneCell']) ?_
              obtain ⟨Y365, hY365⟩ : ∃ Y, X361.setRow g334 #[.int .i64 pc.qt, .int .u64 (hiW pc.co), .int .u64 (loW pc.co), .int .u64 (hiW pc.ga), .int .u64 (loW pc.ga)] = Y := ⟨_, rfl⟩
              have KY365 := hid (show Kp (fun j => j = g334) X361 Y365 from by rw [← hY365]; exact setRow_kp _ _ _)
              have AY365 := hid (show Y365.heap[g334]? = some (.cells #[.int .i64 pc.qt, .int .u64 (hiW pc.co), .int .u64 (loW pc.co), .int .u64 (hiW pc.ga), .int .u64 (loW pc.ga)] 38 (0, 0)) from by rw [← hY365]; exact setRow_heap X361 g334 _ _ 38 (0, 0) r363.out)
              have DY365 := hid (show Below Z.heap.size Z Y365 from by rw [← hY365]; exact setRow_below DX361.out yg334)
              have r366 := hid (KY365.out.row r362.out (fun e => n336.symm e))
              have r367 := hid (KY365.out.row r364.out (fun e => n360 e))
              rw [hY365]
              refine hK.out _ _ ?_ (fun hHeld => ?_)
              · (try dsimp only); exact ⟨row_cell r366.out 0, row_cell r366.out 1, row_cell r366.out 2⟩
              clear hK K hY365
              try simp only [List.getElem_toArray, List.getElem_cons_succ, List.getElem_cons_zero, Act.put, List.setIfInBounds_toArray, List.set_cons_zero, List.set_cons_succ]
              refine wpAnyH_ready (rs := [15]) (by kernel_rfl) (by simp) ?_
              refine (AllReadyH.cons (o := _) rfl (fun K hK => ?_) AllReadyH.nil)
              refine step_store_row (by rfl) 38 (.tmp 15) (.tmp 79) (by rfl) g356 #[.int .i64 pe.qt, .int .u64 (hiW pe.co), .int .u64 (loW pe.co), .int .u64 (hiW pe.ga), .int .u64 (loW pe.ga)] (by rfl) (by rfl) 38 _ r367.out infoPo5 (by rfl) (by simp [Value.oneCell']) ?_
              obtain ⟨Y368, hY368⟩ : ∃ Y, Y365.setRow g356 #[.int .i64 pe.qt, .int .u64 (hiW pe.co), .int .u64 (loW pe.co), .int .u64 (hiW pe.ga), .int .u64 (loW pe.ga)] = Y := ⟨_, rfl⟩
              have KY368 := hid (show Kp (fun j => j = g356) Y365 Y368 from by rw [← hY368]; exact setRow_kp _ _ _)
              have AY368 := hid (show Y368.heap[g356]? = some (.cells #[.int .i64 pe.qt, .int .u64 (hiW pe.co), .int .u64 (loW pe.co), .int .u64 (hiW pe.ga), .int .u64 (loW pe.ga)] 38 (0, 0)) from by rw [← hY368]; exact setRow_heap Y365 g356 _ _ 38 (0, 0) r367.out)
              have DY368 := hid (show Below Z.heap.size Z Y368 from by rw [← hY368]; exact setRow_below DY365.out yg356)
              have r369 := hid (KY368.out.row r366.out (fun e => n359.symm e))
              have r370 := hid (KY368.out.row AY365.out (fun e => n360.symm e))
              rw [hY368]
              refine hK.out _ _ ?_ (fun hHeld => ?_)
              · (try dsimp only); exact ⟨row_cell r369.out 0, row_cell r369.out 1, row_cell r369.out 2⟩
              clear hK K hY368
              try simp only [List.getElem_toArray, List.getElem_cons_succ, List.getElem_cons_zero, Act.put, List.setIfInBounds_toArray, List.set_cons_zero, List.set_cons_succ]
              refine wpAnyH_done (by kernel_rfl) ?_ _
              exact ⟨(g334, g356), by kernel_rfl, DY368, r370, AY368, yg334, yg356⟩
          · go_simp
            obtain ⟨X371, hX371⟩ : ∃ X, X333.alloc (.cells #[.int .i64 0, .int .u64 0, .int .u64 0, .int .u64 0, .int .u64 0] 38) = X := ⟨_, rfl⟩
            have bX371 : Below X333.heap.size X333 X371 := by rw [← hX371]; exact ball _ _
            have r373 := hid (row_on r335.out bX371)
            have r374 := hid (row_on ZX333.out bX371)
            have DX371 := hid (btr DX333.out bX371)
            have zX371 : X371.heap[X333.heap.size]? = some (.cells #[.int .i64 0, .int .u64 0, .int .u64 0, .int .u64 0, .int .u64 0] 38 (0, 0)) := by rw [← hX371]; exact World.alloc_heap_new _ _
            have yg372 := DX333.out.size
            obtain ⟨g372, hg372⟩ : ∃ g, X333.heap.size = g := ⟨_, rfl⟩
            have n375 : g372 ≠ R := by have := row_lt r335.out; omega
            have n376 : g372 ≠ g334 := by have := row_lt ZX333.out; omega
            rw [hg372] at zX371 yg372
            have ZX371 := hid zX371
            rw [hX371, hg372]
            clear hX371 hg372 zX371 bX371
            refine hK.out _ _ ?_ (fun hHeld => ?_)
            · (try dsimp only); exact ⟨row_cell r373.out 0, row_cell r373.out 1, row_cell r373.out 2⟩
            clear hK K
            try simp only [List.getElem_toArray, List.getElem_cons_succ, List.getElem_cons_zero, Act.put, List.setIfInBounds_toArray, List.set_cons_zero, List.set_cons_succ]
            refine wpAnyH_ready (rs := [5]) (by kernel_rfl) (by simp) ?_
            refine (AllReadyH.cons (o := _) rfl (fun K hK => ?_) AllReadyH.nil)
            go_simp
            go_at_call 7
            with_reducible refine (CQa.out X371 DX371.out).mono ?_
            rintro e X377 ⟨rfl, DbX377⟩
            have r378 := hid (row_on r373.out DbX377.out)
            have r379 := hid (row_on r374.out DbX377.out)
            have r380 := hid (row_on ZX371.out DbX377.out)
            have DX377 := hid (btr DX371.out DbX377.out)
            have UX377 := hid (DX371.out.size)
            (try go_wp2_with fail)
            refine hK.out _ _ ?_ (fun hHeld => ?_)
            · (try dsimp only); exact ⟨row_cell r378.out 0, row_cell r378.out 1, row_cell r378.out 2⟩
            clear hK K
            try simp only [List.getElem_toArray, List.getElem_cons_succ, List.getElem_cons_zero, Act.put, List.setIfInBounds_toArray, List.set_cons_zero, List.set_cons_succ]
            refine wpAnyH_ready (rs := [11]) (by kernel_rfl) (by simp) ?_
            refine (AllReadyH.cons (o := _) rfl (fun K hK => ?_) AllReadyH.nil)
            go_simp
            go_at_call 7
            with_reducible refine (CQb.out X377 DX377.out).mono ?_
            rintro e X381 ⟨rfl, DbX381⟩
            have r382 := hid (row_on r378.out DbX381.out)
            have r383 := hid (row_on r379.out DbX381.out)
            have r384 := hid (row_on r380.out DbX381.out)
            have DX381 := hid (btr DX377.out DbX381.out)
            have UX381 := hid (DX377.out.size)
            (try go_wp2_with fail)
            refine hK.out _ _ ?_ (fun hHeld => ?_)
            · (try dsimp only); exact ⟨row_cell r382.out 0, row_cell r382.out 1, row_cell r382.out 2⟩
            clear hK K
            try simp only [List.getElem_toArray, List.getElem_cons_succ, List.getElem_cons_zero, Act.put, List.setIfInBounds_toArray, List.set_cons_zero, List.set_cons_succ]
            refine wpAnyH_ready (rs := [14]) (by kernel_rfl) (by simp) ?_
            refine (AllReadyH.cons (o := _) rfl (fun K hK => ?_) AllReadyH.nil)
            refine step_store_row (by rfl) 38 (.tmp 14) (.tmp 73) (by rfl) g334 #[.int .i64 pc.qt, .int .u64 (hiW pc.co), .int .u64 (loW pc.co), .int .u64 (hiW pc.ga), .int .u64 (loW pc.ga)] (by rfl) (by rfl) 38 _ r383.out infoPo5 (by rfl) (by simp [Value.oneCell']) ?_
            obtain ⟨Y385, hY385⟩ : ∃ Y, X381.setRow g334 #[.int .i64 pc.qt, .int .u64 (hiW pc.co), .int .u64 (loW pc.co), .int .u64 (hiW pc.ga), .int .u64 (loW pc.ga)] = Y := ⟨_, rfl⟩
            have KY385 := hid (show Kp (fun j => j = g334) X381 Y385 from by rw [← hY385]; exact setRow_kp _ _ _)
            have AY385 := hid (show Y385.heap[g334]? = some (.cells #[.int .i64 pc.qt, .int .u64 (hiW pc.co), .int .u64 (loW pc.co), .int .u64 (hiW pc.ga), .int .u64 (loW pc.ga)] 38 (0, 0)) from by rw [← hY385]; exact setRow_heap X381 g334 _ _ 38 (0, 0) r383.out)
            have DY385 := hid (show Below Z.heap.size Z Y385 from by rw [← hY385]; exact setRow_below DX381.out yg334)
            have r386 := hid (KY385.out.row r382.out (fun e => n336.symm e))
            have r387 := hid (KY385.out.row r384.out (fun e => n376 e))
            rw [hY385]
            refine hK.out _ _ ?_ (fun hHeld => ?_)
            · (try dsimp only); exact ⟨row_cell r386.out 0, row_cell r386.out 1, row_cell r386.out 2⟩
            clear hK K hY385
            try simp only [List.getElem_toArray, List.getElem_cons_succ, List.getElem_cons_zero, Act.put, List.setIfInBounds_toArray, List.set_cons_zero, List.set_cons_succ]
            refine wpAnyH_ready (rs := [15]) (by kernel_rfl) (by simp) ?_
            refine (AllReadyH.cons (o := _) rfl (fun K hK => ?_) AllReadyH.nil)
            refine step_store_row (by rfl) 38 (.tmp 15) (.tmp 79) (by rfl) g372 #[.int .i64 pe.qt, .int .u64 (hiW pe.co), .int .u64 (loW pe.co), .int .u64 (hiW pe.ga), .int .u64 (loW pe.ga)] (by rfl) (by rfl) 38 _ r387.out infoPo5 (by rfl) (by simp [Value.oneCell']) ?_
            obtain ⟨Y388, hY388⟩ : ∃ Y, Y385.setRow g372 #[.int .i64 pe.qt, .int .u64 (hiW pe.co), .int .u64 (loW pe.co), .int .u64 (hiW pe.ga), .int .u64 (loW pe.ga)] = Y := ⟨_, rfl⟩
            have KY388 := hid (show Kp (fun j => j = g372) Y385 Y388 from by rw [← hY388]; exact setRow_kp _ _ _)
            have AY388 := hid (show Y388.heap[g372]? = some (.cells #[.int .i64 pe.qt, .int .u64 (hiW pe.co), .int .u64 (loW pe.co), .int .u64 (hiW pe.ga), .int .u64 (loW pe.ga)] 38 (0, 0)) from by rw [← hY388]; exact setRow_heap Y385 g372 _ _ 38 (0, 0) r387.out)
            have DY388 := hid (show Below Z.heap.size Z Y388 from by rw [← hY388]; exact setRow_below DY385.out yg372)
            have r389 := hid (KY388.out.row r386.out (fun e => n375.symm e))
            have r390 := hid (KY388.out.row AY385.out (fun e => n376.symm e))
            rw [hY388]
            refine hK.out _ _ ?_ (fun hHeld => ?_)
            · (try dsimp only); exact ⟨row_cell r389.out 0, row_cell r389.out 1, row_cell r389.out 2⟩
            clear hK K hY388
            try simp only [List.getElem_toArray, List.getElem_cons_succ, List.getElem_cons_zero, Act.put, List.setIfInBounds_toArray, List.set_cons_zero, List.set_cons_succ]
            refine wpAnyH_done (by kernel_rfl) ?_ _
            exact ⟨(g334, g372), by kernel_rfl, DY388, r390, AY388, yg334, yg372⟩
        · go_simp
          obtain ⟨X391, hX391⟩ : ∃ X, V225.alloc (.cells #[.int .i64 0, .int .u64 0, .int .u64 0, .int .u64 0, .int .u64 0] 38) = X := ⟨_, rfl⟩
          have bX391 : Below V225.heap.size V225 X391 := by rw [← hX391]; exact ball _ _
          have r393 := hid (row_on r226.out bX391)
          have DX391 := hid (btr BV225.out bX391)
          have zX391 : X391.heap[V225.heap.size]? = some (.cells #[.int .i64 0, .int .u64 0, .int .u64 0, .int .u64 0, .int .u64 0] 38 (0, 0)) := by rw [← hX391]; exact World.alloc_heap_new _ _
          have yg392 := BV225.out.size
          obtain ⟨g392, hg392⟩ : ∃ g, V225.heap.size = g := ⟨_, rfl⟩
          have n394 : g392 ≠ R := by have := row_lt r226.out; omega
          rw [hg392] at zX391 yg392
          have ZX391 := hid zX391
          rw [hX391, hg392]
          clear hX391 hg392 zX391 bX391
          refine hK.out _ _ ?_ (fun hHeld => ?_)
          · (try dsimp only); exact ⟨row_cell r393.out 0, row_cell r393.out 1, row_cell r393.out 2⟩
          clear hK K
          try simp only [List.getElem_toArray, List.getElem_cons_succ, List.getElem_cons_zero, Act.put, List.setIfInBounds_toArray, List.set_cons_zero, List.set_cons_succ]
          refine wpAnyH_ready (rs := [5, 12]) (by kernel_rfl) (by simp) ?_
          refine (AllReadyH.cons (o := _) rfl (fun K hK => ?_) (AllReadyH.cons (o := _) rfl (fun K hK => ?_) AllReadyH.nil))
          · go_simp
            go_at_call 7
            with_reducible refine (CQa.out X391 DX391.out).mono ?_
            rintro e X395 ⟨rfl, DbX395⟩
            have r396 := hid (row_on r393.out DbX395.out)
            have r397 := hid (row_on ZX391.out DbX395.out)
            have DX395 := hid (btr DX391.out DbX395.out)
            have UX395 := hid (DX391.out.size)
            (try go_wp2_with fail)
            refine hK.out _ _ ?_ (fun hHeld => ?_)
            · (try dsimp only); exact ⟨row_cell r396.out 0, row_cell r396.out 1, row_cell r396.out 2⟩
            clear hK K
            try simp only [List.getElem_toArray, List.getElem_cons_succ, List.getElem_cons_zero, Act.put, List.setIfInBounds_toArray, List.set_cons_zero, List.set_cons_succ]
            refine wpAnyH_ready (rs := [11, 12]) (by kernel_rfl) (by simp) ?_
            refine (AllReadyH.cons (o := _) rfl (fun K hK => ?_) (AllReadyH.cons (o := _) rfl (fun K hK => ?_) AllReadyH.nil))
            · go_simp
              go_at_call 7
              with_reducible refine (CQb.out X395 DX395.out).mono ?_
              rintro e X398 ⟨rfl, DbX398⟩
              have r399 := hid (row_on r396.out DbX398.out)
              have r400 := hid (row_on r397.out DbX398.out)
              have DX398 := hid (btr DX395.out DbX398.out)
              have UX398 := hid (DX395.out.size)
              (try go_wp2_with fail)
              refine hK.out _ _ ?_ (fun hHeld => ?_)
              · (try dsimp only); exact ⟨row_cell r399.out 0, row_cell r399.out 1, row_cell r399.out 2⟩
              clear hK K
              try simp only [List.getElem_toArray, List.getElem_cons_succ, List.getElem_cons_zero, Act.put, List.setIfInBounds_toArray, List.set_cons_zero, List.set_cons_succ]
              refine wpAnyH_ready (rs := [12]) (by kernel_rfl) (by simp) ?_
              refine (AllReadyH.cons (o := _) rfl (fun K hK => ?_) AllReadyH.nil)
              go_simp
              obtain ⟨X401, hX401⟩ : ∃ X, X398.alloc (.cells #[.int .i64 0, .int .u64 0, .int .u64 0, .int .u64 0, .int .u64 0] 38) = X := ⟨_, rfl⟩
              have bX401 : Below X398.heap.size X398 X401 := by rw [← hX401]; exact ball _ _
              have r403 := hid (row_on r399.out bX401)
              have r404 := hid (row_on r400.out bX401)
              have DX401 := hid (btr DX398.out bX401)
              have zX401 : X401.heap[X398.heap.size]? = some (.cells #[.int .i64 0, .int .u64 0, .int .u64 0, .int .u64 0, .int .u64 0] 38 (0, 0)) := by rw [← hX401]; exact World.alloc_heap_new _ _
              have yg402 := DX398.out.size
              obtain ⟨g402, hg402⟩ : ∃ g, X398.heap.size = g := ⟨_, rfl⟩
              have n405 : g402 ≠ R := by have := row_lt r399.out; omega
              have n406 : g402 ≠ g392 := by have := row_lt r400.out; omega
              rw [hg402] at zX401 yg402
              have ZX401 := hid zX401
              rw [hX401, hg402]
              clear hX401 hg402 zX401 bX401
              refine hK.out _ _ ?_ (fun hHeld => ?_)
              · (try dsimp only); exact ⟨row_cell r403.out 0, row_cell r403.out 1, row_cell r403.out 2⟩
              clear hK K
              try simp only [List.getElem_toArray, List.getElem_cons_succ, List.getElem_cons_zero, Act.put, List.setIfInBounds_toArray, List.set_cons_zero, List.set_cons_succ]
              refine wpAnyH_ready (rs := [14]) (by kernel_rfl) (by simp) ?_
              refine (AllReadyH.cons (o := _) rfl (fun K hK => ?_) AllReadyH.nil)
              refine step_store_row (by rfl) 38 (.tmp 14) (.tmp 73) (by rfl) g402 #[.int .i64 pc.qt, .int .u64 (hiW pc.co), .int .u64 (loW pc.co), .int .u64 (hiW pc.ga), .int .u64 (loW pc.ga)] (by rfl) (by rfl) 38 _ ZX401.out infoPo5 (by rfl) (by simp [Value.oneCell']) ?_
              obtain ⟨Y407, hY407⟩ : ∃ Y, X401.setRow g402 #[.int .i64 pc.qt, .int .u64 (hiW pc.co), .int .u64 (loW pc.co), .int .u64 (hiW pc.ga), .int .u64 (loW pc.ga)] = Y := ⟨_, rfl⟩
              have KY407 := hid (show Kp (fun j => j = g402) X401 Y407 from by rw [← hY407]; exact setRow_kp _ _ _)
              have AY407 := hid (show Y407.heap[g402]? = some (.cells #[.int .i64 pc.qt, .int .u64 (hiW pc.co), .int .u64 (loW pc.co), .int .u64 (hiW pc.ga), .int .u64 (loW pc.ga)] 38 (0, 0)) from by rw [← hY407]; exact setRow_heap X401 g402 _ _ 38 (0, 0) ZX401.out)
              have DY407 := hid (show Below Z.heap.size Z Y407 from by rw [← hY407]; exact setRow_below DX401.out yg402)
              have r408 := hid (KY407.out.row r403.out (fun e => n405.symm e))
              have r409 := hid (KY407.out.row r404.out (fun e => n406.symm e))
              rw [hY407]
              refine hK.out _ _ ?_ (fun hHeld => ?_)
              · (try dsimp only); exact ⟨row_cell r408.out 0, row_cell r408.out 1, row_cell r408.out 2⟩
              clear hK K hY407
              try simp only [List.getElem_toArray, List.getElem_cons_succ, List.getElem_cons_zero, Act.put, List.setIfInBounds_toArray, List.set_cons_zero, List.set_cons_succ]
              refine wpAnyH_ready (rs := [15]) (by kernel_rfl) (by simp) ?_
              refine (AllReadyH.cons (o := _) rfl (fun K hK => ?_) AllReadyH.nil)
              refine step_store_row (by rfl) 38 (.tmp 15) (.tmp 79) (by rfl) g392 #[.int .i64 pe.qt, .int .u64 (hiW pe.co), .int .u64 (loW pe.co), .int .u64 (hiW pe.ga), .int .u64 (loW pe.ga)] (by rfl) (by rfl) 38 _ r409.out infoPo5 (by rfl) (by simp [Value.oneCell']) ?_
              obtain ⟨Y410, hY410⟩ : ∃ Y, Y407.setRow g392 #[.int .i64 pe.qt, .int .u64 (hiW pe.co), .int .u64 (loW pe.co), .int .u64 (hiW pe.ga), .int .u64 (loW pe.ga)] = Y := ⟨_, rfl⟩
              have KY410 := hid (show Kp (fun j => j = g392) Y407 Y410 from by rw [← hY410]; exact setRow_kp _ _ _)
              have AY410 := hid (show Y410.heap[g392]? = some (.cells #[.int .i64 pe.qt, .int .u64 (hiW pe.co), .int .u64 (loW pe.co), .int .u64 (hiW pe.ga), .int .u64 (loW pe.ga)] 38 (0, 0)) from by rw [← hY410]; exact setRow_heap Y407 g392 _ _ 38 (0, 0) r409.out)
              have DY410 := hid (show Below Z.heap.size Z Y410 from by rw [← hY410]; exact setRow_below DY407.out yg392)
              have r411 := hid (KY410.out.row r408.out (fun e => n394.symm e))
              have r412 := hid (KY410.out.row AY407.out (fun e => n406 e))
              rw [hY410]
              refine hK.out _ _ ?_ (fun hHeld => ?_)
              · (try dsimp only); exact ⟨row_cell r411.out 0, row_cell r411.out 1, row_cell r411.out 2⟩
              clear hK K hY410
              try simp only [List.getElem_toArray, List.getElem_cons_succ, List.getElem_cons_zero, Act.put, List.setIfInBounds_toArray, List.set_cons_zero, List.set_cons_succ]
              refine wpAnyH_done (by kernel_rfl) ?_ _
              exact ⟨(g402, g392), by kernel_rfl, DY410, r412, AY410, yg402, yg392⟩
            · go_simp
              obtain ⟨X413, hX413⟩ : ∃ X, X395.alloc (.cells #[.int .i64 0, .int .u64 0, .int .u64 0, .int .u64 0, .int .u64 0] 38) = X := ⟨_, rfl⟩
              have bX413 : Below X395.heap.size X395 X413 := by rw [← hX413]; exact ball _ _
              have r415 := hid (row_on r396.out bX413)
              have r416 := hid (row_on r397.out bX413)
              have DX413 := hid (btr DX395.out bX413)
              have zX413 : X413.heap[X395.heap.size]? = some (.cells #[.int .i64 0, .int .u64 0, .int .u64 0, .int .u64 0, .int .u64 0] 38 (0, 0)) := by rw [← hX413]; exact World.alloc_heap_new _ _
              have yg414 := DX395.out.size
              obtain ⟨g414, hg414⟩ : ∃ g, X395.heap.size = g := ⟨_, rfl⟩
              have n417 : g414 ≠ R := by have := row_lt r396.out; omega
              have n418 : g414 ≠ g392 := by have := row_lt r397.out; omega
              rw [hg414] at zX413 yg414
              have ZX413 := hid zX413
              rw [hX413, hg414]
              clear hX413 hg414 zX413 bX413
              refine hK.out _ _ ?_ (fun hHeld => ?_)
              · (try dsimp only); exact ⟨row_cell r415.out 0, row_cell r415.out 1, row_cell r415.out 2⟩
              clear hK K
              try simp only [List.getElem_toArray, List.getElem_cons_succ, List.getElem_cons_zero, Act.put, List.setIfInBounds_toArray, List.set_cons_zero, List.set_cons_succ]
              refine wpAnyH_ready (rs := [11]) (by kernel_rfl) (by simp) ?_
              refine (AllReadyH.cons (o := _) rfl (fun K hK => ?_) AllReadyH.nil)
              go_simp
              go_at_call 7
              with_reducible refine (CQb.out X413 DX413.out).mono ?_
              rintro e X419 ⟨rfl, DbX419⟩
              have r420 := hid (row_on r415.out DbX419.out)
              have r421 := hid (row_on r416.out DbX419.out)
              have r422 := hid (row_on ZX413.out DbX419.out)
              have DX419 := hid (btr DX413.out DbX419.out)
              have UX419 := hid (DX413.out.size)
              (try go_wp2_with fail)
              refine hK.out _ _ ?_ (fun hHeld => ?_)
              · (try dsimp only); exact ⟨row_cell r420.out 0, row_cell r420.out 1, row_cell r420.out 2⟩
              clear hK K
              try simp only [List.getElem_toArray, List.getElem_cons_succ, List.getElem_cons_zero, Act.put, List.setIfInBounds_toArray, List.set_cons_zero, List.set_cons_succ]
              refine wpAnyH_ready (rs := [14]) (by kernel_rfl) (by simp) ?_
              refine (AllReadyH.cons (o := _) rfl (fun K hK => ?_) AllReadyH.nil)
              refine step_store_row (by rfl) 38 (.tmp 14) (.tmp 73) (by rfl) g414 #[.int .i64 pc.qt, .int .u64 (hiW pc.co), .int .u64 (loW pc.co), .int .u64 (hiW pc.ga), .int .u64 (loW pc.ga)] (by rfl) (by rfl) 38 _ r422.out infoPo5 (by rfl) (by simp [Value.oneCell']) ?_
              obtain ⟨Y423, hY423⟩ : ∃ Y, X419.setRow g414 #[.int .i64 pc.qt, .int .u64 (hiW pc.co), .int .u64 (loW pc.co), .int .u64 (hiW pc.ga), .int .u64 (loW pc.ga)] = Y := ⟨_, rfl⟩
              have KY423 := hid (show Kp (fun j => j = g414) X419 Y423 from by rw [← hY423]; exact setRow_kp _ _ _)
              have AY423 := hid (show Y423.heap[g414]? = some (.cells #[.int .i64 pc.qt, .int .u64 (hiW pc.co), .int .u64 (loW pc.co), .int .u64 (hiW pc.ga), .int .u64 (loW pc.ga)] 38 (0, 0)) from by rw [← hY423]; exact setRow_heap X419 g414 _ _ 38 (0, 0) r422.out)
              have DY423 := hid (show Below Z.heap.size Z Y423 from by rw [← hY423]; exact setRow_below DX419.out yg414)
              have r424 := hid (KY423.out.row r420.out (fun e => n417.symm e))
              have r425 := hid (KY423.out.row r421.out (fun e => n418.symm e))
              rw [hY423]
              refine hK.out _ _ ?_ (fun hHeld => ?_)
              · (try dsimp only); exact ⟨row_cell r424.out 0, row_cell r424.out 1, row_cell r424.out 2⟩
              clear hK K hY423
              try simp only [List.getElem_toArray, List.getElem_cons_succ, List.getElem_cons_zero, Act.put, List.setIfInBounds_toArray, List.set_cons_zero, List.set_cons_succ]
              refine wpAnyH_ready (rs := [15]) (by kernel_rfl) (by simp) ?_
              refine (AllReadyH.cons (o := _) rfl (fun K hK => ?_) AllReadyH.nil)
              refine step_store_row (by rfl) 38 (.tmp 15) (.tmp 79) (by rfl) g392 #[.int .i64 pe.qt, .int .u64 (hiW pe.co), .int .u64 (loW pe.co), .int .u64 (hiW pe.ga), .int .u64 (loW pe.ga)] (by rfl) (by rfl) 38 _ r425.out infoPo5 (by rfl) (by simp [Value.oneCell']) ?_
              obtain ⟨Y426, hY426⟩ : ∃ Y, Y423.setRow g392 #[.int .i64 pe.qt, .int .u64 (hiW pe.co), .int .u64 (loW pe.co), .int .u64 (hiW pe.ga), .int .u64 (loW pe.ga)] = Y := ⟨_, rfl⟩
              have KY426 := hid (show Kp (fun j => j = g392) Y423 Y426 from by rw [← hY426]; exact setRow_kp _ _ _)
              have AY426 := hid (show Y426.heap[g392]? = some (.cells #[.int .i64 pe.qt, .int .u64 (hiW pe.co), .int .u64 (loW pe.co), .int .u64 (hiW pe.ga), .int .u64 (loW pe.ga)] 38 (0, 0)) from by rw [← hY426]; exact setRow_heap Y423 g392 _ _ 38 (0, 0) r425.out)
              have DY426 := hid (show Below Z.heap.size Z Y426 from by rw [← hY426]; exact setRow_below DY423.out yg392)
              have r427 := hid (KY426.out.row r424.out (fun e => n394.symm e))
              have r428 := hid (KY426.out.row AY423.out (fun e => n418 e))
              rw [hY426]
              refine hK.out _ _ ?_ (fun hHeld => ?_)
              · (try dsimp only); exact ⟨row_cell r427.out 0, row_cell r427.out 1, row_cell r427.out 2⟩
              clear hK K hY426
              try simp only [List.getElem_toArray, List.getElem_cons_succ, List.getElem_cons_zero, Act.put, List.setIfInBounds_toArray, List.set_cons_zero, List.set_cons_succ]
              refine wpAnyH_done (by kernel_rfl) ?_ _
              exact ⟨(g414, g392), by kernel_rfl, DY426, r428, AY426, yg414, yg392⟩
          · go_simp
            obtain ⟨X429, hX429⟩ : ∃ X, X391.alloc (.cells #[.int .i64 0, .int .u64 0, .int .u64 0, .int .u64 0, .int .u64 0] 38) = X := ⟨_, rfl⟩
            have bX429 : Below X391.heap.size X391 X429 := by rw [← hX429]; exact ball _ _
            have r431 := hid (row_on r393.out bX429)
            have r432 := hid (row_on ZX391.out bX429)
            have DX429 := hid (btr DX391.out bX429)
            have zX429 : X429.heap[X391.heap.size]? = some (.cells #[.int .i64 0, .int .u64 0, .int .u64 0, .int .u64 0, .int .u64 0] 38 (0, 0)) := by rw [← hX429]; exact World.alloc_heap_new _ _
            have yg430 := DX391.out.size
            obtain ⟨g430, hg430⟩ : ∃ g, X391.heap.size = g := ⟨_, rfl⟩
            have n433 : g430 ≠ R := by have := row_lt r393.out; omega
            have n434 : g430 ≠ g392 := by have := row_lt ZX391.out; omega
            rw [hg430] at zX429 yg430
            have ZX429 := hid zX429
            rw [hX429, hg430]
            clear hX429 hg430 zX429 bX429
            refine hK.out _ _ ?_ (fun hHeld => ?_)
            · (try dsimp only); exact ⟨row_cell r431.out 0, row_cell r431.out 1, row_cell r431.out 2⟩
            clear hK K
            try simp only [List.getElem_toArray, List.getElem_cons_succ, List.getElem_cons_zero, Act.put, List.setIfInBounds_toArray, List.set_cons_zero, List.set_cons_succ]
            refine wpAnyH_ready (rs := [5]) (by kernel_rfl) (by simp) ?_
            refine (AllReadyH.cons (o := _) rfl (fun K hK => ?_) AllReadyH.nil)
            go_simp
            go_at_call 7
            with_reducible refine (CQa.out X429 DX429.out).mono ?_
            rintro e X435 ⟨rfl, DbX435⟩
            have r436 := hid (row_on r431.out DbX435.out)
            have r437 := hid (row_on r432.out DbX435.out)
            have r438 := hid (row_on ZX429.out DbX435.out)
            have DX435 := hid (btr DX429.out DbX435.out)
            have UX435 := hid (DX429.out.size)
            (try go_wp2_with fail)
            refine hK.out _ _ ?_ (fun hHeld => ?_)
            · (try dsimp only); exact ⟨row_cell r436.out 0, row_cell r436.out 1, row_cell r436.out 2⟩
            clear hK K
            try simp only [List.getElem_toArray, List.getElem_cons_succ, List.getElem_cons_zero, Act.put, List.setIfInBounds_toArray, List.set_cons_zero, List.set_cons_succ]
            refine wpAnyH_ready (rs := [11]) (by kernel_rfl) (by simp) ?_
            refine (AllReadyH.cons (o := _) rfl (fun K hK => ?_) AllReadyH.nil)
            go_simp
            go_at_call 7
            with_reducible refine (CQb.out X435 DX435.out).mono ?_
            rintro e X439 ⟨rfl, DbX439⟩
            have r440 := hid (row_on r436.out DbX439.out)
            have r441 := hid (row_on r437.out DbX439.out)
            have r442 := hid (row_on r438.out DbX439.out)
            have DX439 := hid (btr DX435.out DbX439.out)
            have UX439 := hid (DX435.out.size)
            (try go_wp2_with fail)
            refine hK.out _ _ ?_ (fun hHeld => ?_)
            · (try dsimp only); exact ⟨row_cell r440.out 0, row_cell r440.out 1, row_cell r440.out 2⟩
            clear hK K
            try simp only [List.getElem_toArray, List.getElem_cons_succ, List.getElem_cons_zero, Act.put, List.setIfInBounds_toArray, List.set_cons_zero, List.set_cons_succ]
            refine wpAnyH_ready (rs := [14]) (by kernel_rfl) (by simp) ?_
            refine (AllReadyH.cons (o := _) rfl (fun K hK => ?_) AllReadyH.nil)
            refine step_store_row (by rfl) 38 (.tmp 14) (.tmp 73) (by rfl) g430 #[.int .i64 pc.qt, .int .u64 (hiW pc.co), .int .u64 (loW pc.co), .int .u64 (hiW pc.ga), .int .u64 (loW pc.ga)] (by rfl) (by rfl) 38 _ r442.out infoPo5 (by rfl) (by simp [Value.oneCell']) ?_
            obtain ⟨Y443, hY443⟩ : ∃ Y, X439.setRow g430 #[.int .i64 pc.qt, .int .u64 (hiW pc.co), .int .u64 (loW pc.co), .int .u64 (hiW pc.ga), .int .u64 (loW pc.ga)] = Y := ⟨_, rfl⟩
            have KY443 := hid (show Kp (fun j => j = g430) X439 Y443 from by rw [← hY443]; exact setRow_kp _ _ _)
            have AY443 := hid (show Y443.heap[g430]? = some (.cells #[.int .i64 pc.qt, .int .u64 (hiW pc.co), .int .u64 (loW pc.co), .int .u64 (hiW pc.ga), .int .u64 (loW pc.ga)] 38 (0, 0)) from by rw [← hY443]; exact setRow_heap X439 g430 _ _ 38 (0, 0) r442.out)
            have DY443 := hid (show Below Z.heap.size Z Y443 from by rw [← hY443]; exact setRow_below DX439.out yg430)
            have r444 := hid (KY443.out.row r440.out (fun e => n433.symm e))
            have r445 := hid (KY443.out.row r441.out (fun e => n434.symm e))
            rw [hY443]
            refine hK.out _ _ ?_ (fun hHeld => ?_)
            · (try dsimp only); exact ⟨row_cell r444.out 0, row_cell r444.out 1, row_cell r444.out 2⟩
            clear hK K hY443
            try simp only [List.getElem_toArray, List.getElem_cons_succ, List.getElem_cons_zero, Act.put, List.setIfInBounds_toArray, List.set_cons_zero, List.set_cons_succ]
            refine wpAnyH_ready (rs := [15]) (by kernel_rfl) (by simp) ?_
            refine (AllReadyH.cons (o := _) rfl (fun K hK => ?_) AllReadyH.nil)
            refine step_store_row (by rfl) 38 (.tmp 15) (.tmp 79) (by rfl) g392 #[.int .i64 pe.qt, .int .u64 (hiW pe.co), .int .u64 (loW pe.co), .int .u64 (hiW pe.ga), .int .u64 (loW pe.ga)] (by rfl) (by rfl) 38 _ r445.out infoPo5 (by rfl) (by simp [Value.oneCell']) ?_
            obtain ⟨Y446, hY446⟩ : ∃ Y, Y443.setRow g392 #[.int .i64 pe.qt, .int .u64 (hiW pe.co), .int .u64 (loW pe.co), .int .u64 (hiW pe.ga), .int .u64 (loW pe.ga)] = Y := ⟨_, rfl⟩
            have KY446 := hid (show Kp (fun j => j = g392) Y443 Y446 from by rw [← hY446]; exact setRow_kp _ _ _)
            have AY446 := hid (show Y446.heap[g392]? = some (.cells #[.int .i64 pe.qt, .int .u64 (hiW pe.co), .int .u64 (loW pe.co), .int .u64 (hiW pe.ga), .int .u64 (loW pe.ga)] 38 (0, 0)) from by rw [← hY446]; exact setRow_heap Y443 g392 _ _ 38 (0, 0) r445.out)
            have DY446 := hid (show Below Z.heap.size Z Y446 from by rw [← hY446]; exact setRow_below DY443.out yg392)
            have r447 := hid (KY446.out.row r444.out (fun e => n394.symm e))
            have r448 := hid (KY446.out.row AY443.out (fun e => n434 e))
            rw [hY446]
            refine hK.out _ _ ?_ (fun hHeld => ?_)
            · (try dsimp only); exact ⟨row_cell r447.out 0, row_cell r447.out 1, row_cell r447.out 2⟩
            clear hK K hY446
            try simp only [List.getElem_toArray, List.getElem_cons_succ, List.getElem_cons_zero, Act.put, List.setIfInBounds_toArray, List.set_cons_zero, List.set_cons_succ]
            refine wpAnyH_done (by kernel_rfl) ?_ _
            exact ⟨(g430, g392), by kernel_rfl, DY446, r448, AY446, yg430, yg392⟩
      rintro ⟨t3, t4⟩ V2 ⟨B13, GC, GE, N3, N4⟩
      try simp only [List.getElem_toArray, List.getElem_cons_succ, List.getElem_cons_zero, Act.put, List.setIfInBounds_toArray, List.set_cons_zero, List.set_cons_succ]
      dsimp only at GC GE N3 N4
      have NV := hid (NZ.out.on B13.out)
      have GDv := hid (row_on GDz.out B13.out)
      have GAv := hid (row_on GAz.out B13.out)
      have GBv := hid (row_on GBz.out B13.out)
      clear CQa CQb GDz GAz GBz N3 N4
      go_upto_region 14 with fail
      have NXT := hid (show ∀ U, Below V2.heap.size V2 U → Nl w U G (K + 13 * (i + 1)) s' from fun U hU => by obtain ⟨O9, x1, x2, x3⟩ := NV.out.on hU; exact ⟨O9, x1.mono (by omega), x2, x3⟩)
      have LV := hid (LZ.out.on B13.out)
      rcases HCZ.out with ⟨hr0, hs, _⟩ | ⟨hr0, hbk⟩
      · subst hs
        have er : (r == 0) = false := by simpa using hr0
        have ea : pc = pa := HPC.out.symm.trans HPA.out
        have eb : pe = pb := HPE.out.symm.trans HPB.out
        subst ea
        subst eb
        clear hr0
        obtain ⟨B9, P9, p9, c9, hx⟩ := LV.out
        have oka := (hx.gok bu it).1
        have okb := (hx.gok se it).1
        rw [HPC.out] at oka
        rw [HPE.out] at okb
        clear hx
        have CEn := hid (entries_any LV.out (by have := HMM.out; omega))
        have CM1 := hid (show ∀ U, Calls Try.prog 9 #[mv pc.co, mv pc.co] U fun e w' => e = .returned (.int .i64 0) ∧ Below U.heap.size U w' from fun U => by have h1 := mcompare_any pc.co pc.co U oka.co oka.co; rw [show cmp3 pc.co pc.co = 0 from by unfold cmp3; rw [if_neg (by omega), if_neg (by omega)]] at h1; exact h1)
        have CM2 := hid (show ∀ U, Calls Try.prog 9 #[mv pe.ga, mv pe.ga] U fun e w' => e = .returned (.int .i64 0) ∧ Below U.heap.size U w' from fun U => by have h1 := mcompare_any pe.ga pe.ga U okb.ga okb.ga; rw [show cmp3 pe.ga pe.ga = 0 from by unfold cmp3; rw [if_neg (by omega), if_neg (by omega)]] at h1; exact h1)
        unfold mv at CM1 CM2
        clear oka okb
        go_wp2_with (first | (go_at_call 6; with_reducible refine CEn.out.mono ?_; rintro e u1 ⟨p3, c3, rfl, hb⟩; have BU1 := hid hb; have Ax := hid (row_on GAv.out hb); have Bx := hid (row_on GBv.out hb); have Cx := hid (row_on GC.out hb); have Ex := hid (row_on GE.out hb); have ax0 := row_cell Ax.out 0; have ax1 := row_cell Ax.out 1; have ax2 := row_cell Ax.out 2; have ax3 := row_cell Ax.out 3; have ax4 := row_cell Ax.out 4; have bx0 := row_cell Bx.out 0; have bx1 := row_cell Bx.out 1; have bx2 := row_cell Bx.out 2; have bx3 := row_cell Bx.out 3; have bx4 := row_cell Bx.out 4; have cx0 := row_cell Cx.out 0; have cx1 := row_cell Cx.out 1; have cx2 := row_cell Cx.out 2; have cx3 := row_cell Cx.out 3; have cx4 := row_cell Cx.out 4; have ex0 := row_cell Ex.out 0; have ex1 := row_cell Ex.out 1; have ex2 := row_cell Ex.out 2; have ex3 := row_cell Ex.out 3; have ex4 := row_cell Ex.out 4; simp only [List.getElem?_toArray, List.getElem?_cons_succ, List.getElem?_cons_zero] at ax0 ax1 ax2 ax3 ax4 bx0 bx1 bx2 bx3 bx4 cx0 cx1 cx2 cx3 cx4 ex0 ex1 ex2 ex3 ex4; clear hb) | (go_at_call 9; with_reducible refine (CM1.out u1).mono ?_; rintro e u2 ⟨rfl, hb⟩; have BU2 := hid (btr BU1.out hb); have By := hid (row_on Bx.out hb); have Ey := hid (row_on Ex.out hb); have by0 := row_cell By.out 0; have by1 := row_cell By.out 1; have by2 := row_cell By.out 2; have by3 := row_cell By.out 3; have by4 := row_cell By.out 4; have ey0 := row_cell Ey.out 0; have ey1 := row_cell Ey.out 1; have ey2 := row_cell Ey.out 2; have ey3 := row_cell Ey.out 3; have ey4 := row_cell Ey.out 4; simp only [List.getElem?_toArray, List.getElem?_cons_succ, List.getElem?_cons_zero] at by0 by1 by2 by3 by4 ey0 ey1 ey2 ey3 ey4; clear hb) | (go_at_call 9; with_reducible refine (CM2.out u2).mono ?_; rintro e u3 ⟨rfl, hb⟩; have BU3 := hid (btr BU2.out hb); clear hb))
        go_roundw
        case rel => exact ⟨i + 1, s', by omega, by go_num, hid (NXT.out _ BU3.out)⟩
        case measure => simp [intOf]; omega
      · subst hr0
        have HQ0 := hid (bkc_ok hbk.bk)
        by_cases hbs : bu = se
        · have e1 : (bu != se) = false := by simp [hbs]
          have HBS := hid hbs
          clear hbs
          have d1 := row_cell GDv.out 1
          have d2 := row_cell GDv.out 2
          simp only [List.getElem?_toArray, List.getElem?_cons_succ, List.getElem?_cons_zero] at d1 d2
          go_wp2
          go_roundw
          case rel => exact ⟨i + 1, s', by omega, by go_num, hid (NXT.out _ (Below.refl _ _))⟩
          case measure => simp [intOf]; omega
        · have e1 : (bu != se) = true := by simpa using hbs
          obtain ⟨q1, q2⟩ := hbk.qb hbs
          have q1 : (s'.g bu it).qt = (s.g bu it).qt + qt := q1
          have q2 : (s'.g se it).qt = (s.g se it).qt - qt := q2
          rw [HPC.out, HPA.out] at q1
          rw [HPE.out, HPB.out] at q2
          obtain ⟨B9, P9, p9, c9, hx⟩ := LG.out
          have ka := absI_of (hx.gok bu it).2
          have kb := absI_of (hx.gok se it).2
          rw [HPA.out] at ka
          rw [HPB.out] at kb
          clear hx
          have hq0 : 0 < qt := HQ0.out.q0
          have hq1 : qt < 4294967296 := HQ0.out.q1
          have w1 : IntKind.i64.wrap qt = qt := by rw [IntKind.wrap_i64]; omega
          have w2 : IntKind.i64.wrap (pa.qt + qt) = pa.qt + qt := by rw [IntKind.wrap_i64]; omega
          have w3 : IntKind.i64.wrap (pb.qt - qt) = pb.qt - qt := by rw [IntKind.wrap_i64]; omega
          have n1 : (pc.qt != pa.qt + qt) = false := by simp [q1]
          have n2 : (pe.qt != pb.qt - qt) = false := by simp [q2]
          clear q1 q2 ka kb hq0 hq1 hbs
          have d1 := row_cell GDv.out 1
          have d2 := row_cell GDv.out 2
          have d5 := row_cell GDv.out 5
          simp only [List.getElem?_toArray, List.getElem?_cons_succ, List.getElem?_cons_zero] at d1 d2 d5
          have c0 := row_cell GC.out 0
          simp only [List.getElem?_toArray, List.getElem?_cons_succ, List.getElem?_cons_zero] at c0
          have f0 := row_cell GAv.out 0
          simp only [List.getElem?_toArray, List.getElem?_cons_succ, List.getElem?_cons_zero] at f0
          have g0 := row_cell GE.out 0
          simp only [List.getElem?_toArray, List.getElem?_cons_succ, List.getElem?_cons_zero] at g0
          have h0 := row_cell GBv.out 0
          simp only [List.getElem?_toArray, List.getElem?_cons_succ, List.getElem?_cons_zero] at h0
          go_wp2
          go_roundw
          case rel => exact ⟨i + 1, s', by omega, by go_num, hid (NXT.out _ (Below.refl _ _))⟩
          case measure => simp [intOf]; omega
    · obtain rfl : i = n := by omega
      have CZ := hid (nl_open_zero HE.out)
      go_wp2_with (go_at_call 10; with_reducible refine (CZ.out).mono ?_; rintro e w9 ⟨rfl, hg⟩; have HG9 := hid hg; clear hg)
      go_ret
      exact ⟨rfl, HG9.out.below⟩
end Go.Proofs.Ytdbnkidfclgnfaa.Ac
