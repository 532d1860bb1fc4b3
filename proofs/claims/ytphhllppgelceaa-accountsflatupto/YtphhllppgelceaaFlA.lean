/-
  AccountsFlat: the walk.
-/
import Derived.Test.YtphhllppgelceaaGh
namespace Go.Proofs.Ytphhllppgelceaa.Ac
open Go.RowKit Go.Deep Go.Maps Go.Proofs.Ytphhllppgelceaa.MonM
set_option linter.unusedVariables false
set_option linter.unusedSimpArgs false
set_option maxHeartbeats 8000000
set_option maxRecDepth 100000
attribute [local go_sem ↓] Go.wp_at_zero Go.wp_at_succ
/-- deals that came in. -/
def Dz (w : World) (q : Option Addr) (l : List De) : Prop := ∀ i (h : i < l.length), ∃ b off, q = some ⟨b, off, none⟩ ∧ b < w.heap.size ∧ ∀ j, j < 6 → w.cell? ⟨b, off + i * 6 + j, none⟩ = (l[i].row)[j]?
theorem Dz.at {w : World} {q : Option Addr} {l : List De} (h : Dz w q l) {i : Nat} (hi : i < l.length) : ∃ b off, q = some ⟨b, off, none⟩ ∧ ∀ U, Below w.heap.size w U → U.cell? ⟨b, off + i * 6, none⟩ = some (.int .u32 l[i].it) ∧ U.cell? ⟨b, off + i * 6 + 1, none⟩ = some (.int .u32 l[i].bu) ∧ U.cell? ⟨b, off + i * 6 + 2, none⟩ = some (.int .u32 l[i].se) ∧ U.cell? ⟨b, off + i * 6 + 3, none⟩ = some (.int .i64 l[i].ta) ∧ U.cell? ⟨b, off + i * 6 + 4, none⟩ = some (.int .i64 l[i].pr) ∧ U.cell? ⟨b, off + i * 6 + 5, none⟩ = some (.int .u64 l[i].qt) := by
  obtain ⟨b, off, e, hb, hc⟩ := h i hi
  refine ⟨b, off, e, fun U hU => ?_⟩
  have g : ∀ j, j < 6 → U.cell? ⟨b, off + i * 6 + j, none⟩ = (l[i].row)[j]? := fun j hj => by rw [hU.cell (p := ⟨b, off + i * 6 + j, none⟩) hb]; exact hc j hj
  exact ⟨g 0 (by decide), g 1 (by decide), g 2 (by decide), g 3 (by decide), g 4 (by decide), g 5 (by decide)⟩
theorem ptr_nil (B : Nat) (U : World) : (binOp .eql 29 (.pointer (some ⟨B, 0, none⟩)) (.pointer none)).run Try.prog U = .ok (.bool false) U := by kernel_rfl
theorem tot_le {l : List Int} {h : Int → Int} (hh : ∀ m, absI (h m) ≤ 4294967295) : absI (tot l h) ≤ l.length * 4294967295 := by
  induction l with
  | nil => simp [tot, absI]
  | cons x l ih =>
    rw [tot_cons]
    have h1 := absI_of (hh x)
    have h2 := absI_of ih
    have h3 : ((x :: l).length : Int) * 4294967295 = 4294967295 + l.length * 4294967295 := by rw [List.length_cons]; omega
    rw [h3]
    exact absI_le (by omega) (by omega)
theorem flat_no (ma ta bb : Int) (q : Option Addr) (n c : Nat) (q2 : Option Addr) (n2 c2 : Nat) (w : World) (h : bb = 0 ∨ bb < ma ∨ bb < ta) :
    Calls Try.prog 4 #[.agg #[.int .u32 ma, .int .u32 ta, .int .u32 bb], .slice q n c, .slice q2 n2 c2] w fun e w' => e = .returned (.bool true) ∧ Below w.heap.size w w' := by
  obtain ⟨Wa, hWa⟩ : ∃ W, w.alloc (.cells #[.int .u32 ma, .int .u32 ta, .int .u32 bb] 24) = W := ⟨_, rfl⟩
  have HBA := hid (show Below w.heap.size w Wa from by rw [← hWa]; exact ball _ _)
  have HRA := hid (show Wa.heap[w.heap.size]? = some (.cells #[.int .u32 ma, .int .u32 ta, .int .u32 bb] 24 (0, 0)) from by rw [← hWa]; exact World.alloc_heap_new _ _)
  have C := hid (fun U => opened_no ma ta bb q n c U h)
  have CL := hid lives_ok
  have HWa := hid hWa
  clear hWa
  have h3 : (bb == 0) = true ∨ (bb == 0) = false ∧ decide (bb < ma) = true ∨ (bb == 0) = false ∧ decide (bb < ma) = false ∧ decide (bb < ta) = true := by
    by_cases a : bb = 0
    · exact .inl (by simpa using a)
    · by_cases b : bb < ma
      · exact .inr (.inl ⟨by simpa using a, by simpa using b⟩)
      · refine .inr (.inr ⟨by simpa using a, by simpa using b, ?_⟩)
        rcases h with h | h | h
        · exact absurd h a
        · exact absurd h b
        · simpa using h
  clear h
  rcases h3 with e1 | ⟨e1, e2⟩ | ⟨e1, e2, e3⟩
  all_goals (
    go_enter Try.func4, Try.ntmps4
    go_upto_region 1 with fail
    rw [HWa.out]
    go_wp2_with (first | (go_at_call 6; with_reducible refine (CL.out _).mono ?_; rintro e w1 ⟨rfl, hb⟩; have HB1 := hid (btr HBA.out hb); have HR1 := hid (row_on HRA.out hb); have c0 := row_cell HR1.out 0; have c1 := row_cell HR1.out 1; have c2 := row_cell HR1.out 2; simp only [List.getElem?_toArray, List.getElem?_cons_succ, List.getElem?_cons_zero] at c0 c1 c2; clear hb) | (go_at_call 7; with_reducible refine (C.out _).mono ?_; rintro e w2 ⟨rfl, hb⟩; have HB2 := hid (btr HB1.out hb); have HR2 := hid (row_on HR1.out hb); have d0 := row_cell HR2.out 0; have d1 := row_cell HR2.out 1; have d2 := row_cell HR2.out 2; simp only [List.getElem?_toArray, List.getElem?_cons_succ, List.getElem?_cons_zero] at d0 d1 d2; clear hb))
    go_ret
    exact ⟨rfl, HB2.out⟩)
theorem flat_ok (ma ta bb : Int) (q : Option Addr) (c : Nat) (us : List Int) (q2 : Option Addr) (c2 : Nat) (l : List De) (w : World) (h0 : 0 ≤ ma) (h1 : 0 ≤ ta) (h2 : 0 < bb) (h3 : ma ≤ bb) (h4 : ta ≤ bb) (h5 : bb < 4294967296) (hu : Uz w q us) (hus : ∀ x ∈ us, U32 x) (hum : us.length ≤ 1048576) (hd : Dz w q2 l) (hdl : ∀ x ∈ l, DeOk x) (hm : l.length ≤ 1048576) :
    Calls Try.prog 4 #[.agg #[.int .u32 ma, .int .u32 ta, .int .u32 bb], .slice q us.length c, .slice q2 l.length c2] w fun e w' => e = .returned (.bool true) ∧ Below w.heap.size w w' := by
  obtain ⟨Wa, hWa⟩ : ∃ W, w.alloc (.cells #[.int .u32 ma, .int .u32 ta, .int .u32 bb] 24) = W := ⟨_, rfl⟩
  have HBA := hid (show Below w.heap.size w Wa from by rw [← hWa]; exact ball _ _)
  have HRA := hid (show Wa.heap[w.heap.size]? = some (.cells #[.int .u32 ma, .int .u32 ta, .int .u32 bb] 24 (0, 0)) from by rw [← hWa]; exact World.alloc_heap_new _ _)
  have C := hid (show ∀ U, Below w.heap.size w U → Calls Try.prog 7 #[.agg #[.int .u32 ma, .int .u32 ta, .int .u32 bb], .slice q us.length c] U fun e w' => ∃ G s, e = .returned (.pointer (some ⟨G, 0, none⟩)) ∧ Nl U w' G us.length s ∧ Nw s ma ta bb from fun U hU => opened_g ma ta bb q c us U h0 h1 h2 h3 h4 h5 (fun i hi => by
    obtain ⟨b, off, e, hb, hc⟩ := hu i hi
    exact ⟨b, off, e, Nat.lt_of_lt_of_le hb hU.size, by rw [hU.cell (p := ⟨b, off + i, none⟩) hb]; exact hc⟩) hus hum)
  have CL := hid lives_ok
  have HWa := hid hWa
  obtain ⟨K, hK⟩ : ∃ n, us.length = n := ⟨_, rfl⟩
  rw [hK] at C hum ⊢
  obtain ⟨n, hn⟩ : ∃ n, l.length = n := ⟨_, rfl⟩
  have HN := hid hn
  have HD := hid hd
  have HDL := hid hdl
  have HMM := hid (And.intro hum hm)
  rw [hn] at hm HMM ⊢
  clear hWa h0 h1 h2 h3 h4 h5 hu hus hd hdl hn hK hum
  have pq := ptr_nil
  go_enter Try.func4, Try.ntmps4
  go_upto_region 1 with fail
  rw [HWa.out]
  go_upto_region 7 with (first | (go_at_call 6; with_reducible refine (CL.out _).mono ?_; rintro e w1 ⟨rfl, hb⟩; have HB1 := hid (btr HBA.out hb); have HR1 := hid (row_on HRA.out hb); have c0 := row_cell HR1.out 0; have c1 := row_cell HR1.out 1; have c2 := row_cell HR1.out 2; simp only [List.getElem?_toArray, List.getElem?_cons_succ, List.getElem?_cons_zero] at c0 c1 c2; clear hb) | (go_at_call 7; with_reducible refine (C.out _ HB1.out).mono ?_; rintro e w2 ⟨G, s0, rfl, hg, hw⟩; have HG := hid hg; have HNW := hid hw.fl; clear hg hw))
  clear c0 c1 c2 C CL HWa HRA HR1
  have HB2 := hid (show Nl w w2 G (K + 13 * 0) s0 from by
    obtain ⟨O, a1, a2, a3⟩ := HG.out
    exact ⟨O, a1, btr HB1.out a2, fun b hb => Nat.le_trans HB1.out.size (a3 b hb)⟩)
  go_loopw [8] (fun iv wr => ∃ i s, i ≤ n ∧ iv = .int .i64 (i : Nat) ∧ Hid (Nl w wr G (K + 13 * i) s) ∧ Hid (Fl s)) (fun iv _ => n - (intOf iv).toNat)
  case atStart => exact ⟨0, _, by omega, rfl, HB2, HNW⟩
  case round =>
    obtain ⟨i, s, hin, rfl, HE, HFL⟩ := hrel
    clear HG HB2 HNW
    by_cases hlt : i < n
    · have hi : i < l.length := by rw [HN.out]; exact hlt
      obtain ⟨b, off, eq, hcl⟩ := HD.out.at hi
      subst eq
      have hz := HDL.out _ (List.getElem_mem hi)
      obtain ⟨z, hz0⟩ : ∃ z, l[i] = z := ⟨_, rfl⟩
      rw [hz0] at hcl hz
      obtain ⟨it, bu, se, ta9, pr, qt⟩ := z
      simp only at hcl
      have HCL := hid hcl
      have HZ := hid hz
      clear hz hz0 hcl
      obtain ⟨a0, a1, a2, a3, a4, a5⟩ := HCL.out wr HE.out.below
      have i0 : (0 : Int) ≤ (i : Int) := by omega
      have i1 : (i : Int) < (n : Int) := by omega
      have HIL := hid hlt
      have CBk := hid (show Calls Try.prog 17 #[.pointer (some ⟨G, 0, none⟩), .agg #[.int .u32 it, .int .u32 bu, .int .u32 se, .int .i64 ta9, .int .i64 pr, .int .u64 qt]] wr _ from nl_book HE.out ⟨it, bu, se, ta9, pr, qt⟩ HZ.out (by have := HMM.out; omega))
      go_upto_region 10 with (go_at_call 17; with_reducible refine CBk.out.mono ?_; rintro e Z ⟨r, s', rfl, z1, z2⟩; have NZ := hid z1; have HFZ := hid (show Fl s' from by rcases z2 with ⟨_, h1, _⟩ | ⟨_, h1⟩; rw [h1]; exact HFL.out; exact HFL.out.book HZ.out h1); clear z1 z2)
      clear a0 a1 a2 a3 a4 a5 CBk
      have CMb := hid (show Calls Try.prog 9 #[.pointer (some ⟨G, 0, none⟩)] Z fun e w' => ∃ l q d, e = .returned (.slice q (l : List Int).length d) ∧ Mb s' l ∧ Uz w' q l ∧ l.length ≤ K + 13 * i + 13 ∧ Below Z.heap.size Z w' from by obtain ⟨O, h1, _, _⟩ := NZ.out; exact members_any h1 (by have := HMM.out; omega))
      go_upto_region 11 with (go_at_call 9; with_reducible refine CMb.out.mono ?_; rintro e X ⟨ms, qm, dm, rfl, z1, z2, z3, z4⟩; have HMB := hid z1; have HUZ := hid z2; have HML := hid z3; have HBX := hid z4; clear z1 z2 z3 z4)
      have NX := hid (NZ.out.on HBX.out)
      clear CMb NZ
      obtain ⟨nm, hnm⟩ : ∃ n, ms.length = n := ⟨_, rfl⟩
      rw [hnm] at HML ⊢
      have HNM := hid hnm
      clear hnm
      have HQF := hid (show ∀ m, absI (s'.g m it).qt ≤ 4294967295 from fun m => by obtain ⟨O, ⟨B9, P9, p9, c9, hx⟩, _, _⟩ := NX.out; exact (hx.gok m it).2)
      have HCO := hid (show ∀ m, Amt (s'.g m it).co from fun m => by obtain ⟨O, ⟨B9, P9, p9, c9, hx⟩, _, _⟩ := NX.out; exact (hx.gok m it).1.co)
      have hnmB : nm ≤ 16777216 := by have := HML.out; have := HMM.out; have := HIL.out; omega
      go_upto_region 13 with fail
      go_loopw [10, 11] (fun tv kv wk => ∃ k, k ≤ nm ∧ kv = .int .i64 (k : Nat) ∧ tv = .int .i64 (tot (ms.take k) (fun m => (s'.g m it).qt)) ∧ Hid (Below X.heap.size X wk)) (fun _ kv _ => nm - (intOf kv).toNat)
      case atStart => exact ⟨0, by omega, rfl, rfl, Below.refl _ _⟩
      case round =>
        obtain ⟨k, hkn, rfl, rfl, HBK⟩ := hrel
        by_cases hlk : k < nm
        · have hk2 : k < ms.length := by rw [HNM.out]; exact hlk
          obtain ⟨gm, om, eqm, _, _⟩ := HUZ.out k hk2
          subst eqm
          have hm0 := HMB.out.u _ (List.getElem_mem hk2)
          obtain ⟨m, hmk⟩ : ∃ x, ms[k] = x := ⟨_, rfl⟩
          have HUM := hid (show ∀ U, Below wr.heap.size wr U → U.cell? ⟨gm, om + k, none⟩ = some (.int .u32 m) from fun U hU => by obtain ⟨g', o', e', hc⟩ := HUZ.out.at (btr HBK.out hU) hk2; injection e' with e'; injection e' with e1 e2; rw [hmk, ← e1, ← e2] at hc; exact hc)
          rw [hmk] at hm0
          have HM0 := hid hm0
          have HTK := hid (show tot (ms.take (k + 1)) (fun m => (s'.g m it).qt) = tot (ms.take k) (fun m => (s'.g m it).qt) + (s'.g m it).qt from by rw [List.take_add_one, List.getElem?_eq_getElem hk2, hmk]; exact tot_snoc _ _ _)
          have HTA := hid (show absI (tot (ms.take k) (fun m => (s'.g m it).qt)) ≤ 16777216 * 4294967295 from by have h1 := tot_le (l := ms.take k) (h := fun m => (s'.g m it).qt) HQF.out; have h2 : ((ms.take k).length : Int) ≤ 16777216 := (by rw [List.length_take, HNM.out]; have := HML.out; have := HMM.out; have := HIL.out; omega); exact Int.le_trans h1 (Int.mul_le_mul_of_nonneg_right h2 (by decide)))
          have HDC := hid (show ∀ U, Below wr.heap.size wr U → U.cell? ⟨b, off + i * 6, none⟩ = some (.int .u32 it) from fun U hU => (HCL.out U (btr NX.out.below (btr HBK.out hU))).1)
          have CP := hid (show ∀ U, Below wr.heap.size wr U → Calls Try.prog 18 #[.pointer (some ⟨G, 0, none⟩), .int .u32 m, .int .u32 it] U fun e w' => e = .returned (.agg (s'.g m it).row) ∧ Hid (Below U.heap.size U w') from fun U hU => nl_position (NX.out.on (btr HBK.out hU)) m it HM0.out HZ.out.it)
          have hsg := HFZ.out.sg m it
          have hqf := HQF.out m
          have hco := HCO.out m
          obtain ⟨pp, hpp⟩ : ∃ x, s'.g m it = x := ⟨_, rfl⟩
          rw [hpp] at CP HTK hsg hqf hco
          obtain ⟨tt, htt⟩ : ∃ x, tot (ms.take k) (fun m => (s'.g m it).qt) = x := ⟨_, rfl⟩
          rw [htt] at HTK HTA ⊢
          have wt : IntKind.i64.wrap (tt + pp.qt) = tt + pp.qt := by have h1 := absI_of HTA.out; have h2 := absI_of hqf; rw [IntKind.wrap_i64]; omega
          unfold Po.row at CP
          have HSG := hid hsg
          have HCP := hid hco
          have k0 : (0 : Int) ≤ (k : Int) := by omega
          have k1 : (k : Int) < (nm : Int) := by omega
          clear hm0 hmk hsg hqf hco hpp htt
          go_upto_region 15 with fail
          refine reg_cut (X := Nat) (fun a t => ((((((((((((a.put (some 57) (.pointer (some ⟨G, 0, none⟩))).put (some 58) (.slice (some ⟨gm, om, none⟩) nm dm)).put (some 59) (.int .i64 (k : Nat))).put (some 60) (.pointer (some ⟨gm, om + k, none⟩))).put (some 61) (.int .u32 m)).put (some 62) (.slice (some ⟨b, off, none⟩) n c2)).put (some 63) (.int .i64 (i : Nat))).put (some 64) (.pointer (some ⟨b, off + i * 6, none⟩))).put (some 65) (.pointer (some ⟨b, off + i * 6, none⟩))).put (some 66) (.int .u32 it)).put (some 67) (.agg #[.int .i64 pp.qt, .int .u64 (hiW pp.co), .int .u64 (loW pp.co), .int .u64 (hiW pp.ga), .int .u64 (loW pp.ga)])).put (some 12) (.pointer (some ⟨t, 0, none⟩)))) (fun t V => Hid (Below wr.heap.size wr V) ∧ Hid (V.heap[t]? = some (.cells #[.int .i64 pp.qt, .int .u64 (hiW pp.co), .int .u64 (loW pp.co), .int .u64 (hiW pp.ga), .int .u64 (loW pp.ga)] 55 (0, 0)))) ?_ ?_
          · obtain ⟨V1, hV1⟩ : ∃ U, wr.drew = U := ⟨_, rfl⟩
            have BV1 := hid (show Below wr.heap.size wr V1 from by rw [← hV1]; exact bdrew1 _)
            refine wp_region_held_drew (S := (fun U => U.cell? ⟨gm, om + k, none⟩ = some (.int .u32 m) ∧ U.cell? ⟨b, off + i * 6, none⟩ = some (.int .u32 it))) (by kernel_rfl) ?_ (fun hHeld => ?_)
            · (try dsimp only); rw [hV1]; exact ⟨HUM.out _ BV1.out, HDC.out _ BV1.out⟩
            rw [hV1] at hHeld ⊢
            clear hV1
            refine' wpAnyH_take (i := 0) (oi := _) (v := _) rfl (by kernel_rfl) (by kernel_rfl) (by kernel_rfl) (fun _ _ _ h => h) (Or.inl ⟨by kernel_rfl, ?_⟩) (by assumption) ?_
            rotate_left
            · (intro w hSw; (try dsimp only at hSw); go_simp; try (with_reducible rfl))
            try simp only [List.getElem_toArray, List.getElem_cons_succ, List.getElem_cons_zero, Act.put, List.setIfInBounds_toArray, List.set_cons_zero, List.set_cons_succ]
            refine' wpAnyH_take (i := 1) (oi := _) (v := _) rfl (by kernel_rfl) (by kernel_rfl) (by kernel_rfl) (fun _ _ _ h => h) (Or.inl ⟨by kernel_rfl, ?_⟩) (by assumption) ?_
            rotate_left
            · (intro w hSw; (try dsimp only at hSw); go_simp; try (with_reducible rfl))
            try simp only [List.getElem_toArray, List.getElem_cons_succ, List.getElem_cons_zero, Act.put, List.setIfInBounds_toArray, List.set_cons_zero, List.set_cons_succ]
            refine' wpAnyH_take (i := 2) (oi := _) (v := _) rfl (by kernel_rfl) (by kernel_rfl) (by kernel_rfl) (fun _ _ _ h => h) (Or.inl ⟨by kernel_rfl, ?_⟩) (by assumption) ?_
            rotate_left
            · (intro w hSw; (try dsimp only at hSw); go_simp; try (with_reducible rfl))
            try simp only [List.getElem_toArray, List.getElem_cons_succ, List.getElem_cons_zero, Act.put, List.setIfInBounds_toArray, List.set_cons_zero, List.set_cons_succ]
            refine' wpAnyH_take (i := 3) (oi := _) (v := _) rfl (by kernel_rfl) (by kernel_rfl) (by kernel_rfl) (fun _ _ _ h => h) (Or.inl ⟨by kernel_rfl, ?_⟩) (by assumption) ?_
            rotate_left
            · (intro w hSw; (try dsimp only at hSw); go_simp; try (with_reducible rfl))
            try simp only [List.getElem_toArray, List.getElem_cons_succ, List.getElem_cons_zero, Act.put, List.setIfInBounds_toArray, List.set_cons_zero, List.set_cons_succ]
            refine' wpAnyH_take (i := 4) (oi := _) (v := _) rfl (by kernel_rfl) (by kernel_rfl) (by kernel_rfl) (fun _ _ _ h => h) (Or.inl ⟨by kernel_rfl, ?_⟩) (by assumption) ?_
            rotate_left
            · (intro w hSw; (try dsimp only at hSw); go_simp; try (with_reducible rfl))
            try simp only [List.getElem_toArray, List.getElem_cons_succ, List.getElem_cons_zero, Act.put, List.setIfInBounds_toArray, List.set_cons_zero, List.set_cons_succ]
            refine' wpAnyH_take (i := 5) (oi := _) (v := _) rfl (by kernel_rfl) (by kernel_rfl) (by kernel_rfl) (fun _ _ _ h => h) (Or.inl ⟨by kernel_rfl, ?_⟩) (by assumption) ?_
            rotate_left
            · (intro w hSw; (try dsimp only at hSw); go_simp; try (with_reducible rfl))
            try simp only [List.getElem_toArray, List.getElem_cons_succ, List.getElem_cons_zero, Act.put, List.setIfInBounds_toArray, List.set_cons_zero, List.set_cons_succ]
            refine' wpAnyH_take (i := 6) (oi := _) (v := _) rfl (by kernel_rfl) (by kernel_rfl) (by kernel_rfl) (fun _ _ _ h => h) (Or.inl ⟨by kernel_rfl, ?_⟩) (by assumption) ?_
            rotate_left
            · (intro w hSw; (try dsimp only at hSw); go_simp; try (with_reducible rfl))
            try simp only [List.getElem_toArray, List.getElem_cons_succ, List.getElem_cons_zero, Act.put, List.setIfInBounds_toArray, List.set_cons_zero, List.set_cons_succ]
            refine' wpAnyH_take (i := 7) (oi := _) (v := _) rfl (by kernel_rfl) (by kernel_rfl) (by kernel_rfl) (fun _ _ _ h => h) (Or.inl ⟨by kernel_rfl, ?_⟩) (by assumption) ?_
            rotate_left
            · (intro w hSw; (try dsimp only at hSw); go_simp; try (with_reducible rfl))
            try simp only [List.getElem_toArray, List.getElem_cons_succ, List.getElem_cons_zero, Act.put, List.setIfInBounds_toArray, List.set_cons_zero, List.set_cons_succ]
            refine' wpAnyH_take (i := 8) (oi := _) (v := _) rfl (by kernel_rfl) (by kernel_rfl) (by kernel_rfl) (fun _ _ _ h => h) (Or.inl ⟨by kernel_rfl, ?_⟩) (by assumption) ?_
            rotate_left
            · (intro w hSw; (try dsimp only at hSw); go_simp; try (with_reducible rfl))
            try simp only [List.getElem_toArray, List.getElem_cons_succ, List.getElem_cons_zero, Act.put, List.setIfInBounds_toArray, List.set_cons_zero, List.set_cons_succ]
            refine' wpAnyH_take (i := 9) (oi := _) (v := _) rfl (by kernel_rfl) (by kernel_rfl) (by kernel_rfl) (fun _ _ _ h => h) (Or.inl ⟨by kernel_rfl, ?_⟩) (by assumption) ?_
            rotate_left
            · (intro w hSw; (try dsimp only at hSw); go_simp; try (with_reducible rfl))
            try simp only [List.getElem_toArray, List.getElem_cons_succ, List.getElem_cons_zero, Act.put, List.setIfInBounds_toArray, List.set_cons_zero, List.set_cons_succ]
            refine wpAnyH_ready (rs := [10, 11]) (by kernel_rfl) (by simp) ?_
            refine (AllReadyH.cons (o := _) rfl (fun K hK => ?_) (AllReadyH.cons (o := _) rfl (fun K hK => ?_) AllReadyH.nil))
            · go_simp
              go_at_call 18
              with_reducible refine (CP.out V1 BV1.out).mono ?_
              rintro e X2 ⟨rfl, DbX2⟩
              have DX2 := hid (btr BV1.out DbX2.out)
              have UX2 := hid (BV1.out.size)
              (try go_wp2_with fail)
              refine hK.out _ _ ?_ (fun hHeld => ?_)
              · (try dsimp only); exact ⟨HUM.out _ DX2.out, HDC.out _ DX2.out⟩
              clear hK K
              try simp only [List.getElem_toArray, List.getElem_cons_succ, List.getElem_cons_zero, Act.put, List.setIfInBounds_toArray, List.set_cons_zero, List.set_cons_succ]
              refine wpAnyH_ready (rs := [11]) (by kernel_rfl) (by simp) ?_
              refine (AllReadyH.cons (o := _) rfl (fun K hK => ?_) AllReadyH.nil)
              go_simp
              obtain ⟨X3, hX3⟩ : ∃ X, X2.alloc (.cells #[.int .i64 0, .int .u64 0, .int .u64 0, .int .u64 0, .int .u64 0] 55) = X := ⟨_, rfl⟩
              have bX3 : Below X2.heap.size X2 X3 := by rw [← hX3]; exact ball _ _
              have DX3 := hid (btr DX2.out bX3)
              have zX3 : X3.heap[X2.heap.size]? = some (.cells #[.int .i64 0, .int .u64 0, .int .u64 0, .int .u64 0, .int .u64 0] 55 (0, 0)) := by rw [← hX3]; exact World.alloc_heap_new _ _
              have yg4 := DX2.out.size
              obtain ⟨g4, hg4⟩ : ∃ g, X2.heap.size = g := ⟨_, rfl⟩
              rw [hg4] at zX3 yg4
              have ZX3 := hid zX3
              rw [hX3, hg4]
              clear hX3 hg4 zX3 bX3
              refine hK.out _ _ ?_ (fun hHeld => ?_)
              · (try dsimp only); exact ⟨HUM.out _ DX3.out, HDC.out _ DX3.out⟩
              clear hK K
              try simp only [List.getElem_toArray, List.getElem_cons_succ, List.getElem_cons_zero, Act.put, List.setIfInBounds_toArray, List.set_cons_zero, List.set_cons_succ]
              refine wpAnyH_ready (rs := [12]) (by kernel_rfl) (by simp) ?_
              refine (AllReadyH.cons (o := _) rfl (fun K hK => ?_) AllReadyH.nil)
              refine step_store_row (by rfl) 55 (.tmp 12) (.tmp 67) (by rfl) g4 #[.int .i64 pp.qt, .int .u64 (hiW pp.co), .int .u64 (loW pp.co), .int .u64 (hiW pp.ga), .int .u64 (loW pp.ga)] (by rfl) (by rfl) 55 _ ZX3.out infoPo5 (by rfl) (by simp [Value.oneCell']) ?_
              obtain ⟨Y5, hY5⟩ : ∃ Y, X3.setRow g4 #[.int .i64 pp.qt, .int .u64 (hiW pp.co), .int .u64 (loW pp.co), .int .u64 (hiW pp.ga), .int .u64 (loW pp.ga)] = Y := ⟨_, rfl⟩
              have KY5 := hid (show Kp (fun j => j = g4) X3 Y5 from by rw [← hY5]; exact setRow_kp _ _ _)
              have AY5 := hid (show Y5.heap[g4]? = some (.cells #[.int .i64 pp.qt, .int .u64 (hiW pp.co), .int .u64 (loW pp.co), .int .u64 (hiW pp.ga), .int .u64 (loW pp.ga)] 55 (0, 0)) from by rw [← hY5]; exact setRow_heap X3 g4 _ _ 55 (0, 0) ZX3.out)
              have DY5 := hid (show Below wr.heap.size wr Y5 from by rw [← hY5]; exact setRow_below DX3.out yg4)
              rw [hY5]
              refine hK.out _ _ ?_ (fun hHeld => ?_)
              · (try dsimp only); exact ⟨HUM.out _ DY5.out, HDC.out _ DY5.out⟩
              clear hK K hY5
              try simp only [List.getElem_toArray, List.getElem_cons_succ, List.getElem_cons_zero, Act.put, List.setIfInBounds_toArray, List.set_cons_zero, List.set_cons_succ]
              refine wpAnyH_done (by kernel_rfl) ?_ _
              exact ⟨g4, by kernel_rfl, DY5, AY5⟩
            · go_simp
              obtain ⟨X6, hX6⟩ : ∃ X, V1.alloc (.cells #[.int .i64 0, .int .u64 0, .int .u64 0, .int .u64 0, .int .u64 0] 55) = X := ⟨_, rfl⟩
              have bX6 : Below V1.heap.size V1 X6 := by rw [← hX6]; exact ball _ _
              have DX6 := hid (btr BV1.out bX6)
              have zX6 : X6.heap[V1.heap.size]? = some (.cells #[.int .i64 0, .int .u64 0, .int .u64 0, .int .u64 0, .int .u64 0] 55 (0, 0)) := by rw [← hX6]; exact World.alloc_heap_new _ _
              have yg7 := BV1.out.size
              obtain ⟨g7, hg7⟩ : ∃ g, V1.heap.size = g := ⟨_, rfl⟩
              rw [hg7] at zX6 yg7
              have ZX6 := hid zX6
              rw [hX6, hg7]
              clear hX6 hg7 zX6 bX6
              refine hK.out _ _ ?_ (fun hHeld => ?_)
              · (try dsimp only); exact ⟨HUM.out _ DX6.out, HDC.out _ DX6.out⟩
              clear hK K
              try simp only [List.getElem_toArray, List.getElem_cons_succ, List.getElem_cons_zero, Act.put, List.setIfInBounds_toArray, List.set_cons_zero, List.set_cons_succ]
              refine wpAnyH_ready (rs := [10]) (by kernel_rfl) (by simp) ?_
              refine (AllReadyH.cons (o := _) rfl (fun K hK => ?_) AllReadyH.nil)
              go_simp
              go_at_call 18
              with_reducible refine (CP.out X6 DX6.out).mono ?_
              rintro e X8 ⟨rfl, DbX8⟩
              have r9 := hid (row_on ZX6.out DbX8.out)
              have DX8 := hid (btr DX6.out DbX8.out)
              have UX8 := hid (DX6.out.size)
              (try go_wp2_with fail)
              refine hK.out _ _ ?_ (fun hHeld => ?_)
              · (try dsimp only); exact ⟨HUM.out _ DX8.out, HDC.out _ DX8.out⟩
              clear hK K
              try simp only [List.getElem_toArray, List.getElem_cons_succ, List.getElem_cons_zero, Act.put, List.setIfInBounds_toArray, List.set_cons_zero, List.set_cons_succ]
              refine wpAnyH_ready (rs := [12]) (by kernel_rfl) (by simp) ?_
              refine (AllReadyH.cons (o := _) rfl (fun K hK => ?_) AllReadyH.nil)
              refine step_store_row (by rfl) 55 (.tmp 12) (.tmp 67) (by rfl) g7 #[.int .i64 pp.qt, .int .u64 (hiW pp.co), .int .u64 (loW pp.co), .int .u64 (hiW pp.ga), .int .u64 (loW pp.ga)] (by rfl) (by rfl) 55 _ r9.out infoPo5 (by rfl) (by simp [Value.oneCell']) ?_
              obtain ⟨Y10, hY10⟩ : ∃ Y, X8.setRow g7 #[.int .i64 pp.qt, .int .u64 (hiW pp.co), .int .u64 (loW pp.co), .int .u64 (hiW pp.ga), .int .u64 (loW pp.ga)] = Y := ⟨_, rfl⟩
              have KY10 := hid (show Kp (fun j => j = g7) X8 Y10 from by rw [← hY10]; exact setRow_kp _ _ _)
              have AY10 := hid (show Y10.heap[g7]? = some (.cells #[.int .i64 pp.qt, .int .u64 (hiW pp.co), .int .u64 (loW pp.co), .int .u64 (hiW pp.ga), .int .u64 (loW pp.ga)] 55 (0, 0)) from by rw [← hY10]; exact setRow_heap X8 g7 _ _ 55 (0, 0) r9.out)
              have DY10 := hid (show Below wr.heap.size wr Y10 from by rw [← hY10]; exact setRow_below DX8.out yg7)
              rw [hY10]
              refine hK.out _ _ ?_ (fun hHeld => ?_)
              · (try dsimp only); exact ⟨HUM.out _ DY10.out, HDC.out _ DY10.out⟩
              clear hK K hY10
              try simp only [List.getElem_toArray, List.getElem_cons_succ, List.getElem_cons_zero, Act.put, List.setIfInBounds_toArray, List.set_cons_zero, List.set_cons_succ]
              refine wpAnyH_done (by kernel_rfl) ?_ _
              exact ⟨g7, by kernel_rfl, DY10, AY10⟩
          rintro t V ⟨BV, GP⟩
          try simp only [List.getElem_toArray, List.getElem_cons_succ, List.getElem_cons_zero, Act.put, List.setIfInBounds_toArray, List.set_cons_zero, List.set_cons_succ]
          have g0 := row_cell GP.out 0
          have g1 := row_cell GP.out 1
          have g2 := row_cell GP.out 2
          simp only [List.getElem?_toArray, List.getElem?_cons_succ, List.getElem?_cons_zero] at g0 g1 g2
          have BK2 := hid (btr HBK.out BV.out)
          have NXT := hid (show k + 1 ≤ nm from hlk)
          rcases Int.lt_trichotomy pp.qt 0 with hq | hq | hq
          · have e1 : (pp.qt == 0) = false := by simp; omega
            have e2 : decide (0 < pp.qt) = false := by simp; omega
            have e3 : decide (pp.qt < 0) = true := by simpa using hq
            have hc := HSG.out.n hq
            have CSg := hid (show ∀ U, Calls Try.prog 16 #[.agg #[.int .u64 (hiW pp.co), .int .u64 (loW pp.co)]] U fun e w' => e = .returned (.int .i64 (sgn pp.co)) ∧ Below U.heap.size U w' from fun U => sign_any pp.co U HCP.out)
            have e4 : decide (0 < sgn pp.co) = false := by unfold sgn; simp; split <;> (try split) <;> omega
            obtain ⟨sg, hsg⟩ : ∃ x, sgn pp.co = x := ⟨_, rfl⟩
            rw [hsg] at CSg e4
            clear hsg hq hc
            go_wp2_with (go_at_call 16; with_reducible refine (CSg.out _).mono ?_; rintro e u1 ⟨rfl, hb⟩; have BU := hid (btr BK2.out hb); have GU := hid (row_on GP.out hb); have y0 := row_cell GU.out 0; have y1 := row_cell GU.out 1; have y2 := row_cell GU.out 2; simp only [List.getElem?_toArray, List.getElem?_cons_succ, List.getElem?_cons_zero] at y0 y1 y2; clear hb)
            go_roundw
            case rel => exact ⟨k + 1, NXT.out, by go_num, by rw [HTK.out], hid BU.out⟩
            case measure => simp [intOf]; omega
          · have e1 : (pp.qt == 0) = true := by simpa using hq
            have e2 : decide (0 < pp.qt) = false := by simp; omega
            have e3 : decide (pp.qt < 0) = false := by simp; omega
            have hc := HSG.out.z hq
            have CSg := hid (show ∀ U, Calls Try.prog 16 #[.agg #[.int .u64 (hiW pp.co), .int .u64 (loW pp.co)]] U fun e w' => e = .returned (.int .i64 (sgn pp.co)) ∧ Below U.heap.size U w' from fun U => sign_any pp.co U HCP.out)
            have e4 : (sgn pp.co != 0) = false := by rw [hc]; rfl
            obtain ⟨sg, hsg⟩ : ∃ x, sgn pp.co = x := ⟨_, rfl⟩
            rw [hsg] at CSg e4
            clear hsg hq hc
            go_wp2_with (go_at_call 16; with_reducible refine (CSg.out _).mono ?_; rintro e u1 ⟨rfl, hb⟩; have BU := hid (btr BK2.out hb); have GU := hid (row_on GP.out hb); have y0 := row_cell GU.out 0; have y1 := row_cell GU.out 1; have y2 := row_cell GU.out 2; simp only [List.getElem?_toArray, List.getElem?_cons_succ, List.getElem?_cons_zero] at y0 y1 y2; clear hb)
            go_roundw
            case rel => exact ⟨k + 1, NXT.out, by go_num, by rw [HTK.out], hid BU.out⟩
            case measure => simp [intOf]; omega
          · have e1 : (pp.qt == 0) = false := by simp; omega
            have e2 : decide (0 < pp.qt) = true := by simpa using hq
            have e3 : decide (pp.qt < 0) = false := by simp; omega
            have hc := HSG.out.p hq
            have CSg := hid (show ∀ U, Calls Try.prog 16 #[.agg #[.int .u64 (hiW pp.co), .int .u64 (loW pp.co)]] U fun e w' => e = .returned (.int .i64 (sgn pp.co)) ∧ Below U.heap.size U w' from fun U => sign_any pp.co U HCP.out)
            have e4 : decide (sgn pp.co < 0) = false := by unfold sgn; simp; split <;> (try split) <;> omega
            obtain ⟨sg, hsg⟩ : ∃ x, sgn pp.co = x := ⟨_, rfl⟩
            rw [hsg] at CSg e4
            clear hsg hq hc
            go_wp2_with (go_at_call 16; with_reducible refine (CSg.out _).mono ?_; rintro e u1 ⟨rfl, hb⟩; have BU := hid (btr BK2.out hb); have GU := hid (row_on GP.out hb); have y0 := row_cell GU.out 0; have y1 := row_cell GU.out 1; have y2 := row_cell GU.out 2; simp only [List.getElem?_toArray, List.getElem?_cons_succ, List.getElem?_cons_zero] at y0 y1 y2; clear hb)
            go_roundw
            case rel => exact ⟨k + 1, NXT.out, by go_num, by rw [HTK.out], hid BU.out⟩
            case measure => simp [intOf]; omega
        · have e9 : k = nm := by omega
          have HT0 := hid (show tot (ms.take k) (fun m => (s'.g m it).qt) = 0 from by rw [List.take_of_length_le (by rw [HNM.out]; omega)]; exact HFZ.out.sum ms HMB.out it)
          rw [HT0.out]
          subst e9
          go_wp2
          go_roundw
          case rel => exact ⟨i + 1, s', by have := HIL.out; omega, by go_num, hid (by obtain ⟨O9, x1, x2, x3⟩ := NX.out.on HBK.out; exact ⟨O9, x1.mono (by omega), x2, x3⟩), HFZ⟩
          case measure => simp [intOf]; omega
    · obtain rfl : i = n := by omega
      go_wp2
      go_ret
      exact ⟨rfl, HE.out.below⟩
end Go.Proofs.Ytphhllppgelceaa.Ac
