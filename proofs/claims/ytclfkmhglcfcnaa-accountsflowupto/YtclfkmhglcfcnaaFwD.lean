/-
  AccountsFlow: the walk.
-/
import Derived.Test.YtclfkmhglcfcnaaGm
namespace Go.Proofs.Ytclfkmhglcfcnaa.Ac
open List renaming getElem?_toArray → lqA, getElem?_cons_succ → lqB, getElem?_cons_zero → lqC
open List renaming getElem_toArray → lgA, getElem_cons_succ → lgB, getElem_cons_zero → lgC, setIfInBounds_toArray → lsA, set_cons_zero → lsB, set_cons_succ → lsC
open Go.RowKit Go.Deep Go.Maps Go.Proofs.Ytclfkmhglcfcnaa.MonM
set_option linter.unusedVariables false
set_option linter.unusedSimpArgs false
set_option maxHeartbeats 8000000
set_option maxRecDepth 100000
attribute [local go_sem ↓] Go.wp_at_zero Go.wp_at_succ
theorem flow_no (ma ta bb : Int) (q : Option Addr) (n c : Nat) (q2 : Option Addr) (n2 c2 : Nat) (w : World) (h : bb = 0 ∨ bb < ma ∨ bb < ta) :
    Calls Try.prog 3 #[.agg #[.int .u32 ma, .int .u32 ta, .int .u32 bb], .slice q n c, .slice q2 n2 c2] w fun e w' => e = .returned (.bool true) ∧ Below w.heap.size w w' := by
  obtain ⟨Wa, hWa⟩ : ∃ W, w.alloc (.cells #[.int .u32 ma, .int .u32 ta, .int .u32 bb] 24) = W := ⟨_, rfl⟩
  have HBA := hid (show Below w.heap.size w Wa from by rw [← hWa]; exact ball _ _)
  have HRA := hid (show Wa.heap[w.heap.size]? = some (.cells #[.int .u32 ma, .int .u32 ta, .int .u32 bb] 24 (0, 0)) from by rw [← hWa]; exact World.alloc_heap_new _ _)
  have C := hid (fun U => opened_no ma ta bb q n c U h)
  have CL := hid lives_ok
  have HWa := hid hWa
  clear hWa
  have h3 : (bb == 0) = true ∨ (bb == 0) = false ∧ decide (bb < ma) = true ∨ (bb == 0) = false ∧ decide (bb < ma) = false ∧ decide (bb < ta) = true := by
    by_cases a : bb = 0
    · exact .inl (by simpa using a)
    · by_cases b : bb < ma
      · exact .inr (.inl ⟨by simpa using a, by simpa using b⟩)
      · refine .inr (.inr ⟨by simpa using a, by simpa using b, ?_⟩)
        rcases h with h | h | h
        · exact absurd h a
        · exact absurd h b
        · simpa using h
  clear h
  rcases h3 with e1 | ⟨e1, e2⟩ | ⟨e1, e2, e3⟩
  all_goals (
    go_enter Try.func3, Try.ntmps3
    go_upto_region 1 with fail
    rw [HWa.out]
    go_wp2_with (first | (go_at_call 4; with_reducible refine (CL.out _).mono ?_; rintro e w1 ⟨rfl, hb⟩; have HB1 := hid (btr HBA.out hb); have HR1 := hid (row_on HRA.out hb); have c0 := row_cell HR1.out 0; have c1 := row_cell HR1.out 1; have c2 := row_cell HR1.out 2; simp only [lqA, lqB, lqC] at c0 c1 c2; clear hb) | (go_at_call 5; with_reducible refine (C.out _).mono ?_; rintro e w2 ⟨rfl, hb⟩; have HB2 := hid (btr HB1.out hb); have HR2 := hid (row_on HR1.out hb); have d0 := row_cell HR2.out 0; have d1 := row_cell HR2.out 1; have d2 := row_cell HR2.out 2; simp only [lqA, lqB, lqC] at d0 d1 d2; clear hb))
    go_ret
    exact ⟨rfl, HB2.out⟩)
theorem flow_ok (ma ta bb : Int) (q : Option Addr) (c : Nat) (us : List Int) (q2 : Option Addr) (c2 : Nat) (l : List De) (w : World) (h0 : 0 ≤ ma) (h1 : 0 ≤ ta) (h2 : 0 < bb) (h3 : ma ≤ bb) (h4 : ta ≤ bb) (h5 : bb < 4294967296) (hu : Uz w q us) (hus : ∀ x ∈ us, U32 x) (hum : us.length ≤ 1048576) (hd : Dz w q2 l) (hdl : ∀ x ∈ l, DeOk x) (hm : l.length ≤ 1048576) :
    Calls Try.prog 3 #[.agg #[.int .u32 ma, .int .u32 ta, .int .u32 bb], .slice q us.length c, .slice q2 l.length c2] w fun e w' => e = .returned (.bool true) ∧ Below w.heap.size w w' := by
  obtain ⟨Wa, hWa⟩ : ∃ W, w.alloc (.cells #[.int .u32 ma, .int .u32 ta, .int .u32 bb] 24) = W := ⟨_, rfl⟩
  have HBA := hid (show Below w.heap.size w Wa from by rw [← hWa]; exact ball _ _)
  have HRA := hid (show Wa.heap[w.heap.size]? = some (.cells #[.int .u32 ma, .int .u32 ta, .int .u32 bb] 24 (0, 0)) from by rw [← hWa]; exact World.alloc_heap_new _ _)
  have C := hid (show ∀ U, Below w.heap.size w U → Calls Try.prog 5 #[.agg #[.int .u32 ma, .int .u32 ta, .int .u32 bb], .slice q us.length c] U fun e w' => ∃ G s, e = .returned (.pointer (some ⟨G, 0, none⟩)) ∧ Nl U w' G us.length s ∧ Nw s ma ta bb from fun U hU => opened_g ma ta bb q c us U h0 h1 h2 h3 h4 h5 (fun i hi => by
    obtain ⟨b, off, e, hb, hc⟩ := hu i hi
    exact ⟨b, off, e, Nat.lt_of_lt_of_le hb hU.size, by rw [hU.cell (p := ⟨b, off + i, none⟩) hb]; exact hc⟩) hus hum)
  have CL := hid lives_ok
  have HWa := hid hWa
  obtain ⟨K, hK⟩ : ∃ n, us.length = n := ⟨_, rfl⟩
  rw [hK] at C hum ⊢
  obtain ⟨n, hn⟩ : ∃ n, l.length = n := ⟨_, rfl⟩
  have HN := hid hn
  have HD := hid hd
  have HDL := hid hdl
  have HMM := hid (And.intro hum hm)
  rw [hn] at hm HMM ⊢
  clear hWa h0 h1 h2 h3 h4 h5 hu hus hd hdl hn hK hum
  have pq := ptr_nil
  go_enter Try.func3, Try.ntmps3
  go_upto_region 1 with fail
  rw [HWa.out]
  go_upto_region 7 with (first | (go_at_call 4; with_reducible refine (CL.out _).mono ?_; rintro e w1 ⟨rfl, hb⟩; have HB1 := hid (btr HBA.out hb); have HR1 := hid (row_on HRA.out hb); have c0 := row_cell HR1.out 0; have c1 := row_cell HR1.out 1; have c2 := row_cell HR1.out 2; simp only [lqA, lqB, lqC] at c0 c1 c2; clear hb) | (go_at_call 5; (with_reducible refine (C.out _ HB1.out).mono ?_; rintro e w2 ⟨G, s0, rfl, hg, hw⟩; have HG := hid (nl_nf (F := Fs (.slice none 0 0)) (nl_down HB1.out hg) fs_none); have HNW := hid hw.fw; clear hg hw)))
  clear c0 c1 c2 C CL HWa HRA HR1
  go_upto_region 8 with fail
  go_loopw [8, 9] (fun tv iv wr => ∃ i pa na ca s tk, i ≤ n ∧ iv = .int .i64 (i : Nat) ∧ tv = .slice pa na ca ∧ na ≤ i ∧ Hid ((tk : List De).length = na) ∧ Hid (wr.ownsRow w.heap.size 34 6 (.slice pa na ca) na (den tk)) ∧ Hid (Nf w wr (Fs (.slice pa na ca)) G (K + 13 * i) s) ∧ Hid (Fw s tk)) (fun _ iv _ => n - (intOf iv).toNat)
  case atStart => exact ⟨0, none, 0, 0, _, [], Nat.zero_le _, rfl, rfl, Nat.le_refl _, rfl, own_nil _ _ _ _, HG, HNW⟩
  case round =>
    obtain ⟨i, pa, na, ca, s, tk, hin, rfl, rfl, hna, HNA, HO, HT, HF⟩ := hrel
    clear HG HNW
    by_cases hlt : i < n
    · have hi : i < l.length := by rw [HN.out]; exact hlt
      obtain ⟨b, off, eq, hcl⟩ := HD.out.at hi
      subst eq
      have hz := HDL.out _ (List.getElem_mem hi)
      obtain ⟨z, hz0⟩ : ∃ z, l[i] = z := ⟨_, rfl⟩
      rw [hz0] at hcl hz
      obtain ⟨it, bu, se, ta9, pr, qt⟩ := z
      dsimp only at hcl
      have HCL := hid hcl
      have HZ := hid hz
      clear hz hz0 hcl
      obtain ⟨a0, a1, a2, a3, a4, a5⟩ := HCL.out wr HT.out.below
      have i0 : (0 : Int) ≤ (i : Int) := by omega
      have i1 : (i : Int) < (n : Int) := by omega
      have HIL := hid hlt
      have CB := hid (show Calls Try.prog 6 #[.pointer (some ⟨G, 0, none⟩), .agg #[.int .u32 it, .int .u32 bu, .int .u32 se, .int .i64 ta9, .int .i64 pr, .int .u64 qt]] wr fun e w' => ∃ r, e = .returned (.int .i64 r) ∧ ((r == 0) = false ∧ Hid (Nf w w' (Fs (.slice pa na ca)) G (K + 13 * i + 13) s) ∧ Hid (w'.ownsRow w.heap.size 34 6 (.slice pa na ca) na (den tk)) ∨ ∃ s', (r == 0) = true ∧ Hid (Nf w w' (Fs (.slice pa na ca)) G (K + 13 * i + 13) s') ∧ Hid (w'.ownsRow w.heap.size 34 6 (.slice pa na ca) na (den tk)) ∧ Hid (Fw s' (tk ++ [⟨it, bu, se, ta9, pr, qt⟩]))) from (nf_book HT.out ⟨it, bu, se, ta9, pr, qt⟩ HZ.out (by have := HMM.out; omega)).mono (by
        rintro e w' ⟨r, s', rfl, z1, z2, z3⟩
        have ho := own_same HO.out (fun g hg => z2 g hg)
        refine ⟨r, rfl, ?_⟩
        rcases z3 with ⟨z4, z5⟩ | ⟨z4, z5⟩
        · subst z5; exact .inl ⟨by simpa using z4, z1, ho⟩
        · exact .inr ⟨s', by simpa using z4, z1, ho, HF.out.book z5 (by rw [HNA.out]; have := HMM.out; omega)⟩))
      go_upto_region 10 with fail
      refine reg_cut (X := Int) (fun a t => (((((((a.put (some 48) (.pointer (some ⟨G, 0, none⟩))).put (some 49) (.slice (some ⟨b, off, none⟩) n c2)).put (some 50) (.int .i64 (i : Nat))).put (some 51) (.pointer (some ⟨b, off + i * 6, none⟩))).put (some 52) (.agg #[.int .u32 it, .int .u32 bu, .int .u32 se, .int .i64 ta9, .int .i64 pr, .int .u64 qt])).put (some 53) (.int .i64 t)).put (some 54) (.bool (t == 0)))) (fun r V => (r == 0) = false ∧ Hid (Nf w V (Fs (.slice pa na ca)) G (K + 13 * i + 13) s) ∧ Hid (V.ownsRow w.heap.size 34 6 (.slice pa na ca) na (den tk)) ∨ ∃ s', (r == 0) = true ∧ Hid (Nf w V (Fs (.slice pa na ca)) G (K + 13 * i + 13) s') ∧ Hid (V.ownsRow w.heap.size 34 6 (.slice pa na ca) na (den tk)) ∧ Hid (Fw s' (tk ++ [⟨it, bu, se, ta9, pr, qt⟩]))) ?_ ?_
      · go_wp2_with (go_at_call 6; with_reducible refine CB.out.mono ?_; rintro e Z ⟨r, rfl, z⟩)
        refine ⟨r, ⟨rfl, rfl⟩, ?_⟩
        rcases z with ⟨e1, h⟩ | ⟨s', e1, h⟩
        · exact .inl ⟨by simpa using e1, h⟩
        · exact .inr ⟨by simpa using e1, s', h⟩
      clear a0 a1 a2 a3 a4 a5 CB
      rintro r Z z
      try simp only [lgA, lgB, lgC, Act.put, lsA, lsB, lsC]
      rcases z with ⟨er, NZ, OZ⟩ | ⟨s', er, NZ, OZ, FZ⟩
      · rw [er]
        go_wp2
        go_roundw
        case rel => exact ⟨i + 1, pa, na, ca, s, tk, HIL.out, by go_num, rfl, by omega, HNA, OZ, NZ, HF⟩
        case measure => simp [intOf]; omega
      · rw [er]
        obtain ⟨a0, a1, a2, a3, a4, a5⟩ := HCL.out Z NZ.out.below
        obtain ⟨Y, hY⟩ : ∃ Y, Z.alloc (.cells #[.int .u32 it, .int .u32 bu, .int .u32 se, .int .i64 ta9, .int .i64 pr, .int .u64 qt] 34) = Y := ⟨_, rfl⟩
        have BY := hid (show Below Z.heap.size Z Y from by rw [← hY]; exact ball _ _)
        have GY := hid (show Y.heap[Z.heap.size]? = some (.cells (De.row ⟨it, bu, se, ta9, pr, qt⟩) 34 (0, 0)) from by rw [← hY]; exact World.alloc_heap_new _ _)
        have OY := hid (own_on OZ.out BY.out)
        have NY := hid (NZ.out.on BY.out)
        have HY := hid hY
        clear hY
        have HNB := hid hna
        have bna : na ≤ 1048576 := by have := HMM.out; omega
        go_wp2_with (rw [HY.out]; at_builtin; refine app_de (by rfl) (.tmp 55) (.tmp 60) (by rfl) w.heap.size _ na (den tk) (by rfl) OY.out Z.heap.size ⟨it, bu, se, ta9, pr, qt⟩ (by rfl) GY.out (by omega) NY.out.below.size ?_; intro g1 d1 w' hown hgrow hat hlt9; have HO1 := hid hown; have HG1 := hid hgrow; have HAT := hid hat; have HL9 := hid hlt9; clear hown hgrow hat hlt9)
        go_roundw
        case rel =>
          have k1 : Kp (Fs (.slice pa na ca)) Y w' := ⟨HG1.out.os, HG1.out.tape, HG1.out.output, HG1.out.size, fun j hj hne => HG1.out.block j hj (fun e => hne e.symm)⟩
          exact ⟨i + 1, some ⟨g1, 0, none⟩, na + 1, d1, s', tk ++ [⟨it, bu, se, ta9, pr, qt⟩], HIL.out, by go_num, rfl, by have := HNB.out; omega, hid (by rw [List.length_append, HNA.out]; rfl), hid (by rw [den_snoc]; exact HO1.out), hid (NY.out.grow k1 (fun b hb => by rw [fs_some hb]; rcases HAT.out with h | h; exact .inl h; exact .inr (Nat.le_of_eq h.symm)) (fun b hb => by rw [fs_some hb]; exact HL9.out)), FZ⟩
        case measure => simp [intOf]; omega
    · obtain rfl : i = n := by omega
      have bna : na ≤ 1048576 := by omega
      have HDR0 := hid (dr_own HNA.out HO.out)
      obtain ⟨V1, hV1⟩ : ∃ V, V = wr := ⟨_, rfl⟩
      subst hV1
      have CMb := hid (show Calls Try.prog 7 #[.pointer (some ⟨G, 0, none⟩)] V1 fun e w' => ∃ l q d, e = .returned (.slice q (l : List Int).length d) ∧ Mb s l ∧ Uz w' q l ∧ l.length ≤ K + 13 * i ∧ Below V1.heap.size V1 w' from by obtain ⟨O, h1, _, _, _⟩ := HT.out; exact members_any h1 (by have := HMM.out; omega))
      go_upto_region 13 with (go_at_call 7; with_reducible refine CMb.out.mono ?_; rintro e X0 ⟨ms, qm, dm, rfl, z1, z2, z3, z4⟩; have HMB := hid z1; have HUM := hid z2; have HML := hid z3; have HB0 := hid z4; clear z1 z2 z3 z4)
      have NX0 := hid (HT.out.on HB0.out)
      have HDR := hid (show ∀ j (h : j < tk.length), ∃ b off, pa = some ⟨b, off, none⟩ ∧ ∀ U, Below X0.heap.size X0 U → _ from fun j h => by obtain ⟨b, off, e, hc⟩ := HDR0.out j h; exact ⟨b, off, e, fun U hU => hc U (btr HB0.out hU)⟩)
      have HW0 := hid NX0.out.below
      clear CMb HT HO HDR0 HB0
      obtain ⟨nm, hnm⟩ : ∃ n, ms.length = n := ⟨_, rfl⟩
      have HNM := hid hnm
      rw [hnm] at HML ⊢
      clear hnm
      have bnm : nm ≤ 100000000 := by have h1 := HML.out; have h2 := HMM.out; omega
      go_upto_region 14 with fail
      go_loopw [11] (fun iv wr => ∃ i2, i2 ≤ nm ∧ iv = .int .i64 (i2 : Nat) ∧ Hid (Below X0.heap.size X0 wr)) (fun iv _ => nm - (intOf iv).toNat)
      case atStart => exact ⟨0, Nat.zero_le _, rfl, Below.refl _ _⟩
      case round =>
        obtain ⟨i2, hi2n, rfl, HBK⟩ := hrel
        by_cases hl2 : i2 < nm
        · have hi2 : i2 < ms.length := by rw [HNM.out]; exact hl2
          obtain ⟨b5, o5, eq5, hc5⟩ := uz_at2 HUM.out hi2
          subst eq5
          have hu5 := HMB.out.u _ (List.getElem_mem hi2)
          obtain ⟨m, hm5⟩ : ∃ x, ms[i2] = x := ⟨_, rfl⟩
          rw [hm5] at hc5 hu5
          have HC5 := hid hc5
          have HU5 := hid hu5
          clear hc5 hu5 hm5
          have i0 : (0 : Int) ≤ (i2 : Int) := by omega
          have i1 : (i2 : Int) < (nm : Int) := by omega
          have a0 := HC5.out wr HBK.out
          have HL2 := hid hl2
          have CI := hid (show Calls Try.prog 8 #[.pointer (some ⟨G, 0, none⟩), .int .u32 m] wr _ from by obtain ⟨O, h1, _, _, _⟩ := NX0.out.on HBK.out; exact instruments_any h1 m HU5.out (by have := HMM.out; omega))
          go_upto_region 17 with (go_at_call 8; with_reducible refine CI.out.mono ?_; rintro e X ⟨il, qi, di, rfl, z1, z2, z3, z4⟩; have HIU := hid z1; have HIL := hid z2; have HUI := hid z3; have HBX := hid (btr HBK.out z4); clear z1 z2 z3 z4)
          clear CI a0 HBK
          obtain ⟨ni, hni⟩ : ∃ n, il.length = n := ⟨_, rfl⟩
          have HNI := hid hni
          rw [hni] at HIL ⊢
          clear hni
          have bni : ni ≤ 100000000 := by have h1 := HIL.out; have h2 := HMM.out; omega
          go_upto_region 18 with fail
          go_loopw [13] (fun kv wr => ∃ k, k ≤ ni ∧ kv = .int .i64 (k : Nat) ∧ Hid (Below X.heap.size X wr)) (fun kv _ => ni - (intOf kv).toNat)
          case atStart => exact ⟨0, Nat.zero_le _, rfl, Below.refl _ _⟩
          case round =>
            obtain ⟨k, hkn, rfl, HBW⟩ := hrel
            by_cases hlk : k < ni
            · have hk2 : k < il.length := by rw [HNI.out]; exact hlk
              obtain ⟨b6, o6, eq6, hc6⟩ := uz_at2 HUI.out hk2
              subst eq6
              have hux := HIU.out _ (List.getElem_mem hk2)
              obtain ⟨x, hx⟩ : ∃ x, il[k] = x := ⟨_, rfl⟩
              rw [hx] at hc6 hux
              have HC6 := hid hc6
              have HUX := hid hux
              clear hc6 hx hux
              have k0 : (0 : Int) ≤ (k : Int) := by omega
              have k1 : (k : Int) < (ni : Int) := by omega
              have HLK := hid hlk
              have CZ0 := hid (show ∀ U, Calls Try.prog 9 #[.int .i64 0] U fun e w' => e = .returned (.agg #[.int .u64 (hiW 0), .int .u64 (loW 0)]) ∧ Below U.heap.size U w' from fun U => cents_any 0 U (by decide) (by decide))
              go_upto_region 21 with (first | (go_at_call 9; with_reducible refine (CZ0.out _).mono ?_; rintro e u1 ⟨rfl, hb⟩; have HBU := hid hb; have HZ1 := hid (World.alloc_heap_new u1 (.cells #[.int .u64 0, .int .u64 0] 38)); clear hb) | (refine wpList_store_row (by rfl) 38 (.tmp 14) (.tmp 82) (by rfl) u1.heap.size #[.int .u64 (hiW 0), .int .u64 (loW 0)] (by rfl) (by rfl) 38 _ HZ1.out infoM (by rfl) (by simp [Value.oneCell']) ?_))
              obtain ⟨Y, hY⟩ : ∃ X, (u1.alloc (.cells #[.int .u64 0, .int .u64 0] 38)).setRow u1.heap.size #[.int .u64 (hiW 0), .int .u64 (loW 0)] = X := ⟨_, rfl⟩
              have GT0 := hid (show Y.heap[u1.heap.size]? = some (.cells #[.int .u64 (hiW 0), .int .u64 (loW 0)] 38 (0, 0)) from by rw [← hY]; exact setRow_heap _ _ _ _ 38 (0, 0) HZ1.out)
              have BUY := hid (btr HBU.out (show Below u1.heap.size u1 Y from by rw [← hY]; exact setRow_below (ball _ _) (Nat.le_refl _)))
              rw [hY]
              obtain ⟨tF, ht⟩ : ∃ t, u1.heap.size = t := ⟨_, rfl⟩
              rw [ht] at GT0 ⊢
              have LT := hid (show X.heap.size ≤ tF from by have h1 := HBW.out.size; have h2 := HBU.out.size; omega)
              have BXY := hid (btr HBW.out BUY.out)
              clear hY HZ1 ht HBU CZ0 BUY HBW
              have OKX := hid (show ∀ U, Kp (fun j => j = tF) Y U → Below X.heap.size X U from fun U hU => BXY.out.trans (hU.below BXY.out.size (fun j hj e => by have := LT.out; omega)))
              have G0 := hid (show ∀ U, Kp (fun j => j = tF) Y U → U.cell? ⟨b5, o5 + i2, none⟩ = some (.int .u32 m) from fun U hU => HC5.out U (btr HBX.out (OKX.out U hU)))
              have F0 := hid (show ∀ U, Kp (fun j => j = tF) Y U → U.cell? ⟨b6, o6 + k, none⟩ = some (.int .u32 x) from fun U hU => HC6.out U (OKX.out U hU))
              go_upto_region 22 with fail
              go_loopw [15] (fun jv wr => ∃ j, j ≤ na ∧ jv = .int .i64 (j : Nat) ∧ Hid (Kp (fun j => j = tF) Y wr) ∧ Hid (wr.heap[tF]? = some (.cells #[.int .u64 (hiW (flo (tk.take j) m x)), .int .u64 (loW (flo (tk.take j) m x))] 38 (0, 0)))) (fun jv _ => na - (intOf jv).toNat)
              case atStart => exact ⟨0, Nat.zero_le _, rfl, Kp.refl _ _, GT0⟩
              case round =>
                obtain ⟨j, hjn, rfl, HKY, HGF⟩ := hrel
                by_cases hlj : j < na
                · have hj2 : j < tk.length := by rw [HNA.out]; exact hlj
                  obtain ⟨b7, o7, eq7, hcl⟩ := HDR.out j hj2
                  subst eq7
                  have hdl := HF.out.ok _ (List.getElem_mem hj2)
                  have hts := flo_snoc (tk.take j) tk[j] m x
                  rw [← take_snoc hj2] at hts
                  have hfl := flo_le (l := tk.take j) (fun d hd => HF.out.ok d (List.mem_of_mem_take hd)) m x
                  obtain ⟨y, hy⟩ : ∃ y, tk[j] = y := ⟨_, rfl⟩
                  rw [hy] at hcl hdl hts
                  obtain ⟨it, bu, se, ta9, pr, qt⟩ := y
                  dsimp only at hcl
                  clear hy
                  have htl : ((tk.take j).length : Int) ≤ 1048576 := by rw [List.length_take, HNA.out]; omega
                  obtain ⟨f0, hf0⟩ : ∃ f, flo (tk.take j) m x = f := ⟨_, rfl⟩
                  rw [hf0] at hts hfl HGF
                  have HTS := hid hts
                  have hf1 := absI_of hfl
                  obtain ⟨hv0, hv1⟩ := hdl.val
                  dsimp only at hv0 hv1
                  have hp0 : 0 ≤ pr := hdl.p0
                  have hp1 : pr < 262144 := hdl.p1
                  have hq0 : 0 < qt := hdl.q0
                  have hq1 : qt < 4294967296 := hdl.q1
                  have E0 := hid (show ∀ U, Kp (fun j => j = tF) Y U → U.cell? ⟨b7, o7 + j * 6, none⟩ = some (.int .u32 it) from fun U hU => (hcl U (btr HBX.out (OKX.out U hU))).1)
                  have E1 := hid (show ∀ U, Kp (fun j => j = tF) Y U → U.cell? ⟨b7, o7 + j * 6 + 1, none⟩ = some (.int .u32 bu) from fun U hU => (hcl U (btr HBX.out (OKX.out U hU))).2.1)
                  have E2 := hid (show ∀ U, Kp (fun j => j = tF) Y U → U.cell? ⟨b7, o7 + j * 6 + 2, none⟩ = some (.int .u32 se) from fun U hU => (hcl U (btr HBX.out (OKX.out U hU))).2.2.1)
                  have E4 := hid (show ∀ U, Kp (fun j => j = tF) Y U → U.cell? ⟨b7, o7 + j * 6 + 4, none⟩ = some (.int .i64 pr) from fun U hU => (hcl U (btr HBX.out (OKX.out U hU))).2.2.2.1)
                  have E5 := hid (show ∀ U, Kp (fun j => j = tF) Y U → U.cell? ⟨b7, o7 + j * 6 + 5, none⟩ = some (.int .u64 qt) from fun U hU => (hcl U (btr HBX.out (OKX.out U hU))).2.2.2.2)
                  have CT := hid (show ∀ U, Calls Try.prog 10 #[.int .u32 pr, .int .u64 qt] U fun e w' => e = .returned (mv (pr * qt)) ∧ Hid (Below U.heap.size U w') from fun U => times_any pr qt U hp0 hp1 (by omega) hq1)
                  obtain ⟨v, hv⟩ : ∃ v, pr * qt = v := ⟨_, rfl⟩
                  rw [hv] at CT hv0 hv1
                  have wp : IntKind.u32.wrap pr = pr := by rw [IntKind.wrap_u32]; omega
                  have CN := hid (show ∀ U, Calls Try.prog 12 #[mv v] U fun e w' => e = .returned (mv (-v)) ∧ Hid (Below U.heap.size U w') from fun U => neg_any v U)
                  have CSa := hid (show ∀ U, Calls Try.prog 11 #[mv f0, mv (-v)] U fun e w' => e = .returned (mv (f0 + -v)) ∧ Hid (Below U.heap.size U w') from fun U => by have h9 := sum_any f0 (-v) U (by unfold Amt; omega) (by unfold Amt; omega); rw [maddV_eq (by omega) (by omega)] at h9; exact h9)
                  have CSb := hid (show ∀ U, Calls Try.prog 11 #[mv (f0 + -v), mv v] U fun e w' => e = .returned (mv (f0 + -v + v)) ∧ Below U.heap.size U w' from fun U => by have h9 := sum_any (f0 + -v) v U (by unfold Amt; omega) (by unfold Amt; omega); rw [maddV_eq (by omega) (by omega)] at h9; exact h9)
                  have CSc := hid (show ∀ U, Calls Try.prog 11 #[mv f0, mv v] U fun e w' => e = .returned (mv (f0 + v)) ∧ Below U.heap.size U w' from fun U => by have h9 := sum_any f0 v U (by unfold Amt; omega) (by unfold Amt; omega); rw [maddV_eq (by omega) (by omega)] at h9; exact h9)
                  have HV := hid hv
                  unfold mv at CT CN CSa CSb CSc
                  clear hcl hdl hts hfl htl hf0 hf1 hv0 hv1 hp0 hp1 hq0 hq1 hv
                  have j0 : (0 : Int) ≤ (j : Int) := by omega
                  have j1 : (j : Int) < (na : Int) := by omega
                  have HLJ := hid hlj
                  by_cases hx : it = x
                  · have e1 : (it != x) = false := by simpa using hx
                    have HX := hid hx
                    clear hx
                    go_upto_region 24 with fail
                    obtain ⟨V3, hV3⟩ : ∃ U, wr.drew = U := ⟨_, rfl⟩
                    have DV3 := hid (show Below wr.heap.size wr V3 from by rw [← hV3]; exact bdrew1 _)
                    have OV3 := hid (HKY.out.trans (Kp.of (fun j => j = tF) DV3.out) (fun _ _ h => h))
                    refine wp_region_held_drew (S := fun U => U.cell? ⟨b7, o7 + j * 6, none⟩ = some (.int .u32 it) ∧ U.cell? ⟨b6, o6 + k, none⟩ = some (.int .u32 x)) (by kernel_rfl) ?_ (fun hHeld => ?_)
                    · (try dsimp only); rw [hV3]; exact ⟨E0.out _ OV3.out, F0.out _ OV3.out⟩
                    rw [hV3] at hHeld ⊢
                    clear hV3
                    refine' wpAnyH_take (i := 0) rfl (by kernel_rfl) (by kernel_rfl) (by kernel_rfl) (fun _ _ _ h => h) (Or.inl ⟨by kernel_rfl, ?_⟩) (by assumption) ?_
                    rotate_left
                    · (intro w hSw; (try dsimp only at hSw); go_simp; try (with_reducible rfl))
                    try simp only [lgA, lgB, lgC, Act.put, lsA, lsB, lsC]
                    refine' wpAnyH_take (i := 1) rfl (by kernel_rfl) (by kernel_rfl) (by kernel_rfl) (fun _ _ _ h => h) (Or.inl ⟨by kernel_rfl, ?_⟩) (by assumption) ?_
                    rotate_left
                    · (intro w hSw; (try dsimp only at hSw); go_simp; try (with_reducible rfl))
                    try simp only [lgA, lgB, lgC, Act.put, lsA, lsB, lsC]
                    refine' wpAnyH_take (i := 2) rfl (by kernel_rfl) (by kernel_rfl) (by kernel_rfl) (fun _ _ _ h => h) (Or.inl ⟨by kernel_rfl, ?_⟩) (by assumption) ?_
                    rotate_left
                    · (intro w hSw; (try dsimp only at hSw); go_simp; try (with_reducible rfl))
                    try simp only [lgA, lgB, lgC, Act.put, lsA, lsB, lsC]
                    refine' wpAnyH_take (i := 3) rfl (by kernel_rfl) (by kernel_rfl) (by kernel_rfl) (fun _ _ _ h => h) (Or.inl ⟨by kernel_rfl, ?_⟩) (by assumption) ?_
                    rotate_left
                    · (intro w hSw; (try dsimp only at hSw); go_simp; try (with_reducible rfl))
                    try simp only [lgA, lgB, lgC, Act.put, lsA, lsB, lsC]
                    refine' wpAnyH_take (i := 4) rfl (by kernel_rfl) (by kernel_rfl) (by kernel_rfl) (fun _ _ _ h => h) (Or.inl ⟨by kernel_rfl, ?_⟩) (by assumption) ?_
                    rotate_left
                    · (intro w hSw; (try dsimp only at hSw); go_simp; try (with_reducible rfl))
                    try simp only [lgA, lgB, lgC, Act.put, lsA, lsB, lsC]
                    refine' wpAnyH_take (i := 5) rfl (by kernel_rfl) (by kernel_rfl) (by kernel_rfl) (fun _ _ _ h => h) (Or.inl ⟨by kernel_rfl, ?_⟩) (by assumption) ?_
                    rotate_left
                    · (intro w hSw; (try dsimp only at hSw); go_simp; try (with_reducible rfl))
                    try simp only [lgA, lgB, lgC, Act.put, lsA, lsB, lsC]
                    refine' wpAnyH_take (i := 6) rfl (by kernel_rfl) (by kernel_rfl) (by kernel_rfl) (fun _ _ _ h => h) (Or.inl ⟨by kernel_rfl, ?_⟩) (by assumption) ?_
                    rotate_left
                    · (intro w hSw; (try dsimp only at hSw); go_simp; try (with_reducible rfl))
                    try simp only [lgA, lgB, lgC, Act.put, lsA, lsB, lsC]
                    refine' wpAnyH_take (i := 7) rfl (by kernel_rfl) (by kernel_rfl) (by kernel_rfl) (fun _ _ _ h => h) (Or.inl ⟨by kernel_rfl, ?_⟩) (by assumption) ?_
                    rotate_left
                    · (intro w hSw; (try dsimp only at hSw); go_simp; try (with_reducible rfl))
                    try simp only [lgA, lgB, lgC, Act.put, lsA, lsB, lsC]
                    refine' wpAnyH_take (i := 8) rfl (by kernel_rfl) (by kernel_rfl) (by kernel_rfl) (fun _ _ _ h => h) (Or.inl ⟨by kernel_rfl, ?_⟩) (by assumption) ?_
                    rotate_left
                    · (intro w hSw; (try dsimp only at hSw); go_simp; try (with_reducible rfl))
                    try simp only [lgA, lgB, lgC, Act.put, lsA, lsB, lsC]
                    refine' wpAnyH_take (i := 9) rfl (by kernel_rfl) (by kernel_rfl) (by kernel_rfl) (fun _ _ _ h => h) (Or.inl ⟨by kernel_rfl, ?_⟩) (by assumption) ?_
                    rotate_left
                    · (intro w hSw; (try dsimp only at hSw); go_simp; try (with_reducible rfl))
                    try simp only [lgA, lgB, lgC, Act.put, lsA, lsB, lsC]
                    refine wpAnyH_done (by kernel_rfl) ?_ _
                    have q4 := hid (row_on HGF.out DV3.out)
                    go_upto_region 25 with fail
                    refine reg_cut (X := Nat) (fun a t => (((((((((((((a.put (some 99) (.slice (some ⟨b7, o7, none⟩) na ca)).put (some 100) (.int .i64 (j : Nat))).put (some 101) (.pointer (some ⟨b7, o7 + j * 6, none⟩))).put (some 102) (.pointer (some ⟨b7, o7 + j * 6 + 4, none⟩))).put (some 103) (.int .i64 pr)).put (some 104) (.int .u32 pr)).put (some 105) (.slice (some ⟨b7, o7, none⟩) na ca)).put (some 106) (.int .i64 (j : Nat))).put (some 107) (.pointer (some ⟨b7, o7 + j * 6, none⟩))).put (some 108) (.pointer (some ⟨b7, o7 + j * 6 + 5, none⟩))).put (some 109) (.int .u64 qt)).put (some 110) (.agg #[.int .u64 (hiW (v)), .int .u64 (loW (v))])).put (some 16) (.pointer (some ⟨t, 0, none⟩)))) (fun t V => Hid (Below V3.heap.size V3 V) ∧ Hid (V.heap[t]? = some (.cells #[.int .u64 (hiW (v)), .int .u64 (loW (v))] 38 (0, 0))) ∧ Hid (V3.heap.size ≤ t)) ?_ ?_
                    · obtain ⟨V5, hV5⟩ : ∃ U, V3.drew = U := ⟨_, rfl⟩
                      have BV5 := hid (show Below V3.heap.size V3 V5 from by rw [← hV5]; exact bdrew1 _)
                      refine wp_region_held_drew (S := (fun U => U.cell? ⟨b7, o7 + j * 6 + 4, none⟩ = some (.int .i64 pr) ∧ U.cell? ⟨b7, o7 + j * 6 + 5, none⟩ = some (.int .u64 qt))) (by kernel_rfl) ?_ (fun hHeld => ?_)
                      · (try dsimp only); rw [hV5]; exact ⟨E4.out _ (OV3.out.trans (Kp.of (fun j => j = tF) BV5.out) (fun _ _ h => h)), E5.out _ (OV3.out.trans (Kp.of (fun j => j = tF) BV5.out) (fun _ _ h => h))⟩
                      rw [hV5] at hHeld ⊢
                      clear hV5
                      refine' wpAnyH_take (i := 0) rfl (by kernel_rfl) (by kernel_rfl) (by kernel_rfl) (fun _ _ _ h => h) (Or.inl ⟨by kernel_rfl, ?_⟩) (by assumption) ?_
                      rotate_left
                      · (intro w hSw; (try dsimp only at hSw); go_simp; try (with_reducible rfl))
                      try simp only [lgA, lgB, lgC, Act.put, lsA, lsB, lsC]
                      refine' wpAnyH_take (i := 1) rfl (by kernel_rfl) (by kernel_rfl) (by kernel_rfl) (fun _ _ _ h => h) (Or.inl ⟨by kernel_rfl, ?_⟩) (by assumption) ?_
                      rotate_left
                      · (intro w hSw; (try dsimp only at hSw); go_simp; try (with_reducible rfl))
                      try simp only [lgA, lgB, lgC, Act.put, lsA, lsB, lsC]
                      refine' wpAnyH_take (i := 2) rfl (by kernel_rfl) (by kernel_rfl) (by kernel_rfl) (fun _ _ _ h => h) (Or.inl ⟨by kernel_rfl, ?_⟩) (by assumption) ?_
                      rotate_left
                      · (intro w hSw; (try dsimp only at hSw); go_simp; try (with_reducible rfl))
                      try simp only [lgA, lgB, lgC, Act.put, lsA, lsB, lsC]
                      refine' wpAnyH_take (i := 3) rfl (by kernel_rfl) (by kernel_rfl) (by kernel_rfl) (fun _ _ _ h => h) (Or.inl ⟨by kernel_rfl, ?_⟩) (by assumption) ?_
                      rotate_left
                      · (intro w hSw; (try dsimp only at hSw); go_simp; try (with_reducible rfl))
                      try simp only [lgA, lgB, lgC, Act.put, lsA, lsB, lsC]
                      refine' wpAnyH_take (i := 4) rfl (by kernel_rfl) (by kernel_rfl) (by kernel_rfl) (fun _ _ _ h => h) (Or.inl ⟨by kernel_rfl, ?_⟩) (by assumption) ?_
                      rotate_left
                      · (intro w hSw; (try dsimp only at hSw); go_simp; try (with_reducible rfl))
                      try simp only [lgA, lgB, lgC, Act.put, lsA, lsB, lsC]
                      refine' wpAnyH_take (i := 5) rfl (by kernel_rfl) (by kernel_rfl) (by kernel_rfl) (fun _ _ _ h => h) (Or.inl ⟨by kernel_rfl, ?_⟩) (by assumption) ?_
                      rotate_left
                      · (intro w hSw; (try dsimp only at hSw); go_simp; try (with_reducible rfl))
                      try simp only [lgA, lgB, lgC, Act.put, lsA, lsB, lsC]
                      refine' wpAnyH_take (i := 6) rfl (by kernel_rfl) (by kernel_rfl) (by kernel_rfl) (fun _ _ _ h => h) (Or.inl ⟨by kernel_rfl, ?_⟩) (by assumption) ?_
                      rotate_left
                      · (intro w hSw; (try dsimp only at hSw); go_simp; try (with_reducible rfl))
                      try simp only [lgA, lgB, lgC, Act.put, lsA, lsB, lsC]
                      refine' wpAnyH_take (i := 7) rfl (by kernel_rfl) (by kernel_rfl) (by kernel_rfl) (fun _ _ _ h => h) (Or.inl ⟨by kernel_rfl, ?_⟩) (by assumption) ?_
                      rotate_left
                      · (intro w hSw; (try dsimp only at hSw); go_simp; try (with_reducible rfl))
                      try simp only [lgA, lgB, lgC, Act.put, lsA, lsB, lsC]
                      refine' wpAnyH_take (i := 8) rfl (by kernel_rfl) (by kernel_rfl) (by kernel_rfl) (fun _ _ _ h => h) (Or.inl ⟨by kernel_rfl, ?_⟩) (by assumption) ?_
                      rotate_left
                      · (intro w hSw; (try dsimp only at hSw); go_simp; try (with_reducible rfl))
                      try simp only [lgA, lgB, lgC, Act.put, lsA, lsB, lsC]
                      refine' wpAnyH_take (i := 9) rfl (by kernel_rfl) (by kernel_rfl) (by kernel_rfl) (fun _ _ _ h => h) (Or.inl ⟨by kernel_rfl, ?_⟩) (by assumption) ?_
                      rotate_left
                      · (intro w hSw; (try dsimp only at hSw); go_simp; try (with_reducible rfl))
                      try simp only [lgA, lgB, lgC, Act.put, lsA, lsB, lsC]
                      refine' wpAnyH_take (i := 10) rfl (by kernel_rfl) (by kernel_rfl) (by kernel_rfl) (fun _ _ _ h => h) (Or.inl ⟨by kernel_rfl, ?_⟩) (by assumption) ?_
                      rotate_left
                      · (intro w hSw; (try dsimp only at hSw); go_simp; try (with_reducible rfl))
                      try simp only [lgA, lgB, lgC, Act.put, lsA, lsB, lsC]
                      refine wpAnyH_ready (rs := [11, 12]) (by kernel_rfl) (by simp) ?_
                      refine (AllReadyH.cons rfl (fun K hK => ?_) (AllReadyH.cons rfl (fun K hK => ?_) AllReadyH.nil))
                      · go_simp
                        go_at_call 10
                        with_reducible refine (CT.out V5).mono ?_
                        rintro e X6 ⟨rfl, DbX6⟩
                        have DX6 := hid (btr BV5.out DbX6.out)
                        have UX6 := hid (BV5.out.size)
                        (try go_wp2_with fail)
                        refine hK.out _ _ ?_ (fun hHeld => ?_)
                        · (try dsimp only); exact ⟨E4.out _ (OV3.out.trans (Kp.of (fun j => j = tF) DX6.out) (fun _ _ h => h)), E5.out _ (OV3.out.trans (Kp.of (fun j => j = tF) DX6.out) (fun _ _ h => h))⟩
                        clear hK K
                        try simp only [lgA, lgB, lgC, Act.put, lsA, lsB, lsC]
                        refine wpAnyH_ready (rs := [12]) (by kernel_rfl) (by simp) ?_
                        refine (AllReadyH.cons rfl (fun K hK => ?_) AllReadyH.nil)
                        go_simp
                        obtain ⟨X7, hX7⟩ : ∃ X, X6.alloc (.cells #[.int .u64 0, .int .u64 0] 38) = X := ⟨_, rfl⟩
                        have bX7 : Below X6.heap.size X6 X7 := by rw [← hX7]; exact ball _ _
                        have DX7 := hid (btr DX6.out bX7)
                        have zX7 : X7.heap[X6.heap.size]? = some (.cells #[.int .u64 0, .int .u64 0] 38 (0, 0)) := by rw [← hX7]; exact World.alloc_heap_new _ _
                        have yg8 := DX6.out.size
                        obtain ⟨g8, hg8⟩ : ∃ g, X6.heap.size = g := ⟨_, rfl⟩
                        rw [hg8] at zX7 yg8
                        have ZX7 := hid zX7
                        rw [hX7, hg8]
                        clear hX7 hg8 zX7 bX7
                        refine hK.out _ _ ?_ (fun hHeld => ?_)
                        · (try dsimp only); exact ⟨E4.out _ (OV3.out.trans (Kp.of (fun j => j = tF) DX7.out) (fun _ _ h => h)), E5.out _ (OV3.out.trans (Kp.of (fun j => j = tF) DX7.out) (fun _ _ h => h))⟩
                        clear hK K
                        try simp only [lgA, lgB, lgC, Act.put, lsA, lsB, lsC]
                        refine wpAnyH_ready (rs := [13]) (by kernel_rfl) (by simp) ?_
                        refine (AllReadyH.cons rfl (fun K hK => ?_) AllReadyH.nil)
                        refine step_store_row (by rfl) 38 (.tmp 16) (.tmp 110) (by rfl) g8 #[.int .u64 (hiW (v)), .int .u64 (loW (v))] (by rfl) (by rfl) 38 _ ZX7.out infoM (by rfl) (by simp [Value.oneCell']) ?_
                        obtain ⟨Y9, hY9⟩ : ∃ Y, X7.setRow g8 #[.int .u64 (hiW (v)), .int .u64 (loW (v))] = Y := ⟨_, rfl⟩
                        have KY9 := hid (show Kp (fun j => j = g8) X7 Y9 from by rw [← hY9]; exact setRow_kp _ _ _)
                        have AY9 := hid (show Y9.heap[g8]? = some (.cells #[.int .u64 (hiW (v)), .int .u64 (loW (v))] 38 (0, 0)) from by rw [← hY9]; exact setRow_heap X7 g8 _ _ 38 (0, 0) ZX7.out)
                        have DY9 := hid (show Below V3.heap.size V3 Y9 from by rw [← hY9]; exact setRow_below DX7.out yg8)
                        rw [hY9]
                        refine hK.out _ _ ?_ (fun hHeld => ?_)
                        · (try dsimp only); exact ⟨E4.out _ (OV3.out.trans (Kp.of (fun j => j = tF) DY9.out) (fun _ _ h => h)), E5.out _ (OV3.out.trans (Kp.of (fun j => j = tF) DY9.out) (fun _ _ h => h))⟩
                        clear hK K hY9
                        try simp only [lgA, lgB, lgC, Act.put, lsA, lsB, lsC]
                        refine wpAnyH_done (by kernel_rfl) ?_ _
                        exact ⟨g8, by kernel_rfl, DY9, AY9, hid yg8⟩
                      · go_simp
                        obtain ⟨X10, hX10⟩ : ∃ X, V5.alloc (.cells #[.int .u64 0, .int .u64 0] 38) = X := ⟨_, rfl⟩
                        have bX10 : Below V5.heap.size V5 X10 := by rw [← hX10]; exact ball _ _
                        have DX10 := hid (btr BV5.out bX10)
                        have zX10 : X10.heap[V5.heap.size]? = some (.cells #[.int .u64 0, .int .u64 0] 38 (0, 0)) := by rw [← hX10]; exact World.alloc_heap_new _ _
                        have yg11 := BV5.out.size
                        obtain ⟨g11, hg11⟩ : ∃ g, V5.heap.size = g := ⟨_, rfl⟩
                        rw [hg11] at zX10 yg11
                        have ZX10 := hid zX10
                        rw [hX10, hg11]
                        clear hX10 hg11 zX10 bX10
                        refine hK.out _ _ ?_ (fun hHeld => ?_)
                        · (try dsimp only); exact ⟨E4.out _ (OV3.out.trans (Kp.of (fun j => j = tF) DX10.out) (fun _ _ h => h)), E5.out _ (OV3.out.trans (Kp.of (fun j => j = tF) DX10.out) (fun _ _ h => h))⟩
                        clear hK K
                        try simp only [lgA, lgB, lgC, Act.put, lsA, lsB, lsC]
                        refine wpAnyH_ready (rs := [11]) (by kernel_rfl) (by simp) ?_
                        refine (AllReadyH.cons rfl (fun K hK => ?_) AllReadyH.nil)
                        go_simp
                        go_at_call 10
                        with_reducible refine (CT.out X10).mono ?_
                        rintro e X12 ⟨rfl, DbX12⟩
                        have r13 := hid (row_on ZX10.out DbX12.out)
                        have DX12 := hid (btr DX10.out DbX12.out)
                        have UX12 := hid (DX10.out.size)
                        (try go_wp2_with fail)
                        refine hK.out _ _ ?_ (fun hHeld => ?_)
                        · (try dsimp only); exact ⟨E4.out _ (OV3.out.trans (Kp.of (fun j => j = tF) DX12.out) (fun _ _ h => h)), E5.out _ (OV3.out.trans (Kp.of (fun j => j = tF) DX12.out) (fun _ _ h => h))⟩
                        clear hK K
                        try simp only [lgA, lgB, lgC, Act.put, lsA, lsB, lsC]
                        refine wpAnyH_ready (rs := [13]) (by kernel_rfl) (by simp) ?_
                        refine (AllReadyH.cons rfl (fun K hK => ?_) AllReadyH.nil)
                        refine step_store_row (by rfl) 38 (.tmp 16) (.tmp 110) (by rfl) g11 #[.int .u64 (hiW (v)), .int .u64 (loW (v))] (by rfl) (by rfl) 38 _ r13.out infoM (by rfl) (by simp [Value.oneCell']) ?_
                        obtain ⟨Y14, hY14⟩ : ∃ Y, X12.setRow g11 #[.int .u64 (hiW (v)), .int .u64 (loW (v))] = Y := ⟨_, rfl⟩
                        have KY14 := hid (show Kp (fun j => j = g11) X12 Y14 from by rw [← hY14]; exact setRow_kp _ _ _)
                        have AY14 := hid (show Y14.heap[g11]? = some (.cells #[.int .u64 (hiW (v)), .int .u64 (loW (v))] 38 (0, 0)) from by rw [← hY14]; exact setRow_heap X12 g11 _ _ 38 (0, 0) r13.out)
                        have DY14 := hid (show Below V3.heap.size V3 Y14 from by rw [← hY14]; exact setRow_below DX12.out yg11)
                        rw [hY14]
                        refine hK.out _ _ ?_ (fun hHeld => ?_)
                        · (try dsimp only); exact ⟨E4.out _ (OV3.out.trans (Kp.of (fun j => j = tF) DY14.out) (fun _ _ h => h)), E5.out _ (OV3.out.trans (Kp.of (fun j => j = tF) DY14.out) (fun _ _ h => h))⟩
                        clear hK K hY14
                        try simp only [lgA, lgB, lgC, Act.put, lsA, lsB, lsC]
                        refine wpAnyH_done (by kernel_rfl) ?_ _
                        exact ⟨g11, by kernel_rfl, DY14, AY14, hid yg11⟩
                    rintro tv Q15 ⟨BV, GV, LV⟩
                    try simp only [lgA, lgB, lgC, Act.put, lsA, lsB, lsC]
                    have KQ15 := hid (OV3.out.trans (Kp.of (fun j => j = tF) BV.out) (fun _ _ h => h))
                    have gQ15 := hid (row_on q4.out BV.out)
                    have NTV := hid (show tv ≠ tF from fun e => by have h1 := row_lt q4.out; have h2 := LV.out; omega)
                    clear BV LV
                    by_cases hb : bu = m
                    · have e2 : (bu == m) = true := by simpa using hb
                      have HB := hid hb
                      clear hb
                      go_upto_region 26 with fail
                      obtain ⟨V16, hV16⟩ : ∃ U, Q15.drew = U := ⟨_, rfl⟩
                      have DV16 := hid (show Below Q15.heap.size Q15 V16 from by rw [← hV16]; exact bdrew1 _)
                      have OV16 := hid (KQ15.out.trans (Kp.of (fun j => j = tF) DV16.out) (fun _ _ h => h))
                      refine wp_region_held_drew (S := fun U => U.cell? ⟨b7, o7 + j * 6 + 1, none⟩ = some (.int .u32 bu) ∧ U.cell? ⟨b5, o5 + i2, none⟩ = some (.int .u32 m)) (by kernel_rfl) ?_ (fun hHeld => ?_)
                      · (try dsimp only); rw [hV16]; exact ⟨E1.out _ OV16.out, G0.out _ OV16.out⟩
                      rw [hV16] at hHeld ⊢
                      clear hV16
                      refine' wpAnyH_take (i := 0) rfl (by kernel_rfl) (by kernel_rfl) (by kernel_rfl) (fun _ _ _ h => h) (Or.inl ⟨by kernel_rfl, ?_⟩) (by assumption) ?_
                      rotate_left
                      · (intro w hSw; (try dsimp only at hSw); go_simp; try (with_reducible rfl))
                      try simp only [lgA, lgB, lgC, Act.put, lsA, lsB, lsC]
                      refine' wpAnyH_take (i := 1) rfl (by kernel_rfl) (by kernel_rfl) (by kernel_rfl) (fun _ _ _ h => h) (Or.inl ⟨by kernel_rfl, ?_⟩) (by assumption) ?_
                      rotate_left
                      · (intro w hSw; (try dsimp only at hSw); go_simp; try (with_reducible rfl))
                      try simp only [lgA, lgB, lgC, Act.put, lsA, lsB, lsC]
                      refine' wpAnyH_take (i := 2) rfl (by kernel_rfl) (by kernel_rfl) (by kernel_rfl) (fun _ _ _ h => h) (Or.inl ⟨by kernel_rfl, ?_⟩) (by assumption) ?_
                      rotate_left
                      · (intro w hSw; (try dsimp only at hSw); go_simp; try (with_reducible rfl))
                      try simp only [lgA, lgB, lgC, Act.put, lsA, lsB, lsC]
                      refine' wpAnyH_take (i := 3) rfl (by kernel_rfl) (by kernel_rfl) (by kernel_rfl) (fun _ _ _ h => h) (Or.inl ⟨by kernel_rfl, ?_⟩) (by assumption) ?_
                      rotate_left
                      · (intro w hSw; (try dsimp only at hSw); go_simp; try (with_reducible rfl))
                      try simp only [lgA, lgB, lgC, Act.put, lsA, lsB, lsC]
                      refine' wpAnyH_take (i := 4) rfl (by kernel_rfl) (by kernel_rfl) (by kernel_rfl) (fun _ _ _ h => h) (Or.inl ⟨by kernel_rfl, ?_⟩) (by assumption) ?_
                      rotate_left
                      · (intro w hSw; (try dsimp only at hSw); go_simp; try (with_reducible rfl))
                      try simp only [lgA, lgB, lgC, Act.put, lsA, lsB, lsC]
                      refine' wpAnyH_take (i := 5) rfl (by kernel_rfl) (by kernel_rfl) (by kernel_rfl) (fun _ _ _ h => h) (Or.inl ⟨by kernel_rfl, ?_⟩) (by assumption) ?_
                      rotate_left
                      · (intro w hSw; (try dsimp only at hSw); go_simp; try (with_reducible rfl))
                      try simp only [lgA, lgB, lgC, Act.put, lsA, lsB, lsC]
                      refine' wpAnyH_take (i := 6) rfl (by kernel_rfl) (by kernel_rfl) (by kernel_rfl) (fun _ _ _ h => h) (Or.inl ⟨by kernel_rfl, ?_⟩) (by assumption) ?_
                      rotate_left
                      · (intro w hSw; (try dsimp only at hSw); go_simp; try (with_reducible rfl))
                      try simp only [lgA, lgB, lgC, Act.put, lsA, lsB, lsC]
                      refine' wpAnyH_take (i := 7) rfl (by kernel_rfl) (by kernel_rfl) (by kernel_rfl) (fun _ _ _ h => h) (Or.inl ⟨by kernel_rfl, ?_⟩) (by assumption) ?_
                      rotate_left
                      · (intro w hSw; (try dsimp only at hSw); go_simp; try (with_reducible rfl))
                      try simp only [lgA, lgB, lgC, Act.put, lsA, lsB, lsC]
                      refine' wpAnyH_take (i := 8) rfl (by kernel_rfl) (by kernel_rfl) (by kernel_rfl) (fun _ _ _ h => h) (Or.inl ⟨by kernel_rfl, ?_⟩) (by assumption) ?_
                      rotate_left
                      · (intro w hSw; (try dsimp only at hSw); go_simp; try (with_reducible rfl))
                      try simp only [lgA, lgB, lgC, Act.put, lsA, lsB, lsC]
                      refine' wpAnyH_take (i := 9) rfl (by kernel_rfl) (by kernel_rfl) (by kernel_rfl) (fun _ _ _ h => h) (Or.inl ⟨by kernel_rfl, ?_⟩) (by assumption) ?_
                      rotate_left
                      · (intro w hSw; (try dsimp only at hSw); go_simp; try (with_reducible rfl))
                      try simp only [lgA, lgB, lgC, Act.put, lsA, lsB, lsC]
                      refine wpAnyH_done (by kernel_rfl) ?_ _
                      have q17 := hid (row_on gQ15.out DV16.out)
                      have q18 := hid (row_on GV.out DV16.out)
                      go_upto_region 27 with fail
                      refine reg_cut (X := Unit) (fun a t => ((((a.put (some 122) (.agg #[.int .u64 (hiW (v)), .int .u64 (loW (v))])).put (some 121) (.agg #[.int .u64 (hiW (f0)), .int .u64 (loW (f0))])).put (some 123) (.agg #[.int .u64 (hiW (-v)), .int .u64 (loW (-v))])).put (some 124) (.agg #[.int .u64 (hiW (f0 + -v)), .int .u64 (loW (f0 + -v))]))) (fun _ V => Hid (Kp (fun j => j = tF) Y V) ∧ Hid (V.heap[tF]? = some (.cells #[.int .u64 (hiW (f0 + -v)), .int .u64 (loW (f0 + -v))] 38 (0, 0))) ∧ Hid (V.heap[tv]? = some (.cells #[.int .u64 (hiW (v)), .int .u64 (loW (v))] 38 (0, 0)))) ?_ ?_
                      · obtain ⟨V19, hV19⟩ : ∃ U, V16.drew = U := ⟨_, rfl⟩
                        have DV19 := hid (show Below V16.heap.size V16 V19 from by rw [← hV19]; exact bdrew1 _)
                        have OV19 := hid (OV16.out.trans (Kp.of (fun j => j = tF) DV19.out) (fun _ _ h => h))
                        have GV19 := hid (row_on q17.out DV19.out)
                        have HV19 := hid (row_on q18.out DV19.out)
                        refine wp_region_held_drew (S := fun U => U.cell? ⟨tv, 0, none⟩ = some (.int .u64 (hiW (v))) ∧ U.cell? ⟨tv, 1, none⟩ = some (.int .u64 (loW (v)))) (by kernel_rfl) ?_ (fun hHeld => ?_)
                        · (try dsimp only); rw [hV19]; exact ⟨row_cell HV19.out 0, row_cell HV19.out 1⟩
                        rw [hV19] at hHeld ⊢
                        clear hV19
                        refine' wpAnyH_take (i := 1) rfl (by kernel_rfl) (by kernel_rfl) (by kernel_rfl) (fun _ _ _ h => h) (Or.inl ⟨by kernel_rfl, ?_⟩) (by assumption) ?_
                        rotate_left
                        · (intro w hSw; (try dsimp only at hSw); go_simp; try (with_reducible rfl))
                        try simp only [lgA, lgB, lgC, Act.put, lsA, lsB, lsC]
                        refine wpAnyH_ready (rs := [0, 2]) (by kernel_rfl) (by simp) ?_
                        refine (AllReadyH.cons rfl (fun K hK => ?_) (AllReadyH.cons rfl (fun K hK => ?_) AllReadyH.nil))
                        · have l0 := row_cell GV19.out 0
                          have l1 := row_cell GV19.out 1
                          simp only [lqA, lqB, lqC] at l0 l1
                          go_simp
                          clear l0 l1
                          refine hK.out _ _ ?_ (fun hHeld => ?_)
                          · (try dsimp only); exact ⟨row_cell HV19.out 0, row_cell HV19.out 1⟩
                          clear hK K
                          try simp only [lgA, lgB, lgC, Act.put, lsA, lsB, lsC]
                          refine wpAnyH_ready (rs := [2]) (by kernel_rfl) (by simp) ?_
                          refine (AllReadyH.cons rfl (fun K hK => ?_) AllReadyH.nil)
                          go_simp
                          go_at_call 12
                          with_reducible refine (CN.out V19).mono ?_
                          rintro e X20 ⟨rfl, DbX20⟩
                          have OX20 := hid (OV19.out.trans (Kp.of (fun j => j = tF) DbX20.out) (fun _ _ h => h))
                          have GX20 := hid (row_on GV19.out DbX20.out)
                          have HX20 := hid (row_on HV19.out DbX20.out)
                          (try go_wp2_with fail)
                          refine hK.out _ _ ?_ (fun hHeld => ?_)
                          · (try dsimp only); exact ⟨row_cell HX20.out 0, row_cell HX20.out 1⟩
                          clear hK K
                          try simp only [lgA, lgB, lgC, Act.put, lsA, lsB, lsC]
                          refine wpAnyH_ready (rs := [3]) (by kernel_rfl) (by simp) ?_
                          refine (AllReadyH.cons rfl (fun K hK => ?_) AllReadyH.nil)
                          go_simp
                          go_at_call 11
                          with_reducible refine (CSa.out X20).mono ?_
                          rintro e X21 ⟨rfl, DbX21⟩
                          have OX21 := hid (OX20.out.trans (Kp.of (fun j => j = tF) DbX21.out) (fun _ _ h => h))
                          have GX21 := hid (row_on GX20.out DbX21.out)
                          have HX21 := hid (row_on HX20.out DbX21.out)
                          (try go_wp2_with fail)
                          refine hK.out _ _ ?_ (fun hHeld => ?_)
                          · (try dsimp only); exact ⟨row_cell HX21.out 0, row_cell HX21.out 1⟩
                          clear hK K
                          try simp only [lgA, lgB, lgC, Act.put, lsA, lsB, lsC]
                          refine wpAnyH_ready (rs := [4]) (by kernel_rfl) (by simp) ?_
                          refine (AllReadyH.cons rfl (fun K hK => ?_) AllReadyH.nil)
                          refine step_store_row (by rfl) 38 (.tmp 14) (.tmp 124) (by rfl) tF #[.int .u64 (hiW (f0 + -v)), .int .u64 (loW (f0 + -v))] (by rfl) (by rfl) 38 _ GX21.out infoM (by rfl) (by simp [Value.oneCell']) ?_
                          obtain ⟨Y22, hY22⟩ : ∃ Y, X21.setRow tF #[.int .u64 (hiW (f0 + -v)), .int .u64 (loW (f0 + -v))] = Y := ⟨_, rfl⟩
                          have SY22 := hid (show Kp (fun j => j = tF) X21 Y22 from by rw [← hY22]; exact setRow_kp _ _ _)
                          have OY22 := hid (OX21.out.trans SY22.out (fun _ _ h => h))
                          have GY22 := hid (show Y22.heap[tF]? = some (.cells #[.int .u64 (hiW (f0 + -v)), .int .u64 (loW (f0 + -v))] 38 (0, 0)) from by rw [← hY22]; exact setRow_heap _ _ _ _ 38 (0, 0) GX21.out)
                          have HY22 := hid (SY22.out.row HX21.out (fun e => NTV.out e))
                          rw [hY22]
                          clear hY22
                          refine hK.out _ _ ?_ (fun hHeld => ?_)
                          · (try dsimp only); exact ⟨row_cell HY22.out 0, row_cell HY22.out 1⟩
                          clear hK K
                          try simp only [lgA, lgB, lgC, Act.put, lsA, lsB, lsC]
                          refine wpAnyH_done (by kernel_rfl) ?_ _
                          exact ⟨(), by kernel_rfl, OY22, GY22, HY22⟩
                        · go_simp
                          go_at_call 12
                          with_reducible refine (CN.out V19).mono ?_
                          rintro e X23 ⟨rfl, DbX23⟩
                          have OX23 := hid (OV19.out.trans (Kp.of (fun j => j = tF) DbX23.out) (fun _ _ h => h))
                          have GX23 := hid (row_on GV19.out DbX23.out)
                          have HX23 := hid (row_on HV19.out DbX23.out)
                          (try go_wp2_with fail)
                          refine hK.out _ _ ?_ (fun hHeld => ?_)
                          · (try dsimp only); exact ⟨row_cell HX23.out 0, row_cell HX23.out 1⟩
                          clear hK K
                          try simp only [lgA, lgB, lgC, Act.put, lsA, lsB, lsC]
                          refine wpAnyH_ready (rs := [0]) (by kernel_rfl) (by simp) ?_
                          refine (AllReadyH.cons rfl (fun K hK => ?_) AllReadyH.nil)
                          have l0 := row_cell GX23.out 0
                          have l1 := row_cell GX23.out 1
                          simp only [lqA, lqB, lqC] at l0 l1
                          go_simp
                          clear l0 l1
                          refine hK.out _ _ ?_ (fun hHeld => ?_)
                          · (try dsimp only); exact ⟨row_cell HX23.out 0, row_cell HX23.out 1⟩
                          clear hK K
                          try simp only [lgA, lgB, lgC, Act.put, lsA, lsB, lsC]
                          refine wpAnyH_ready (rs := [3]) (by kernel_rfl) (by simp) ?_
                          refine (AllReadyH.cons rfl (fun K hK => ?_) AllReadyH.nil)
                          go_simp
                          go_at_call 11
                          with_reducible refine (CSa.out X23).mono ?_
                          rintro e X24 ⟨rfl, DbX24⟩
                          have OX24 := hid (OX23.out.trans (Kp.of (fun j => j = tF) DbX24.out) (fun _ _ h => h))
                          have GX24 := hid (row_on GX23.out DbX24.out)
                          have HX24 := hid (row_on HX23.out DbX24.out)
                          (try go_wp2_with fail)
                          refine hK.out _ _ ?_ (fun hHeld => ?_)
                          · (try dsimp only); exact ⟨row_cell HX24.out 0, row_cell HX24.out 1⟩
                          clear hK K
                          try simp only [lgA, lgB, lgC, Act.put, lsA, lsB, lsC]
                          refine wpAnyH_ready (rs := [4]) (by kernel_rfl) (by simp) ?_
                          refine (AllReadyH.cons rfl (fun K hK => ?_) AllReadyH.nil)
                          refine step_store_row (by rfl) 38 (.tmp 14) (.tmp 124) (by rfl) tF #[.int .u64 (hiW (f0 + -v)), .int .u64 (loW (f0 + -v))] (by rfl) (by rfl) 38 _ GX24.out infoM (by rfl) (by simp [Value.oneCell']) ?_
                          obtain ⟨Y25, hY25⟩ : ∃ Y, X24.setRow tF #[.int .u64 (hiW (f0 + -v)), .int .u64 (loW (f0 + -v))] = Y := ⟨_, rfl⟩
                          have SY25 := hid (show Kp (fun j => j = tF) X24 Y25 from by rw [← hY25]; exact setRow_kp _ _ _)
                          have OY25 := hid (OX24.out.trans SY25.out (fun _ _ h => h))
                          have GY25 := hid (show Y25.heap[tF]? = some (.cells #[.int .u64 (hiW (f0 + -v)), .int .u64 (loW (f0 + -v))] 38 (0, 0)) from by rw [← hY25]; exact setRow_heap _ _ _ _ 38 (0, 0) GX24.out)
                          have HY25 := hid (SY25.out.row HX24.out (fun e => NTV.out e))
                          rw [hY25]
                          clear hY25
                          refine hK.out _ _ ?_ (fun hHeld => ?_)
                          · (try dsimp only); exact ⟨row_cell HY25.out 0, row_cell HY25.out 1⟩
                          clear hK K
                          try simp only [lgA, lgB, lgC, Act.put, lsA, lsB, lsC]
                          refine wpAnyH_done (by kernel_rfl) ?_ _
                          exact ⟨(), by kernel_rfl, OY25, GY25, HY25⟩
                      rintro _ Q26 ⟨KZ, GZ, VZ⟩
                      try simp only [lgA, lgB, lgC, Act.put, lsA, lsB, lsC]
                      by_cases hs : se = m
                      · have e3 : (se == m) = true := by simpa using hs
                        have HS := hid hs
                        clear hs
                        go_upto_region 28 with fail
                        obtain ⟨V27, hV27⟩ : ∃ U, Q26.drew = U := ⟨_, rfl⟩
                        have DV27 := hid (show Below Q26.heap.size Q26 V27 from by rw [← hV27]; exact bdrew1 _)
                        have OV27 := hid (KZ.out.trans (Kp.of (fun j => j = tF) DV27.out) (fun _ _ h => h))
                        refine wp_region_held_drew (S := fun U => U.cell? ⟨b7, o7 + j * 6 + 2, none⟩ = some (.int .u32 se) ∧ U.cell? ⟨b5, o5 + i2, none⟩ = some (.int .u32 m)) (by kernel_rfl) ?_ (fun hHeld => ?_)
                        · (try dsimp only); rw [hV27]; exact ⟨E2.out _ OV27.out, G0.out _ OV27.out⟩
                        rw [hV27] at hHeld ⊢
                        clear hV27
                        refine' wpAnyH_take (i := 0) rfl (by kernel_rfl) (by kernel_rfl) (by kernel_rfl) (fun _ _ _ h => h) (Or.inl ⟨by kernel_rfl, ?_⟩) (by assumption) ?_
                        rotate_left
                        · (intro w hSw; (try dsimp only at hSw); go_simp; try (with_reducible rfl))
                        try simp only [lgA, lgB, lgC, Act.put, lsA, lsB, lsC]
                        refine' wpAnyH_take (i := 1) rfl (by kernel_rfl) (by kernel_rfl) (by kernel_rfl) (fun _ _ _ h => h) (Or.inl ⟨by kernel_rfl, ?_⟩) (by assumption) ?_
                        rotate_left
                        · (intro w hSw; (try dsimp only at hSw); go_simp; try (with_reducible rfl))
                        try simp only [lgA, lgB, lgC, Act.put, lsA, lsB, lsC]
                        refine' wpAnyH_take (i := 2) rfl (by kernel_rfl) (by kernel_rfl) (by kernel_rfl) (fun _ _ _ h => h) (Or.inl ⟨by kernel_rfl, ?_⟩) (by assumption) ?_
                        rotate_left
                        · (intro w hSw; (try dsimp only at hSw); go_simp; try (with_reducible rfl))
                        try simp only [lgA, lgB, lgC, Act.put, lsA, lsB, lsC]
                        refine' wpAnyH_take (i := 3) rfl (by kernel_rfl) (by kernel_rfl) (by kernel_rfl) (fun _ _ _ h => h) (Or.inl ⟨by kernel_rfl, ?_⟩) (by assumption) ?_
                        rotate_left
                        · (intro w hSw; (try dsimp only at hSw); go_simp; try (with_reducible rfl))
                        try simp only [lgA, lgB, lgC, Act.put, lsA, lsB, lsC]
                        refine' wpAnyH_take (i := 4) rfl (by kernel_rfl) (by kernel_rfl) (by kernel_rfl) (fun _ _ _ h => h) (Or.inl ⟨by kernel_rfl, ?_⟩) (by assumption) ?_
                        rotate_left
                        · (intro w hSw; (try dsimp only at hSw); go_simp; try (with_reducible rfl))
                        try simp only [lgA, lgB, lgC, Act.put, lsA, lsB, lsC]
                        refine' wpAnyH_take (i := 5) rfl (by kernel_rfl) (by kernel_rfl) (by kernel_rfl) (fun _ _ _ h => h) (Or.inl ⟨by kernel_rfl, ?_⟩) (by assumption) ?_
                        rotate_left
                        · (intro w hSw; (try dsimp only at hSw); go_simp; try (with_reducible rfl))
                        try simp only [lgA, lgB, lgC, Act.put, lsA, lsB, lsC]
                        refine' wpAnyH_take (i := 6) rfl (by kernel_rfl) (by kernel_rfl) (by kernel_rfl) (fun _ _ _ h => h) (Or.inl ⟨by kernel_rfl, ?_⟩) (by assumption) ?_
                        rotate_left
                        · (intro w hSw; (try dsimp only at hSw); go_simp; try (with_reducible rfl))
                        try simp only [lgA, lgB, lgC, Act.put, lsA, lsB, lsC]
                        refine' wpAnyH_take (i := 7) rfl (by kernel_rfl) (by kernel_rfl) (by kernel_rfl) (fun _ _ _ h => h) (Or.inl ⟨by kernel_rfl, ?_⟩) (by assumption) ?_
                        rotate_left
                        · (intro w hSw; (try dsimp only at hSw); go_simp; try (with_reducible rfl))
                        try simp only [lgA, lgB, lgC, Act.put, lsA, lsB, lsC]
                        refine' wpAnyH_take (i := 8) rfl (by kernel_rfl) (by kernel_rfl) (by kernel_rfl) (fun _ _ _ h => h) (Or.inl ⟨by kernel_rfl, ?_⟩) (by assumption) ?_
                        rotate_left
                        · (intro w hSw; (try dsimp only at hSw); go_simp; try (with_reducible rfl))
                        try simp only [lgA, lgB, lgC, Act.put, lsA, lsB, lsC]
                        refine' wpAnyH_take (i := 9) rfl (by kernel_rfl) (by kernel_rfl) (by kernel_rfl) (fun _ _ _ h => h) (Or.inl ⟨by kernel_rfl, ?_⟩) (by assumption) ?_
                        rotate_left
                        · (intro w hSw; (try dsimp only at hSw); go_simp; try (with_reducible rfl))
                        try simp only [lgA, lgB, lgC, Act.put, lsA, lsB, lsC]
                        refine wpAnyH_done (by kernel_rfl) ?_ _
                        have q28 := hid (row_on GZ.out DV27.out)
                        have q29 := hid (row_on VZ.out DV27.out)
                        have l0 := row_cell q28.out 0
                        have l1 := row_cell q28.out 1
                        simp only [lqA, lqB, lqC] at l0 l1
                        have n0 := row_cell q29.out 0
                        have n1 := row_cell q29.out 1
                        simp only [lqA, lqB, lqC] at n0 n1
                        have HF1 := q28
                        go_upto_region 23 with (first | (go_at_call 11; with_reducible refine (CSb.out _).mono ?_; rintro e X30 ⟨rfl, hb⟩; have HBX30 := hid hb; have HF2 := hid (row_on HF1.out hb); clear hb) | (refine wpList_store_row (by rfl) 38 (.tmp 14) (.tmp 137) (by rfl) tF #[.int .u64 (hiW (f0 + -v + v)), .int .u64 (loW (f0 + -v + v))] (by rfl) (by rfl) 38 _ HF2.out infoM (by rfl) (by simp [Value.oneCell']) ?_))
                        obtain ⟨Y31, hY31⟩ : ∃ Y, X30.setRow tF #[.int .u64 (hiW (f0 + -v + v)), .int .u64 (loW (f0 + -v + v))] = Y := ⟨_, rfl⟩
                        have OY31 := hid (show Kp (fun j => j = tF) Y Y31 from (OV27.out.trans (Kp.of (fun j => j = tF) HBX30.out) (fun _ _ h => h)).trans (by rw [← hY31]; exact setRow_kp _ _ _) (fun _ _ h => h))
                        have GY31 := hid (show Y31.heap[tF]? = some (.cells #[.int .u64 (hiW (f0 + -v + v)), .int .u64 (loW (f0 + -v + v))] 38 (0, 0)) from by rw [← hY31]; exact setRow_heap _ _ _ _ 38 (0, 0) HF2.out)
                        rw [hY31]
                        clear hY31 l0 l1 n0 n1
                        go_wp2
                        go_roundw
                        case rel => exact ⟨j + 1, HLJ.out, by go_num, OY31, hid (by rw [HTS.out, show f0 + fl1 m x ⟨it, bu, se, ta9, pr, qt⟩ = f0 + -v + v from by unfold fl1; rw [if_pos HX.out, if_pos HB.out, if_pos HS.out, HV.out]; omega]; exact GY31.out)⟩
                        case measure => simp [intOf]; omega
                      · have e3 : (se == m) = false := by simpa using hs
                        have HS := hid hs
                        clear hs
                        go_upto_region 28 with fail
                        obtain ⟨V32, hV32⟩ : ∃ U, Q26.drew = U := ⟨_, rfl⟩
                        have DV32 := hid (show Below Q26.heap.size Q26 V32 from by rw [← hV32]; exact bdrew1 _)
                        have OV32 := hid (KZ.out.trans (Kp.of (fun j => j = tF) DV32.out) (fun _ _ h => h))
                        refine wp_region_held_drew (S := fun U => U.cell? ⟨b7, o7 + j * 6 + 2, none⟩ = some (.int .u32 se) ∧ U.cell? ⟨b5, o5 + i2, none⟩ = some (.int .u32 m)) (by kernel_rfl) ?_ (fun hHeld => ?_)
                        · (try dsimp only); rw [hV32]; exact ⟨E2.out _ OV32.out, G0.out _ OV32.out⟩
                        rw [hV32] at hHeld ⊢
                        clear hV32
                        refine' wpAnyH_take (i := 0) rfl (by kernel_rfl) (by kernel_rfl) (by kernel_rfl) (fun _ _ _ h => h) (Or.inl ⟨by kernel_rfl, ?_⟩) (by assumption) ?_
                        rotate_left
                        · (intro w hSw; (try dsimp only at hSw); go_simp; try (with_reducible rfl))
                        try simp only [lgA, lgB, lgC, Act.put, lsA, lsB, lsC]
                        refine' wpAnyH_take (i := 1) rfl (by kernel_rfl) (by kernel_rfl) (by kernel_rfl) (fun _ _ _ h => h) (Or.inl ⟨by kernel_rfl, ?_⟩) (by assumption) ?_
                        rotate_left
                        · (intro w hSw; (try dsimp only at hSw); go_simp; try (with_reducible rfl))
                        try simp only [lgA, lgB, lgC, Act.put, lsA, lsB, lsC]
                        refine' wpAnyH_take (i := 2) rfl (by kernel_rfl) (by kernel_rfl) (by kernel_rfl) (fun _ _ _ h => h) (Or.inl ⟨by kernel_rfl, ?_⟩) (by assumption) ?_
                        rotate_left
                        · (intro w hSw; (try dsimp only at hSw); go_simp; try (with_reducible rfl))
                        try simp only [lgA, lgB, lgC, Act.put, lsA, lsB, lsC]
                        refine' wpAnyH_take (i := 3) rfl (by kernel_rfl) (by kernel_rfl) (by kernel_rfl) (fun _ _ _ h => h) (Or.inl ⟨by kernel_rfl, ?_⟩) (by assumption) ?_
                        rotate_left
                        · (intro w hSw; (try dsimp only at hSw); go_simp; try (with_reducible rfl))
                        try simp only [lgA, lgB, lgC, Act.put, lsA, lsB, lsC]
                        refine' wpAnyH_take (i := 4) rfl (by kernel_rfl) (by kernel_rfl) (by kernel_rfl) (fun _ _ _ h => h) (Or.inl ⟨by kernel_rfl, ?_⟩) (by assumption) ?_
                        rotate_left
                        · (intro w hSw; (try dsimp only at hSw); go_simp; try (with_reducible rfl))
                        try simp only [lgA, lgB, lgC, Act.put, lsA, lsB, lsC]
                        refine' wpAnyH_take (i := 5) rfl (by kernel_rfl) (by kernel_rfl) (by kernel_rfl) (fun _ _ _ h => h) (Or.inl ⟨by kernel_rfl, ?_⟩) (by assumption) ?_
                        rotate_left
                        · (intro w hSw; (try dsimp only at hSw); go_simp; try (with_reducible rfl))
                        try simp only [lgA, lgB, lgC, Act.put, lsA, lsB, lsC]
                        refine' wpAnyH_take (i := 6) rfl (by kernel_rfl) (by kernel_rfl) (by kernel_rfl) (fun _ _ _ h => h) (Or.inl ⟨by kernel_rfl, ?_⟩) (by assumption) ?_
                        rotate_left
                        · (intro w hSw; (try dsimp only at hSw); go_simp; try (with_reducible rfl))
                        try simp only [lgA, lgB, lgC, Act.put, lsA, lsB, lsC]
                        refine' wpAnyH_take (i := 7) rfl (by kernel_rfl) (by kernel_rfl) (by kernel_rfl) (fun _ _ _ h => h) (Or.inl ⟨by kernel_rfl, ?_⟩) (by assumption) ?_
                        rotate_left
                        · (intro w hSw; (try dsimp only at hSw); go_simp; try (with_reducible rfl))
                        try simp only [lgA, lgB, lgC, Act.put, lsA, lsB, lsC]
                        refine' wpAnyH_take (i := 8) rfl (by kernel_rfl) (by kernel_rfl) (by kernel_rfl) (fun _ _ _ h => h) (Or.inl ⟨by kernel_rfl, ?_⟩) (by assumption) ?_
                        rotate_left
                        · (intro w hSw; (try dsimp only at hSw); go_simp; try (with_reducible rfl))
                        try simp only [lgA, lgB, lgC, Act.put, lsA, lsB, lsC]
                        refine' wpAnyH_take (i := 9) rfl (by kernel_rfl) (by kernel_rfl) (by kernel_rfl) (fun _ _ _ h => h) (Or.inl ⟨by kernel_rfl, ?_⟩) (by assumption) ?_
                        rotate_left
                        · (intro w hSw; (try dsimp only at hSw); go_simp; try (with_reducible rfl))
                        try simp only [lgA, lgB, lgC, Act.put, lsA, lsB, lsC]
                        refine wpAnyH_done (by kernel_rfl) ?_ _
                        have q33 := hid (row_on GZ.out DV32.out)
                        go_wp2
                        go_roundw
                        case rel => exact ⟨j + 1, HLJ.out, by go_num, OV32, hid (by rw [HTS.out, show f0 + fl1 m x ⟨it, bu, se, ta9, pr, qt⟩ = f0 + -v from by unfold fl1; rw [if_pos HX.out, if_pos HB.out, if_neg HS.out]; (try rw [HV.out]); omega]; exact q33.out)⟩
                        case measure => simp [intOf]; omega
                    · have e2 : (bu == m) = false := by simpa using hb
                      have HB := hid hb
                      clear hb
                      go_upto_region 26 with fail
                      obtain ⟨V34, hV34⟩ : ∃ U, Q15.drew = U := ⟨_, rfl⟩
                      have DV34 := hid (show Below Q15.heap.size Q15 V34 from by rw [← hV34]; exact bdrew1 _)
                      have OV34 := hid (KQ15.out.trans (Kp.of (fun j => j = tF) DV34.out) (fun _ _ h => h))
                      refine wp_region_held_drew (S := fun U => U.cell? ⟨b7, o7 + j * 6 + 1, none⟩ = some (.int .u32 bu) ∧ U.cell? ⟨b5, o5 + i2, none⟩ = some (.int .u32 m)) (by kernel_rfl) ?_ (fun hHeld => ?_)
                      · (try dsimp only); rw [hV34]; exact ⟨E1.out _ OV34.out, G0.out _ OV34.out⟩
                      rw [hV34] at hHeld ⊢
                      clear hV34
                      refine' wpAnyH_take (i := 0) rfl (by kernel_rfl) (by kernel_rfl) (by kernel_rfl) (fun _ _ _ h => h) (Or.inl ⟨by kernel_rfl, ?_⟩) (by assumption) ?_
                      rotate_left
                      · (intro w hSw; (try dsimp only at hSw); go_simp; try (with_reducible rfl))
                      try simp only [lgA, lgB, lgC, Act.put, lsA, lsB, lsC]
                      refine' wpAnyH_take (i := 1) rfl (by kernel_rfl) (by kernel_rfl) (by kernel_rfl) (fun _ _ _ h => h) (Or.inl ⟨by kernel_rfl, ?_⟩) (by assumption) ?_
                      rotate_left
                      · (intro w hSw; (try dsimp only at hSw); go_simp; try (with_reducible rfl))
                      try simp only [lgA, lgB, lgC, Act.put, lsA, lsB, lsC]
                      refine' wpAnyH_take (i := 2) rfl (by kernel_rfl) (by kernel_rfl) (by kernel_rfl) (fun _ _ _ h => h) (Or.inl ⟨by kernel_rfl, ?_⟩) (by assumption) ?_
                      rotate_left
                      · (intro w hSw; (try dsimp only at hSw); go_simp; try (with_reducible rfl))
                      try simp only [lgA, lgB, lgC, Act.put, lsA, lsB, lsC]
                      refine' wpAnyH_take (i := 3) rfl (by kernel_rfl) (by kernel_rfl) (by kernel_rfl) (fun _ _ _ h => h) (Or.inl ⟨by kernel_rfl, ?_⟩) (by assumption) ?_
                      rotate_left
                      · (intro w hSw; (try dsimp only at hSw); go_simp; try (with_reducible rfl))
                      try simp only [lgA, lgB, lgC, Act.put, lsA, lsB, lsC]
                      refine' wpAnyH_take (i := 4) rfl (by kernel_rfl) (by kernel_rfl) (by kernel_rfl) (fun _ _ _ h => h) (Or.inl ⟨by kernel_rfl, ?_⟩) (by assumption) ?_
                      rotate_left
                      · (intro w hSw; (try dsimp only at hSw); go_simp; try (with_reducible rfl))
                      try simp only [lgA, lgB, lgC, Act.put, lsA, lsB, lsC]
                      refine' wpAnyH_take (i := 5) rfl (by kernel_rfl) (by kernel_rfl) (by kernel_rfl) (fun _ _ _ h => h) (Or.inl ⟨by kernel_rfl, ?_⟩) (by assumption) ?_
                      rotate_left
                      · (intro w hSw; (try dsimp only at hSw); go_simp; try (with_reducible rfl))
                      try simp only [lgA, lgB, lgC, Act.put, lsA, lsB, lsC]
                      refine' wpAnyH_take (i := 6) rfl (by kernel_rfl) (by kernel_rfl) (by kernel_rfl) (fun _ _ _ h => h) (Or.inl ⟨by kernel_rfl, ?_⟩) (by assumption) ?_
                      rotate_left
                      · (intro w hSw; (try dsimp only at hSw); go_simp; try (with_reducible rfl))
                      try simp only [lgA, lgB, lgC, Act.put, lsA, lsB, lsC]
                      refine' wpAnyH_take (i := 7) rfl (by kernel_rfl) (by kernel_rfl) (by kernel_rfl) (fun _ _ _ h => h) (Or.inl ⟨by kernel_rfl, ?_⟩) (by assumption) ?_
                      rotate_left
                      · (intro w hSw; (try dsimp only at hSw); go_simp; try (with_reducible rfl))
                      try simp only [lgA, lgB, lgC, Act.put, lsA, lsB, lsC]
                      refine' wpAnyH_take (i := 8) rfl (by kernel_rfl) (by kernel_rfl) (by kernel_rfl) (fun _ _ _ h => h) (Or.inl ⟨by kernel_rfl, ?_⟩) (by assumption) ?_
                      rotate_left
                      · (intro w hSw; (try dsimp only at hSw); go_simp; try (with_reducible rfl))
                      try simp only [lgA, lgB, lgC, Act.put, lsA, lsB, lsC]
                      refine' wpAnyH_take (i := 9) rfl (by kernel_rfl) (by kernel_rfl) (by kernel_rfl) (fun _ _ _ h => h) (Or.inl ⟨by kernel_rfl, ?_⟩) (by assumption) ?_
                      rotate_left
                      · (intro w hSw; (try dsimp only at hSw); go_simp; try (with_reducible rfl))
                      try simp only [lgA, lgB, lgC, Act.put, lsA, lsB, lsC]
                      refine wpAnyH_done (by kernel_rfl) ?_ _
                      have q35 := hid (row_on gQ15.out DV34.out)
                      have q36 := hid (row_on GV.out DV34.out)
                      by_cases hs : se = m
                      · have e3 : (se == m) = true := by simpa using hs
                        have HS := hid hs
                        clear hs
                        go_upto_region 28 with fail
                        obtain ⟨V37, hV37⟩ : ∃ U, V34.drew = U := ⟨_, rfl⟩
                        have DV37 := hid (show Below V34.heap.size V34 V37 from by rw [← hV37]; exact bdrew1 _)
                        have OV37 := hid (OV34.out.trans (Kp.of (fun j => j = tF) DV37.out) (fun _ _ h => h))
                        refine wp_region_held_drew (S := fun U => U.cell? ⟨b7, o7 + j * 6 + 2, none⟩ = some (.int .u32 se) ∧ U.cell? ⟨b5, o5 + i2, none⟩ = some (.int .u32 m)) (by kernel_rfl) ?_ (fun hHeld => ?_)
                        · (try dsimp only); rw [hV37]; exact ⟨E2.out _ OV37.out, G0.out _ OV37.out⟩
                        rw [hV37] at hHeld ⊢
                        clear hV37
                        refine' wpAnyH_take (i := 0) rfl (by kernel_rfl) (by kernel_rfl) (by kernel_rfl) (fun _ _ _ h => h) (Or.inl ⟨by kernel_rfl, ?_⟩) (by assumption) ?_
                        rotate_left
                        · (intro w hSw; (try dsimp only at hSw); go_simp; try (with_reducible rfl))
                        try simp only [lgA, lgB, lgC, Act.put, lsA, lsB, lsC]
                        refine' wpAnyH_take (i := 1) rfl (by kernel_rfl) (by kernel_rfl) (by kernel_rfl) (fun _ _ _ h => h) (Or.inl ⟨by kernel_rfl, ?_⟩) (by assumption) ?_
                        rotate_left
                        · (intro w hSw; (try dsimp only at hSw); go_simp; try (with_reducible rfl))
                        try simp only [lgA, lgB, lgC, Act.put, lsA, lsB, lsC]
                        refine' wpAnyH_take (i := 2) rfl (by kernel_rfl) (by kernel_rfl) (by kernel_rfl) (fun _ _ _ h => h) (Or.inl ⟨by kernel_rfl, ?_⟩) (by assumption) ?_
                        rotate_left
                        · (intro w hSw; (try dsimp only at hSw); go_simp; try (with_reducible rfl))
                        try simp only [lgA, lgB, lgC, Act.put, lsA, lsB, lsC]
                        refine' wpAnyH_take (i := 3) rfl (by kernel_rfl) (by kernel_rfl) (by kernel_rfl) (fun _ _ _ h => h) (Or.inl ⟨by kernel_rfl, ?_⟩) (by assumption) ?_
                        rotate_left
                        · (intro w hSw; (try dsimp only at hSw); go_simp; try (with_reducible rfl))
                        try simp only [lgA, lgB, lgC, Act.put, lsA, lsB, lsC]
                        refine' wpAnyH_take (i := 4) rfl (by kernel_rfl) (by kernel_rfl) (by kernel_rfl) (fun _ _ _ h => h) (Or.inl ⟨by kernel_rfl, ?_⟩) (by assumption) ?_
                        rotate_left
                        · (intro w hSw; (try dsimp only at hSw); go_simp; try (with_reducible rfl))
                        try simp only [lgA, lgB, lgC, Act.put, lsA, lsB, lsC]
                        refine' wpAnyH_take (i := 5) rfl (by kernel_rfl) (by kernel_rfl) (by kernel_rfl) (fun _ _ _ h => h) (Or.inl ⟨by kernel_rfl, ?_⟩) (by assumption) ?_
                        rotate_left
                        · (intro w hSw; (try dsimp only at hSw); go_simp; try (with_reducible rfl))
                        try simp only [lgA, lgB, lgC, Act.put, lsA, lsB, lsC]
                        refine' wpAnyH_take (i := 6) rfl (by kernel_rfl) (by kernel_rfl) (by kernel_rfl) (fun _ _ _ h => h) (Or.inl ⟨by kernel_rfl, ?_⟩) (by assumption) ?_
                        rotate_left
                        · (intro w hSw; (try dsimp only at hSw); go_simp; try (with_reducible rfl))
                        try simp only [lgA, lgB, lgC, Act.put, lsA, lsB, lsC]
                        refine' wpAnyH_take (i := 7) rfl (by kernel_rfl) (by kernel_rfl) (by kernel_rfl) (fun _ _ _ h => h) (Or.inl ⟨by kernel_rfl, ?_⟩) (by assumption) ?_
                        rotate_left
                        · (intro w hSw; (try dsimp only at hSw); go_simp; try (with_reducible rfl))
                        try simp only [lgA, lgB, lgC, Act.put, lsA, lsB, lsC]
                        refine' wpAnyH_take (i := 8) rfl (by kernel_rfl) (by kernel_rfl) (by kernel_rfl) (fun _ _ _ h => h) (Or.inl ⟨by kernel_rfl, ?_⟩) (by assumption) ?_
                        rotate_left
                        · (intro w hSw; (try dsimp only at hSw); go_simp; try (with_reducible rfl))
                        try simp only [lgA, lgB, lgC, Act.put, lsA, lsB, lsC]
                        refine' wpAnyH_take (i := 9) rfl (by kernel_rfl) (by kernel_rfl) (by kernel_rfl) (fun _ _ _ h => h) (Or.inl ⟨by kernel_rfl, ?_⟩) (by assumption) ?_
                        rotate_left
                        · (intro w hSw; (try dsimp only at hSw); go_simp; try (with_reducible rfl))
                        try simp only [lgA, lgB, lgC, Act.put, lsA, lsB, lsC]
                        refine wpAnyH_done (by kernel_rfl) ?_ _
                        have q38 := hid (row_on q35.out DV37.out)
                        have q39 := hid (row_on q36.out DV37.out)
                        have l0 := row_cell q38.out 0
                        have l1 := row_cell q38.out 1
                        simp only [lqA, lqB, lqC] at l0 l1
                        have n0 := row_cell q39.out 0
                        have n1 := row_cell q39.out 1
                        simp only [lqA, lqB, lqC] at n0 n1
                        have HF1 := q38
                        go_upto_region 23 with (first | (go_at_call 11; with_reducible refine (CSc.out _).mono ?_; rintro e X40 ⟨rfl, hb⟩; have HBX40 := hid hb; have HF2 := hid (row_on HF1.out hb); clear hb) | (refine wpList_store_row (by rfl) 38 (.tmp 14) (.tmp 137) (by rfl) tF #[.int .u64 (hiW (f0 + v)), .int .u64 (loW (f0 + v))] (by rfl) (by rfl) 38 _ HF2.out infoM (by rfl) (by simp [Value.oneCell']) ?_))
                        obtain ⟨Y41, hY41⟩ : ∃ Y, X40.setRow tF #[.int .u64 (hiW (f0 + v)), .int .u64 (loW (f0 + v))] = Y := ⟨_, rfl⟩
                        have OY41 := hid (show Kp (fun j => j = tF) Y Y41 from (OV37.out.trans (Kp.of (fun j => j = tF) HBX40.out) (fun _ _ h => h)).trans (by rw [← hY41]; exact setRow_kp _ _ _) (fun _ _ h => h))
                        have GY41 := hid (show Y41.heap[tF]? = some (.cells #[.int .u64 (hiW (f0 + v)), .int .u64 (loW (f0 + v))] 38 (0, 0)) from by rw [← hY41]; exact setRow_heap _ _ _ _ 38 (0, 0) HF2.out)
                        rw [hY41]
                        clear hY41 l0 l1 n0 n1
                        go_wp2
                        go_roundw
                        case rel => exact ⟨j + 1, HLJ.out, by go_num, OY41, hid (by rw [HTS.out, show f0 + fl1 m x ⟨it, bu, se, ta9, pr, qt⟩ = f0 + v from by unfold fl1; rw [if_pos HX.out, if_neg HB.out, if_pos HS.out, HV.out]; omega]; exact GY41.out)⟩
                        case measure => simp [intOf]; omega
                      · have e3 : (se == m) = false := by simpa using hs
                        have HS := hid hs
                        clear hs
                        go_upto_region 28 with fail
                        obtain ⟨V42, hV42⟩ : ∃ U, V34.drew = U := ⟨_, rfl⟩
                        have DV42 := hid (show Below V34.heap.size V34 V42 from by rw [← hV42]; exact bdrew1 _)
                        have OV42 := hid (OV34.out.trans (Kp.of (fun j => j = tF) DV42.out) (fun _ _ h => h))
                        refine wp_region_held_drew (S := fun U => U.cell? ⟨b7, o7 + j * 6 + 2, none⟩ = some (.int .u32 se) ∧ U.cell? ⟨b5, o5 + i2, none⟩ = some (.int .u32 m)) (by kernel_rfl) ?_ (fun hHeld => ?_)
                        · (try dsimp only); rw [hV42]; exact ⟨E2.out _ OV42.out, G0.out _ OV42.out⟩
                        rw [hV42] at hHeld ⊢
                        clear hV42
                        refine' wpAnyH_take (i := 0) rfl (by kernel_rfl) (by kernel_rfl) (by kernel_rfl) (fun _ _ _ h => h) (Or.inl ⟨by kernel_rfl, ?_⟩) (by assumption) ?_
                        rotate_left
                        · (intro w hSw; (try dsimp only at hSw); go_simp; try (with_reducible rfl))
                        try simp only [lgA, lgB, lgC, Act.put, lsA, lsB, lsC]
                        refine' wpAnyH_take (i := 1) rfl (by kernel_rfl) (by kernel_rfl) (by kernel_rfl) (fun _ _ _ h => h) (Or.inl ⟨by kernel_rfl, ?_⟩) (by assumption) ?_
                        rotate_left
                        · (intro w hSw; (try dsimp only at hSw); go_simp; try (with_reducible rfl))
                        try simp only [lgA, lgB, lgC, Act.put, lsA, lsB, lsC]
                        refine' wpAnyH_take (i := 2) rfl (by kernel_rfl) (by kernel_rfl) (by kernel_rfl) (fun _ _ _ h => h) (Or.inl ⟨by kernel_rfl, ?_⟩) (by assumption) ?_
                        rotate_left
                        · (intro w hSw; (try dsimp only at hSw); go_simp; try (with_reducible rfl))
                        try simp only [lgA, lgB, lgC, Act.put, lsA, lsB, lsC]
                        refine' wpAnyH_take (i := 3) rfl (by kernel_rfl) (by kernel_rfl) (by kernel_rfl) (fun _ _ _ h => h) (Or.inl ⟨by kernel_rfl, ?_⟩) (by assumption) ?_
                        rotate_left
                        · (intro w hSw; (try dsimp only at hSw); go_simp; try (with_reducible rfl))
                        try simp only [lgA, lgB, lgC, Act.put, lsA, lsB, lsC]
                        refine' wpAnyH_take (i := 4) rfl (by kernel_rfl) (by kernel_rfl) (by kernel_rfl) (fun _ _ _ h => h) (Or.inl ⟨by kernel_rfl, ?_⟩) (by assumption) ?_
                        rotate_left
                        · (intro w hSw; (try dsimp only at hSw); go_simp; try (with_reducible rfl))
                        try simp only [lgA, lgB, lgC, Act.put, lsA, lsB, lsC]
                        refine' wpAnyH_take (i := 5) rfl (by kernel_rfl) (by kernel_rfl) (by kernel_rfl) (fun _ _ _ h => h) (Or.inl ⟨by kernel_rfl, ?_⟩) (by assumption) ?_
                        rotate_left
                        · (intro w hSw; (try dsimp only at hSw); go_simp; try (with_reducible rfl))
                        try simp only [lgA, lgB, lgC, Act.put, lsA, lsB, lsC]
                        refine' wpAnyH_take (i := 6) rfl (by kernel_rfl) (by kernel_rfl) (by kernel_rfl) (fun _ _ _ h => h) (Or.inl ⟨by kernel_rfl, ?_⟩) (by assumption) ?_
                        rotate_left
                        · (intro w hSw; (try dsimp only at hSw); go_simp; try (with_reducible rfl))
                        try simp only [lgA, lgB, lgC, Act.put, lsA, lsB, lsC]
                        refine' wpAnyH_take (i := 7) rfl (by kernel_rfl) (by kernel_rfl) (by kernel_rfl) (fun _ _ _ h => h) (Or.inl ⟨by kernel_rfl, ?_⟩) (by assumption) ?_
                        rotate_left
                        · (intro w hSw; (try dsimp only at hSw); go_simp; try (with_reducible rfl))
                        try simp only [lgA, lgB, lgC, Act.put, lsA, lsB, lsC]
                        refine' wpAnyH_take (i := 8) rfl (by kernel_rfl) (by kernel_rfl) (by kernel_rfl) (fun _ _ _ h => h) (Or.inl ⟨by kernel_rfl, ?_⟩) (by assumption) ?_
                        rotate_left
                        · (intro w hSw; (try dsimp only at hSw); go_simp; try (with_reducible rfl))
                        try simp only [lgA, lgB, lgC, Act.put, lsA, lsB, lsC]
                        refine' wpAnyH_take (i := 9) rfl (by kernel_rfl) (by kernel_rfl) (by kernel_rfl) (fun _ _ _ h => h) (Or.inl ⟨by kernel_rfl, ?_⟩) (by assumption) ?_
                        rotate_left
                        · (intro w hSw; (try dsimp only at hSw); go_simp; try (with_reducible rfl))
                        try simp only [lgA, lgB, lgC, Act.put, lsA, lsB, lsC]
                        refine wpAnyH_done (by kernel_rfl) ?_ _
                        have q43 := hid (row_on q35.out DV42.out)
                        go_wp2
                        go_roundw
                        case rel => exact ⟨j + 1, HLJ.out, by go_num, OV42, hid (by rw [HTS.out, show f0 + fl1 m x ⟨it, bu, se, ta9, pr, qt⟩ = f0 from by unfold fl1; rw [if_pos HX.out, if_neg HB.out, if_neg HS.out]; (try rw [HV.out]); omega]; exact q43.out)⟩
                        case measure => simp [intOf]; omega
                  · have e1 : (it != x) = true := by simpa using hx
                    have HX := hid hx
                    clear hx
                    go_upto_region 24 with fail
                    obtain ⟨V1, hV1⟩ : ∃ U, wr.drew = U := ⟨_, rfl⟩
                    have DV1 := hid (show Below wr.heap.size wr V1 from by rw [← hV1]; exact bdrew1 _)
                    have OV1 := hid (HKY.out.trans (Kp.of (fun j => j = tF) DV1.out) (fun _ _ h => h))
                    refine wp_region_held_drew (S := fun U => U.cell? ⟨b7, o7 + j * 6, none⟩ = some (.int .u32 it) ∧ U.cell? ⟨b6, o6 + k, none⟩ = some (.int .u32 x)) (by kernel_rfl) ?_ (fun hHeld => ?_)
                    · (try dsimp only); rw [hV1]; exact ⟨E0.out _ OV1.out, F0.out _ OV1.out⟩
                    rw [hV1] at hHeld ⊢
                    clear hV1
                    refine' wpAnyH_take (i := 0) rfl (by kernel_rfl) (by kernel_rfl) (by kernel_rfl) (fun _ _ _ h => h) (Or.inl ⟨by kernel_rfl, ?_⟩) (by assumption) ?_
                    rotate_left
                    · (intro w hSw; (try dsimp only at hSw); go_simp; try (with_reducible rfl))
                    try simp only [lgA, lgB, lgC, Act.put, lsA, lsB, lsC]
                    refine' wpAnyH_take (i := 1) rfl (by kernel_rfl) (by kernel_rfl) (by kernel_rfl) (fun _ _ _ h => h) (Or.inl ⟨by kernel_rfl, ?_⟩) (by assumption) ?_
                    rotate_left
                    · (intro w hSw; (try dsimp only at hSw); go_simp; try (with_reducible rfl))
                    try simp only [lgA, lgB, lgC, Act.put, lsA, lsB, lsC]
                    refine' wpAnyH_take (i := 2) rfl (by kernel_rfl) (by kernel_rfl) (by kernel_rfl) (fun _ _ _ h => h) (Or.inl ⟨by kernel_rfl, ?_⟩) (by assumption) ?_
                    rotate_left
                    · (intro w hSw; (try dsimp only at hSw); go_simp; try (with_reducible rfl))
                    try simp only [lgA, lgB, lgC, Act.put, lsA, lsB, lsC]
                    refine' wpAnyH_take (i := 3) rfl (by kernel_rfl) (by kernel_rfl) (by kernel_rfl) (fun _ _ _ h => h) (Or.inl ⟨by kernel_rfl, ?_⟩) (by assumption) ?_
                    rotate_left
                    · (intro w hSw; (try dsimp only at hSw); go_simp; try (with_reducible rfl))
                    try simp only [lgA, lgB, lgC, Act.put, lsA, lsB, lsC]
                    refine' wpAnyH_take (i := 4) rfl (by kernel_rfl) (by kernel_rfl) (by kernel_rfl) (fun _ _ _ h => h) (Or.inl ⟨by kernel_rfl, ?_⟩) (by assumption) ?_
                    rotate_left
                    · (intro w hSw; (try dsimp only at hSw); go_simp; try (with_reducible rfl))
                    try simp only [lgA, lgB, lgC, Act.put, lsA, lsB, lsC]
                    refine' wpAnyH_take (i := 5) rfl (by kernel_rfl) (by kernel_rfl) (by kernel_rfl) (fun _ _ _ h => h) (Or.inl ⟨by kernel_rfl, ?_⟩) (by assumption) ?_
                    rotate_left
                    · (intro w hSw; (try dsimp only at hSw); go_simp; try (with_reducible rfl))
                    try simp only [lgA, lgB, lgC, Act.put, lsA, lsB, lsC]
                    refine' wpAnyH_take (i := 6) rfl (by kernel_rfl) (by kernel_rfl) (by kernel_rfl) (fun _ _ _ h => h) (Or.inl ⟨by kernel_rfl, ?_⟩) (by assumption) ?_
                    rotate_left
                    · (intro w hSw; (try dsimp only at hSw); go_simp; try (with_reducible rfl))
                    try simp only [lgA, lgB, lgC, Act.put, lsA, lsB, lsC]
                    refine' wpAnyH_take (i := 7) rfl (by kernel_rfl) (by kernel_rfl) (by kernel_rfl) (fun _ _ _ h => h) (Or.inl ⟨by kernel_rfl, ?_⟩) (by assumption) ?_
                    rotate_left
                    · (intro w hSw; (try dsimp only at hSw); go_simp; try (with_reducible rfl))
                    try simp only [lgA, lgB, lgC, Act.put, lsA, lsB, lsC]
                    refine' wpAnyH_take (i := 8) rfl (by kernel_rfl) (by kernel_rfl) (by kernel_rfl) (fun _ _ _ h => h) (Or.inl ⟨by kernel_rfl, ?_⟩) (by assumption) ?_
                    rotate_left
                    · (intro w hSw; (try dsimp only at hSw); go_simp; try (with_reducible rfl))
                    try simp only [lgA, lgB, lgC, Act.put, lsA, lsB, lsC]
                    refine' wpAnyH_take (i := 9) rfl (by kernel_rfl) (by kernel_rfl) (by kernel_rfl) (fun _ _ _ h => h) (Or.inl ⟨by kernel_rfl, ?_⟩) (by assumption) ?_
                    rotate_left
                    · (intro w hSw; (try dsimp only at hSw); go_simp; try (with_reducible rfl))
                    try simp only [lgA, lgB, lgC, Act.put, lsA, lsB, lsC]
                    refine wpAnyH_done (by kernel_rfl) ?_ _
                    have q2 := hid (row_on HGF.out DV1.out)
                    go_wp2
                    go_roundw
                    case rel => exact ⟨j + 1, HLJ.out, by go_num, OV1, hid (by rw [HTS.out, show f0 + fl1 m x ⟨it, bu, se, ta9, pr, qt⟩ = f0 from by unfold fl1; rw [if_neg HX.out]; omega]; exact q2.out)⟩
                    case measure => simp [intOf]; omega
                · have ej : j = na := by omega
                  have HG2 := hid (show wr.heap[tF]? = some (.cells #[.int .u64 (hiW (flo tk m x)), .int .u64 (loW (flo tk m x))] 38 (0, 0)) from by have h9 := HGF.out; rw [List.take_of_length_le (by rw [HNA.out]; omega)] at h9; exact h9)
                  clear HGF
                  subst ej
                  have hco := absI_of (HF.out.co m x)
                  have hfl := HF.out.fl m x
                  have hfb := absI_of (flo_le HF.out.ok m x)
                  rw [HNA.out] at hco hfb
                  have CP := hid (show ∀ U, Kp (fun j => j = tF) Y U → Calls Try.prog 13 #[.pointer (some ⟨G, 0, none⟩), .int .u32 m, .int .u32 x] U fun e w' => e = .returned (.agg (s.g m x).row) ∧ Hid (Below U.heap.size U w') from fun U hU => nl_position (NX0.out.nl.on (btr HBX.out (OKX.out U hU))) m x HU5.out HUX.out)
                  obtain ⟨pp, hpp⟩ : ∃ p, s.g m x = p := ⟨_, rfl⟩
                  rw [hpp] at hco hfl CP
                  obtain ⟨ff, hff⟩ : ∃ f, flo tk m x = f := ⟨_, rfl⟩
                  rw [hff] at hfl hfb HG2
                  clear hpp hff
                  have CNg := hid (show ∀ U, Calls Try.prog 12 #[mv pp.co] U fun e w' => e = .returned (mv (-pp.co)) ∧ Hid (Below U.heap.size U w') from fun U => neg_any pp.co U)
                  have CSm := hid (show ∀ U, Calls Try.prog 11 #[mv pp.ga, mv (-pp.co)] U fun e w' => e = .returned (mv ff) ∧ Hid (Below U.heap.size U w') from fun U => by have h9 := sum_any pp.ga (-pp.co) U (by unfold Amt; omega) (by unfold Amt; omega); rw [maddV_eq (by omega) (by omega), show pp.ga + -pp.co = ff by omega] at h9; exact h9)
                  have CCm := hid (show ∀ U, Calls Try.prog 14 #[mv ff, mv ff] U fun e w' => e = .returned (.int .i64 0) ∧ Hid (Below U.heap.size U w') from fun U => by have h9 := mcompare_any ff ff U (by unfold Amt; omega) (by unfold Amt; omega); rw [cmp_self] at h9; exact h9)
                  unfold mv at CNg CSm CCm
                  unfold Po.row at CP
                  clear hco hfl hfb
                  go_upto_region 30 with fail
                  refine reg_cut (X := Nat) (fun a t => (((((((((((a.put (some 138) (.pointer (some ⟨G, 0, none⟩))).put (some 139) (.slice (some ⟨b5, o5, none⟩) nm dm)).put (some 140) (.int .i64 (i2 : Nat))).put (some 141) (.pointer (some ⟨b5, o5 + i2, none⟩))).put (some 142) (.int .u32 m)).put (some 143) (.slice (some ⟨b6, o6, none⟩) ni di)).put (some 144) (.int .i64 (k : Nat))).put (some 145) (.pointer (some ⟨b6, o6 + k, none⟩))).put (some 146) (.int .u32 x)).put (some 147) (.agg #[.int .i64 pp.qt, .int .u64 (hiW (pp.co)), .int .u64 (loW (pp.co)), .int .u64 (hiW (pp.ga)), .int .u64 (loW (pp.ga))])).put (some 17) (.pointer (some ⟨t, 0, none⟩)))) (fun t V => Hid (Below wr.heap.size wr V) ∧ Hid (V.heap[t]? = some (.cells #[.int .i64 pp.qt, .int .u64 (hiW (pp.co)), .int .u64 (loW (pp.co)), .int .u64 (hiW (pp.ga)), .int .u64 (loW (pp.ga))] 44 (0, 0))) ∧ Hid (wr.heap.size ≤ t)) ?_ ?_
                  · obtain ⟨V44, hV44⟩ : ∃ U, wr.drew = U := ⟨_, rfl⟩
                    have BV44 := hid (show Below wr.heap.size wr V44 from by rw [← hV44]; exact bdrew1 _)
                    refine wp_region_held_drew (S := (fun U => U.cell? ⟨b5, o5 + i2, none⟩ = some (.int .u32 m) ∧ U.cell? ⟨b6, o6 + k, none⟩ = some (.int .u32 x))) (by kernel_rfl) ?_ (fun hHeld => ?_)
                    · (try dsimp only); rw [hV44]; exact ⟨G0.out _ (HKY.out.trans (Kp.of (fun j => j = tF) BV44.out) (fun _ _ h => h)), F0.out _ (HKY.out.trans (Kp.of (fun j => j = tF) BV44.out) (fun _ _ h => h))⟩
                    rw [hV44] at hHeld ⊢
                    clear hV44
                    refine' wpAnyH_take (i := 0) rfl (by kernel_rfl) (by kernel_rfl) (by kernel_rfl) (fun _ _ _ h => h) (Or.inl ⟨by kernel_rfl, ?_⟩) (by assumption) ?_
                    rotate_left
                    · (intro w hSw; (try dsimp only at hSw); go_simp; try (with_reducible rfl))
                    try simp only [lgA, lgB, lgC, Act.put, lsA, lsB, lsC]
                    refine' wpAnyH_take (i := 1) rfl (by kernel_rfl) (by kernel_rfl) (by kernel_rfl) (fun _ _ _ h => h) (Or.inl ⟨by kernel_rfl, ?_⟩) (by assumption) ?_
                    rotate_left
                    · (intro w hSw; (try dsimp only at hSw); go_simp; try (with_reducible rfl))
                    try simp only [lgA, lgB, lgC, Act.put, lsA, lsB, lsC]
                    refine' wpAnyH_take (i := 2) rfl (by kernel_rfl) (by kernel_rfl) (by kernel_rfl) (fun _ _ _ h => h) (Or.inl ⟨by kernel_rfl, ?_⟩) (by assumption) ?_
                    rotate_left
                    · (intro w hSw; (try dsimp only at hSw); go_simp; try (with_reducible rfl))
                    try simp only [lgA, lgB, lgC, Act.put, lsA, lsB, lsC]
                    refine' wpAnyH_take (i := 3) rfl (by kernel_rfl) (by kernel_rfl) (by kernel_rfl) (fun _ _ _ h => h) (Or.inl ⟨by kernel_rfl, ?_⟩) (by assumption) ?_
                    rotate_left
                    · (intro w hSw; (try dsimp only at hSw); go_simp; try (with_reducible rfl))
                    try simp only [lgA, lgB, lgC, Act.put, lsA, lsB, lsC]
                    refine' wpAnyH_take (i := 4) rfl (by kernel_rfl) (by kernel_rfl) (by kernel_rfl) (fun _ _ _ h => h) (Or.inl ⟨by kernel_rfl, ?_⟩) (by assumption) ?_
                    rotate_left
                    · (intro w hSw; (try dsimp only at hSw); go_simp; try (with_reducible rfl))
                    try simp only [lgA, lgB, lgC, Act.put, lsA, lsB, lsC]
                    refine' wpAnyH_take (i := 5) rfl (by kernel_rfl) (by kernel_rfl) (by kernel_rfl) (fun _ _ _ h => h) (Or.inl ⟨by kernel_rfl, ?_⟩) (by assumption) ?_
                    rotate_left
                    · (intro w hSw; (try dsimp only at hSw); go_simp; try (with_reducible rfl))
                    try simp only [lgA, lgB, lgC, Act.put, lsA, lsB, lsC]
                    refine' wpAnyH_take (i := 6) rfl (by kernel_rfl) (by kernel_rfl) (by kernel_rfl) (fun _ _ _ h => h) (Or.inl ⟨by kernel_rfl, ?_⟩) (by assumption) ?_
                    rotate_left
                    · (intro w hSw; (try dsimp only at hSw); go_simp; try (with_reducible rfl))
                    try simp only [lgA, lgB, lgC, Act.put, lsA, lsB, lsC]
                    refine' wpAnyH_take (i := 7) rfl (by kernel_rfl) (by kernel_rfl) (by kernel_rfl) (fun _ _ _ h => h) (Or.inl ⟨by kernel_rfl, ?_⟩) (by assumption) ?_
                    rotate_left
                    · (intro w hSw; (try dsimp only at hSw); go_simp; try (with_reducible rfl))
                    try simp only [lgA, lgB, lgC, Act.put, lsA, lsB, lsC]
                    refine' wpAnyH_take (i := 8) rfl (by kernel_rfl) (by kernel_rfl) (by kernel_rfl) (fun _ _ _ h => h) (Or.inl ⟨by kernel_rfl, ?_⟩) (by assumption) ?_
                    rotate_left
                    · (intro w hSw; (try dsimp only at hSw); go_simp; try (with_reducible rfl))
                    try simp only [lgA, lgB, lgC, Act.put, lsA, lsB, lsC]
                    refine wpAnyH_ready (rs := [9, 10]) (by kernel_rfl) (by simp) ?_
                    refine (AllReadyH.cons rfl (fun K hK => ?_) (AllReadyH.cons rfl (fun K hK => ?_) AllReadyH.nil))
                    · go_simp
                      go_at_call 13
                      with_reducible refine (CP.out V44 (HKY.out.trans (Kp.of (fun j => j = tF) BV44.out) (fun _ _ h => h))).mono ?_
                      rintro e X45 ⟨rfl, DbX45⟩
                      have DX45 := hid (btr BV44.out DbX45.out)
                      have UX45 := hid (BV44.out.size)
                      (try go_wp2_with fail)
                      refine hK.out _ _ ?_ (fun hHeld => ?_)
                      · (try dsimp only); exact ⟨G0.out _ (HKY.out.trans (Kp.of (fun j => j = tF) DX45.out) (fun _ _ h => h)), F0.out _ (HKY.out.trans (Kp.of (fun j => j = tF) DX45.out) (fun _ _ h => h))⟩
                      clear hK K
                      try simp only [lgA, lgB, lgC, Act.put, lsA, lsB, lsC]
                      refine wpAnyH_ready (rs := [10]) (by kernel_rfl) (by simp) ?_
                      refine (AllReadyH.cons rfl (fun K hK => ?_) AllReadyH.nil)
                      go_simp
                      obtain ⟨X46, hX46⟩ : ∃ X, X45.alloc (.cells #[.int .i64 0, .int .u64 0, .int .u64 0, .int .u64 0, .int .u64 0] 44) = X := ⟨_, rfl⟩
                      have bX46 : Below X45.heap.size X45 X46 := by rw [← hX46]; exact ball _ _
                      have DX46 := hid (btr DX45.out bX46)
                      have zX46 : X46.heap[X45.heap.size]? = some (.cells #[.int .i64 0, .int .u64 0, .int .u64 0, .int .u64 0, .int .u64 0] 44 (0, 0)) := by rw [← hX46]; exact World.alloc_heap_new _ _
                      have yg47 := DX45.out.size
                      obtain ⟨g47, hg47⟩ : ∃ g, X45.heap.size = g := ⟨_, rfl⟩
                      rw [hg47] at zX46 yg47
                      have ZX46 := hid zX46
                      rw [hX46, hg47]
                      clear hX46 hg47 zX46 bX46
                      refine hK.out _ _ ?_ (fun hHeld => ?_)
                      · (try dsimp only); exact ⟨G0.out _ (HKY.out.trans (Kp.of (fun j => j = tF) DX46.out) (fun _ _ h => h)), F0.out _ (HKY.out.trans (Kp.of (fun j => j = tF) DX46.out) (fun _ _ h => h))⟩
                      clear hK K
                      try simp only [lgA, lgB, lgC, Act.put, lsA, lsB, lsC]
                      refine wpAnyH_ready (rs := [11]) (by kernel_rfl) (by simp) ?_
                      refine (AllReadyH.cons rfl (fun K hK => ?_) AllReadyH.nil)
                      refine step_store_row (by rfl) 44 (.tmp 17) (.tmp 147) (by rfl) g47 #[.int .i64 pp.qt, .int .u64 (hiW (pp.co)), .int .u64 (loW (pp.co)), .int .u64 (hiW (pp.ga)), .int .u64 (loW (pp.ga))] (by rfl) (by rfl) 44 _ ZX46.out infoPo5 (by rfl) (by simp [Value.oneCell']) ?_
                      obtain ⟨Y48, hY48⟩ : ∃ Y, X46.setRow g47 #[.int .i64 pp.qt, .int .u64 (hiW (pp.co)), .int .u64 (loW (pp.co)), .int .u64 (hiW (pp.ga)), .int .u64 (loW (pp.ga))] = Y := ⟨_, rfl⟩
                      have KY48 := hid (show Kp (fun j => j = g47) X46 Y48 from by rw [← hY48]; exact setRow_kp _ _ _)
                      have AY48 := hid (show Y48.heap[g47]? = some (.cells #[.int .i64 pp.qt, .int .u64 (hiW (pp.co)), .int .u64 (loW (pp.co)), .int .u64 (hiW (pp.ga)), .int .u64 (loW (pp.ga))] 44 (0, 0)) from by rw [← hY48]; exact setRow_heap X46 g47 _ _ 44 (0, 0) ZX46.out)
                      have DY48 := hid (show Below wr.heap.size wr Y48 from by rw [← hY48]; exact setRow_below DX46.out yg47)
                      rw [hY48]
                      refine hK.out _ _ ?_ (fun hHeld => ?_)
                      · (try dsimp only); exact ⟨G0.out _ (HKY.out.trans (Kp.of (fun j => j = tF) DY48.out) (fun _ _ h => h)), F0.out _ (HKY.out.trans (Kp.of (fun j => j = tF) DY48.out) (fun _ _ h => h))⟩
                      clear hK K hY48
                      try simp only [lgA, lgB, lgC, Act.put, lsA, lsB, lsC]
                      refine wpAnyH_done (by kernel_rfl) ?_ _
                      exact ⟨g47, by kernel_rfl, DY48, AY48, hid yg47⟩
                    · go_simp
                      obtain ⟨X49, hX49⟩ : ∃ X, V44.alloc (.cells #[.int .i64 0, .int .u64 0, .int .u64 0, .int .u64 0, .int .u64 0] 44) = X := ⟨_, rfl⟩
                      have bX49 : Below V44.heap.size V44 X49 := by rw [← hX49]; exact ball _ _
                      have DX49 := hid (btr BV44.out bX49)
                      have zX49 : X49.heap[V44.heap.size]? = some (.cells #[.int .i64 0, .int .u64 0, .int .u64 0, .int .u64 0, .int .u64 0] 44 (0, 0)) := by rw [← hX49]; exact World.alloc_heap_new _ _
                      have yg50 := BV44.out.size
                      obtain ⟨g50, hg50⟩ : ∃ g, V44.heap.size = g := ⟨_, rfl⟩
                      rw [hg50] at zX49 yg50
                      have ZX49 := hid zX49
                      rw [hX49, hg50]
                      clear hX49 hg50 zX49 bX49
                      refine hK.out _ _ ?_ (fun hHeld => ?_)
                      · (try dsimp only); exact ⟨G0.out _ (HKY.out.trans (Kp.of (fun j => j = tF) DX49.out) (fun _ _ h => h)), F0.out _ (HKY.out.trans (Kp.of (fun j => j = tF) DX49.out) (fun _ _ h => h))⟩
                      clear hK K
                      try simp only [lgA, lgB, lgC, Act.put, lsA, lsB, lsC]
                      refine wpAnyH_ready (rs := [9]) (by kernel_rfl) (by simp) ?_
                      refine (AllReadyH.cons rfl (fun K hK => ?_) AllReadyH.nil)
                      go_simp
                      go_at_call 13
                      with_reducible refine (CP.out X49 (HKY.out.trans (Kp.of (fun j => j = tF) DX49.out) (fun _ _ h => h))).mono ?_
                      rintro e X51 ⟨rfl, DbX51⟩
                      have r52 := hid (row_on ZX49.out DbX51.out)
                      have DX51 := hid (btr DX49.out DbX51.out)
                      have UX51 := hid (DX49.out.size)
                      (try go_wp2_with fail)
                      refine hK.out _ _ ?_ (fun hHeld => ?_)
                      · (try dsimp only); exact ⟨G0.out _ (HKY.out.trans (Kp.of (fun j => j = tF) DX51.out) (fun _ _ h => h)), F0.out _ (HKY.out.trans (Kp.of (fun j => j = tF) DX51.out) (fun _ _ h => h))⟩
                      clear hK K
                      try simp only [lgA, lgB, lgC, Act.put, lsA, lsB, lsC]
                      refine wpAnyH_ready (rs := [11]) (by kernel_rfl) (by simp) ?_
                      refine (AllReadyH.cons rfl (fun K hK => ?_) AllReadyH.nil)
                      refine step_store_row (by rfl) 44 (.tmp 17) (.tmp 147) (by rfl) g50 #[.int .i64 pp.qt, .int .u64 (hiW (pp.co)), .int .u64 (loW (pp.co)), .int .u64 (hiW (pp.ga)), .int .u64 (loW (pp.ga))] (by rfl) (by rfl) 44 _ r52.out infoPo5 (by rfl) (by simp [Value.oneCell']) ?_
                      obtain ⟨Y53, hY53⟩ : ∃ Y, X51.setRow g50 #[.int .i64 pp.qt, .int .u64 (hiW (pp.co)), .int .u64 (loW (pp.co)), .int .u64 (hiW (pp.ga)), .int .u64 (loW (pp.ga))] = Y := ⟨_, rfl⟩
                      have KY53 := hid (show Kp (fun j => j = g50) X51 Y53 from by rw [← hY53]; exact setRow_kp _ _ _)
                      have AY53 := hid (show Y53.heap[g50]? = some (.cells #[.int .i64 pp.qt, .int .u64 (hiW (pp.co)), .int .u64 (loW (pp.co)), .int .u64 (hiW (pp.ga)), .int .u64 (loW (pp.ga))] 44 (0, 0)) from by rw [← hY53]; exact setRow_heap X51 g50 _ _ 44 (0, 0) r52.out)
                      have DY53 := hid (show Below wr.heap.size wr Y53 from by rw [← hY53]; exact setRow_below DX51.out yg50)
                      rw [hY53]
                      refine hK.out _ _ ?_ (fun hHeld => ?_)
                      · (try dsimp only); exact ⟨G0.out _ (HKY.out.trans (Kp.of (fun j => j = tF) DY53.out) (fun _ _ h => h)), F0.out _ (HKY.out.trans (Kp.of (fun j => j = tF) DY53.out) (fun _ _ h => h))⟩
                      clear hK K hY53
                      try simp only [lgA, lgB, lgC, Act.put, lsA, lsB, lsC]
                      refine wpAnyH_done (by kernel_rfl) ?_ _
                      exact ⟨g50, by kernel_rfl, DY53, AY53, hid yg50⟩
                  rintro t17 V5 ⟨BV, GP, LV⟩
                  try simp only [lgA, lgB, lgC, Act.put, lsA, lsB, lsC]
                  have GF5 := hid (row_on HG2.out BV.out)
                  have N17 := hid (show t17 ≠ tF from fun e => by have h1 := row_lt HG2.out; have h2 := LV.out; omega)
                  go_upto_region 31 with fail
                  obtain ⟨V54, hV54⟩ : ∃ U, V5.drew = U := ⟨_, rfl⟩
                  have BV54 := hid (show Below V5.heap.size V5 V54 from by rw [← hV54]; exact bdrew1 _)
                  have r55 := hid (row_on GP.out BV54.out)
                  have r56 := hid (row_on GF5.out BV54.out)
                  refine wp_region_held_drew (S := fun U => U.cell? ⟨t17, 1, none⟩ = some (.int .u64 (hiW (pp.co))) ∧ U.cell? ⟨t17, 2, none⟩ = some (.int .u64 (loW (pp.co))) ∧ U.cell? ⟨t17, 3, none⟩ = some (.int .u64 (hiW (pp.ga))) ∧ U.cell? ⟨t17, 4, none⟩ = some (.int .u64 (loW (pp.ga))) ∧ U.cell? ⟨tF, 0, none⟩ = some (.int .u64 (hiW (ff))) ∧ U.cell? ⟨tF, 1, none⟩ = some (.int .u64 (loW (ff)))) (by kernel_rfl) ?_ (fun hHeld => ?_)
                  · (try dsimp only); rw [hV54]; exact ⟨row_cell r55.out 1, row_cell r55.out 2, row_cell r55.out 3, row_cell r55.out 4, row_cell r56.out 0, row_cell r56.out 1⟩
                  rw [hV54] at hHeld ⊢
                  clear hV54
                  refine' wpAnyH_take (i := 0) rfl (by kernel_rfl) (by kernel_rfl) (by kernel_rfl) (fun _ _ _ h => h) (Or.inl ⟨by kernel_rfl, ?_⟩) (by assumption) ?_
                  rotate_left
                  · (intro w hSw; (try dsimp only at hSw); go_simp; try (with_reducible rfl))
                  try simp only [lgA, lgB, lgC, Act.put, lsA, lsB, lsC]
                  refine' wpAnyH_take (i := 1) rfl (by kernel_rfl) (by kernel_rfl) (by kernel_rfl) (fun _ _ _ h => h) (Or.inl ⟨by kernel_rfl, ?_⟩) (by assumption) ?_
                  rotate_left
                  · (intro w hSw; (try dsimp only at hSw); go_simp; try (with_reducible rfl))
                  try simp only [lgA, lgB, lgC, Act.put, lsA, lsB, lsC]
                  refine' wpAnyH_take (i := 2) rfl (by kernel_rfl) (by kernel_rfl) (by kernel_rfl) (fun _ _ _ h => h) (Or.inl ⟨by kernel_rfl, ?_⟩) (by assumption) ?_
                  rotate_left
                  · (intro w hSw; (try dsimp only at hSw); go_simp; try (with_reducible rfl))
                  try simp only [lgA, lgB, lgC, Act.put, lsA, lsB, lsC]
                  refine' wpAnyH_take (i := 3) rfl (by kernel_rfl) (by kernel_rfl) (by kernel_rfl) (fun _ _ _ h => h) (Or.inl ⟨by kernel_rfl, ?_⟩) (by assumption) ?_
                  rotate_left
                  · (intro w hSw; (try dsimp only at hSw); go_simp; try (with_reducible rfl))
                  try simp only [lgA, lgB, lgC, Act.put, lsA, lsB, lsC]
                  refine' wpAnyH_take (i := 6) rfl (by kernel_rfl) (by kernel_rfl) (by kernel_rfl) (fun _ _ _ h => h) (Or.inl ⟨by kernel_rfl, ?_⟩) (by assumption) ?_
                  rotate_left
                  · (intro w hSw; (try dsimp only at hSw); go_simp; try (with_reducible rfl))
                  try simp only [lgA, lgB, lgC, Act.put, lsA, lsB, lsC]
                  refine wpAnyH_ready (rs := [4]) (by kernel_rfl) (by simp) ?_
                  refine (AllReadyH.cons rfl (fun K hK => ?_) AllReadyH.nil)
                  go_simp
                  go_at_call 12
                  with_reducible refine (CNg.out V54).mono ?_
                  rintro e X57 ⟨rfl, DbX57⟩
                  have r58 := hid (row_on r55.out DbX57.out)
                  have r59 := hid (row_on r56.out DbX57.out)
                  have DX57 := hid (btr BV54.out DbX57.out)
                  (try go_wp2_with fail)
                  refine hK.out _ _ ?_ (fun hHeld => ?_)
                  · (try dsimp only); exact ⟨row_cell r58.out 1, row_cell r58.out 2, row_cell r58.out 3, row_cell r58.out 4, row_cell r59.out 0, row_cell r59.out 1⟩
                  clear hK K
                  try simp only [lgA, lgB, lgC, Act.put, lsA, lsB, lsC]
                  refine wpAnyH_ready (rs := [5]) (by kernel_rfl) (by simp) ?_
                  refine (AllReadyH.cons rfl (fun K hK => ?_) AllReadyH.nil)
                  go_simp
                  go_at_call 11
                  with_reducible refine (CSm.out X57).mono ?_
                  rintro e X60 ⟨rfl, DbX60⟩
                  have r61 := hid (row_on r58.out DbX60.out)
                  have r62 := hid (row_on r59.out DbX60.out)
                  have DX60 := hid (btr DX57.out DbX60.out)
                  (try go_wp2_with fail)
                  refine hK.out _ _ ?_ (fun hHeld => ?_)
                  · (try dsimp only); exact ⟨row_cell r61.out 1, row_cell r61.out 2, row_cell r61.out 3, row_cell r61.out 4, row_cell r62.out 0, row_cell r62.out 1⟩
                  clear hK K
                  try simp only [lgA, lgB, lgC, Act.put, lsA, lsB, lsC]
                  refine wpAnyH_ready (rs := [7]) (by kernel_rfl) (by simp) ?_
                  refine (AllReadyH.cons rfl (fun K hK => ?_) AllReadyH.nil)
                  go_simp
                  go_at_call 14
                  with_reducible refine (CCm.out X60).mono ?_
                  rintro e X63 ⟨rfl, DbX63⟩
                  have r64 := hid (row_on r61.out DbX63.out)
                  have r65 := hid (row_on r62.out DbX63.out)
                  have DX63 := hid (btr DX60.out DbX63.out)
                  (try go_wp2_with fail)
                  refine hK.out _ _ ?_ (fun hHeld => ?_)
                  · (try dsimp only); exact ⟨row_cell r64.out 1, row_cell r64.out 2, row_cell r64.out 3, row_cell r64.out 4, row_cell r65.out 0, row_cell r65.out 1⟩
                  clear hK K
                  try simp only [lgA, lgB, lgC, Act.put, lsA, lsB, lsC]
                  refine' wpAnyH_take (i := 8) rfl (by kernel_rfl) (by kernel_rfl) (by kernel_rfl) (fun _ _ _ h => h) (Or.inl ⟨by kernel_rfl, ?_⟩) (by assumption) ?_
                  rotate_left
                  · (intro w hSw; (try dsimp only at hSw); go_simp; try (with_reducible rfl))
                  try simp only [lgA, lgB, lgC, Act.put, lsA, lsB, lsC]
                  refine wpAnyH_done (by kernel_rfl) ?_ _
                  go_wp2
                  go_roundw
                  case rel => exact ⟨k + 1, HLK.out, by go_num, hid (OKX.out _ (HKY.out.trans (Kp.of (fun j => j = tF) (btr BV.out DX63.out)) (fun _ _ h => h)))⟩
                  case measure => simp [intOf]; omega
            · obtain rfl : k = ni := by omega
              go_wp2
              go_roundw
              case rel => exact ⟨i2 + 1, HL2.out, by go_num, hid (btr HBX.out HBW.out)⟩
              case measure => simp [intOf]; omega
        · obtain rfl : i2 = nm := by omega
          go_wp2
          go_ret
          exact ⟨rfl, btr HW0.out HBK.out⟩
end Go.Proofs.Ytclfkmhglcfcnaa.Ac
