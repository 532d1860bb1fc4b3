/-
  Nothing of a quantity is lost: the law is walked.
-/
import Derived.Test.YtalgndgoedlpoaaRuQe
import Derived.Test.YtalgndgoedlpoaaRuKw
namespace Go.Proofs.Ytalgndgoedlpoaa
open Go.RowKit Go.Deep Go.Shelf
set_option linter.unusedVariables false
set_option linter.unusedSimpArgs false
set_option maxHeartbeats 8000000
set_option maxRecDepth 100000
theorem fr_lg {b : Bs} {cap meet : Int} (h : Fr b cap meet) : Lg b [] := by
  refine ⟨⟨by simp, by simp⟩, fun S y hy => ?_, by simp⟩
  unfold Bs.sl at hy
  rw [h.l1, h.l2] at hy
  split at hy <;> simp at hy
theorem fo_nn {b : Bs} (v : Vb b) (id : Int) : 0 ≤ (fo b id).1.vi ∧ 0 ≤ (fo b id).1.hi := by
  unfold fo
  split
  · rename_i h
    have := v.ok 1 (b.l1[(fnd id b.l1).toNat]'(by have := fnd_ge id b.l1; omega)) (List.getElem_mem _)
    unfold OrOk at this
    exact ⟨by simp only; omega, this.2.1⟩
  · split
    · rename_i h
      have := v.ok 2 (b.l2[(fnd id b.l2).toNat]'(by have := fnd_ge id b.l2; omega)) (List.getElem_mem _)
      unfold OrOk at this
      exact ⟨by simp only; omega, this.2.1⟩
    · exact ⟨Int.le_refl _, Int.le_refl _⟩
theorem Pl.lives {w : World} {B : Nat} {b : Bs} {U V : World} {v : Value} {L : List Lf} (h : Pl w B b U) (hl : Lv U w.heap.size v L) (hk : Kp (fun j => v.ownBlock = some j) U V) : Pl w B b V := by
  refine ⟨h.be.trans (hk.below h.be.size (fun j hj e => by have := (World.ownsRow.lt hl j e).1; omega)), h.bm.kept hk (fun j hj e => ?_), h.gb, h.nw⟩
  obtain ⟨c, hc⟩ := own_ty hl e
  exact h.bm.ne hc (by decide) (by decide) (by decide) hj rfl
theorem Lv.play {base B : Nat} {b : Bs} {U V : World} {v : Value} {L : List Lf} (hl : Lv U base v L) (hm : Bm U B b) (hk : Kp (b.fp B) U V) : Lv V base v L :=
  own_same hl (fun g hg => by
    obtain ⟨c, e⟩ := own_ty hl hg
    exact hk.obj g (row_lt e) (fun hf => hm.ne e (by decide) (by decide) (by decide) hf rfl))
/-- a command is done, and what it tells is counted. -/
theorem step_q {W : World} {B : Nat} {b : Bs} {U : World} {p : Option Addr} {cp : Nat} {L : List Lf} (c : Cm) (h : Pl W B b U) (hl : Lv U W.heap.size (.slice p L.length cp) L) (hg : Lg b L) (hc : CmOk c) (hn : L.length < 3000000000000) :
    Calls Try.prog 10 #[.pointer (some ⟨B, 0, none⟩), .agg (cmr c)] U fun e w' => ∃ b' q m cq, e = .returned (.slice q m cq) ∧ Hid (Calls Try.prog 14 #[.slice p L.length cp, .slice q m cq] w' fun e w3 => ∃ p' c' L', e = .returned (.tuple #[.slice p' L'.length c', .bool true]) ∧ Pl W B b' w3 ∧ Lv w3 W.heap.size (.slice p' L'.length c') L' ∧ Lg b' L' ∧ L'.length ≤ L.length + 1) := by
  refine (pl_do2 c h hc).mono ?_
  rintro e w' ⟨b', q, cq, es, rfl, h2, h3, h4, h5⟩
  obtain ⟨L', k1, k2, k3⟩ := did_ct h4 h.gb hg
  have hl' := hl.play h.bm h5
  refine ⟨b', q, es.length, cq, rfl, hid ?_⟩
  refine (counted_any p cp W.heap.size L L' q cq es w' hl' h3 k1 h2.be.size (by omega)).mono ?_
  rintro e w3 ⟨p', c', rfl, g1, g2⟩
  exact ⟨p', c', L', rfl, h2.lives hl' g2, g1, k2, k3⟩
theorem quantity_walk (cap meet : Int) (q : Option Addr) (lc : Nat) (l : List Cm) (W : World) (hl : Cmz W q l) (hok : ∀ c ∈ l, CmOk c) (hn : l.length ≤ 2000000000000) :
    Calls Try.prog 4 #[.agg #[.int .i64 cap, .int .i64 meet], .slice q l.length lc] W fun e w' => e = .returned (.bool true) ∧ Below W.heap.size W w' := by
  have CB := hid (fun U => begun_any cap meet U)
  obtain ⟨v, hv⟩ : ∃ v, cfg cap meet = v := ⟨_, rfl⟩
  rw [hv] at CB
  clear hv
  obtain ⟨n, hnn⟩ : ∃ n, l.length = n := ⟨_, rfl⟩
  have HN := hid hnn
  rw [hnn] at hn ⊢
  clear hnn
  have hn' : n < 9223372036854775808 := by omega
  have HNN := hid hn
  have HL := hid hl
  have HOK := hid hok
  have HB := hid (ball W (.cells #[.int .i64 cap, .int .i64 meet] 23))
  have hr := World.alloc_heap_new W (.cells #[.int .i64 cap, .int .i64 meet] 23)
  obtain ⟨W1, hW⟩ : ∃ W1, W.alloc (.cells #[.int .i64 cap, .int .i64 meet] 23) = W1 := ⟨_, rfl⟩
  rw [hW] at HB hr
  have HW := hid hW
  have c0 := row_cell hr 0
  have c1 := row_cell hr 1
  simp only [List.getElem?_toArray, List.getElem?_cons_succ, List.getElem?_cons_zero] at c0 c1
  clear hr hW hl hok hn
  cases v with
  | false =>
    have CB2 := hid ((CB.out W1).mono (R' := fun e w' => e = .returned (.tuple #[.pointer none, .bool true]) ∧ Below W1.heap.size W1 w') (by
      rintro e w' (⟨_, h1, h2⟩ | ⟨h, _⟩)
      · exact ⟨h1, h2⟩
      · cases h))
    go_enter Try.func4, Try.ntmps4
    go_upto_region 1 with fail
    have e0 := HW.out
    rw [e0]
    clear e0
    go_wp2_with (go_at_call 13; with_reducible refine (CB2.out).mono ?_; rintro e w1 ⟨rfl, hb1⟩; have HB1 := hid hb1; clear hb1)
    go_ret
    exact ⟨rfl, btr HB.out HB1.out⟩
  | true =>
    have CB2 := hid ((CB.out W1).mono (R' := fun e w' => ∃ B b, e = .returned (.tuple #[.pointer (some ⟨B, 0, none⟩), .bool true]) ∧ Pl W B b w' ∧ Lg b []) (by
      rintro e w' (⟨h, _⟩ | ⟨_, B, b, h1, h2, h3⟩)
      · cases h
      · exact ⟨B, b, h1, h2.back HB.out, fr_lg h3⟩))
    go_enter Try.func4, Try.ntmps4
    go_upto_region 1 with fail
    have e0 := HW.out
    rw [e0]
    clear e0
    go_upto_region 5 with (go_at_call 13; with_reducible refine (CB2.out).mono ?_; rintro e w1 ⟨B, b0, rfl, h1, hg1⟩; have H1 := hid h1; have HG1 := hid hg1; clear h1 hg1)
    clear c0 c1
    obtain ⟨W2, hW2⟩ : ∃ W2, w1.alloc (.cells #[] 54) = W2 := ⟨_, rfl⟩
    have H2 := hid (show Pl W B b0 W2 from by rw [← hW2]; exact H1.out.on (ball _ _))
    have HV2 := hid (show Lv W2 W.heap.size (.slice (some ⟨w1.heap.size, 0, none⟩) 0 0) [] from by rw [← hW2]; exact World.ownsRow_made w1 #[] 0 H1.out.be.size (by unfold maxLen; omega) (by simp))
    rw [hW2]
    clear hW2
    go_wp2_with fail
    go_loopw [7, 8] (fun av iv wr => ∃ (i : Nat) (b : Bs) (L : List Lf) (p : Option Addr) (c : Nat), i ≤ n ∧ iv = .int .i64 i ∧ av = .slice p L.length c ∧ Hid (Pl W B b wr) ∧ Hid (Lv wr W.heap.size (.slice p L.length c) L) ∧ Hid (Lg b L) ∧ Hid (L.length ≤ i)) (fun _ iv _ => n - (intOf iv).toNat)
    case atStart => exact ⟨0, b0, [], _, 0, Nat.zero_le _, rfl, rfl, H2, HV2, HG1, hid (Nat.le_refl _)⟩
    case round =>
      obtain ⟨i, b, L, p1, c1, hin, rfl, rfl, HP, HV, HG, HLI⟩ := hrel
      by_cases hlt : i < n
      · have hil : i < l.length := by rw [HN.out]; exact hlt
        have hck := HOK.out l[i] (List.getElem_mem hil)
        obtain ⟨qb, qo, hq, a0, a1, a2, a3, a4, a5, a6, a7, a8⟩ := cmz_cells HL.out HP.out.be hil
        obtain ⟨c, hc⟩ : ∃ c, l[i] = c := ⟨_, rfl⟩
        rw [hc] at hck a0 a1 a2 a3 a4 a5 a6 a7 a8
        clear hc
        subst hq
        have CD := hid (step_q c HP.out HV.out HG.out hck (by have := HLI.out; have := HNN.out; omega))
        unfold cmr at CD
        clear hck
        have i0' : (0 : Int) ≤ (i : Int) := by omega
        have i1 : (i : Int) < (n : Int) := by omega
        go_upto_region 9 with (first | (go_at_call 10; with_reducible refine (CD.out).mono ?_; rintro e w2 ⟨b', q2, m2, cq2, rfl, CC⟩) | (go_at_call 14; with_reducible refine (CC.out).mono ?_; rintro e w3 ⟨p3, c3, L3, rfl, h1, h2, h3, h4⟩; have H3 := hid h1; have HV3 := hid h2; have HG3 := hid h3; have HLL := hid h4; clear h1 h2 h3 h4))
        clear a0 a1 a2 a3 a4 a5 a6 a7 a8
        obtain ⟨k, hk⟩ : ∃ k, L3.length = k := ⟨_, rfl⟩
        have HK := hid hk
        have hk' : k < 9223372036854775808 := by have := HLI.out; have := HNN.out; have := HLL.out; omega
        rw [hk]
        clear hk
        go_wp2_with fail
        go_loopw [9, 10] (fun rv jv wr' => ∃ (j r : Nat), j ≤ k ∧ jv = .int .i64 j ∧ rv = .int .i64 r ∧ r ≤ j ∧ Hid (cn b' (L3.take j) = r) ∧ Hid (Below w3.heap.size w3 wr')) (fun _ jv _ => k - (intOf jv).toNat)
        case atStart => exact ⟨0, 0, Nat.zero_le _, rfl, rfl, Nat.le_refl _, hid rfl, hid (Below.refl _ _)⟩
        case round =>
          obtain ⟨j, r, hjk, rfl, rfl, hrj, HR, HBJ⟩ := hrel
          by_cases hjl : j < k
          · have hje : j < L3.length := by rw [HK.out]; exact hjl
            have HVJ := hid (fun (U : World) (hU : Below w3.heap.size w3 U) => own_on HV3.out hU)
            obtain ⟨g, cc, hp, _, ⟨cur, hcur⟩, hcc⟩ := lf_cells (HVJ.out _ HBJ.out) hje
            have hp' := (Value.slice.inj hp).1
            subst hp'
            obtain ⟨x, hx⟩ : ∃ x, L3[j] = x := ⟨_, rfl⟩
            have hq := HG3.out.qv.ok _ (List.getElem_mem hje)
            rw [rm_fo H3.out.gb.vb.ids] at hq
            have hnn := fo_nn H3.out.gb.vb (L3[j]).id
            have hcn := cn_snoc b' (L3.take j) L3[j]
            rw [← List.take_succ_eq_append_getElem hje, HR.out] at hcn
            rw [hx] at hq hnn hcn hcc
            have k0 := hcc 0 (by omega)
            have HCUR := hid hcur
            have HCC := hid hcc
            simp only [lcs, List.getElem?_cons_succ, List.getElem?_cons_zero, Nat.add_zero] at k0
            have CF := hid (findB_any B b' x.id wr (H3.out.on HBJ.out).bm H3.out.gb.vb.len)
            obtain ⟨fv, hfv⟩ : ∃ v, (fo b' x.id).2.2 = v := ⟨_, rfl⟩
            obtain ⟨fs, hfs⟩ : ∃ v, (fo b' x.id).2.1 = v := ⟨_, rfl⟩
            obtain ⟨fo', hfo⟩ : ∃ v, (fo b' x.id).1 = v := ⟨_, rfl⟩
            rw [hfv, hfs, hfo] at CF
            rw [hfo] at hq hnn
            rw [hfv] at hcn
            unfold orow at CF
            have HQ := hid hq
            have HNF := hid hnn
            have HCN := hid hcn
            have j0' : (0 : Int) ≤ (j : Int) := by omega
            have j1 : (j : Int) < (k : Int) := by omega
            clear hfv hfs hfo hq hnn hcn hcc hcur hx hp
            go_upto_region 16 with (go_at_call 15; with_reducible refine (CF.out).mono ?_; rintro e w4 ⟨rfl, hb4⟩; have HB4 := hid hb4; clear hb4)
            obtain ⟨X, hX⟩ : ∃ X, w4.heap.size = X := ⟨_, rfl⟩
            obtain ⟨W5, hW5⟩ : ∃ W5, w4.alloc (.cells #[.int .u64 fo'.id, .int .u32 fo'.mb, .int .i64 fo'.ty, .int .i64 fo'.pr, .int .u64 fo'.vi, .int .u64 fo'.hi, .int .u64 fo'.pk] 50) = W5 := ⟨_, rfl⟩
            have hr5 : W5.heap[X]? = some (.cells #[.int .u64 fo'.id, .int .u32 fo'.mb, .int .i64 fo'.ty, .int .i64 fo'.pr, .int .u64 fo'.vi, .int .u64 fo'.hi, .int .u64 fo'.pk] 50 (0, 0)) := by rw [← hW5, ← hX]; exact World.alloc_heap_new _ _
            have HB45 := hid (show Below wr.heap.size wr W5 from by rw [← hW5]; exact btr HB4.out (ball _ _))
            rw [hX, hW5]
            clear hX hW5 HB4 k0
            have HB5 := hid (btr HBJ.out HB45.out)
            have b4 := row_cell hr5 4
            have b5 := row_cell hr5 5
            simp only [List.getElem?_toArray, List.getElem?_cons_succ, List.getElem?_cons_zero] at b4 b5
            have hrow := row_on HCUR.out HB45.out
            have k1 := (row_cell hrow (j * 5 + 1)).trans ((row_cell HCUR.out (j * 5 + 1)).symm.trans (HCC.out 1 (by omega)))
            have k2 := (row_cell hrow (j * 5 + 2)).trans ((row_cell HCUR.out (j * 5 + 2)).symm.trans (HCC.out 2 (by omega)))
            have k3 := (row_cell hrow (j * 5 + 3)).trans ((row_cell HCUR.out (j * 5 + 3)).symm.trans (HCC.out 3 (by omega)))
            simp only [lcs, List.getElem?_cons_succ, List.getElem?_cons_zero] at k1 k2 k3
            obtain ⟨q0, q1, q2, q3, q4⟩ := HQ.out
            obtain ⟨f0, f1⟩ := HNF.out
            have w1' : IntKind.u64.wrap (x.tr + x.ca) = x.tr + x.ca := by rw [IntKind.wrap_u64]; omega
            have w2' : IntKind.u64.wrap (x.tr + x.ca + fo'.vi) = x.tr + x.ca + fo'.vi := by rw [IntKind.wrap_u64]; omega
            have w3' : IntKind.u64.wrap (x.tr + x.ca + fo'.vi + fo'.hi) = x.qy := by rw [IntKind.wrap_u64]; omega
            clear hr5 hrow q0 q1 q2 q3 q4 f0 f1
            cases fv with
            | false =>
              go_upto_region 18 with fail
              go_quiet (fail)
              go_wp2
              go_roundw
              case rel => exact ⟨j + 1, r, by omega, by go_num, rfl, by omega, hid (by have := HCN.out; simpa using this), hid (btr HB5.out (bdrew _ _))⟩
              case measure => simp [intOf]; omega
            | true =>
              have r1 : IntKind.i64.wrap ((r : Int) + 1) = ((r + 1 : Nat) : Int) := by rw [IntKind.wrap_i64]; omega
              go_upto_region 18 with fail
              go_quiet (fail)
              go_wp2
              go_roundw
              case rel => exact ⟨j + 1, r + 1, by omega, by go_num, by go_num, by omega, hid (by have := HCN.out; simpa using this), hid (btr HB5.out (bdrew _ _))⟩
              case measure => simp [intOf]; omega
          · obtain rfl : j = k := by omega
            have hcn := HR.out
            rw [List.take_of_length_le (by rw [HK.out]; exact Nat.le_refl _), cn_all HG3.out H3.out.gb.vb.ids] at hcn
            have CN := hid (len_any B b' wr (H3.out.on HBJ.out).bm H3.out.gb.vb.len)
            have e1 : (b'.l1.length : Int) + b'.l2.length = (r : Int) := by unfold lns at hcn; omega
            rw [e1] at CN
            clear e1 hcn
            go_wp2_with (go_at_call 16; with_reducible refine (CN.out).mono ?_; rintro e w4 ⟨rfl, d4, rfl⟩)
            go_roundw
            case rel => exact ⟨i + 1, b', L3, p3, c3, by omega, by go_num, by rw [HK.out], hid ((H3.out.on HBJ.out).on (bdrew _ _)), hid (own_on (own_on HV3.out HBJ.out) (bdrew _ _)), HG3, hid (by have := HLI.out; have := HLL.out; omega)⟩
            case measure => simp [intOf]; omega
      · obtain rfl : i = n := by omega
        go_wp2
        go_ret
        exact ⟨rfl, HP.out.be⟩
end Go.Proofs.Ytalgndgoedlpoaa
