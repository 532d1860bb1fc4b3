/-
  The document's quote: the walk.
-/
import Derived.Test.YtnmkfdndfhefiaaGreatGf
namespace Go.Proofs.YtnmkfdndfhefiaaGreat
open Go.RowKit Go.Deep Go.Shelf
set_option linter.unusedVariables false
set_option linter.unusedSimpArgs false
set_option maxHeartbeats 64000000
set_option maxRecDepth 100000
theorem rquote_any (r m : Int) (p : Option Addr) (c : Nat) (L : List It) (w : World) (h : Li w p c L) (hk : Lk L) (hr : isP r = true) :
    Calls Tryz.prog 18 #[.agg #[.int .i64 r, .int .i64 m, .slice p L.length c]] w fun e w' => e = .returned (.tuple #[.agg (qrow ((dqt r (dcs r L)).getD q0)), .bool (dqt r (dcs r L)).isSome]) ∧ Below w.heap.size w w' := by
  have CC := hid (fun (U : World) (hU : Below w.heap.size w U) => rcandidates_any r m p c L U (h.on hU) hk.ln hk.ok)
  have HOK := hid (dcs_ok hr hk)
  obtain ⟨l1, l2⟩ := dcs_len (r := r) hk
  have hrr : 0 ≤ r ∧ r < 262144 := of_decide_eq_true hr
  obtain ⟨D, hD⟩ : ∃ D, dcs r L = D := ⟨_, rfl⟩
  rw [hD] at CC HOK l1 l2 ⊢
  obtain ⟨nd, hnd⟩ : ∃ n, D.length = n := ⟨_, rfl⟩
  rw [hnd] at CC l1 l2
  have HND := hid hnd
  obtain ⟨n, hnn⟩ : ∃ n, L.length = n := ⟨_, rfl⟩
  rw [hnn] at CC ⊢
  obtain ⟨W, hW⟩ : ∃ W, (w.alloc (.cells #[.int .i64 r, .int .i64 m, .slice p n c] 29)).alloc (.cells #[.int .i64 0, .int .u64 0, .int .u64 0, .int .i64 0, .int .i64 0] 57) = W := ⟨_, rfl⟩
  obtain ⟨R, hR⟩ : ∃ R, w.heap.size = R := ⟨_, rfl⟩
  have HRR := hid hR
  have HBW := hid (show Below w.heap.size w W from by rw [← hW]; exact btr (ball _ _) (ball _ _))
  have HK := hid (show W.heap[R]? = some (.cells #[.int .i64 r, .int .i64 m, .slice p n c] 29 (0, 0)) from by rw [← hW, ← hR]; exact row_on (World.alloc_heap_new _ _) (ball _ _))
  have HZ := hid (show W.heap[R + 1]? = some (.cells #[.int .i64 0, .int .u64 0, .int .u64 0, .int .i64 0, .int .i64 0] 57 (0, 0)) from by
    rw [← hW, ← hR]
    have := World.alloc_heap_new (w.alloc (.cells #[.int .i64 r, .int .i64 m, .slice p n c] 29)) (.cells #[.int .i64 0, .int .u64 0, .int .u64 0, .int .i64 0, .int .i64 0] 57)
    simpa using this)
  obtain ⟨k0, k1, k2⟩ := row3 HK.out
  have HW := hid hW
  have CW := hid (CC.out W HBW.out)
  clear hW hR CC h hk hr hnn hnd hD
  go_enter Tryz.func18, Tryz.ntmps18
  go_upto_region 1 with fail
  rw [HW.out, HRR.out]
  go_upto_region 4 with (go_at_call 39; with_reducible refine (CW.out).mono ?_; rintro e V ⟨pd, cd, rfl, hq, hb⟩; have HQ := hid hq; have HBV := hid (btr HBW.out hb); have HZV := hid (row_on HZ.out hb); have HKV := hid (row_on HK.out hb); clear hq hb)
  clear CW HZ HK
  have HQC := hid (fun (U : World) (hU : Below V.heap.size V U) (i : Nat) (hi : i < D.length) => (HQ.out.on hU).cells hi)
  go_loopw [5, 6] (fun mv iv wr => ∃ (i : Nat) (x : Int), i ≤ nd ∧ iv = .int .i64 i ∧ mv = .int .u64 x ∧ Hid (x = (D.take i).foldl (fun m z => if m < z.vo then z.vo else m) 0) ∧ Hid (V = wr)) (fun _ iv _ => nd - (intOf iv).toNat)
  case atStart => exact ⟨0, 0, Nat.zero_le _, rfl, rfl, hid rfl, hid rfl⟩
  case round =>
    obtain ⟨i, x, hin, rfl, rfl, HX, HV⟩ := hrel
    have hv := HV.out
    subst hv
    by_cases hlt : i < nd
    · have hi : i < D.length := by rw [HND.out]; exact hlt
      obtain ⟨g, hg, sg, b0, b1, b2, b3, b4⟩ := HQ.out.cells hi
      subst hg
      have hst := fold_step (f := fun (m : Int) (z : Qt) => if m < z.vo then z.vo else m) (b := 0) hi
      rw [← HX.out] at hst
      obtain ⟨z, hz⟩ : ∃ z, D[i] = z := ⟨_, rfl⟩
      rw [hz] at b0 b1 b2 b3 b4 hst
      have i0 : (0 : Int) ≤ (i : Int) := by omega
      have i1 : (i : Int) < (nd : Int) := by omega
      clear hz HX
      by_cases hc : x < z.vo
      · rw [if_pos hc] at hst
        have HST := hid hst
        have d1 : decide (x < z.vo) = true := decide_eq_true hc
        clear hst hc
        go_wp2
        go_roundw
        case rel => exact ⟨i + 1, z.vo, by omega, by go_num, rfl, hid HST.out.symm, hid (by first | rfl | trivial)⟩
        case measure => simp [intOf]; omega
      · rw [if_neg hc] at hst
        have HST := hid hst
        have d1 : decide (x < z.vo) = false := decide_eq_false hc
        clear hst hc
        go_wp2
        go_roundw
        case rel => exact ⟨i + 1, x, by omega, by go_num, rfl, hid HST.out.symm, hid (by first | rfl | trivial)⟩
        case measure => simp [intOf]; omega
    · obtain rfl : nd = i := by omega
      have e : D.take nd = D := List.take_of_length_le (by rw [HND.out]; exact Nat.le_refl _)
      rw [e] at HX
      have HM := hid (show x = mxv D from HX.out)
      clear HX e
      by_cases h0 : x = 0
      · have HE := hid (show dqt r D = none from by unfold dqt; rw [if_pos (by rw [← HM.out]; exact h0)])
        have t0 : (x == 0) = true := by simpa using h0
        clear h0 HM
        go_upto_region 9 with fail
        have AI := hid (show (Tryz.prog.info? 57).map (·.size) = some (#[.int .i64 0, .int .u64 0, .int .u64 0, .int .i64 0, .int .i64 0] : Array Value).size from infoQ)
        have AS := hid (show (#[.int .i64 0, .int .u64 0, .int .u64 0, .int .i64 0, .int .i64 0] : Array Value).size = (#[.int .i64 0, .int .u64 0, .int .u64 0, .int .i64 0, .int .i64 0] : Array Value).size from rfl)
        have AA := hid (show (#[.int .i64 0, .int .u64 0, .int .u64 0, .int .i64 0, .int .i64 0] : Array Value).all (·.oneCell') = true from by simp [Value.oneCell'])
        go_wp2_with (refine wpList_store_row (by rfl) 57 (.tmp 2) (.tmp 42) (by rfl) (R + 1) #[.int .i64 0, .int .u64 0, .int .u64 0, .int .i64 0, .int .i64 0] (by rfl) (by rfl) 57 _ HZV.out AI.out AS.out AA.out ?_)
        refine bodyPost_ret (res_ct (fn := Tryz.f18) Tryz.results18 _ _ (R + 1) 57 #[.int .i64 0, .int .u64 0, .int .u64 0, .int .i64 0, .int .i64 0] (0, 0) _ (.bool false) (by rfl) (by rfl) (setRow_heap _ _ _ _ 57 (0, 0) HZV.out) Tryz.underlying57 rfl infoQ) rfl ⟨by rw [HE.out]; rfl, ?_⟩
        exact setRow_below HBV.out (by have := HRR.out; omega)
      · have t0 : (x == 0) = false := by simpa using h0
        have HE := hid (show dqt r D = some (dqf r (D.filter fun z => decide (z.vo = x))) from by unfold dqt; rw [if_neg (by rw [← HM.out]; exact h0), ← HM.out])
        have HFP := hid (show 0 < (D.filter fun z => decide (z.vo = x)).length from by
          obtain ⟨a1, a2, a3⟩ := mx_inv D 0
          rcases a3 with a3 | ⟨z, hz, e⟩
          · exact absurd (HM.out.trans a3) h0
          · exact List.length_pos_of_mem (List.mem_filter.2 ⟨hz, decide_eq_true (e.trans HM.out.symm)⟩))
        clear h0 HM
        go_upto_region 12 with fail
        go_loopw [7, 9] (fun sv iv wr => ∃ i pf nf cf, i ≤ nd ∧ nf ≤ i ∧ iv = .int .i64 (i : Nat) ∧ sv = .slice pf nf cf ∧ Hid (((D.take i).filter fun z => decide (z.vo = x)).length = nf) ∧ Hid (Qs V.heap.size wr pf cf ((D.take i).filter fun z => decide (z.vo = x))) ∧ Hid (Below V.heap.size V wr)) (fun _ iv _ => nd - (intOf iv).toNat)
        case atStart => exact ⟨0, none, 0, 0, Nat.zero_le _, Nat.zero_le _, rfl, rfl, hid rfl, hid ⟨rfl, .inl ⟨rfl, rfl⟩⟩, hid (Below.refl _ _)⟩
        case round =>
          obtain ⟨i, pf, nf, cf, hin, hnf, rfl, rfl, HNF, HQF, HBF⟩ := hrel
          by_cases hlt : i < nd
          · have hi : i < D.length := by rw [HND.out]; exact hlt
            obtain ⟨g, hg, sg, b0, b1, b2, b3, b4⟩ := HQC.out wr HBF.out i hi
            subst hg
            have hst := filt_step (f := fun z : Qt => decide (z.vo = x)) hi
            obtain ⟨z, hz⟩ : ∃ z, D[i] = z := ⟨_, rfl⟩
            rw [hz] at b0 b1 b2 b3 b4 hst
            have i0 : (0 : Int) ≤ (i : Int) := by omega
            have i1 : (i : Int) < (nd : Int) := by omega
            clear hz
            by_cases hc : z.vo = x
            · have t1 : (z.vo == x) = true := by simpa using hc
              rw [if_pos (decide_eq_true hc)] at hst
              have HST := hid hst
              have HOW := hid (show ∀ U, Below wr.heap.size wr U → U.ownsRow V.heap.size 57 5 (.slice pf nf cf) nf (qs ((D.take i).filter fun z => decide (z.vo = x))) from fun U hU => by
                have h1 := HQF.out.on hU
                unfold Qs at h1
                rw [HNF.out] at h1
                exact h1)
              have bV : V.heap.size ≤ wr.heap.size := HBF.out.size
              clear hst hc
              go_wp2_with (at_builtin; refine wpList_app_mine (by rfl) (.tmp 56) (.tmp 61) 81 57 _ 5 40 (by rfl) Tryz.underlying81 infoQt rfl (by decide) V.heap.size 0 _ nf _ (by rfl) (HOW.out _ (ball _ _)) (Option.some ⟨wr.heap.size, 0, none⟩) 1 1 _ (by rfl) (made5 wr z) (qrow_one z) (by unfold maxLen; omega) (by omega) (by simp; omega) ?_; intro v' w' hown hgrow; obtain ⟨p9, q9, rfl⟩ := own_form hown; have HO1 := hid hown; have HG1 := hid hgrow; clear hown hgrow)
              go_roundw
              case rel =>
                have hO := HO1.out
                rw [← qs_one1, ← qs_app] at hO
                refine ⟨i + 1, p9, nf + 1, q9, by omega, by omega, by go_num, rfl, hid ?_, hid ?_, hid ((btr HBF.out (ball _ _)).grown HG1.out (by simp; omega) (fun j hj => own_ge (HOW.out _ (Below.refl _ _)) hj))⟩
                · rw [HST.out, List.length_append, HNF.out]; rfl
                · rw [HST.out]; unfold Qs; rw [List.length_append, HNF.out]; exact hO
              case measure => simp [intOf]; omega
            · have t1 : (z.vo == x) = false := by simpa using hc
              rw [if_neg (by simpa using hc), List.append_nil] at hst
              have HST := hid hst
              clear hst hc
              go_wp2
              go_roundw
              case rel => exact ⟨i + 1, pf, nf, cf, by omega, by omega, by go_num, rfl, hid (by rw [HST.out]; exact HNF.out), hid (by rw [HST.out]; exact HQF.out), HBF⟩
              case measure => simp [intOf]; omega
          · obtain rfl : nd = i := by omega
            have e : D.take nd = D := List.take_of_length_le (by rw [HND.out]; exact Nat.le_refl _)
            rw [e] at HNF HQF
            clear e
            obtain ⟨Y, rfl⟩ : ∃ Y, Y = wr := ⟨_, rfl⟩
            obtain ⟨F, hF⟩ : ∃ F, (D.filter fun z => decide (z.vo = x)) = F := ⟨_, rfl⟩
            rw [hF] at HNF HQF HFP HE
            have HFO := hid (show ∀ z ∈ F, Qk z from fun z hz => by rw [← hF] at hz; exact HOK.out z (List.mem_filter.1 hz).1)
            clear hF HOK HQ HQC
            have hf1 : 1 ≤ nf := by have := HFP.out; rw [HNF.out] at this; omega
            have HQFC := hid (fun (U : World) (hU : Below Y.heap.size Y U) (i : Nat) (hi : i < F.length) => (HQF.out.on hU).cells hi)
            obtain ⟨g, hg, sg, b0, b1, b2, b3, b4⟩ := HQF.out.cells (i := 0) (by have := HFP.out; omega)
            subst hg
            have hhd : F[0]'(HFP.out) = F.headD q0 := headD_at HFP.out
            rw [hhd] at b0 b1 b2 b3 b4
            obtain ⟨z0, hz0⟩ : ∃ z, F.headD q0 = z := ⟨_, rfl⟩
            rw [hz0] at b0 b1 b2 b3 b4
            have HZ0 := hid hz0
            simp only [Nat.zero_mul, Nat.zero_add] at b0 b1 b2 b3 b4
            clear hhd hz0
            by_cases hn1 : nf = 1
            · have t1 : ((nf : Int) == 1) = true := by simp; omega
              have t2 : (nf == 1) = true := by simpa using hn1
              have HE2 := hid (show dqt r D = some { z0 with ru := 1 } from by rw [HE.out]; unfold dqf; rw [if_pos (HNF.out.trans hn1), HZ0.out])
              have j1 : (0 : Int) < (nf : Int) := by omega
              clear HE hn1
              have CD := hid (on_b (rdecided_any z0 1 Y) (Below.refl _ _))
              have AI := hid (show (Tryz.prog.info? 57).map (·.size) = some (#[.int .i64 z0.pr, .int .u64 z0.vo, .int .u64 z0.su, .int .i64 z0.sd, .int .i64 1] : Array Value).size from infoQ)
              have AS := hid (show (#[.int .i64 0, .int .u64 0, .int .u64 0, .int .i64 0, .int .i64 0] : Array Value).size = (#[.int .i64 z0.pr, .int .u64 z0.vo, .int .u64 z0.su, .int .i64 z0.sd, .int .i64 1] : Array Value).size from rfl)
              have AA := hid (show (#[.int .i64 z0.pr, .int .u64 z0.vo, .int .u64 z0.su, .int .i64 z0.sd, .int .i64 1] : Array Value).all (·.oneCell') = true from by simp [Value.oneCell'])
              go_wp2_with (first | (go_at_call 40; with_reducible refine (CD.out).mono ?_; rintro e v9 ⟨rfl, V9⟩; have HZ9 := hid (row_on (row_on HZV.out HBF.out) V9.out)) | (refine wpList_store_row (by rfl) 57 (.tmp 2) (.tmp 70) (by rfl) (R + 1) #[.int .i64 z0.pr, .int .u64 z0.vo, .int .u64 z0.su, .int .i64 z0.sd, .int .i64 1] (by rfl) (by rfl) 57 _ HZ9.out AI.out AS.out AA.out ?_))
              refine bodyPost_ret (res_ct (fn := Tryz.f18) Tryz.results18 _ _ (R + 1) 57 #[.int .i64 z0.pr, .int .u64 z0.vo, .int .u64 z0.su, .int .i64 z0.sd, .int .i64 1] (0, 0) _ (.bool true) (by rfl) (by rfl) (setRow_heap _ _ _ _ 57 (0, 0) HZ9.out) Tryz.underlying57 rfl infoQ) rfl ⟨by rw [HE2.out]; rfl, ?_⟩
              exact setRow_below (btr (btr HBV.out HBF.out) V9.out) (by have := HRR.out; omega)

            · have t1 : ((nf : Int) == 1) = false := by simp; omega
              have t2 : (nf == 1) = false := by simpa using hn1
              have HE2 := hid (show dqt r D = some (dqs r (F.filter fun z => decide (z.su = lsu F))) from by rw [HE.out]; unfold dqf; rw [if_neg (by rw [HNF.out]; exact hn1)])
              have j1 : (0 : Int) < (nf : Int) := by omega
              obtain ⟨nf0, hnf0⟩ : ∃ k, nf = k := ⟨_, rfl⟩
              subst hnf0
              have HNF0 := HNF
              have HBY := HBF
              clear HE hn1 HNF HBF
              go_upto_region 20 with fail
              go_loopw [10, 11] (fun mv iv wr => ∃ (i : Nat) (y : Int), i ≤ nf ∧ iv = .int .i64 i ∧ mv = .int .u64 y ∧ Hid (y = (F.take i).foldl (fun m z => if z.su < m then z.su else m) z0.su) ∧ Hid (Y = wr)) (fun _ iv _ => nf - (intOf iv).toNat)
              case atStart => exact ⟨0, z0.su, Nat.zero_le _, rfl, rfl, hid rfl, hid rfl⟩
              case round =>
                obtain ⟨i, y, hin, rfl, rfl, HX, HV⟩ := hrel
                have hv := HV.out
                subst hv
                by_cases hlt : i < nf
                · have hi : i < F.length := by rw [HNF0.out]; exact hlt
                  obtain ⟨g', hg, _, c0, c1, c2, c3, c4⟩ := HQF.out.cells hi
                  obtain rfl : g = g' := by injection hg with e; injection e
                  have hst := fold_step (f := fun (m : Int) (z : Qt) => if z.su < m then z.su else m) (b := z0.su) hi
                  rw [← HX.out] at hst
                  obtain ⟨z, hz⟩ : ∃ z, F[i] = z := ⟨_, rfl⟩
                  rw [hz] at c0 c1 c2 c3 c4 hst
                  have i0 : (0 : Int) ≤ (i : Int) := by omega
                  have i1 : (i : Int) < (nf : Int) := by omega
                  clear hz HX hg b0 b1 b2 b3 b4
                  by_cases hc : z.su < y
                  · rw [if_pos hc] at hst
                    have HST := hid hst
                    have d1 : decide (z.su < y) = true := decide_eq_true hc
                    clear hst hc
                    go_wp2
                    go_roundw
                    case rel => exact ⟨i + 1, z.su, by omega, by go_num, rfl, hid HST.out.symm, hid (by first | rfl | trivial)⟩
                    case measure => simp [intOf]; omega
                  · rw [if_neg hc] at hst
                    have HST := hid hst
                    have d1 : decide (z.su < y) = false := decide_eq_false hc
                    clear hst hc
                    go_wp2
                    go_roundw
                    case rel => exact ⟨i + 1, y, by omega, by go_num, rfl, hid HST.out.symm, hid (by first | rfl | trivial)⟩
                    case measure => simp [intOf]; omega
                · obtain rfl : nf = i := by omega
                  have e : F.take nf = F := List.take_of_length_le (by rw [HNF0.out]; exact Nat.le_refl _)
                  rw [e] at HX
                  have HM := hid (show y = lsu F from by rw [HX.out]; unfold lsu; rw [HZ0.out])
                  have HE3 := hid (show dqt r D = some (dqs r (F.filter fun z => decide (z.su = y))) from by rw [HE2.out, HM.out])
                  have HSP := hid (show 0 < (F.filter fun z => decide (z.su = y)).length from by
                    obtain ⟨a1, a2, a3⟩ := ls_inv F (F.headD q0).su
                    rcases a3 with a3 | ⟨z, hz, e⟩
                    · exact List.length_pos_of_mem (List.mem_filter.2 ⟨headD_in HFP.out, decide_eq_true (by rw [HM.out]; exact a3.symm)⟩)
                    · exact List.length_pos_of_mem (List.mem_filter.2 ⟨hz, decide_eq_true (by rw [HM.out]; exact e)⟩))
                  obtain ⟨nf0, hnf0⟩ : ∃ k, k = nf := ⟨_, rfl⟩
                  subst hnf0
                  clear HX e HE2 HM HQF
                  go_upto_region 25 with fail
                  go_loopw [8, 12] (fun sv iv wr => ∃ i pf nf cf, i ≤ nf0 ∧ nf ≤ i ∧ iv = .int .i64 (i : Nat) ∧ sv = .slice pf nf cf ∧ Hid (((F.take i).filter fun z => decide (z.su = y)).length = nf) ∧ Hid (Qs Y.heap.size wr pf cf ((F.take i).filter fun z => decide (z.su = y))) ∧ Hid (Below Y.heap.size Y wr)) (fun _ iv _ => nf0 - (intOf iv).toNat)
                  case atStart => exact ⟨0, none, 0, 0, Nat.zero_le _, Nat.zero_le _, rfl, rfl, hid rfl, hid ⟨rfl, .inl ⟨rfl, rfl⟩⟩, hid (Below.refl _ _)⟩
                  case round =>
                    obtain ⟨i, pf, nf, cf, hin, hnf, rfl, rfl, HNF, HQF, HBF⟩ := hrel
                    by_cases hlt : i < nf0
                    · have hi : i < F.length := by rw [HNF0.out]; exact hlt
                      obtain ⟨g', hg, _, b0, b1, b2, b3, b4⟩ := HQFC.out wr HBF.out i hi
                      obtain rfl : g = g' := by injection hg with e; injection e
                      clear hg
                      have hst := filt_step (f := fun z : Qt => decide (z.su = y)) hi
                      obtain ⟨z, hz⟩ : ∃ z, F[i] = z := ⟨_, rfl⟩
                      rw [hz] at b0 b1 b2 b3 b4 hst
                      have i0 : (0 : Int) ≤ (i : Int) := by omega
                      have i1 : (i : Int) < (nf0 : Int) := by omega
                      clear hz
                      by_cases hc : z.su = y
                      · have t1 : (z.su == y) = true := by simpa using hc
                        rw [if_pos (decide_eq_true hc)] at hst
                        have HST := hid hst
                        have HOW := hid (show ∀ U, Below wr.heap.size wr U → U.ownsRow Y.heap.size 57 5 (.slice pf nf cf) nf (qs ((F.take i).filter fun z => decide (z.su = y))) from fun U hU => by
                          have h1 := HQF.out.on hU
                          unfold Qs at h1
                          rw [HNF.out] at h1
                          exact h1)
                        have bV : Y.heap.size ≤ wr.heap.size := HBF.out.size
                        clear hst hc
                        go_wp2_with (at_builtin; refine wpList_app_mine (by rfl) (.tmp 107) (.tmp 112) 81 57 _ 5 40 (by rfl) Tryz.underlying81 infoQt rfl (by decide) Y.heap.size 0 _ nf _ (by rfl) (HOW.out _ (ball _ _)) (Option.some ⟨wr.heap.size, 0, none⟩) 1 1 _ (by rfl) (made5 wr z) (qrow_one z) (by unfold maxLen; omega) (by omega) (by simp; omega) ?_; intro v' w' hown hgrow; obtain ⟨p9, q9, rfl⟩ := own_form hown; have HO1 := hid hown; have HG1 := hid hgrow; clear hown hgrow)
                        go_roundw
                        case rel =>
                          have hO := HO1.out
                          rw [← qs_one1, ← qs_app] at hO
                          refine ⟨i + 1, p9, nf + 1, q9, by omega, by omega, by go_num, rfl, hid ?_, hid ?_, hid ((btr HBF.out (ball _ _)).grown HG1.out (by simp; omega) (fun j hj => own_ge (HOW.out _ (Below.refl _ _)) hj))⟩
                          · rw [HST.out, List.length_append, HNF.out]; rfl
                          · rw [HST.out]; unfold Qs; rw [List.length_append, HNF.out]; exact hO
                        case measure => simp [intOf]; omega
                      · have t1 : (z.su == y) = false := by simpa using hc
                        rw [if_neg (by simpa using hc), List.append_nil] at hst
                        have HST := hid hst
                        clear hst hc
                        go_wp2
                        go_roundw
                        case rel => exact ⟨i + 1, pf, nf, cf, by omega, by omega, by go_num, rfl, hid (by rw [HST.out]; exact HNF.out), hid (by rw [HST.out]; exact HQF.out), HBF⟩
                        case measure => simp [intOf]; omega
                    · obtain rfl : nf0 = i := by omega
                      have e : F.take nf0 = F := List.take_of_length_le (by rw [HNF0.out]; exact Nat.le_refl _)
                      rw [e] at HNF HQF
                      clear e
                      obtain ⟨X, rfl⟩ : ∃ X, X = wr := ⟨_, rfl⟩
                      obtain ⟨S, hS⟩ : ∃ S, (F.filter fun z => decide (z.su = y)) = S := ⟨_, rfl⟩
                      rw [hS] at HNF HQF HSP HE3
                      have HSO := hid (show ∀ z ∈ S, Qk z from fun z hz => by rw [← hS] at hz; exact HFO.out z (List.mem_filter.1 hz).1)
                      have HBX := hid (btr HBY.out HBF.out)
                      clear hS HFO HQFC b0 b1 b2 b3 b4
                      obtain ⟨ns, hns⟩ : ∃ k, nf = k := ⟨_, rfl⟩
                      have HNS := HNF
                      have hs1 : 1 ≤ nf := by have := HSP.out; rw [HNF.out] at this; omega
                      have HQSC := hid (fun (U : World) (hU : Below X.heap.size X U) (i : Nat) (hi : i < S.length) => (HQF.out.on hU).cells hi)
                      obtain ⟨gs, hgs, sgs, b0, b1, b2, b3, b4⟩ := HQF.out.cells (i := 0) (by have := HSP.out; omega)
                      subst hgs
                      have hhd : S[0]'(HSP.out) = S.headD q0 := headD_at HSP.out
                      rw [hhd] at b0 b1 b2 b3 b4
                      obtain ⟨s0, hs0⟩ : ∃ z, S.headD q0 = z := ⟨_, rfl⟩
                      rw [hs0] at b0 b1 b2 b3 b4
                      have HS0 := hid hs0
                      simp only [Nat.zero_mul, Nat.zero_add] at b0 b1 b2 b3 b4
                      have HKX := hid (row_on HKV.out HBX.out)
                      have HZX := hid (row_on HZV.out HBX.out)
                      clear hhd hs0 hns
                      by_cases hn2 : nf = 1
                      · have t1 : ((nf : Int) == 1) = true := by simp; omega
                        have t2 : (nf == 1) = true := by simpa using hn2
                        have HE4 := hid (show dqt r D = some { s0 with ru := 2 } from by rw [HE3.out]; unfold dqs; rw [if_pos (HNF.out.trans hn2), HS0.out])
                        have j1 : (0 : Int) < (nf : Int) := by omega
                        clear HE3 hn2
                        have CD := hid (on_b (rdecided_any s0 2 X) (Below.refl _ _))
                        have AI := hid (show (Tryz.prog.info? 57).map (·.size) = some (#[.int .i64 s0.pr, .int .u64 s0.vo, .int .u64 s0.su, .int .i64 s0.sd, .int .i64 2] : Array Value).size from infoQ)
                        have AS := hid (show (#[.int .i64 0, .int .u64 0, .int .u64 0, .int .i64 0, .int .i64 0] : Array Value).size = (#[.int .i64 s0.pr, .int .u64 s0.vo, .int .u64 s0.su, .int .i64 s0.sd, .int .i64 2] : Array Value).size from rfl)
                        have AA := hid (show (#[.int .i64 s0.pr, .int .u64 s0.vo, .int .u64 s0.su, .int .i64 s0.sd, .int .i64 2] : Array Value).all (·.oneCell') = true from by simp [Value.oneCell'])
                        go_wp2_with (first | (go_at_call 40; with_reducible refine (CD.out).mono ?_; rintro e v9 ⟨rfl, V9⟩; have HZ9 := hid (row_on HZX.out V9.out)) | (refine wpList_store_row (by rfl) 57 (.tmp 2) (.tmp 121) (by rfl) (R + 1) #[.int .i64 s0.pr, .int .u64 s0.vo, .int .u64 s0.su, .int .i64 s0.sd, .int .i64 2] (by rfl) (by rfl) 57 _ HZ9.out AI.out AS.out AA.out ?_))
                        refine bodyPost_ret (res_ct (fn := Tryz.f18) Tryz.results18 _ _ (R + 1) 57 #[.int .i64 s0.pr, .int .u64 s0.vo, .int .u64 s0.su, .int .i64 s0.sd, .int .i64 2] (0, 0) _ (.bool true) (by rfl) (by rfl) (setRow_heap _ _ _ _ 57 (0, 0) HZ9.out) Tryz.underlying57 rfl infoQ) rfl ⟨by rw [HE4.out]; rfl, ?_⟩
                        exact setRow_below (btr (btr HBV.out HBX.out) V9.out) (by have := HRR.out; omega)

                      · have t1 : ((nf : Int) == 1) = false := by simp; omega
                        have t2 : (nf == 1) = false := by simpa using hn2
                        have HN1 := hid hn2
                        clear hn2
                        have HS0C := hid (show ∀ U, Below X.heap.size X U → U.cell? ⟨gs, 0, none⟩ = some (.int .i64 s0.pr) ∧ U.cell? ⟨gs, 1, none⟩ = some (.int .u64 s0.vo) ∧ U.cell? ⟨gs, 2, none⟩ = some (.int .u64 s0.su) ∧ U.cell? ⟨gs, 3, none⟩ = some (.int .i64 s0.sd) ∧ U.cell? ⟨gs, 4, none⟩ = some (.int .i64 s0.ru) from fun U hU => ⟨(hU.cell (p := ⟨gs, 0, none⟩) sgs).trans b0, (hU.cell (p := ⟨gs, 1, none⟩) sgs).trans b1, (hU.cell (p := ⟨gs, 2, none⟩) sgs).trans b2, (hU.cell (p := ⟨gs, 3, none⟩) sgs).trans b3, (hU.cell (p := ⟨gs, 4, none⟩) sgs).trans b4⟩)
                        have j1 : (0 : Int) < (nf : Int) := by omega
                        clear b0 b1 b2 b3 b4 HBF HQF HFP
                        go_upto_region 33 with fail
                        go_loopw [13, 14] (fun tv iv wr => ∃ (i : Nat) (t : Bool), i ≤ nf ∧ iv = .int .i64 i ∧ tv = .bool t ∧ Hid (t = (S.take i).all (fun z => z.sd == s0.sd)) ∧ Hid (Below X.heap.size X wr)) (fun _ iv _ => nf - (intOf iv).toNat)
                        case atStart => exact ⟨0, true, Nat.zero_le _, rfl, rfl, hid rfl, hid (Below.refl _ _)⟩
                        case round =>
                          obtain ⟨i, t, hin, rfl, rfl, HT, HB5⟩ := hrel
                          obtain ⟨e0, e1, e2, e3, e4⟩ := HS0C.out wr HB5.out
                          by_cases hlt : i < nf
                          · have hi : i < S.length := by rw [HNS.out]; exact hlt
                            obtain ⟨g', hg, _, c0, c1, c2, c3, c4⟩ := HQSC.out wr HB5.out i hi
                            obtain rfl : gs = g' := by injection hg with e; injection e
                            have HAS := hid (all_step (f := fun z : Qt => z.sd == s0.sd) hi)
                            obtain ⟨z, hz⟩ : ∃ z, S[i] = z := ⟨_, rfl⟩
                            rw [hz] at c0 c1 c2 c3 c4 HAS
                            have i0 : (0 : Int) ≤ (i : Int) := by omega
                            have i1 : (i : Int) < (nf : Int) := by omega
                            clear hz hg
                            cases t with
                            | true =>
                              obtain ⟨u, hu⟩ : ∃ u, (z.sd == s0.sd) = u := ⟨_, rfl⟩
                              have HU := hid hu
                              go_upto_region 35 with fail
                              go_quiet (fail)
                              go_wp2
                              go_roundw
                              case rel => exact ⟨i + 1, u, by omega, by go_num, by first | rfl | (rw [← HU.out]), hid (by rw [HAS.out, ← HT.out]; exact HU.out.symm), hid (btr HB5.out (bdrew _ _))⟩
                              case measure => simp [intOf]; omega
                            | false =>
                              go_upto_region 35 with fail
                              go_quiet (fail)
                              go_wp2
                              go_roundw
                              case rel => exact ⟨i + 1, false, by omega, by go_num, rfl, hid (by rw [HAS.out, ← HT.out]; rfl), hid (btr HB5.out (bdrew _ _))⟩
                              case measure => simp [intOf]; omega
                          · obtain rfl : nf = i := by omega
                            have e : S.take nf = S := List.take_of_length_le (by rw [HNS.out]; exact Nat.le_refl _)
                            rw [e] at HT
                            have HON := hid (show t = onf S from by rw [HT.out]; unfold onf; rw [HS0.out])
                            clear e HT
                            obtain ⟨X2, rfl⟩ : ∃ X2, X2 = wr := ⟨_, rfl⟩
                            obtain ⟨T, hT⟩ : ∃ T, X2.alloc (.cells #[.int .i64 s0.pr, .int .u64 s0.vo, .int .u64 s0.su, .int .i64 s0.sd, .int .i64 s0.ru] 57) = T := ⟨_, rfl⟩
                            obtain ⟨β, hβ⟩ : ∃ g, X2.heap.size = g := ⟨_, rfl⟩
                            have Hβ := hid hβ
                            have HT2 := hid (show T.heap[β]? = some (.cells #[.int .i64 s0.pr, .int .u64 s0.vo, .int .u64 s0.su, .int .i64 s0.sd, .int .i64 s0.ru] 57 (0, 0)) from by rw [← hT, ← hβ]; exact World.alloc_heap_new _ _)
                            have HBT := hid (show Below X2.heap.size X2 T from by rw [← hT]; exact ball _ _)
                            have HBX2 := hid (btr HBX.out HB5.out)
                            have HZX2 := hid (row_on HZX.out HB5.out)
                            have HKX2 := hid (row_on HKX.out HB5.out)
                            have HTT := hid hT
                            clear hT hβ
                            go_upto_region 37 with fail
                            rw [HTT.out, Hβ.out]
                            clear HTT
                            go_upto_region 38 with fail
                            go_loopw [16] (fun iv wr => ∃ (i : Nat) (bq : Qt), i ≤ nf ∧ iv = .int .i64 i ∧ Hid (bq = (S.take i).foldl (bs1 r t) s0) ∧ Hid (bq ∈ S) ∧ Hid (wr.heap[β]? = some (.cells #[.int .i64 bq.pr, .int .u64 bq.vo, .int .u64 bq.su, .int .i64 bq.sd, .int .i64 bq.ru] 57 (0, 0))) ∧ Hid (Below X2.heap.size X2 wr)) (fun iv _ => nf - (intOf iv).toNat)
                            case atStart => exact ⟨0, s0, Nat.zero_le _, rfl, hid rfl, hid (by rw [← HS0.out]; exact headD_in HSP.out), HT2, HBT⟩
                            case round =>
                              obtain ⟨i, bq, hin, rfl, HBQ, HBQS, HBR, HB6⟩ := hrel
                              clear HT2 HBT
                              by_cases hlt : i < nf
                              · have hi : i < S.length := by rw [HNS.out]; exact hlt
                                obtain ⟨g', hg, _, c0, c1, c2, c3, c4⟩ := HQSC.out wr (btr HB5.out HB6.out) i hi
                                obtain rfl : gs = g' := by injection hg with e; injection e
                                have hst := fold_step (f := bs1 r t) (b := s0) hi
                                rw [← HBQ.out] at hst
                                have hzk := HSO.out S[i] (List.getElem_mem hi)
                                have HZS := hid (List.getElem_mem hi)
                                obtain ⟨z, hz⟩ : ∃ z, S[i] = z := ⟨_, rfl⟩
                                rw [hz] at c0 c1 c2 c3 c4 hst hzk HZS
                                have HST := hid hst
                                have hbk := HSO.out bq HBQS.out
                                have hsd := hbk.sd
                                have i0 : (0 : Int) ≤ (i : Int) := by omega
                                have i1 : (i : Int) < (nf : Int) := by omega
                                obtain ⟨U, hU⟩ : ∃ U, wr.alloc (.cells #[.int .i64 z.pr, .int .u64 z.vo, .int .u64 z.su, .int .i64 z.sd, .int .i64 z.ru] 57) = U := ⟨_, rfl⟩
                                obtain ⟨γ, hγ⟩ : ∃ g, wr.heap.size = g := ⟨_, rfl⟩
                                have HUB := hid (show Below wr.heap.size wr U from by rw [← hU]; exact ball _ _)
                                have HUR := hid (show U.heap[γ]? = some (.cells #[.int .i64 z.pr, .int .u64 z.vo, .int .u64 z.su, .int .i64 z.sd, .int .i64 z.ru] 57 (0, 0)) from by rw [← hU, ← hγ]; exact World.alloc_heap_new _ _)
                                have HBU := hid (show ∀ k, (U.drewN k).heap[β]? = some (.cells #[.int .i64 bq.pr, .int .u64 bq.vo, .int .u64 bq.su, .int .i64 bq.sd, .int .i64 bq.ru] 57 (0, 0)) ∧ Below X2.heap.size X2 (U.drewN k) from fun k => ⟨row_on (row_on HBR.out HUB.out) (bdrew _ _), btr (btr HB6.out HUB.out) (bdrew _ _)⟩)
                                have CF1 := hid (fun k => far_any z.pr r (U.drewN k) hzk.p0 hzk.p1 hrr.1 hrr.2)
                                have CF2 := hid (fun k => far_any bq.pr r (U.drewN k) hbk.p0 hbk.p1 hrr.1 hrr.2)
                                obtain ⟨da, hda⟩ : ∃ d, max (z.pr - r) (r - z.pr) = d := ⟨_, rfl⟩
                                obtain ⟨db, hdb⟩ : ∃ d, max (bq.pr - r) (r - bq.pr) = d := ⟨_, rfl⟩
                                rw [hda] at CF1
                                rw [hdb] at CF2
                                have HDA := hid (show dst r z = da from hda)
                                have HDB := hid (show dst r bq = db from hdb)
                                have HUU := hid hU
                                have Hγ := hid hγ
                                clear hz hst hg hU hγ hda hdb hzk hbk HBQ
                                go_upto_region 41 with fail
                                rw [HUU.out, Hγ.out]
                                obtain ⟨f0, f1, f2, f3, f4⟩ := row5 HUR.out
                                obtain ⟨h0, h1, h2, h3, h4⟩ := row5 (row_on HBR.out HUB.out)
                                obtain ⟨k0, k1, k2⟩ := row3 (row_on (row_on HKX2.out HB6.out) HUB.out)
                                clear c0 c1 c2 c3 c4 e0 e1 e2 e3 e4 HUU
                                go_quiet ((first | (go_at_call 41; with_reducible exact Calls.quiet_of_same (CF1.out _)) | (go_at_call 41; with_reducible exact Calls.quiet_of_same (CF2.out _))))
                                cases t with
                                | true =>
                                  rcases hsd with hsd | hsd | hsd
                                  · have t1 : (bq.sd == 1) = false := by simp [hsd]
                                    have t2 : (bq.sd == 2) = false := by simp [hsd]
                                    have t3 : (bq.sd == 0) = true := by simp [hsd]
                                    clear hsd
                                    by_cases hd : da < db
                                    · have d1 : decide (da < db) = true := decide_eq_true hd
                                      have HC := hid (show btr' r true bq z = true from by unfold btr'; rw [HDA.out, HDB.out, t1, t2, t3]; simp [hd])
                                      clear hd
                                      have AI := hid (show (Tryz.prog.info? 57).map (·.size) = some (#[.int .i64 z.pr, .int .u64 z.vo, .int .u64 z.su, .int .i64 z.sd, .int .i64 z.ru] : Array Value).size from infoQ)
                                      have AS := hid (show (#[.int .i64 bq.pr, .int .u64 bq.vo, .int .u64 bq.su, .int .i64 bq.sd, .int .i64 bq.ru] : Array Value).size = (#[.int .i64 z.pr, .int .u64 z.vo, .int .u64 z.su, .int .i64 z.sd, .int .i64 z.ru] : Array Value).size from rfl)
                                      have AA := hid (show (#[.int .i64 z.pr, .int .u64 z.vo, .int .u64 z.su, .int .i64 z.sd, .int .i64 z.ru] : Array Value).all (·.oneCell') = true from by simp [Value.oneCell'])
                                      go_wp2_with (refine wpList_store_row (by rfl) 57 (.tmp 15) (.tmp 218) (by rfl) β #[.int .i64 z.pr, .int .u64 z.vo, .int .u64 z.su, .int .i64 z.sd, .int .i64 z.ru] (by rfl) (by rfl) 57 _ (HBU.out _).1 AI.out AS.out AA.out ?_)
                                      go_roundw
                                      case rel => exact ⟨i + 1, z, by omega, by go_num, hid (by rw [HST.out]; unfold bs1; rw [if_pos HC.out]), hid HZS.out, hid (setRow_heap _ _ _ _ 57 (0, 0) (HBU.out _).1), hid (setRow_below (HBU.out _).2 (by have := Hβ.out; omega))⟩
                                      case measure => simp [intOf]; omega

                                    · have d1 : decide (da < db) = false := decide_eq_false hd
                                      by_cases hq : da = db
                                      · have d2 : (da == db) = true := by simpa using hq
                                        by_cases hp : z.pr < bq.pr
                                        · have d3 : decide (z.pr < bq.pr) = true := decide_eq_true hp
                                          have HC := hid (show btr' r true bq z = true from by unfold btr'; rw [HDA.out, HDB.out, t1, t2, t3, d1, d2, d3]; simp)
                                          clear hd hq hp
                                          have AI := hid (show (Tryz.prog.info? 57).map (·.size) = some (#[.int .i64 z.pr, .int .u64 z.vo, .int .u64 z.su, .int .i64 z.sd, .int .i64 z.ru] : Array Value).size from infoQ)
                                          have AS := hid (show (#[.int .i64 bq.pr, .int .u64 bq.vo, .int .u64 bq.su, .int .i64 bq.sd, .int .i64 bq.ru] : Array Value).size = (#[.int .i64 z.pr, .int .u64 z.vo, .int .u64 z.su, .int .i64 z.sd, .int .i64 z.ru] : Array Value).size from rfl)
                                          have AA := hid (show (#[.int .i64 z.pr, .int .u64 z.vo, .int .u64 z.su, .int .i64 z.sd, .int .i64 z.ru] : Array Value).all (·.oneCell') = true from by simp [Value.oneCell'])
                                          go_wp2_with (refine wpList_store_row (by rfl) 57 (.tmp 15) (.tmp 218) (by rfl) β #[.int .i64 z.pr, .int .u64 z.vo, .int .u64 z.su, .int .i64 z.sd, .int .i64 z.ru] (by rfl) (by rfl) 57 _ (HBU.out _).1 AI.out AS.out AA.out ?_)
                                          go_roundw
                                          case rel => exact ⟨i + 1, z, by omega, by go_num, hid (by rw [HST.out]; unfold bs1; rw [if_pos HC.out]), hid HZS.out, hid (setRow_heap _ _ _ _ 57 (0, 0) (HBU.out _).1), hid (setRow_below (HBU.out _).2 (by have := Hβ.out; omega))⟩
                                          case measure => simp [intOf]; omega

                                        · have d3 : decide (z.pr < bq.pr) = false := decide_eq_false hp
                                          have HC := hid (show btr' r true bq z = false from by unfold btr'; rw [HDA.out, HDB.out, t1, t2, t3, d1, d2, d3]; simp)
                                          clear hd hq hp
                                          go_wp2
                                          go_roundw
                                          case rel => exact ⟨i + 1, bq, by omega, by go_num, hid (by rw [HST.out]; unfold bs1; rw [if_neg (by rw [HC.out]; decide)]), HBQS, hid (HBU.out _).1, hid (HBU.out _).2⟩
                                          case measure => simp [intOf]; omega

                                      · have d2 : (da == db) = false := by simpa using hq
                                        have HC := hid (show btr' r true bq z = false from by unfold btr'; rw [HDA.out, HDB.out, t1, t2, t3, d1, d2]; simp)
                                        clear hd hq
                                        go_wp2
                                        go_roundw
                                        case rel => exact ⟨i + 1, bq, by omega, by go_num, hid (by rw [HST.out]; unfold bs1; rw [if_neg (by rw [HC.out]; decide)]), HBQS, hid (HBU.out _).1, hid (HBU.out _).2⟩
                                        case measure => simp [intOf]; omega

                                  · have t1 : (bq.sd == 1) = true := by simp [hsd]
                                    have t2 : (bq.sd == 2) = false := by simp [hsd]
                                    have t3 : (bq.sd == 0) = false := by simp [hsd]
                                    clear hsd
                                    by_cases hp : bq.pr < z.pr
                                    · have d1 : decide (bq.pr < z.pr) = true := decide_eq_true hp
                                      have HC := hid (show btr' r true bq z = true from by unfold btr'; rw [t1, t2, t3, d1]; simp)
                                      clear hp
                                      have AI := hid (show (Tryz.prog.info? 57).map (·.size) = some (#[.int .i64 z.pr, .int .u64 z.vo, .int .u64 z.su, .int .i64 z.sd, .int .i64 z.ru] : Array Value).size from infoQ)
                                      have AS := hid (show (#[.int .i64 bq.pr, .int .u64 bq.vo, .int .u64 bq.su, .int .i64 bq.sd, .int .i64 bq.ru] : Array Value).size = (#[.int .i64 z.pr, .int .u64 z.vo, .int .u64 z.su, .int .i64 z.sd, .int .i64 z.ru] : Array Value).size from rfl)
                                      have AA := hid (show (#[.int .i64 z.pr, .int .u64 z.vo, .int .u64 z.su, .int .i64 z.sd, .int .i64 z.ru] : Array Value).all (·.oneCell') = true from by simp [Value.oneCell'])
                                      go_wp2_with (refine wpList_store_row (by rfl) 57 (.tmp 15) (.tmp 192) (by rfl) β #[.int .i64 z.pr, .int .u64 z.vo, .int .u64 z.su, .int .i64 z.sd, .int .i64 z.ru] (by rfl) (by rfl) 57 _ (HBU.out _).1 AI.out AS.out AA.out ?_)
                                      go_roundw
                                      case rel => exact ⟨i + 1, z, by omega, by go_num, hid (by rw [HST.out]; unfold bs1; rw [if_pos HC.out]), hid HZS.out, hid (setRow_heap _ _ _ _ 57 (0, 0) (HBU.out _).1), hid (setRow_below (HBU.out _).2 (by have := Hβ.out; omega))⟩
                                      case measure => simp [intOf]; omega

                                    · have d1 : decide (bq.pr < z.pr) = false := decide_eq_false hp
                                      have HC := hid (show btr' r true bq z = false from by unfold btr'; rw [t1, t2, t3, d1]; simp)
                                      clear hp
                                      go_wp2
                                      go_roundw
                                      case rel => exact ⟨i + 1, bq, by omega, by go_num, hid (by rw [HST.out]; unfold bs1; rw [if_neg (by rw [HC.out]; decide)]), HBQS, hid (HBU.out _).1, hid (HBU.out _).2⟩
                                      case measure => simp [intOf]; omega

                                  · have t1 : (bq.sd == 1) = false := by simp [hsd]
                                    have t2 : (bq.sd == 2) = true := by simp [hsd]
                                    have t3 : (bq.sd == 0) = false := by simp [hsd]
                                    clear hsd
                                    by_cases hp : z.pr < bq.pr
                                    · have d1 : decide (z.pr < bq.pr) = true := decide_eq_true hp
                                      have HC := hid (show btr' r true bq z = true from by unfold btr'; rw [t1, t2, t3, d1]; simp)
                                      clear hp
                                      have AI := hid (show (Tryz.prog.info? 57).map (·.size) = some (#[.int .i64 z.pr, .int .u64 z.vo, .int .u64 z.su, .int .i64 z.sd, .int .i64 z.ru] : Array Value).size from infoQ)
                                      have AS := hid (show (#[.int .i64 bq.pr, .int .u64 bq.vo, .int .u64 bq.su, .int .i64 bq.sd, .int .i64 bq.ru] : Array Value).size = (#[.int .i64 z.pr, .int .u64 z.vo, .int .u64 z.su, .int .i64 z.sd, .int .i64 z.ru] : Array Value).size from rfl)
                                      have AA := hid (show (#[.int .i64 z.pr, .int .u64 z.vo, .int .u64 z.su, .int .i64 z.sd, .int .i64 z.ru] : Array Value).all (·.oneCell') = true from by simp [Value.oneCell'])
                                      go_wp2_with (refine wpList_store_row (by rfl) 57 (.tmp 15) (.tmp 192) (by rfl) β #[.int .i64 z.pr, .int .u64 z.vo, .int .u64 z.su, .int .i64 z.sd, .int .i64 z.ru] (by rfl) (by rfl) 57 _ (HBU.out _).1 AI.out AS.out AA.out ?_)
                                      go_roundw
                                      case rel => exact ⟨i + 1, z, by omega, by go_num, hid (by rw [HST.out]; unfold bs1; rw [if_pos HC.out]), hid HZS.out, hid (setRow_heap _ _ _ _ 57 (0, 0) (HBU.out _).1), hid (setRow_below (HBU.out _).2 (by have := Hβ.out; omega))⟩
                                      case measure => simp [intOf]; omega

                                    · have d1 : decide (z.pr < bq.pr) = false := decide_eq_false hp
                                      have HC := hid (show btr' r true bq z = false from by unfold btr'; rw [t1, t2, t3, d1]; simp)
                                      clear hp
                                      go_wp2
                                      go_roundw
                                      case rel => exact ⟨i + 1, bq, by omega, by go_num, hid (by rw [HST.out]; unfold bs1; rw [if_neg (by rw [HC.out]; decide)]), HBQS, hid (HBU.out _).1, hid (HBU.out _).2⟩
                                      case measure => simp [intOf]; omega

                                | false =>
                                  clear hsd
                                  by_cases hd : da < db
                                  · have d1 : decide (da < db) = true := decide_eq_true hd
                                    have HC := hid (show btr' r false bq z = true from by unfold btr'; rw [HDA.out, HDB.out, Bool.false_and]; simp [hd])
                                    clear hd
                                    have AI := hid (show (Tryz.prog.info? 57).map (·.size) = some (#[.int .i64 z.pr, .int .u64 z.vo, .int .u64 z.su, .int .i64 z.sd, .int .i64 z.ru] : Array Value).size from infoQ)
                                    have AS := hid (show (#[.int .i64 bq.pr, .int .u64 bq.vo, .int .u64 bq.su, .int .i64 bq.sd, .int .i64 bq.ru] : Array Value).size = (#[.int .i64 z.pr, .int .u64 z.vo, .int .u64 z.su, .int .i64 z.sd, .int .i64 z.ru] : Array Value).size from rfl)
                                    have AA := hid (show (#[.int .i64 z.pr, .int .u64 z.vo, .int .u64 z.su, .int .i64 z.sd, .int .i64 z.ru] : Array Value).all (·.oneCell') = true from by simp [Value.oneCell'])
                                    go_wp2_with (refine wpList_store_row (by rfl) 57 (.tmp 15) (.tmp 218) (by rfl) β #[.int .i64 z.pr, .int .u64 z.vo, .int .u64 z.su, .int .i64 z.sd, .int .i64 z.ru] (by rfl) (by rfl) 57 _ (HBU.out _).1 AI.out AS.out AA.out ?_)
                                    go_roundw
                                    case rel => exact ⟨i + 1, z, by omega, by go_num, hid (by rw [HST.out]; unfold bs1; rw [if_pos HC.out]), hid HZS.out, hid (setRow_heap _ _ _ _ 57 (0, 0) (HBU.out _).1), hid (setRow_below (HBU.out _).2 (by have := Hβ.out; omega))⟩
                                    case measure => simp [intOf]; omega

                                  · have d1 : decide (da < db) = false := decide_eq_false hd
                                    by_cases hq : da = db
                                    · have d2 : (da == db) = true := by simpa using hq
                                      by_cases hp : z.pr < bq.pr
                                      · have d3 : decide (z.pr < bq.pr) = true := decide_eq_true hp
                                        have HC := hid (show btr' r false bq z = true from by unfold btr'; rw [HDA.out, HDB.out, Bool.false_and, d1, d2, d3]; simp)
                                        clear hd hq hp
                                        have AI := hid (show (Tryz.prog.info? 57).map (·.size) = some (#[.int .i64 z.pr, .int .u64 z.vo, .int .u64 z.su, .int .i64 z.sd, .int .i64 z.ru] : Array Value).size from infoQ)
                                        have AS := hid (show (#[.int .i64 bq.pr, .int .u64 bq.vo, .int .u64 bq.su, .int .i64 bq.sd, .int .i64 bq.ru] : Array Value).size = (#[.int .i64 z.pr, .int .u64 z.vo, .int .u64 z.su, .int .i64 z.sd, .int .i64 z.ru] : Array Value).size from rfl)
                                        have AA := hid (show (#[.int .i64 z.pr, .int .u64 z.vo, .int .u64 z.su, .int .i64 z.sd, .int .i64 z.ru] : Array Value).all (·.oneCell') = true from by simp [Value.oneCell'])
                                        go_wp2_with (refine wpList_store_row (by rfl) 57 (.tmp 15) (.tmp 218) (by rfl) β #[.int .i64 z.pr, .int .u64 z.vo, .int .u64 z.su, .int .i64 z.sd, .int .i64 z.ru] (by rfl) (by rfl) 57 _ (HBU.out _).1 AI.out AS.out AA.out ?_)
                                        go_roundw
                                        case rel => exact ⟨i + 1, z, by omega, by go_num, hid (by rw [HST.out]; unfold bs1; rw [if_pos HC.out]), hid HZS.out, hid (setRow_heap _ _ _ _ 57 (0, 0) (HBU.out _).1), hid (setRow_below (HBU.out _).2 (by have := Hβ.out; omega))⟩
                                        case measure => simp [intOf]; omega

                                      · have d3 : decide (z.pr < bq.pr) = false := decide_eq_false hp
                                        have HC := hid (show btr' r false bq z = false from by unfold btr'; rw [HDA.out, HDB.out, Bool.false_and, d1, d2, d3]; simp)
                                        clear hd hq hp
                                        go_wp2
                                        go_roundw
                                        case rel => exact ⟨i + 1, bq, by omega, by go_num, hid (by rw [HST.out]; unfold bs1; rw [if_neg (by rw [HC.out]; decide)]), HBQS, hid (HBU.out _).1, hid (HBU.out _).2⟩
                                        case measure => simp [intOf]; omega

                                    · have d2 : (da == db) = false := by simpa using hq
                                      have HC := hid (show btr' r false bq z = false from by unfold btr'; rw [HDA.out, HDB.out, Bool.false_and, d1, d2]; simp)
                                      clear hd hq
                                      go_wp2
                                      go_roundw
                                      case rel => exact ⟨i + 1, bq, by omega, by go_num, hid (by rw [HST.out]; unfold bs1; rw [if_neg (by rw [HC.out]; decide)]), HBQS, hid (HBU.out _).1, hid (HBU.out _).2⟩
                                      case measure => simp [intOf]; omega

                              · obtain rfl : nf = i := by omega
                                have e : S.take nf = S := List.take_of_length_le (by rw [HNS.out]; exact Nat.le_refl _)
                                rw [e] at HBQ
                                have HBF2 := hid (show bq = bsf r (onf S) S from by rw [HBQ.out]; unfold bsf; rw [HS0.out, HON.out])
                                obtain ⟨h0, h1, h2, h3, h4⟩ := row5 HBR.out
                                have hsd := (HSO.out bq HBQS.out).sd
                                clear e HBQ
                                cases t with
                                | true =>
                                  by_cases hz : bq.sd = 0
                                  · have t3 : (bq.sd != 0) = false := by simp [hz]
                                    have HE5 := hid (show dqt r D = some { bq with ru := 4 } from by rw [HE3.out]; unfold dqs; rw [if_neg (by rw [HNS.out]; exact HN1.out), ← HBF2.out, if_neg (fun e => e.2 hz)])
                                    clear hz hsd
                                    have CD := hid (on_b (rdecided_any bq 4 wr) (Below.refl _ _))
                                    have AI := hid (show (Tryz.prog.info? 57).map (·.size) = some (#[.int .i64 bq.pr, .int .u64 bq.vo, .int .u64 bq.su, .int .i64 bq.sd, .int .i64 4] : Array Value).size from infoQ)
                                    have AS := hid (show (#[.int .i64 0, .int .u64 0, .int .u64 0, .int .i64 0, .int .i64 0] : Array Value).size = (#[.int .i64 bq.pr, .int .u64 bq.vo, .int .u64 bq.su, .int .i64 bq.sd, .int .i64 4] : Array Value).size from rfl)
                                    have AA := hid (show (#[.int .i64 bq.pr, .int .u64 bq.vo, .int .u64 bq.su, .int .i64 bq.sd, .int .i64 4] : Array Value).all (·.oneCell') = true from by simp [Value.oneCell'])
                                    go_wp2_with (first | (go_at_call 40; with_reducible refine (CD.out).mono ?_; rintro e v9 ⟨rfl, V9⟩; have HZ9 := hid (row_on (row_on HZX2.out HB6.out) V9.out)) | (refine wpList_store_row (by rfl) 57 (.tmp 2) (.tmp 231) (by rfl) (R + 1) #[.int .i64 bq.pr, .int .u64 bq.vo, .int .u64 bq.su, .int .i64 bq.sd, .int .i64 4] (by rfl) (by rfl) 57 _ HZ9.out AI.out AS.out AA.out ?_))
                                    refine bodyPost_ret (res_ct (fn := Tryz.f18) Tryz.results18 _ _ (R + 1) 57 #[.int .i64 bq.pr, .int .u64 bq.vo, .int .u64 bq.su, .int .i64 bq.sd, .int .i64 4] (0, 0) _ (.bool true) (by rfl) (by rfl) (setRow_heap _ _ _ _ 57 (0, 0) HZ9.out) Tryz.underlying57 rfl infoQ) rfl ⟨by rw [HE5.out]; rfl, ?_⟩
                                    exact setRow_below (btr (btr (btr HBV.out HBX2.out) HB6.out) V9.out) (by have := HRR.out; omega)

                                  · have t3 : (bq.sd != 0) = true := by simpa using hz
                                    have HE5 := hid (show dqt r D = some { bq with ru := 3 } from by rw [HE3.out]; unfold dqs; rw [if_neg (by rw [HNS.out]; exact HN1.out), ← HBF2.out, if_pos ⟨HON.out.symm, hz⟩])
                                    clear hz hsd
                                    have CD := hid (on_b (rdecided_any bq 3 wr) (Below.refl _ _))
                                    have AI := hid (show (Tryz.prog.info? 57).map (·.size) = some (#[.int .i64 bq.pr, .int .u64 bq.vo, .int .u64 bq.su, .int .i64 bq.sd, .int .i64 3] : Array Value).size from infoQ)
                                    have AS := hid (show (#[.int .i64 0, .int .u64 0, .int .u64 0, .int .i64 0, .int .i64 0] : Array Value).size = (#[.int .i64 bq.pr, .int .u64 bq.vo, .int .u64 bq.su, .int .i64 bq.sd, .int .i64 3] : Array Value).size from rfl)
                                    have AA := hid (show (#[.int .i64 bq.pr, .int .u64 bq.vo, .int .u64 bq.su, .int .i64 bq.sd, .int .i64 3] : Array Value).all (·.oneCell') = true from by simp [Value.oneCell'])
                                    go_wp2_with (first | (go_at_call 40; with_reducible refine (CD.out).mono ?_; rintro e v9 ⟨rfl, V9⟩; have HZ9 := hid (row_on (row_on HZX2.out HB6.out) V9.out)) | (refine wpList_store_row (by rfl) 57 (.tmp 2) (.tmp 227) (by rfl) (R + 1) #[.int .i64 bq.pr, .int .u64 bq.vo, .int .u64 bq.su, .int .i64 bq.sd, .int .i64 3] (by rfl) (by rfl) 57 _ HZ9.out AI.out AS.out AA.out ?_))
                                    refine bodyPost_ret (res_ct (fn := Tryz.f18) Tryz.results18 _ _ (R + 1) 57 #[.int .i64 bq.pr, .int .u64 bq.vo, .int .u64 bq.su, .int .i64 bq.sd, .int .i64 3] (0, 0) _ (.bool true) (by rfl) (by rfl) (setRow_heap _ _ _ _ 57 (0, 0) HZ9.out) Tryz.underlying57 rfl infoQ) rfl ⟨by rw [HE5.out]; rfl, ?_⟩
                                    exact setRow_below (btr (btr (btr HBV.out HBX2.out) HB6.out) V9.out) (by have := HRR.out; omega)

                                | false =>
                                  have HE5 := hid (show dqt r D = some { bq with ru := 4 } from by rw [HE3.out]; unfold dqs; rw [if_neg (by rw [HNS.out]; exact HN1.out), ← HBF2.out, if_neg (fun e => by have := HON.out; rw [e.1] at this; cases this)])
                                  clear hsd
                                  have CD := hid (on_b (rdecided_any bq 4 wr) (Below.refl _ _))
                                  have AI := hid (show (Tryz.prog.info? 57).map (·.size) = some (#[.int .i64 bq.pr, .int .u64 bq.vo, .int .u64 bq.su, .int .i64 bq.sd, .int .i64 4] : Array Value).size from infoQ)
                                  have AS := hid (show (#[.int .i64 0, .int .u64 0, .int .u64 0, .int .i64 0, .int .i64 0] : Array Value).size = (#[.int .i64 bq.pr, .int .u64 bq.vo, .int .u64 bq.su, .int .i64 bq.sd, .int .i64 4] : Array Value).size from rfl)
                                  have AA := hid (show (#[.int .i64 bq.pr, .int .u64 bq.vo, .int .u64 bq.su, .int .i64 bq.sd, .int .i64 4] : Array Value).all (·.oneCell') = true from by simp [Value.oneCell'])
                                  go_wp2_with (first | (go_at_call 40; with_reducible refine (CD.out).mono ?_; rintro e v9 ⟨rfl, V9⟩; have HZ9 := hid (row_on (row_on HZX2.out HB6.out) V9.out)) | (refine wpList_store_row (by rfl) 57 (.tmp 2) (.tmp 231) (by rfl) (R + 1) #[.int .i64 bq.pr, .int .u64 bq.vo, .int .u64 bq.su, .int .i64 bq.sd, .int .i64 4] (by rfl) (by rfl) 57 _ HZ9.out AI.out AS.out AA.out ?_))
                                  refine bodyPost_ret (res_ct (fn := Tryz.f18) Tryz.results18 _ _ (R + 1) 57 #[.int .i64 bq.pr, .int .u64 bq.vo, .int .u64 bq.su, .int .i64 bq.sd, .int .i64 4] (0, 0) _ (.bool true) (by rfl) (by rfl) (setRow_heap _ _ _ _ 57 (0, 0) HZ9.out) Tryz.underlying57 rfl infoQ) rfl ⟨by rw [HE5.out]; rfl, ?_⟩
                                  exact setRow_below (btr (btr (btr HBV.out HBX2.out) HB6.out) V9.out) (by have := HRR.out; omega)




end Go.Proofs.YtnmkfdndfhefiaaGreat
