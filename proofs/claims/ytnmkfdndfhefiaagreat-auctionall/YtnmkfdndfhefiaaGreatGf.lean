/-
  The document's candidates.
-/
import Derived.Test.YtnmkfdndfhefiaaGreatQuC
namespace Go.Proofs.YtnmkfdndfhefiaaGreat
open Go.RowKit Go.Deep Go.Shelf
set_option linter.unusedVariables false
set_option linter.unusedSimpArgs false
set_option maxHeartbeats 16000000
set_option maxRecDepth 100000
/-- what a price comes to. -/
def qd (L : List It) (p : Int) : Qt := qAt p (tot (L.filter (vb p))) (tot (L.filter (vs p)))
theorem dcs_eq (r : Int) (L : List It) : dcs r L = (dps r L).map (qd L) := rfl
theorem dps_step {r : Int} {L : List It} {i : Nat} (hi : i < L.length) : dps r (L.take (i + 1)) = dst1 (dps r (L.take i)) L[i] := by
  unfold dps
  rw [List.take_succ_eq_append_getElem hi, List.foldl_append]
  rfl
theorem dps_len (r : Int) : ∀ (L : List It), (dps r L).length ≤ L.length + 1 := by
  have go : ∀ (L : List It) (ps : List Int), (L.foldl dst1 ps).length ≤ ps.length + L.length := by
    intro L
    induction L with
    | nil => intro ps; simp
    | cons x L ih =>
      intro ps
      rw [List.foldl_cons]
      have := ih (dst1 ps x)
      have h2 : (dst1 ps x).length ≤ ps.length + 1 := by unfold dst1; split <;> simp
      simp only [List.length_cons]
      omega
  intro L
  have := go L [r]
  simp only [List.length_singleton] at this
  unfold dps
  omega
theorem any_step {D : List Qt} {x : It} {k : Nat} (hk : k < D.length) : (D.take (k + 1)).any (fun z => z.pr == x.pr) = ((D.take k).any (fun z => z.pr == x.pr) || (D[k].pr == x.pr)) := by
  rw [List.take_succ_eq_append_getElem hk, List.any_append]
  simp
theorem any_mem {L : List It} {ps : List Int} {x : It} : ((ps.map (qd L)).any (fun z => z.pr == x.pr)) = decide (x.pr ∈ ps) := by
  rw [Bool.eq_iff_iff, List.any_eq_true, decide_eq_true_eq]
  constructor
  · rintro ⟨z, hz, e⟩
    obtain ⟨p, hp, rfl⟩ := List.mem_map.1 hz
    unfold qd at e
    rw [qAt_p] at e
    have e' : p = x.pr := by simpa using e
    rw [← e']; exact hp
  · intro h
    exact ⟨qd L x.pr, List.mem_map.2 ⟨_, h, rfl⟩, by unfold qd; rw [qAt_p]; simp⟩
theorem rcandidates_any (r m : Int) (p : Option Addr) (c : Nat) (L : List It) (w : World) (h : Li w p c L) (hn : L.length ≤ 4096) (hk : ∀ x ∈ L, Ik x.sd x ∧ (x.sd = 1 ∨ x.sd = 2)) :
    Calls Tryz.prog 39 #[.agg #[.int .i64 r, .int .i64 m, .slice p L.length c]] w fun e w' => ∃ p' c', e = .returned (.slice p' (dcs r L).length c') ∧ Qs w.heap.size w' p' c' (dcs r L) ∧ Below w.heap.size w w' := by
  obtain ⟨n, hnn⟩ : ∃ n, L.length = n := ⟨_, rfl⟩
  have HN := hid hnn
  obtain ⟨R, hR⟩ : ∃ R, w.heap.size = R := ⟨_, rfl⟩
  obtain ⟨W, hW⟩ : ∃ W, w.alloc (.cells #[.int .i64 r, .int .i64 m, .slice p n c] 29) = W := ⟨_, rfl⟩
  obtain ⟨hb, hK⟩ := box_call hW hR
  have CA := hid (show ∀ (U : World) (hU : Below W.heap.size W U) (pr : Int), _ from fun U hU pr => rAt_any r m pr p c L U ((h.on hb).on hU) hn hk)
  rw [hnn] at hn CA ⊢
  have HK := hid hK
  have HBW := hid hb
  have H := hid (h.on hb)
  have HW := hid hW
  have HRR := hid hR
  obtain ⟨k0, k1, k2⟩ := row3 hK
  have C0 := hid (on_b (CA.out W (Below.refl _ _) r) (Below.refl _ _))
  obtain ⟨z0, hz0⟩ : ∃ z, qAt r (tot (L.filter (vb r))) (tot (L.filter (vs r))) = z := ⟨_, rfl⟩
  rw [hz0] at C0
  have HZ0 := hid (show qd L r = z0 from hz0)
  unfold qrow at C0
  have sW := row_lt hK
  clear hnn h hW hR hb hK hz0 hk
  go_enter Tryz.func39, Tryz.ntmps39
  go_upto_region 1 with fail
  rw [HW.out, HRR.out]
  go_upto_region 2 with (go_at_call 69; with_reducible refine (C0.out).mono ?_; rintro e v1 ⟨rfl, V1⟩)
  obtain ⟨X, hX⟩ : ∃ X, v1.alloc (.cells #[.int .i64 z0.pr, .int .u64 z0.vo, .int .u64 z0.su, .int .i64 z0.sd, .int .i64 z0.ru] 57) = X := ⟨_, rfl⟩
  obtain ⟨g0, hg0⟩ : ∃ g, v1.heap.size = g := ⟨_, rfl⟩
  have HOX := hid (show Qs W.heap.size X (some ⟨g0, 0, none⟩) 1 [z0] from by
    rw [← hX, ← hg0]
    refine ⟨rfl, .inr ⟨v1.heap.size, 1, _, rfl, V1.out.size, World.alloc_heap_new _ _, Nat.le_refl _, by unfold maxLen; omega, rfl, rfl⟩⟩)
  have BX := hid (show Below W.heap.size W X from by rw [← hX]; exact btr V1.out (ball _ _))
  rw [hX, hg0]
  clear hX hg0 V1 C0
  go_upto_region 3 with fail
  go_loopw [3, 4] (fun sv iv wr => ∃ i pd nd cd, i ≤ n ∧ nd ≤ i + 1 ∧ iv = .int .i64 (i : Nat) ∧ sv = .slice pd nd cd ∧ Hid (((dps r (L.take i)).map (qd L)).length = nd) ∧ Hid (Qs W.heap.size wr pd cd ((dps r (L.take i)).map (qd L))) ∧ Hid (Below W.heap.size W wr)) (fun _ iv _ => n - (intOf iv).toNat)
  case atStart => exact ⟨0, some ⟨g0, 0, none⟩, 1, 1, Nat.zero_le _, Nat.le_refl _, rfl, rfl, hid rfl, hid (by show Qs _ _ _ _ [qd L r]; rw [HZ0.out]; exact HOX.out), BX⟩
  case round =>
    obtain ⟨i, pd, nd, cd, hin, hnd, rfl, rfl, HND, HQS, HB⟩ := hrel
    obtain ⟨Z, rfl⟩ : ∃ Z, Z = wr := ⟨_, rfl⟩
    clear HOX BX
    obtain ⟨k0, k1, k2⟩ := row3 (row_on HK.out HB.out)
    by_cases hlt : i < n
    · have hi : i < L.length := by rw [HN.out]; exact hlt
      have HAL := hid (fun (U : World) (hU : Below W.heap.size W U) => (H.out.on hU).cells hi)
      obtain ⟨g, hp, a0, a1, a2, a3, a4, a5⟩ := (H.out.on HB.out).cells hi
      subst hp
      have hst := dps_step (r := r) hi
      obtain ⟨ps, hps⟩ : ∃ l, dps r (L.take i) = l := ⟨_, rfl⟩
      rw [hps] at hst HND HQS
      obtain ⟨x, hx⟩ : ∃ x, L[i] = x := ⟨_, rfl⟩
      rw [hx] at a0 a1 a2 a3 a4 a5 hst HAL
      have HST := hid hst
      have HAM := hid (any_mem (L := L) (ps := ps) (x := x))
      obtain ⟨D, hD⟩ : ∃ D, ps.map (qd L) = D := ⟨_, rfl⟩
      rw [hD] at HND HQS HAM
      have HD := hid hD
      have i0 : (0 : Int) ≤ (i : Int) := by omega
      have i1 : (i : Int) < (n : Int) := by omega
      obtain ⟨t0, ht0⟩ : ∃ t, (x.ty == 2) = t := ⟨_, rfl⟩
      have HT0 := hid ht0
      clear hst hps hx hD
      go_upto_region 7 with fail
      go_loopw [5, 6] (fun tv kv wq => ∃ (k : Nat) (t : Bool), k ≤ nd ∧ kv = .int .i64 k ∧ tv = .bool t ∧ Hid (t = (t0 || (D.take k).any (fun z => z.pr == x.pr))) ∧ Hid (Below Z.heap.size Z wq)) (fun _ kv _ => nd - (intOf kv).toNat)
      case atStart => exact ⟨0, t0, Nat.zero_le _, rfl, rfl, hid (by simp), hid (Below.refl _ _)⟩
      case round =>
        obtain ⟨k, t, hkn, rfl, rfl, HT, HBZ⟩ := hrel
        obtain ⟨g', hp', a0, a1, a2, a3, a4, a5⟩ := HAL.out wr (btr HB.out HBZ.out)
        obtain rfl : g = g' := by injection hp' with e; injection e
        obtain ⟨k0, k1, k2⟩ := row3 (row_on HK.out (btr HB.out HBZ.out))
        clear hp'
        by_cases hkl : k < nd
        · have hkd : k < D.length := by rw [HND.out]; exact hkl
          obtain ⟨gq, hq, sq, b0, b1, b2, b3, b4⟩ := (HQS.out.on HBZ.out).cells hkd
          subst hq
          have HAS := hid (any_step (D := D) (x := x) hkd)
          obtain ⟨z, hz⟩ : ∃ z, D[k] = z := ⟨_, rfl⟩
          rw [hz] at b0 b1 b2 b3 b4 HAS
          have q0 : (0 : Int) ≤ (k : Int) := by omega
          have q1 : (k : Int) < (nd : Int) := by omega
          clear hz
          cases t with
          | true =>
            go_upto_region 9 with fail
            go_quiet (fail)
            go_wp2
            go_roundw
            case rel => exact ⟨k + 1, true, by omega, by go_num, rfl, hid (by rw [HAS.out, ← Bool.or_assoc, ← HT.out]; rfl), hid (btr HBZ.out (bdrew _ _))⟩
            case measure => simp [intOf]; omega
          | false =>
            obtain ⟨u, hu⟩ : ∃ u, (z.pr == x.pr) = u := ⟨_, rfl⟩
            have HU := hid hu
            go_upto_region 9 with fail
            go_quiet (fail)
            go_wp2
            go_roundw
            case rel => exact ⟨k + 1, u, by omega, by go_num, by first | rfl | (rw [← HU.out]), hid (by rw [HAS.out, ← Bool.or_assoc, ← HT.out, HU.out]; rfl), hid (btr HBZ.out (bdrew _ _))⟩
            case measure => simp [intOf]; omega
        · obtain rfl : k = nd := by omega
          have e : D.take k = D := List.take_of_length_le (by rw [HND.out]; exact Nat.le_refl _)
          rw [e, HAM.out] at HT
          cases t with
          | true =>
            have HE := hid (show dst1 ps x = ps from by
              unfold dst1
              have h1 := HT.out
              rw [← HT0.out] at h1
              rw [if_pos]
              have h2 : (x.ty == 2 || decide (x.pr ∈ ps)) = true := h1.symm
              simpa using h2)
            go_wp2
            go_roundw
            case rel => exact ⟨i + 1, pd, k, cd, by omega, by omega, by go_num, rfl, hid (by rw [HST.out, HE.out, HD.out]; exact HND.out), hid (by rw [HST.out, HE.out, HD.out]; exact HQS.out.on HBZ.out), hid (btr HB.out HBZ.out)⟩
            case measure => simp [intOf]; omega
          | false =>
            have HE := hid (show dst1 ps x = ps ++ [x.pr] from by
              unfold dst1
              have h1 := HT.out
              rw [← HT0.out] at h1
              rw [if_neg]
              have h2 : (x.ty == 2 || decide (x.pr ∈ ps)) = false := h1.symm
              simpa using h2)
            have CX := hid (fun (U : World) (hU : Below wr.heap.size wr U) => on_b (CA.out U (btr (btr HB.out HBZ.out) hU) x.pr) hU)
            obtain ⟨y, hy⟩ : ∃ z, qAt x.pr (tot (L.filter (vb x.pr))) (tot (L.filter (vs x.pr))) = z := ⟨_, rfl⟩
            rw [hy] at CX
            have HY := hid (show qd L x.pr = y from hy)
            unfold qrow at CX
            have HSX := hid (show ∀ U, Below wr.heap.size wr U → U.cell? ⟨R, 0, none⟩ = some (.int .i64 r) ∧ U.cell? ⟨R, 1, none⟩ = some (.int .i64 m) ∧ U.cell? ⟨R, 2, none⟩ = some (.slice (some ⟨g, 0, none⟩) n c) ∧ U.cell? ⟨g, i * 6 + 4, none⟩ = some (.int .i64 x.pr) from fun U hU => by
              obtain ⟨u0, u1, u2⟩ := row3 (row_on HK.out (btr (btr HB.out HBZ.out) hU))
              obtain ⟨g', hp', _, _, _, _, u4, _⟩ := HAL.out U (btr (btr HB.out HBZ.out) hU)
              obtain rfl : g = g' := by injection hp' with e; injection e
              exact ⟨u0, u1, u2, u4⟩)
            have HOWN := hid (show ∀ U, Below wr.heap.size wr U → U.ownsRow W.heap.size 57 5 (.slice pd k cd) k (qs D) from fun U hU => by
              have h1 := (HQS.out.on HBZ.out).on hU
              unfold Qs at h1
              rw [HND.out] at h1
              exact h1)
            have sR : R < wr.heap.size := row_lt (row_on HK.out (btr HB.out HBZ.out))
            have sG : g < wr.heap.size := by obtain ⟨cu, hcu⟩ := (H.out.on (btr HB.out HBZ.out)).ty (OfP.mk g); exact row_lt hcu
            have hWs : W.heap.size ≤ wr.heap.size := (btr HB.out HBZ.out).size
            have HBD := hid (bdrew1 wr)
            clear hy CA
            go_upto_region 11 with fail
            go_region_held3 (fun U => U.cell? ⟨R, 0, none⟩ = some (.int .i64 r) ∧ U.cell? ⟨R, 1, none⟩ = some (.int .i64 m) ∧ U.cell? ⟨R, 2, none⟩ = some (.slice (some ⟨g, 0, none⟩) n c) ∧ U.cell? ⟨g, i * 6 + 4, none⟩ = some (.int .i64 x.pr)) (go_keep) (first | (go_at_call 69; with_reducible refine (CX.out _ HBD.out).mono ?_; rintro e v3 ⟨rfl, V3⟩; obtain ⟨u0, u1, u2, u3⟩ := HSX.out v3 V3.out; have b3 : R < v3.heap.size := Nat.lt_of_lt_of_le sR V3.out.size; have b5 : g < v3.heap.size := Nat.lt_of_lt_of_le sG V3.out.size; have bs : W.heap.size ≤ v3.heap.size := Nat.le_trans hWs V3.out.size) | (refine step_app_mine (by rfl) (.tmp 49) (.tmp 58) 81 57 _ 5 40 (by rfl) Tryz.underlying81 infoQt rfl (by decide) W.heap.size 0 _ k _ (by rfl) (HOWN.out _ (btr V3.out (ball _ _))) ⟨v3.heap.size, 0, none⟩ 1 1 _ (by rfl) (made5 v3 y) (qrow_one y) (by unfold maxLen; omega) (by omega) (by simp; omega) ?_; intro v' w' hown hgrow; obtain ⟨p9, q9, rfl⟩ := own_form hown; have HO1 := hid hown; have HG1 := hid (show Below W.heap.size W w' from ((btr (btr HB.out HBZ.out) (btr V3.out (ball _ _))).grown hgrow (by simp; omega) (fun j hj => own_ge (HOWN.out _ (Below.refl _ _)) hj))); obtain ⟨u0, u1, u2⟩ := row3 (row_on HK.out HG1.out); obtain ⟨u4, hu4, _, _, _, _, u3, _⟩ := HAL.out w' HG1.out; obtain rfl : g = u4 := (by injection hu4 with e; injection e); clear hown hgrow hu4))
            go_wp2
            go_roundw
            case rel =>
              have hO := HO1.out
              rw [← qs_one1, ← qs_app] at hO
              have e9 : (ps ++ [x.pr]).map (qd L) = D ++ [y] := by rw [List.map_append, HD.out, List.map_singleton, HY.out]
              refine ⟨i + 1, p9, k + 1, q9, by omega, by omega, by go_num, rfl, hid ?_, hid ?_, HG1⟩
              · rw [HST.out, HE.out, e9, List.length_append, HND.out]; rfl
              · rw [HST.out, HE.out, e9]; unfold Qs; rw [List.length_append, HND.out]; exact hO
            case measure => simp [intOf]; omega
    · obtain rfl : i = n := by omega
      have e : L.take i = L := List.take_of_length_le (by rw [HN.out]; exact Nat.le_refl _)
      rw [e] at HND HQS
      rw [← dcs_eq] at HND HQS
      go_wp2
      go_ret
      exact ⟨pd, cd, by rw [HND.out]; rfl, own_base HQS.out HBW.out.size, btr HBW.out HB.out⟩
end Go.Proofs.YtnmkfdndfhefiaaGreat
namespace Go.Proofs.YtnmkfdndfhefiaaGreat
open Go.RowKit Go.Deep Go.Shelf
set_option linter.unusedVariables false
set_option linter.unusedSimpArgs false
set_option maxHeartbeats 16000000
set_option maxRecDepth 100000
theorem far_any (a b : Int) (w : World) (a0 : 0 ≤ a) (a1 : a < 262144) (b0 : 0 ≤ b) (b1 : b < 262144) : Calls Tryz.prog 41 #[.int .i64 a, .int .i64 b] w fun e w' => e = .returned (.int .i64 (max (a - b) (b - a))) ∧ w' = w := by
  by_cases h : a < b
  · have e : max (a - b) (b - a) = b - a := by omega
    rw [e]
    have w1 : IntKind.i64.wrap (b - a) = b - a := by rw [IntKind.wrap_i64]; omega
    go_enter Tryz.func41, Tryz.ntmps41
    go_wp2
    go_ret
    exact ⟨rfl, rfl⟩
  · have e : max (a - b) (b - a) = a - b := by omega
    rw [e]
    have w1 : IntKind.i64.wrap (a - b) = a - b := by rw [IntKind.wrap_i64]; omega
    go_enter Tryz.func41, Tryz.ntmps41
    go_wp2
    go_ret
    exact ⟨rfl, rfl⟩
theorem rdecided_any (z : Qt) (k : Int) (w : World) : Calls Tryz.prog 40 #[.agg #[.int .i64 z.pr, .int .u64 z.vo, .int .u64 z.su, .int .i64 z.sd, .int .i64 z.ru], .int .i64 k] w fun e w' => e = .returned (.tuple #[.agg #[.int .i64 z.pr, .int .u64 z.vo, .int .u64 z.su, .int .i64 z.sd, .int .i64 k], .bool true]) ∧ Below w.heap.size w w' := by
  obtain ⟨R, hR⟩ : ∃ R, w.heap.size = R := ⟨_, rfl⟩
  obtain ⟨W, hW⟩ : ∃ W, (w.alloc (.cells #[.int .i64 z.pr, .int .u64 z.vo, .int .u64 z.su, .int .i64 z.sd, .int .i64 k] 57)).alloc (.cells #[.int .i64 z.pr, .int .u64 z.vo, .int .u64 z.su, .int .i64 z.sd, .int .i64 k] 57) = W := ⟨_, rfl⟩
  have HB := hid (show Below w.heap.size w W from by rw [← hW]; exact btr (ball _ _) (ball _ _))
  have HZ := hid (show W.heap[R + 1]? = some (.cells #[.int .i64 z.pr, .int .u64 z.vo, .int .u64 z.su, .int .i64 z.sd, .int .i64 k] 57 (0, 0)) from by
    rw [← hW, ← hR]
    have := World.alloc_heap_new (w.alloc (.cells #[.int .i64 z.pr, .int .u64 z.vo, .int .u64 z.su, .int .i64 z.sd, .int .i64 k] 57)) (.cells #[.int .i64 z.pr, .int .u64 z.vo, .int .u64 z.su, .int .i64 z.sd, .int .i64 k] 57)
    simpa using this)
  have HW := hid hW
  have HRR := hid hR
  clear hW hR
  go_enter Tryz.func40, Tryz.ntmps40
  go_wp2
  rw [HW.out, HRR.out]
  exact bodyPost_ret (res_ct (fn := Tryz.f40) Tryz.results40 _ _ (R + 1) 57 #[.int .i64 z.pr, .int .u64 z.vo, .int .u64 z.su, .int .i64 z.sd, .int .i64 k] (0, 0) _ (.bool true) (by rfl) (by rfl) HZ.out Tryz.underlying57 rfl infoQ) rfl ⟨rfl, by have h := HB.out; rw [HRR.out] at h; exact h⟩
/-- quotes that may be. -/
structure Qk (z : Qt) : Prop where
  p0 : 0 ≤ z.pr
  p1 : z.pr < 262144
  v0 : 0 ≤ z.vo
  s0 : 0 ≤ z.su
  sd : z.sd = 0 ∨ z.sd = 1 ∨ z.sd = 2
theorem dcs_ok {r : Int} {L : List It} (hr : isP r = true) (h : Lk L) : ∀ z ∈ dcs r L, Qk z := by
  intro z hz
  obtain ⟨p, hp, rfl⟩ := List.mem_map.1 hz
  have hpp : 0 ≤ p ∧ p < 262144 := by
    rcases ((dps_inv r L [r] (by simp)).2 p).1 hp with h1 | ⟨x, hx, _, e⟩
    · have e : p = r := by simpa using h1
      rw [e]
      exact of_decide_eq_true hr
    · have := (h.ok x hx).1
      exact ⟨by have := this.p0; omega, by have := this.p1; omega⟩
  obtain ⟨b0, b1⟩ := tot_b (f := vb p) h.ln h.ok
  obtain ⟨s0, s1⟩ := tot_b (f := vs p) h.ln h.ok
  refine ⟨by rw [qAt_p]; exact hpp.1, by rw [qAt_p]; exact hpp.2, by rw [qAt_vo]; omega, ?_, qAt_s _ _ _⟩
  unfold qAt
  split
  · show 0 ≤ _ - _; omega
  split
  · show 0 ≤ _ - _; omega
  · exact Int.le_refl _
theorem dcs_len {r : Int} {L : List It} (h : Lk L) : 1 ≤ (dcs r L).length ∧ (dcs r L).length ≤ 4097 := by
  rw [dcs_eq, List.length_map]
  have := dps_len r L
  have := h.ln
  have h1 : r ∈ dps r L := ((dps_inv r L [r] (by simp)).2 r).2 (.inl (by simp))
  have := List.length_pos_of_mem h1
  omega
theorem fold_step {α β : Type} {f : β → α → β} {b : β} {l : List α} {i : Nat} (hi : i < l.length) : (l.take (i + 1)).foldl f b = f ((l.take i).foldl f b) l[i] := by
  rw [List.take_succ_eq_append_getElem hi, List.foldl_append]
  rfl
theorem filt_step {α : Type} {f : α → Bool} {l : List α} {i : Nat} (hi : i < l.length) : (l.take (i + 1)).filter f = (l.take i).filter f ++ if f l[i] = true then [l[i]] else [] := by
  rw [List.take_succ_eq_append_getElem hi, List.filter_append, List.filter_cons, List.filter_nil]
theorem all_step {f : Qt → Bool} {l : List Qt} {i : Nat} (hi : i < l.length) : (l.take (i + 1)).all f = ((l.take i).all f && f l[i]) := by
  rw [List.take_succ_eq_append_getElem hi, List.all_append]
  simp
end Go.Proofs.YtnmkfdndfhefiaaGreat
