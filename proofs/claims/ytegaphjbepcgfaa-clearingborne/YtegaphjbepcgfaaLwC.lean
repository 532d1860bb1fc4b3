/-
  LwC
-/
import Derived.Test.YtegaphjbepcgfaaLwA
import Derived.Test.YtegaphjbepcgfaaLwB
namespace Go.Proofs.Ytegaphjbepcgfaa.Ss
open Go.RowKit Go.Deep Go.Maps BigM
set_option linter.unusedVariables false
set_option linter.unusedSimpArgs false
set_option maxHeartbeats 8000000
set_option maxRecDepth 100000
attribute [local go_sem ↓] Go.wp_at_zero Go.wp_at_succ
theorem borne_any (A B H : Int) (fs : List Fd) (n : Nat) (q : Option Addr) (cap : Nat) (w : World) (hA : Word A) (hB : Word B) (hH : Word H) (hf : ∀ x ∈ fs, Word x.ct) (hl : fs.length = n) (hn : n ≤ 17592186044416) (hr : Fz w q fs) :
    Calls Try.prog 3 #[.int .u64 A, .int .u64 B, .int .u64 H, .slice q n cap] w fun e w' => e = .returned (.bool true) ∧ Below w.heap.size w w' := by
  have CL := hid (Ac.lives_ok w)
  have CB := hid (fun (U : World) (hU : Below w.heap.size w U) => bear_any A B H fs n q cap U hA hB hH hf hl hn (hr.on hU))
  have HA := hid hA
  have HBo := hid hB
  have HHo := hid hH
  have HW := hid (show ∀ y ∈ cts fs, Word y from fun y hy => by
    obtain ⟨x, hx, rfl⟩ := List.mem_map.1 hy
    exact hf x hx)
  have HN := hid hl
  have HR := hid hr
  have HNB := hid hn
  clear hA hB hH hf hl hr hn
  go_enter Try.func3, Try.ntmps3
  go_upto_region 3 with (go_at_call 4; with_reducible refine CL.out.mono ?_; rintro e w1 ⟨rfl, h1⟩; have B1 := hid h1; clear h1)
  have CB1 := hid (CB.out w1 B1.out)
  go_upto_region 4 with (go_at_call 5; with_reducible refine CB1.out.mono ?_; rintro e w2 ⟨er, o, h, lf, p, l, rfl, h1, h2, h3⟩; have KC := hid h1; have KF := hid h2; have B2 := hid h3; clear h1 h2 h3)
  clear CB CB1 CL
  obtain ⟨m, hm⟩ : ∃ m, l.length = m := ⟨_, rfl⟩
  have HM := hid hm
  rw [hm]
  obtain ⟨W3, hW3⟩ : ∃ W, w2.alloc (.cells #[.int .u64 o, .int .u64 h, .slice p m m, .int .u64 lf] 27) = W := ⟨_, rfl⟩
  have B3 := hid (show Below w2.heap.size w2 W3 from by rw [← hW3]; exact ball _ _)
  obtain ⟨g3, hg3⟩ : ∃ g, w2.heap.size = g := ⟨_, rfl⟩
  have R3 := hid (show W3.heap[g3]? = some (.cells #[.int .u64 o, .int .u64 h, .slice p m m, .int .u64 lf] 27 (0, 0)) from by rw [← hW3, ← hg3]; exact World.alloc_heap_new _ _)
  have D3 := hid (show Below w.heap.size w W3 from btr (btr B1.out B2.out) B3.out)
  have KF3 := hid (KF.out.on B3.out)
  rw [hW3, hg3]
  clear hW3 hg3 hm KF B1 B2 B3
  by_cases e0 : er = 0
  · subst e0
    have BN := hid (KC.out.bn HA.out.1 HBo.out.1 HHo.out.1 (fun y hy => (HW.out y hy).1))
    have e1 : m = n := by rw [← HM.out, BN.out.len, cts_len, HN.out]
    subst e1
    clear KC
    obtain ⟨sL, hsL⟩ : ∃ x, A - o - h = x := ⟨_, rfl⟩
    have HSL := hid hsL
    have c0 := row_cell R3.out 0
    have c1 := row_cell R3.out 1
    have c2 := row_cell R3.out 2
    have c3 := row_cell R3.out 3
    simp only [List.getElem?_toArray, List.getElem?_cons_succ, List.getElem?_cons_zero] at c0 c1 c2 c3
    have x1 : decide (B < o) = false := decide_eq_false (by have := BN.out.o1; omega)
    have x2 : decide (H < h) = false := decide_eq_false (by have := BN.out.h1; omega)
    have x3 : IntKind.u64.wrap (o + h) = o + h := by have := BN.out.o0; have := BN.out.h0; have := BN.out.two; have := HA.out.2; rw [IntKind.wrap_u64]; omega
    have x4 : decide (A < o + h) = false := decide_eq_false (by have := BN.out.two; omega)
    have x5 : IntKind.u64.wrap (A - o) = A - o := by have := BN.out.o0; have := BN.out.h0; have := BN.out.two; have := HA.out.2; rw [IntKind.wrap_u64]; omega
    have x6 : IntKind.u64.wrap (A - o - h) = sL := by have := BN.out.o0; have := BN.out.h0; have := BN.out.two; have := HA.out.2; rw [IntKind.wrap_u64]; omega
    clear hsL
    go_upto_region 6 with fail
    obtain ⟨hp, ehp⟩ : ∃ b, decide (0 < h) = b := ⟨_, rfl⟩
    have x7 : hp = true → decide (o < B) = false := fun e => by
      rw [← ehp] at e
      have := BN.out.tn (of_decide_eq_true e)
      exact decide_eq_false (by omega)
    cases hp with
    | true =>
      have x7 := x7 rfl
      go_upto_region 10 with fail
      clear x1 x2 x3 x4 x5 x6 ehp c0 c1 c2 c3
      go_upto_region 11 with fail
      have RR := hid (Below.refl W3.heap.size W3)
      go_loopw [11, 12, 13] (fun lv wv iv wr => ∃ i : Nat, i ≤ m ∧ iv = .int .i64 i ∧ lv = .int .u64 (sL - sumL (l.take i)) ∧ wv = .bool (decide (l.take i = (cts fs).take i)) ∧ Hid (Below W3.heap.size W3 wr)) (fun _ _ iv _ => m - (intOf iv).toNat)
      case atStart => exact ⟨0, Nat.zero_le _, rfl, by simp [sumL], by simp, RR⟩
      case round =>
        obtain ⟨i, hin, rfl, rfl, rfl, BW⟩ := hrel
        clear RR
        have C3 := hid (row_on R3.out BW.out)
        have c0 : wr.cell? ⟨g3, 0, none⟩ = some (.int .u64 o) := row_cell C3.out 0
        have c1 : wr.cell? ⟨g3, 1, none⟩ = some (.int .u64 h) := row_cell C3.out 1
        have c2 : wr.cell? ⟨g3, 2, none⟩ = some (.slice p m m) := row_cell C3.out 2
        have c3 : wr.cell? ⟨g3, 3, none⟩ = some (.int .u64 lf) := row_cell C3.out 3
        by_cases hlt : i < m
        · obtain ⟨lt0, hlt0⟩ : ∃ x, sL - sumL (l.take i) = x := ⟨_, rfl⟩
          obtain ⟨wh, hwh⟩ : ∃ x, decide (l.take i = (cts fs).take i) = x := ⟨_, rfl⟩
          have HLT0 := hid hlt0
          have HWH := hid hwh
          rw [hlt0, hwh]
          have hif : i < fs.length := by rw [HN.out]; exact hlt
          have hil : i < l.length := by rw [HM.out]; exact hlt
          obtain ⟨b, off, rfl, hb, k1, k2⟩ := ((HR.out.on D3.out).on BW.out) i hif
          obtain ⟨g, rfl, ux⟩ : ∃ g, p = some ⟨g, 0, none⟩ ∧ Uw wr g l.length l := by
            rcases KF3.out with ⟨_, e⟩ | ⟨g, e, _, h2⟩
            · rw [e] at hil; simp at hil
            · exact ⟨g, e, h2.on BW.out⟩
          have u0 := ux.cell hil
          obtain ⟨ci, hci⟩ : ∃ c, (fs[i]'hif).ct = c := ⟨_, rfl⟩
          obtain ⟨li, hli⟩ : ∃ c, gd l i = c := ⟨_, rfl⟩
          have hwi : gd (cts fs) i = ci := by rw [cts_gd hif, hci]
          rw [hci] at k2
          rw [hli] at u0
          obtain ⟨q1, q2, q3, q4⟩ := BN.out.each i (by rw [cts_len]; exact hif)
          rw [hwi, hli] at q2
          rw [hli] at q1 q3 q4
          rw [HSL.out, hlt0] at q3
          have HS2 := hid (show sL - sumL (l.take (i + 1)) = lt0 - li from by rw [sumL_take_one hil, hli]; omega)
          have y1 : decide (ci < li) = false := decide_eq_false (by omega)
          have y2 : decide (lt0 < li) = false := decide_eq_false (by omega)
          have HPR := hid (show 0 ≤ lt0 ∧ lt0 ≤ A from by
            obtain ⟨p1, p2⟩ := BN.out.pre i
            have := BN.out.o0
            have := BN.out.h0
            have := HSL.out
            have := HLT0.out
            omega)
          have y3 : IntKind.u64.wrap (lt0 - li) = lt0 - li := by have := HPR.out; have := HA.out.2; rw [IntKind.wrap_u64]; omega
          have HW2 := hid (show decide (l.take (i + 1) = (cts fs).take (i + 1)) = (wh && (li == ci)) from by
            have hic : i < (cts fs).length := by rw [cts_len]; exact hif
            rw [List.take_succ_eq_append_getElem hil, List.take_succ_eq_append_getElem hic, ← gd_get hil, ← gd_get hic, hli, hwi, ← hwh]
            rw [Bool.eq_iff_iff]
            simp only [decide_eq_true_eq, Bool.and_eq_true, beq_iff_eq]
            constructor
            · intro e
              obtain ⟨e1, e2⟩ := List.append_inj' e rfl
              exact ⟨e1, by simpa using e2⟩
            · rintro ⟨e1, e2⟩
              rw [e1, e2])
          have i0 : (0 : Int) ≤ (i : Int) := by omega
          have i1 : (i : Int) < (m : Int) := by omega
          have wi : IntKind.i64.wrap ((i : Int) + 1) = ((i + 1 : Nat) : Int) := by have := HNB.out; rw [IntKind.wrap_i64]; omega
          have HLT := hid hlt
          have HQ4 := hid q4
          obtain ⟨ps, hps⟩ : ∃ x, decide (0 < li) = x := ⟨_, rfl⟩
          have HPS := hid hps
          clear hlt0 hwh hb ux hci hli hwi q1 q2 q3 q4 hil k1 hif
          go_upto_region 13 with fail
          cases ps with
          | true =>
            obtain ⟨z1, z2⟩ := HQ4.out (of_decide_eq_true HPS.out)
            have y4 : decide (h < H) = false := decide_eq_false (by omega)
            have y5 : decide (o < B) = false := decide_eq_false (by omega)
            clear z1 z2
            go_big_quiet (fail)
            have u0' : (wr.drewN nq).cell? ⟨g, i, none⟩ = some (.int .u64 li) := u0
            have k2' : (wr.drewN nq).cell? ⟨b, off + i * 2 + 1, none⟩ = some (.int .u64 ci) := k2
            have c2' : (wr.drewN nq).cell? ⟨g3, 2, none⟩ = some (.slice (some ⟨g, 0, none⟩) m m) := c2
            have BQ := hid (show Below W3.heap.size W3 (wr.drewN nq) from below_drewN BW.out nq)
            obtain ⟨V, hV⟩ : ∃ V, wr.drewN nq = V := ⟨_, rfl⟩
            rw [hV] at u0' k2' c2' BQ ⊢
            clear hV u0 k2 c0 c1 c2 c3 y1 y2 y4 y5
            go_upto_region 15 with fail
            cases wh with
            | true =>
              have BQ2 := hid (show ∀ k, Below W3.heap.size W3 (V.drewN k) from fun k => below_drewN BQ.out k)
              go_big_quiet (fail)
              go_wp2
              go_roundw
              case rel => exact ⟨i + 1, HLT.out, by go_num, by rw [HS2.out], by rw [HW2.out]; rfl, BQ2.out _⟩
              case measure => have := HLT.out; simp [intOf]; omega
            | false =>
              have BQ2 := hid (show ∀ k, Below W3.heap.size W3 (V.drewN k) from fun k => below_drewN BQ.out k)
              go_big_quiet (fail)
              go_wp2
              go_roundw
              case rel => exact ⟨i + 1, HLT.out, by go_num, by rw [HS2.out], by rw [HW2.out]; rfl, BQ2.out _⟩
              case measure => have := HLT.out; simp [intOf]; omega
          | false =>
            go_big_quiet (fail)
            have u0' : (wr.drewN nq).cell? ⟨g, i, none⟩ = some (.int .u64 li) := u0
            have k2' : (wr.drewN nq).cell? ⟨b, off + i * 2 + 1, none⟩ = some (.int .u64 ci) := k2
            have c2' : (wr.drewN nq).cell? ⟨g3, 2, none⟩ = some (.slice (some ⟨g, 0, none⟩) m m) := c2
            have BQ := hid (show Below W3.heap.size W3 (wr.drewN nq) from below_drewN BW.out nq)
            obtain ⟨V, hV⟩ : ∃ V, wr.drewN nq = V := ⟨_, rfl⟩
            rw [hV] at u0' k2' c2' BQ ⊢
            clear hV u0 k2 c0 c1 c2 c3 y1 y2 
            go_upto_region 15 with fail
            cases wh with
            | true =>
              have BQ2 := hid (show ∀ k, Below W3.heap.size W3 (V.drewN k) from fun k => below_drewN BQ.out k)
              go_big_quiet (fail)
              go_wp2
              go_roundw
              case rel => exact ⟨i + 1, HLT.out, by go_num, by rw [HS2.out], by rw [HW2.out]; rfl, BQ2.out _⟩
              case measure => have := HLT.out; simp [intOf]; omega
            | false =>
              have BQ2 := hid (show ∀ k, Below W3.heap.size W3 (V.drewN k) from fun k => below_drewN BQ.out k)
              go_big_quiet (fail)
              go_wp2
              go_roundw
              case rel => exact ⟨i + 1, HLT.out, by go_num, by rw [HS2.out], by rw [HW2.out]; rfl, BQ2.out _⟩
              case measure => have := HLT.out; simp [intOf]; omega
        · obtain rfl : i = m := by omega
          have eL : l.take i = l := by rw [← HM.out, List.take_length]
          have eW : (cts fs).take i = cts fs := by rw [← HN.out, ← cts_len, List.take_length]
          rw [eL, eW]
          have eF : sL - sumL l = lf := by rw [BN.out.left, HSL.out]
          rw [eF]
          have BX := hid (btr D3.out BW.out)
          have iF : decide ((i : Int) < (i : Int)) = false := by simp
          have xl : (lf == lf) = true := by simp
          by_cases z0 : lf = 0
          · subst z0
            clear C3 eL eW eF
            go_wp2
            go_ret
            exact ⟨rfl, BX.out⟩
          · obtain ⟨z1, rfl, rfl⟩ := BN.out.all z0
            have z2 : (lf == 0) = false := by simpa using z0
            have z3 : (o == o) = true := by simp
            have z4 : (h == h) = true := by simp
            have z5 : decide (l = cts fs) = true := by rw [z1]; simp
            rw [z5]
            clear C3 eL eW eF z1 z5 z0
            go_wp2
            go_ret
            exact ⟨rfl, BX.out⟩
    | false =>
      clear x7
      go_upto_region 10 with fail
      clear x1 x2 x3 x4 x5 x6 ehp c0 c1 c2 c3
      go_upto_region 11 with fail
      have RR := hid (Below.refl W3.heap.size W3)
      go_loopw [11, 12, 13] (fun lv wv iv wr => ∃ i : Nat, i ≤ m ∧ iv = .int .i64 i ∧ lv = .int .u64 (sL - sumL (l.take i)) ∧ wv = .bool (decide (l.take i = (cts fs).take i)) ∧ Hid (Below W3.heap.size W3 wr)) (fun _ _ iv _ => m - (intOf iv).toNat)
      case atStart => exact ⟨0, Nat.zero_le _, rfl, by simp [sumL], by simp, RR⟩
      case round =>
        obtain ⟨i, hin, rfl, rfl, rfl, BW⟩ := hrel
        clear RR
        have C3 := hid (row_on R3.out BW.out)
        have c0 : wr.cell? ⟨g3, 0, none⟩ = some (.int .u64 o) := row_cell C3.out 0
        have c1 : wr.cell? ⟨g3, 1, none⟩ = some (.int .u64 h) := row_cell C3.out 1
        have c2 : wr.cell? ⟨g3, 2, none⟩ = some (.slice p m m) := row_cell C3.out 2
        have c3 : wr.cell? ⟨g3, 3, none⟩ = some (.int .u64 lf) := row_cell C3.out 3
        by_cases hlt : i < m
        · obtain ⟨lt0, hlt0⟩ : ∃ x, sL - sumL (l.take i) = x := ⟨_, rfl⟩
          obtain ⟨wh, hwh⟩ : ∃ x, decide (l.take i = (cts fs).take i) = x := ⟨_, rfl⟩
          have HLT0 := hid hlt0
          have HWH := hid hwh
          rw [hlt0, hwh]
          have hif : i < fs.length := by rw [HN.out]; exact hlt
          have hil : i < l.length := by rw [HM.out]; exact hlt
          obtain ⟨b, off, rfl, hb, k1, k2⟩ := ((HR.out.on D3.out).on BW.out) i hif
          obtain ⟨g, rfl, ux⟩ : ∃ g, p = some ⟨g, 0, none⟩ ∧ Uw wr g l.length l := by
            rcases KF3.out with ⟨_, e⟩ | ⟨g, e, _, h2⟩
            · rw [e] at hil; simp at hil
            · exact ⟨g, e, h2.on BW.out⟩
          have u0 := ux.cell hil
          obtain ⟨ci, hci⟩ : ∃ c, (fs[i]'hif).ct = c := ⟨_, rfl⟩
          obtain ⟨li, hli⟩ : ∃ c, gd l i = c := ⟨_, rfl⟩
          have hwi : gd (cts fs) i = ci := by rw [cts_gd hif, hci]
          rw [hci] at k2
          rw [hli] at u0
          obtain ⟨q1, q2, q3, q4⟩ := BN.out.each i (by rw [cts_len]; exact hif)
          rw [hwi, hli] at q2
          rw [hli] at q1 q3 q4
          rw [HSL.out, hlt0] at q3
          have HS2 := hid (show sL - sumL (l.take (i + 1)) = lt0 - li from by rw [sumL_take_one hil, hli]; omega)
          have y1 : decide (ci < li) = false := decide_eq_false (by omega)
          have y2 : decide (lt0 < li) = false := decide_eq_false (by omega)
          have HPR := hid (show 0 ≤ lt0 ∧ lt0 ≤ A from by
            obtain ⟨p1, p2⟩ := BN.out.pre i
            have := BN.out.o0
            have := BN.out.h0
            have := HSL.out
            have := HLT0.out
            omega)
          have y3 : IntKind.u64.wrap (lt0 - li) = lt0 - li := by have := HPR.out; have := HA.out.2; rw [IntKind.wrap_u64]; omega
          have HW2 := hid (show decide (l.take (i + 1) = (cts fs).take (i + 1)) = (wh && (li == ci)) from by
            have hic : i < (cts fs).length := by rw [cts_len]; exact hif
            rw [List.take_succ_eq_append_getElem hil, List.take_succ_eq_append_getElem hic, ← gd_get hil, ← gd_get hic, hli, hwi, ← hwh]
            rw [Bool.eq_iff_iff]
            simp only [decide_eq_true_eq, Bool.and_eq_true, beq_iff_eq]
            constructor
            · intro e
              obtain ⟨e1, e2⟩ := List.append_inj' e rfl
              exact ⟨e1, by simpa using e2⟩
            · rintro ⟨e1, e2⟩
              rw [e1, e2])
          have i0 : (0 : Int) ≤ (i : Int) := by omega
          have i1 : (i : Int) < (m : Int) := by omega
          have wi : IntKind.i64.wrap ((i : Int) + 1) = ((i + 1 : Nat) : Int) := by have := HNB.out; rw [IntKind.wrap_i64]; omega
          have HLT := hid hlt
          have HQ4 := hid q4
          obtain ⟨ps, hps⟩ : ∃ x, decide (0 < li) = x := ⟨_, rfl⟩
          have HPS := hid hps
          clear hlt0 hwh hb ux hci hli hwi q1 q2 q3 q4 hil k1 hif
          go_upto_region 13 with fail
          cases ps with
          | true =>
            obtain ⟨z1, z2⟩ := HQ4.out (of_decide_eq_true HPS.out)
            have y4 : decide (h < H) = false := decide_eq_false (by omega)
            have y5 : decide (o < B) = false := decide_eq_false (by omega)
            clear z1 z2
            go_big_quiet (fail)
            have u0' : (wr.drewN nq).cell? ⟨g, i, none⟩ = some (.int .u64 li) := u0
            have k2' : (wr.drewN nq).cell? ⟨b, off + i * 2 + 1, none⟩ = some (.int .u64 ci) := k2
            have c2' : (wr.drewN nq).cell? ⟨g3, 2, none⟩ = some (.slice (some ⟨g, 0, none⟩) m m) := c2
            have BQ := hid (show Below W3.heap.size W3 (wr.drewN nq) from below_drewN BW.out nq)
            obtain ⟨V, hV⟩ : ∃ V, wr.drewN nq = V := ⟨_, rfl⟩
            rw [hV] at u0' k2' c2' BQ ⊢
            clear hV u0 k2 c0 c1 c2 c3 y1 y2 y4 y5
            go_upto_region 15 with fail
            cases wh with
            | true =>
              have BQ2 := hid (show ∀ k, Below W3.heap.size W3 (V.drewN k) from fun k => below_drewN BQ.out k)
              go_big_quiet (fail)
              go_wp2
              go_roundw
              case rel => exact ⟨i + 1, HLT.out, by go_num, by rw [HS2.out], by rw [HW2.out]; rfl, BQ2.out _⟩
              case measure => have := HLT.out; simp [intOf]; omega
            | false =>
              have BQ2 := hid (show ∀ k, Below W3.heap.size W3 (V.drewN k) from fun k => below_drewN BQ.out k)
              go_big_quiet (fail)
              go_wp2
              go_roundw
              case rel => exact ⟨i + 1, HLT.out, by go_num, by rw [HS2.out], by rw [HW2.out]; rfl, BQ2.out _⟩
              case measure => have := HLT.out; simp [intOf]; omega
          | false =>
            go_big_quiet (fail)
            have u0' : (wr.drewN nq).cell? ⟨g, i, none⟩ = some (.int .u64 li) := u0
            have k2' : (wr.drewN nq).cell? ⟨b, off + i * 2 + 1, none⟩ = some (.int .u64 ci) := k2
            have c2' : (wr.drewN nq).cell? ⟨g3, 2, none⟩ = some (.slice (some ⟨g, 0, none⟩) m m) := c2
            have BQ := hid (show Below W3.heap.size W3 (wr.drewN nq) from below_drewN BW.out nq)
            obtain ⟨V, hV⟩ : ∃ V, wr.drewN nq = V := ⟨_, rfl⟩
            rw [hV] at u0' k2' c2' BQ ⊢
            clear hV u0 k2 c0 c1 c2 c3 y1 y2 
            go_upto_region 15 with fail
            cases wh with
            | true =>
              have BQ2 := hid (show ∀ k, Below W3.heap.size W3 (V.drewN k) from fun k => below_drewN BQ.out k)
              go_big_quiet (fail)
              go_wp2
              go_roundw
              case rel => exact ⟨i + 1, HLT.out, by go_num, by rw [HS2.out], by rw [HW2.out]; rfl, BQ2.out _⟩
              case measure => have := HLT.out; simp [intOf]; omega
            | false =>
              have BQ2 := hid (show ∀ k, Below W3.heap.size W3 (V.drewN k) from fun k => below_drewN BQ.out k)
              go_big_quiet (fail)
              go_wp2
              go_roundw
              case rel => exact ⟨i + 1, HLT.out, by go_num, by rw [HS2.out], by rw [HW2.out]; rfl, BQ2.out _⟩
              case measure => have := HLT.out; simp [intOf]; omega
        · obtain rfl : i = m := by omega
          have eL : l.take i = l := by rw [← HM.out, List.take_length]
          have eW : (cts fs).take i = cts fs := by rw [← HN.out, ← cts_len, List.take_length]
          rw [eL, eW]
          have eF : sL - sumL l = lf := by rw [BN.out.left, HSL.out]
          rw [eF]
          have BX := hid (btr D3.out BW.out)
          have iF : decide ((i : Int) < (i : Int)) = false := by simp
          have xl : (lf == lf) = true := by simp
          by_cases z0 : lf = 0
          · subst z0
            clear C3 eL eW eF
            go_wp2
            go_ret
            exact ⟨rfl, BX.out⟩
          · obtain ⟨z1, rfl, rfl⟩ := BN.out.all z0
            have z2 : (lf == 0) = false := by simpa using z0
            have z3 : (o == o) = true := by simp
            have z4 : (h == h) = true := by simp
            have z5 : decide (l = cts fs) = true := by rw [z1]; simp
            rw [z5]
            clear C3 eL eW eF z1 z5 z0
            go_wp2
            go_ret
            exact ⟨rfl, BX.out⟩
  · obtain ⟨rfl, rfl, rfl, rfl, rfl⟩ : er = 10 ∧ o = 0 ∧ h = 0 ∧ l = [] ∧ lf = 0 := by
      rcases KC.out with ⟨_, h⟩ | ⟨_, h, _⟩
      · exact h
      · exact absurd h e0
    obtain rfl : m = 0 := HM.out.symm
    have c0 := row_cell R3.out 0
    have c1 := row_cell R3.out 1
    have c2 := row_cell R3.out 2
    have c3 := row_cell R3.out 3
    simp only [List.getElem?_toArray, List.getElem?_cons_succ, List.getElem?_cons_zero] at c0 c1 c2 c3
    go_wp2
    go_ret
    exact ⟨rfl, D3.out⟩
end Go.Proofs.Ytegaphjbepcgfaa.Ss
