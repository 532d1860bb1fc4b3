/-
  The document's goes.
-/
import Derived.Test.YtiphgfghdbmlcaaFhJ
namespace Go.Proofs.Ytiphgfghdbmlcaa
open Go.RowKit Go.Deep Go.Shelf
set_option linter.unusedVariables false
set_option linter.unusedSimpArgs false
set_option maxHeartbeats 8000000
set_option maxRecDepth 100000
/-- what the document's subscriber is behind a call. -/
def Rb (w : World) (hold : Nat) (s : Ss) (p1 p2 p3 : Option Addr) (v : Value) (w' : World) : Prop := ∃ q1 e1 q2 e2 q3 e3, v = .agg #[.int .i64 hold, .int .u64 s.sq, .slice q1 s.l1.length e1, .slice q2 s.l2.length e2, .slice q3 s.L.length e3, .int .u64 s.gr, .int .u64 s.la.sq, .int .i64 s.la.kd, .int .i64 s.la.sd, .int .i64 s.la.pr, .int .u64 s.la.qt, .int .i64 s.la.ct] ∧ Rd w' s q1 e1 q2 e2 q3 e3 ∧ Fr w.heap.size p1 q1 ∧ Fr w.heap.size p2 q2 ∧ Fr w.heap.size p3 q3 ∧ Below w.heap.size w w'
theorem row12c {w : World} {g : Nat} {t : TypeId} {a0 a1 a2 a3 a4 a5 a6 a7 a8 a9 a10 a11 : Value} (h : w.heap[g]? = some (.cells #[a0, a1, a2, a3, a4, a5, a6, a7, a8, a9, a10, a11] t (0, 0))) : w.cell? ⟨g, 0, none⟩ = some a0 ∧ w.cell? ⟨g, 1, none⟩ = some a1 ∧ w.cell? ⟨g, 2, none⟩ = some a2 ∧ w.cell? ⟨g, 3, none⟩ = some a3 ∧ w.cell? ⟨g, 4, none⟩ = some a4 ∧ w.cell? ⟨g, 5, none⟩ = some a5 ∧ w.cell? ⟨g, 6, none⟩ = some a6 ∧ w.cell? ⟨g, 7, none⟩ = some a7 ∧ w.cell? ⟨g, 8, none⟩ = some a8 ∧ w.cell? ⟨g, 9, none⟩ = some a9 ∧ w.cell? ⟨g, 10, none⟩ = some a10 ∧ w.cell? ⟨g, 11, none⟩ = some a11 :=
  ⟨row_cell h 0, row_cell h 1, row_cell h 2, row_cell h 3, row_cell h 4, row_cell h 5, row_cell h 6, row_cell h 7, row_cell h 8, row_cell h 9, row_cell h 10, row_cell h 11⟩
theorem dv_nil (U : World) (q : Option Addr) : ∀ ad, q = some ad → ∀ j u, (dvc [])[j]? = some u → U.cell? (ad.add j) = some u := by
  intro ad _ j u h
  simp [dvc] at h
theorem infoRSa (a0 a1 a2 a3 a4 a5 a6 a7 a8 a9 a10 a11 : Value) : (Try.prog.info? 57).map (·.size) = some (#[a0, a1, a2, a3, a4, a5, a6, a7, a8, a9, a10, a11] : Array Value).size := infoRS
theorem rgoes_any (hold : Nat) (hh : hold ≤ 1024) (s : Ss) (hg : Sg hold s) (p1 p2 p3 : Option Addr) (c1 c2 c3 : Nat) (w : World) (h : Rd w s p1 c1 p2 c2 p3 c3) :
    Calls Try.prog 57 #[.agg #[.int .i64 hold, .int .u64 s.sq, .slice p1 s.l1.length c1, .slice p2 s.l2.length c2, .slice p3 s.L.length c3, .int .u64 s.gr, .int .u64 s.la.sq, .int .i64 s.la.kd, .int .i64 s.la.sd, .int .i64 s.la.pr, .int .u64 s.la.qt, .int .i64 s.la.ct]] w fun e w' => ∃ v, e = .returned v ∧ Rb w hold (goS s) p1 p2 p3 v w' := by
  obtain ⟨G, hG⟩ : ∃ G, goS s = G := ⟨_, rfl⟩
  rw [hG]
  obtain ⟨R, hR⟩ : ∃ R, w.heap.size = R := ⟨_, rfl⟩
  obtain ⟨W, hW⟩ : ∃ W, (w.alloc (.cells #[.int .i64 hold, .int .u64 s.sq, .slice p1 s.l1.length c1, .slice p2 s.l2.length c2, .slice p3 s.L.length c3, .int .u64 s.gr, .int .u64 s.la.sq, .int .i64 s.la.kd, .int .i64 s.la.sd, .int .i64 s.la.pr, .int .u64 s.la.qt, .int .i64 s.la.ct] 57)).alloc (.cells #[.int .i64 0, .int .u64 0, .slice none 0 0, .slice none 0 0, .slice none 0 0, .int .u64 0, .int .u64 0, .int .i64 0, .int .i64 0, .int .i64 0, .int .u64 0, .int .i64 0] 57) = W := ⟨_, rfl⟩
  obtain ⟨hb0, x0, x1, hs⟩ := alloc2 hR hW
  have HB0 := hid hb0
  have HR0 := hid (x0 _ _ rfl)
  have HZ0 := hid (x1 _ _ rfl)
  have HRD := hid (h.on hb0)
  have HG0 := hid hg
  have HGG := hid hG
  have HW := hid hW
  have HR := hid hR
  clear hb0 x0 x1 hs h hg hG hW hR
  go_enter Try.func57, Try.ntmps57
  go_wp2
  rw [HW.out, HR.out]
  go_loopg [] (s.L.length) (fun k wr => ∃ (t : Ss) (q1 : Option Addr) (e1 : Nat) (q2 : Option Addr) (e2 : Nat) (q3 : Option Addr) (e3 : Nat), Hid (wr.heap[R]? = some (.cells #[.int .i64 hold, .int .u64 t.sq, .slice q1 t.l1.length e1, .slice q2 t.l2.length e2, .slice q3 t.L.length e3, .int .u64 t.gr, .int .u64 t.la.sq, .int .i64 t.la.kd, .int .i64 t.la.sd, .int .i64 t.la.pr, .int .u64 t.la.qt, .int .i64 t.la.ct] 57 (0, 0))) ∧ Hid (wr.heap[R + 1]? = some (.cells #[.int .i64 0, .int .u64 0, .slice none 0 0, .slice none 0 0, .slice none 0 0, .int .u64 0, .int .u64 0, .int .i64 0, .int .i64 0, .int .i64 0, .int .u64 0, .int .i64 0] 57 (0, 0))) ∧ Hid (Rd wr t q1 e1 q2 e2 q3 e3) ∧ Hid (Sg hold t) ∧ Hid (goS t = G) ∧ Hid (t.L.length = k) ∧ Hid (Below w.heap.size w wr) ∧ Hid (Fr w.heap.size p1 q1) ∧ Hid (Fr w.heap.size p2 q2) ∧ Hid (Fr w.heap.size p3 q3))
  case atStart => exact ⟨s, p1, c1, p2, c2, p3, c3, HR0.out, HZ0.out, HRD.out, HG0.out, HGG.out, rfl, HB0.out, Fr.refl _ _, Fr.refl _ _, Fr.refl _ _⟩
  case round =>
    obtain ⟨t, q1, e1, q2, e2, q3, e3, HRW, HZW, HD, HG, HE, HK, HB, HF1, HF2, HF3⟩ := hrel
    clear HR0 HZ0 HRD HG0 HGG HB0
    obtain ⟨sq, gr, l1, l2, L, la⟩ := t
    obtain ⟨y, hy⟩ : ∃ y, IntKind.u64.wrap (sq + 1) = y := ⟨_, rfl⟩
    obtain ⟨n1, hn1⟩ : ∃ n, l1.length = n := ⟨_, rfl⟩
    obtain ⟨n2, hn2⟩ : ∃ n, l2.length = n := ⟨_, rfl⟩
    obtain ⟨n, hn⟩ : ∃ n, L.length = n := ⟨_, rfl⟩
    have HROW := hid (show wr.heap[R]? = some (.cells #[.int .i64 hold, .int .u64 sq, .slice q1 n1 e1, .slice q2 n2 e2, .slice q3 n e3, .int .u64 gr, .int .u64 la.sq, .int .i64 la.kd, .int .i64 la.sd, .int .i64 la.pr, .int .u64 la.qt, .int .i64 la.ct] 57 (0, 0)) from by rw [← hn1, ← hn2, ← hn]; exact HRW.out)
    have CH := hid (rheld_any hold sq gr y n1 n2 e1 e2 e3 0 q1 q2 q3 L la wr HD.out.o3)
    rw [hn] at CH
    have hn1024 : n ≤ 1024 := by have := HG.out.len; dsimp only at this; omega
    have HN := hid hn
    have HN1 := hid hn1
    have HN2 := hid hn2
    obtain ⟨k0, k1, k2, k3, k4, k5, k6, k7, k8, k9, k10, k11⟩ := row12c HROW.out
    clear hn hn1 hn2 HRW
    cases hx : hasN L y with
    | false =>
      have HNX := hid (show G = ⟨sq, gr, l1, l2, L, la⟩ from by rw [← HE.out]; exact goS_no (by rw [show uw (sq + 1) = y from hy]; exact hx))
      rw [hix_no hx, show hixI none = -1 from rfl] at CH
      clear hx
      go_upto_region 3 with (go_at_call 55; with_reducible refine (CH.out).mono ?_; rintro e V1 ⟨rfl, hb⟩; have BV1 := hid hb; clear hb)
      clear k0 k1 k2 k3 k4 k5 k6 k7 k8 k9 k10 k11
      obtain ⟨k0, k1, k2, k3, k4, k5, k6, k7, k8, k9, k10, k11⟩ := row12c (row_on HROW.out BV1.out)
      have HZ1 := hid (row_on HZW.out BV1.out)
      have AS := hid (show (#[.int .i64 0, .int .u64 0, .slice none 0 0, .slice none 0 0, .slice none 0 0, .int .u64 0, .int .u64 0, .int .i64 0, .int .i64 0, .int .i64 0, .int .u64 0, .int .i64 0] : Array Value).size = (#[.int .i64 hold, .int .u64 sq, .slice q1 n1 e1, .slice q2 n2 e2, .slice q3 n e3, .int .u64 gr, .int .u64 la.sq, .int .i64 la.kd, .int .i64 la.sd, .int .i64 la.pr, .int .u64 la.qt, .int .i64 la.ct] : Array Value).size from rfl)
      have AA := hid (show (#[.int .i64 hold, .int .u64 sq, .slice q1 n1 e1, .slice q2 n2 e2, .slice q3 n e3, .int .u64 gr, .int .u64 la.sq, .int .i64 la.kd, .int .i64 la.sd, .int .i64 la.pr, .int .u64 la.qt, .int .i64 la.ct] : Array Value).all (·.oneCell') = true from by simp [Value.oneCell'])
      have AI := hid (infoRSa (.int .i64 hold) (.int .u64 sq) (.slice q1 n1 e1) (.slice q2 n2 e2) (.slice q3 n e3) (.int .u64 gr) (.int .u64 la.sq) (.int .i64 la.kd) (.int .i64 la.sd) (.int .i64 la.pr) (.int .u64 la.qt) (.int .i64 la.ct))
      go_wp2_with (refine wpList_store_row (by rfl) 57 (.tmp 2) (.tmp 13) (by rfl) (R + 1) #[.int .i64 hold, .int .u64 sq, .slice q1 n1 e1, .slice q2 n2 e2, .slice q3 n e3, .int .u64 gr, .int .u64 la.sq, .int .i64 la.kd, .int .i64 la.sd, .int .i64 la.pr, .int .u64 la.qt, .int .i64 la.ct] (by rfl) (by rfl) 57 _ HZ1.out AI.out AS.out AA.out ?_)
      refine bodyPost_ret (results_cell_row (fn := Try.f57) Try.results57 _ _ (R + 1) 57 #[.int .i64 hold, .int .u64 sq, .slice q1 n1 e1, .slice q2 n2 e2, .slice q3 n e3, .int .u64 gr, .int .u64 la.sq, .int .i64 la.kd, .int .i64 la.sd, .int .i64 la.pr, .int .u64 la.qt, .int .i64 la.ct] (0, 0) _ (by rfl) (setRow_heap _ _ _ _ 57 (0, 0) HZ1.out) Try.underlying57 rfl infoRS) rfl ?_
      have hz : Below w.heap.size w (V1.setRow (R + 1) #[.int .i64 hold, .int .u64 sq, .slice q1 n1 e1, .slice q2 n2 e2, .slice q3 n e3, .int .u64 gr, .int .u64 la.sq, .int .i64 la.kd, .int .i64 la.sd, .int .i64 la.pr, .int .u64 la.qt, .int .i64 la.ct]) := setRow_below (btr HB.out BV1.out) (by have := HR.out; omega)
      have hd := HD.out.on BV1.out
      refine ⟨_, rfl, q1, e1, q2, e2, q3, e3, by rw [HNX.out, ← HN.out, ← HN1.out, ← HN2.out], ?_, HF1.out, HF2.out, HF3.out, hz⟩
      rw [HNX.out]
      have ne : ∀ g t cu, t ≠ 57 → V1.heap[g]? = some (.cells cu t (0, 0)) → ¬ g = R + 1 := fun g t cu ht hc e => row_ne hc HZ1.out ht e
      exact hd.kept (setRow_kp _ _ _) (fun g hg => by obtain ⟨cu, hc⟩ := hd.o1.ty hg; exact ne _ _ _ (by decide) hc) (fun g hg => by obtain ⟨cu, hc⟩ := hd.o2.ty hg; exact ne _ _ _ (by decide) hc) (fun g hg => by obtain ⟨cu, hc⟩ := hd.o3.ty hg; exact ne _ _ _ (by decide) hc)
    | true =>
      obtain ⟨i, hi, hi1, hi2, hi3⟩ := hix_yes hx HG.out.nd
      obtain ⟨m, hm⟩ : ∃ m, fnd L y = m := ⟨_, rfl⟩
      rw [hm] at hi2
      have hfm := HG.out.fnd (k := y) hx
      dsimp only at hfm
      rw [hm] at hfm
      have HFM := hid hfm
      have HX := hid (show hasN L (uw (sq + 1)) = true from by rw [show uw (sq + 1) = y from hy]; exact hx)
      have HNX := hid (show nxS ⟨sq, gr, l1, l2, L, la⟩ = doS ⟨sq, gr, l1, l2, wo L y, la⟩ m from by
        unfold nxS
        dsimp only
        rw [show uw (sq + 1) = y from hy, hm])
      rw [hi1, show hixI (some i) = (i : Int) from rfl] at CH
      obtain ⟨g, rfl, sg, a0, a1, a2, a3, a4, a5⟩ := HD.out.o3.cells (i := i) hi
      dsimp only at a0 a1 a2 a3 a4 a5
      rw [hi2] at a0 a1 a2 a3 a4 a5
      have HI := hid hi
      have HI3 := hid hi3
      have hin : i < n := by have := HN.out; omega
      have hne3 : n ≤ e3 ∧ e3 ≤ 9223372036854775807 := by
        have := own_cap HD.out.o3
        unfold maxLen at this
        dsimp only at this
        have := HN.out
        omega
      have i0 : (0 : Int) ≤ (i : Int) := by omega
      have i1 : (i : Int) < (n : Int) := by omega
      have i2 : decide ((i : Int) < 0) = false := by simp
      have HCE := hid (show ∀ U, Below wr.heap.size wr U → ∀ j u, (dvc L)[j]? = some u → U.cell? ⟨g, j, none⟩ = some u from fun U hU j u hj => by
        have := (own_cells (HD.out.o3.on hU)).2 j u hj
        rw [Addr.add_lit, Nat.zero_add] at this
        exact this)
      clear hx hi1 hi2 hi3 hm hfm hi
      go_upto_region 4 with (go_at_call 55; with_reducible refine (CH.out).mono ?_; rintro e V1 ⟨rfl, hb⟩; have BV1 := hid hb; clear hb)
      clear k0 k1 k2 k3 k4 k5 k6 k7 k8 k9 k10 k11 CH
      have k4 := row_cell (row_on HROW.out BV1.out) 4
      have a0 := (BV1.out.cell (p := ⟨g, i * 6, none⟩) sg).trans a0
      have a1 := (BV1.out.cell (p := ⟨g, i * 6 + 1, none⟩) sg).trans a1
      have a2 := (BV1.out.cell (p := ⟨g, i * 6 + 2, none⟩) sg).trans a2
      have a3 := (BV1.out.cell (p := ⟨g, i * 6 + 3, none⟩) sg).trans a3
      have a4 := (BV1.out.cell (p := ⟨g, i * 6 + 4, none⟩) sg).trans a4
      have a5 := (BV1.out.cell (p := ⟨g, i * 6 + 5, none⟩) sg).trans a5
      go_upto_region 5 with fail
      obtain ⟨V4, hV4⟩ : ∃ V, V1.alloc (.cells #[.int .u64 m.sq, .int .i64 m.kd, .int .i64 m.sd, .int .i64 m.pr, .int .u64 m.qt, .int .i64 m.ct] 48) = V := ⟨_, rfl⟩
      obtain ⟨D, hDD⟩ : ∃ D, V1.heap.size = D := ⟨_, rfl⟩
      have BV4 := hid (show Below wr.heap.size wr V4 from by rw [← hV4]; exact btr BV1.out (ball _ _))
      have HD4 := hid (show V4.heap[D]? = some (.cells #[.int .u64 m.sq, .int .i64 m.kd, .int .i64 m.sd, .int .i64 m.pr, .int .u64 m.qt, .int .i64 m.ct] 48 (0, 0)) from by rw [← hV4, ← hDD]; exact World.alloc_heap_new _ _)
      rw [hV4, hDD]
      clear hV4 hDD k4 a0 a1 a2 a3 a4 a5
      have HR4 := hid (row_on HROW.out BV4.out)
      have m4 := row_cell HR4.out 4
      have sR : R < V4.heap.size := row_lt HR4.out
      have fz := row_frz HR4.out 4
      have B1 := hid (show Below V4.heap.size V4 ((V4.alloc (.cells #[] 48)).drew) from btr (ball _ _) (bdrew1 _))
      have O1 := hid (show ((V4.alloc (.cells #[] 48)).drew).ownsRow V4.heap.size 48 6 (.slice (some ⟨V4.heap.size, 0, none⟩) 0 0) 0 (dvc []) from own_on (own_d0 V4) (bdrew1 _))
      have HCV := hid (show ∀ U, Below V4.heap.size V4 U → ∀ a b, b ≤ L.length → ∀ ad, some (⟨g, a * 6, none⟩ : Addr) = some ad → ∀ j u, (dvc ((L.take b).drop a))[j]? = some u → U.cell? (ad.add j) = some u from fun U hU a b hb ad e j u hj => by
        injection e with e
        subst e
        rw [dvc_drop, dvc_take, List.getElem?_drop, List.getElem?_take] at hj
        split at hj
        · rw [Addr.add_lit]
          exact HCE.out U (btr BV4.out hU) _ _ hj
        · cases hj)
      have C1 := hid (show ∀ ad, some (⟨g, 0, none⟩ : Addr) = some ad → ∀ j u, (dvc (L.take i))[j]? = some u → ((V4.alloc (.cells #[] 48)).drew).cell? (ad.add j) = some u from by
        have := HCV.out _ B1.out 0 i (by have := HI.out; omega)
        rw [Nat.zero_mul, List.drop_zero] at this
        exact this)
      have LT := hid (show (L.take i).length = i from by rw [List.length_take]; have := HI.out; omega)
      have LD := hid (show (L.drop (i + 1)).length = n - (i + 1) from by rw [List.length_drop, HN.out])
      obtain ⟨nk, hnk⟩ : ∃ k, (wo L y).length = k := ⟨_, rfl⟩
      have HNK := hid hnk
      have hk2 : i + (n - (i + 1)) = nk := by rw [← hnk, ← HI3.out, List.length_append, LT.out, LD.out]
      have w1 : IntKind.i64.wrap ((i : Int) + 1) = (i : Int) + 1 := by rw [IntKind.wrap_i64]; omega
      have b1 : (0 : Int) ≤ (i : Int) + 1 := by omega
      have t1 : ((i : Int) + 1).toNat = i + 1 := by omega
      have b4 : (i : Int) + 1 ≤ (n : Int) := by omega
      have b5 : (i : Int) ≤ (e3 : Int) := by omega
      have b6 : (n : Int) ≤ (e3 : Int) := by omega
      clear hnk sg
      by_cases hz : i + 1 < n
      · have c1 : ¬ e3 = i + 1 := by omega
        have C2 := hid (show ∀ U, Below V4.heap.size V4 U → ∀ ad, some (⟨g, (i + 1) * 6, none⟩ : Addr) = some ad → ∀ j u, (dvc (L.drop (i + 1)))[j]? = some u → U.cell? (ad.add j) = some u from fun U hU => by
          have := HCV.out U hU (i + 1) L.length (Nat.le_refl _)
          rw [List.take_length] at this
          exact this)
        go_region_law (first | (refine step_dw (by rfl) (.tmp 19) (.tmp 23) (by rfl) V4.heap.size _ 0 [] (by rfl) O1.out (some ⟨g, 0, none⟩) _ i (L.take i) (by rfl) (fun e => by cases e) LT.out C1.out i (by omega) (L.take i) rfl (by omega) B1.out.size ?_; intro pa ca wa HA1 HA2; have VA := hid (below_grown (base := 0) B1.out O1.out HA2.out); have f4 := row_cell (row_on HR4.out VA.out) 4; have fza := row_frz (row_on HR4.out VA.out) 4) | (refine step_dw (by rfl) (.tmp 24) (.tmp 29) (by rfl) V4.heap.size _ i (L.take i) (by rfl) HA1.out (some ⟨g, (i + 1) * 6, none⟩) (e3 - (i + 1)) (n - (i + 1)) (L.drop (i + 1)) (by rfl) (fun e => by cases e) LD.out (C2.out wa VA.out) nk hk2 (wo L y) HI3.out (by omega) VA.out.size ?_; intro pb cb wb HB1 HB2; have VB := hid (below_grown (base := 0) VA.out HA1.out HB2.out); have g4 := row_cell (row_on HR4.out VB.out) 4; have fzb := row_frz (row_on HR4.out VB.out) 4))
        all_goals
          clear m4 fz f4 fza g4 fzb
          obtain ⟨V5, hV5⟩ : ∃ V, wb.setCell ⟨R, 4, none⟩ (.slice pb nk cb) = V := ⟨_, rfl⟩
          have HR5 := hid (show V5.heap[R]? = some (.cells #[.int .i64 hold, .int .u64 sq, .slice q1 n1 e1, .slice q2 n2 e2, .slice pb nk cb, .int .u64 gr, .int .u64 la.sq, .int .i64 la.kd, .int .i64 la.sd, .int .i64 la.pr, .int .u64 la.qt, .int .i64 la.ct] 57 (0, 0)) from by rw [← hV5]; exact set_row _ (row_on HR4.out VB.out))
          have K5 := hid (show Kp (fun j => j = R) wb V5 from by rw [← hV5]; exact Kp.set _ _ _ _)
          have BWB := hid (btr BV4.out VB.out)
          have HD5 := hid (K5.out.row (row_on HD4.out VB.out) (fun e => row_ne (row_on HD4.out VB.out) (row_on HR4.out VB.out) (by decide) e))
          have HZ5 := hid (K5.out.row (row_on HZW.out BWB.out) (fun e => by have e' : R + 1 = R := e; omega))
          have HB5 := hid (show Below w.heap.size w V5 from (btr HB.out BWB.out).trans (K5.out.below (btr HB.out BWB.out).size (fun g hg e => by have := HR.out; omega)))
          have HRD5 := hid (show Rd V5 ⟨sq, gr, l1, l2, wo L y, la⟩ q1 e1 q2 e2 pb cb from by
            have hd := HD.out.on BWB.out
            have hw : Dw 0 wb pb cb (wo L y) := by
              unfold Dw
              rw [HNK.out]
              exact own_base HB1.out (Nat.zero_le _)
            have hRb := row_on HR4.out VB.out
            exact ⟨hd.o1.kept K5.out (fun g hg e => by obtain ⟨cu, hc⟩ := hd.o1.ty hg; exact row_ne hc hRb (by decide) e), hd.o2.kept K5.out (fun g hg e => by obtain ⟨cu, hc⟩ := hd.o2.ty hg; exact row_ne hc hRb (by decide) e), hw.kept K5.out (fun g hg e => by obtain ⟨cu, hc⟩ := hw.ty hg; exact row_ne hc hRb (by decide) e)⟩)
          have HPB := hid (show ∀ g, OfP pb g → w.heap.size ≤ g from fun g hg => by
            have h1 := own_base HB1.out (Nat.le_refl _)
            have h2 : V4.heap.size ≤ g := own_geP HB1.out hg
            exact Nat.le_trans (btr HB.out BV4.out).size h2)
          rw [hV5]
          clear hV5
          have CD := hid (rdoes_any m HFM.out.1 hold ⟨sq, gr, l1, l2, wo L y, la⟩ q1 q2 pb e1 e2 nk cb V5 HRD5.out.o1 HRD5.out.o2 HG.out.k1.len HG.out.k2.len)
          dsimp only at CD
          rw [← HNX.out, HN1.out, HN2.out] at CD
          obtain ⟨N, hNN⟩ : ∃ N, nxS ⟨sq, gr, l1, l2, L, la⟩ = N := ⟨_, rfl⟩
          rw [hNN] at CD
          have HNN := hid hNN
          obtain ⟨m1, hm1⟩ : ∃ k, N.l1.length = k := ⟨_, rfl⟩
          obtain ⟨m2, hm2⟩ : ∃ k, N.l2.length = k := ⟨_, rfl⟩
          rw [hm1, hm2] at CD
          have HM1 := hid hm1
          have HM2 := hid hm2
          clear hNN hm1 hm2
          obtain ⟨k0, k1, k2, k3, k4, k5, k6, k7, k8, k9, k10, k11⟩ := row12c HR5.out
          obtain ⟨j0, j1, j2, j3, j4, j5⟩ := row6 HD5.out
          have AA := hid (show ∀ (r1 : Option Addr) (f1 : Nat) (r2 : Option Addr) (f2 : Nat), (#[.int .i64 hold, .int .u64 N.sq, .slice r1 m1 f1, .slice r2 m2 f2, .slice pb nk cb, .int .u64 gr, .int .u64 N.la.sq, .int .i64 N.la.kd, .int .i64 N.la.sd, .int .i64 N.la.pr, .int .u64 N.la.qt, .int .i64 N.la.ct] : Array Value).all (·.oneCell') = true from fun _ _ _ _ => by simp [Value.oneCell'])
          go_upto_region 6 with fail
          go_wp2_with (first | (go_at_call 56; with_reducible refine (CD.out).mono ?_; rintro e V6 ⟨r1, f1, r2, f2, rfl, x1, x2, x3, x4, x5⟩; have X1 := hid x1; have X2 := hid x2; have X3 := hid x3; have X4 := hid x4; have X5 := hid x5; have HR6 := hid (row_on HR5.out x5); clear x1 x2 x3 x4 x5) | (refine wpList_store_row (by rfl) 57 (.tmp 1) (.tmp 34) (by rfl) R #[.int .i64 hold, .int .u64 N.sq, .slice r1 m1 f1, .slice r2 m2 f2, .slice pb nk cb, .int .u64 gr, .int .u64 N.la.sq, .int .i64 N.la.kd, .int .i64 N.la.sd, .int .i64 N.la.pr, .int .u64 N.la.qt, .int .i64 N.la.ct] (by rfl) (by rfl) 57 _ HR6.out (infoRSa _ _ _ _ _ _ _ _ _ _ _ _) (by rfl) (AA.out r1 f1 r2 f2) ?_))
          go_roundg (N.L.length)
          case measure =>
            have := HK.out
            rw [← this, ← HNN.out]
            exact wo_lt HX.out
          case rel =>
            have hNL : N.L = wo L y ∧ N.gr = gr := by rw [← HNN.out, HNX.out]; exact ⟨rfl, rfl⟩
            have hR6 := HR6.out
            have k6 : Kp (fun j => j = R) V6 _ := setRow_kp V6 R #[.int .i64 hold, .int .u64 N.sq, .slice r1 m1 f1, .slice r2 m2 f2, .slice pb nk cb, .int .u64 gr, .int .u64 N.la.sq, .int .i64 N.la.kd, .int .i64 N.la.sd, .int .i64 N.la.pr, .int .u64 N.la.qt, .int .i64 N.la.ct]
            have hw6 := HRD5.out.o3.on X5.out
            refine ⟨N, r1, f1, r2, f2, pb, cb, ?_, k6.row (row_on HZ5.out X5.out) (fun e => by have e' : R + 1 = R := e; omega), ⟨?_, ?_, ?_⟩, ?_, ?_, rfl, ?_, ?_, ?_, ?_⟩
            · have := setRow_heap V6 R _ #[.int .i64 hold, .int .u64 N.sq, .slice r1 m1 f1, .slice r2 m2 f2, .slice pb nk cb, .int .u64 gr, .int .u64 N.la.sq, .int .i64 N.la.kd, .int .i64 N.la.sd, .int .i64 N.la.pr, .int .u64 N.la.qt, .int .i64 N.la.ct] 57 (0, 0) hR6
              rw [hNL.1, hNL.2, HM1.out, HM2.out, HNK.out]
              exact this
            · exact X1.out.kept k6 (fun g hg e => by obtain ⟨cu, hc⟩ := X1.out.ty hg; exact row_ne hc hR6 (by decide) e)
            · exact X2.out.kept k6 (fun g hg e => by obtain ⟨cu, hc⟩ := X2.out.ty hg; exact row_ne hc hR6 (by decide) e)
            · rw [hNL.1]; exact hw6.kept k6 (fun g hg e => by obtain ⟨cu, hc⟩ := hw6.ty hg; exact row_ne hc hR6 (by decide) e)
            · rw [← HNN.out]; exact HG.out.nxS HX.out
            · rw [← HNN.out, ← goS_yes HX.out]; exact HE.out
            · exact setRow_below (btr HB5.out X5.out) (by have := HR.out; omega)
            · intro g hg
              rcases X3.out g hg with h | h
              · exact HF1.out g h
              · exact .inr (Nat.le_trans HB5.out.size h)
            · intro g hg
              rcases X4.out g hg with h | h
              · exact HF2.out g h
              · exact .inr (Nat.le_trans HB5.out.size h)
            · exact fun g hg => .inr (HPB.out g hg)
      · obtain rfl : n = i + 1 := by omega
        have hk2 : i + 0 = nk := by omega
        have HI3 := hid (show L.take i ++ [] = wo L y from by have := HI3.out; rw [List.drop_of_length_le (by have := HN.out; omega)] at this; exact this)
        by_cases c1 : e3 = i + 1
        · subst c1
          have b7 : (i : Int) ≤ (i : Int) + 1 := by omega
          have b8 : i ≤ i + 1 := by omega
          go_region_law (first | (refine step_dw (by rfl) (.tmp 19) (.tmp 23) (by rfl) V4.heap.size _ 0 [] (by rfl) O1.out (some ⟨g, 0, none⟩) _ i (L.take i) (by rfl) (fun e => by cases e) LT.out C1.out i (by omega) (L.take i) rfl (by omega) B1.out.size ?_; intro pa ca wa HA1 HA2; have VA := hid (below_grown (base := 0) B1.out O1.out HA2.out); have f4 := row_cell (row_on HR4.out VA.out) 4; have fza := row_frz (row_on HR4.out VA.out) 4) | (refine step_dw (by rfl) (.tmp 24) (.tmp 29) (by rfl) V4.heap.size _ i (L.take i) (by rfl) HA1.out _ _ 0 [] (by rfl) (fun e => by cases e) rfl (dv_nil wa _) nk hk2 (wo L y) HI3.out (by omega) VA.out.size ?_; intro pb cb wb HB1 HB2; have VB := hid (below_grown (base := 0) VA.out HA1.out HB2.out); have g4 := row_cell (row_on HR4.out VB.out) 4; have fzb := row_frz (row_on HR4.out VB.out) 4))
          all_goals
            clear m4 fz f4 fza g4 fzb
            obtain ⟨V5, hV5⟩ : ∃ V, wb.setCell ⟨R, 4, none⟩ (.slice pb nk cb) = V := ⟨_, rfl⟩
            have HR5 := hid (show V5.heap[R]? = some (.cells #[.int .i64 hold, .int .u64 sq, .slice q1 n1 e1, .slice q2 n2 e2, .slice pb nk cb, .int .u64 gr, .int .u64 la.sq, .int .i64 la.kd, .int .i64 la.sd, .int .i64 la.pr, .int .u64 la.qt, .int .i64 la.ct] 57 (0, 0)) from by rw [← hV5]; exact set_row _ (row_on HR4.out VB.out))
            have K5 := hid (show Kp (fun j => j = R) wb V5 from by rw [← hV5]; exact Kp.set _ _ _ _)
            have BWB := hid (btr BV4.out VB.out)
            have HD5 := hid (K5.out.row (row_on HD4.out VB.out) (fun e => row_ne (row_on HD4.out VB.out) (row_on HR4.out VB.out) (by decide) e))
            have HZ5 := hid (K5.out.row (row_on HZW.out BWB.out) (fun e => by have e' : R + 1 = R := e; omega))
            have HB5 := hid (show Below w.heap.size w V5 from (btr HB.out BWB.out).trans (K5.out.below (btr HB.out BWB.out).size (fun g hg e => by have := HR.out; omega)))
            have HRD5 := hid (show Rd V5 ⟨sq, gr, l1, l2, wo L y, la⟩ q1 e1 q2 e2 pb cb from by
              have hd := HD.out.on BWB.out
              have hw : Dw 0 wb pb cb (wo L y) := by
                unfold Dw
                rw [HNK.out]
                exact own_base HB1.out (Nat.zero_le _)
              have hRb := row_on HR4.out VB.out
              exact ⟨hd.o1.kept K5.out (fun g hg e => by obtain ⟨cu, hc⟩ := hd.o1.ty hg; exact row_ne hc hRb (by decide) e), hd.o2.kept K5.out (fun g hg e => by obtain ⟨cu, hc⟩ := hd.o2.ty hg; exact row_ne hc hRb (by decide) e), hw.kept K5.out (fun g hg e => by obtain ⟨cu, hc⟩ := hw.ty hg; exact row_ne hc hRb (by decide) e)⟩)
            have HPB := hid (show ∀ g, OfP pb g → w.heap.size ≤ g from fun g hg => by
              have h1 := own_base HB1.out (Nat.le_refl _)
              have h2 : V4.heap.size ≤ g := own_geP HB1.out hg
              exact Nat.le_trans (btr HB.out BV4.out).size h2)
            rw [hV5]
            clear hV5
            have CD := hid (rdoes_any m HFM.out.1 hold ⟨sq, gr, l1, l2, wo L y, la⟩ q1 q2 pb e1 e2 nk cb V5 HRD5.out.o1 HRD5.out.o2 HG.out.k1.len HG.out.k2.len)
            dsimp only at CD
            rw [← HNX.out, HN1.out, HN2.out] at CD
            obtain ⟨N, hNN⟩ : ∃ N, nxS ⟨sq, gr, l1, l2, L, la⟩ = N := ⟨_, rfl⟩
            rw [hNN] at CD
            have HNN := hid hNN
            obtain ⟨m1, hm1⟩ : ∃ k, N.l1.length = k := ⟨_, rfl⟩
            obtain ⟨m2, hm2⟩ : ∃ k, N.l2.length = k := ⟨_, rfl⟩
            rw [hm1, hm2] at CD
            have HM1 := hid hm1
            have HM2 := hid hm2
            clear hNN hm1 hm2
            obtain ⟨k0, k1, k2, k3, k4, k5, k6, k7, k8, k9, k10, k11⟩ := row12c HR5.out
            obtain ⟨j0, j1, j2, j3, j4, j5⟩ := row6 HD5.out
            have AA := hid (show ∀ (r1 : Option Addr) (f1 : Nat) (r2 : Option Addr) (f2 : Nat), (#[.int .i64 hold, .int .u64 N.sq, .slice r1 m1 f1, .slice r2 m2 f2, .slice pb nk cb, .int .u64 gr, .int .u64 N.la.sq, .int .i64 N.la.kd, .int .i64 N.la.sd, .int .i64 N.la.pr, .int .u64 N.la.qt, .int .i64 N.la.ct] : Array Value).all (·.oneCell') = true from fun _ _ _ _ => by simp [Value.oneCell'])
            go_upto_region 6 with fail
            go_wp2_with (first | (go_at_call 56; with_reducible refine (CD.out).mono ?_; rintro e V6 ⟨r1, f1, r2, f2, rfl, x1, x2, x3, x4, x5⟩; have X1 := hid x1; have X2 := hid x2; have X3 := hid x3; have X4 := hid x4; have X5 := hid x5; have HR6 := hid (row_on HR5.out x5); clear x1 x2 x3 x4 x5) | (refine wpList_store_row (by rfl) 57 (.tmp 1) (.tmp 34) (by rfl) R #[.int .i64 hold, .int .u64 N.sq, .slice r1 m1 f1, .slice r2 m2 f2, .slice pb nk cb, .int .u64 gr, .int .u64 N.la.sq, .int .i64 N.la.kd, .int .i64 N.la.sd, .int .i64 N.la.pr, .int .u64 N.la.qt, .int .i64 N.la.ct] (by rfl) (by rfl) 57 _ HR6.out (infoRSa _ _ _ _ _ _ _ _ _ _ _ _) (by rfl) (AA.out r1 f1 r2 f2) ?_))
            go_roundg (N.L.length)
            case measure =>
              have := HK.out
              rw [← this, ← HNN.out]
              exact wo_lt HX.out
            case rel =>
              have hNL : N.L = wo L y ∧ N.gr = gr := by rw [← HNN.out, HNX.out]; exact ⟨rfl, rfl⟩
              have hR6 := HR6.out
              have k6 : Kp (fun j => j = R) V6 _ := setRow_kp V6 R #[.int .i64 hold, .int .u64 N.sq, .slice r1 m1 f1, .slice r2 m2 f2, .slice pb nk cb, .int .u64 gr, .int .u64 N.la.sq, .int .i64 N.la.kd, .int .i64 N.la.sd, .int .i64 N.la.pr, .int .u64 N.la.qt, .int .i64 N.la.ct]
              have hw6 := HRD5.out.o3.on X5.out
              refine ⟨N, r1, f1, r2, f2, pb, cb, ?_, k6.row (row_on HZ5.out X5.out) (fun e => by have e' : R + 1 = R := e; omega), ⟨?_, ?_, ?_⟩, ?_, ?_, rfl, ?_, ?_, ?_, ?_⟩
              · have := setRow_heap V6 R _ #[.int .i64 hold, .int .u64 N.sq, .slice r1 m1 f1, .slice r2 m2 f2, .slice pb nk cb, .int .u64 gr, .int .u64 N.la.sq, .int .i64 N.la.kd, .int .i64 N.la.sd, .int .i64 N.la.pr, .int .u64 N.la.qt, .int .i64 N.la.ct] 57 (0, 0) hR6
                rw [hNL.1, hNL.2, HM1.out, HM2.out, HNK.out]
                exact this
              · exact X1.out.kept k6 (fun g hg e => by obtain ⟨cu, hc⟩ := X1.out.ty hg; exact row_ne hc hR6 (by decide) e)
              · exact X2.out.kept k6 (fun g hg e => by obtain ⟨cu, hc⟩ := X2.out.ty hg; exact row_ne hc hR6 (by decide) e)
              · rw [hNL.1]; exact hw6.kept k6 (fun g hg e => by obtain ⟨cu, hc⟩ := hw6.ty hg; exact row_ne hc hR6 (by decide) e)
              · rw [← HNN.out]; exact HG.out.nxS HX.out
              · rw [← HNN.out, ← goS_yes HX.out]; exact HE.out
              · exact setRow_below (btr HB5.out X5.out) (by have := HR.out; omega)
              · intro g hg
                rcases X3.out g hg with h | h
                · exact HF1.out g h
                · exact .inr (Nat.le_trans HB5.out.size h)
              · intro g hg
                rcases X4.out g hg with h | h
                · exact HF2.out g h
                · exact .inr (Nat.le_trans HB5.out.size h)
              · exact fun g hg => .inr (HPB.out g hg)
        · skip
          go_region_law (first | (refine step_dw (by rfl) (.tmp 19) (.tmp 23) (by rfl) V4.heap.size _ 0 [] (by rfl) O1.out (some ⟨g, 0, none⟩) _ i (L.take i) (by rfl) (fun e => by cases e) LT.out C1.out i (by omega) (L.take i) rfl (by omega) B1.out.size ?_; intro pa ca wa HA1 HA2; have VA := hid (below_grown (base := 0) B1.out O1.out HA2.out); have f4 := row_cell (row_on HR4.out VA.out) 4; have fza := row_frz (row_on HR4.out VA.out) 4) | (refine step_dw (by rfl) (.tmp 24) (.tmp 29) (by rfl) V4.heap.size _ i (L.take i) (by rfl) HA1.out _ _ 0 [] (by rfl) (fun e => by cases e) rfl (dv_nil wa _) nk hk2 (wo L y) HI3.out (by omega) VA.out.size ?_; intro pb cb wb HB1 HB2; have VB := hid (below_grown (base := 0) VA.out HA1.out HB2.out); have g4 := row_cell (row_on HR4.out VB.out) 4; have fzb := row_frz (row_on HR4.out VB.out) 4))
          all_goals
            clear m4 fz f4 fza g4 fzb
            obtain ⟨V5, hV5⟩ : ∃ V, wb.setCell ⟨R, 4, none⟩ (.slice pb nk cb) = V := ⟨_, rfl⟩
            have HR5 := hid (show V5.heap[R]? = some (.cells #[.int .i64 hold, .int .u64 sq, .slice q1 n1 e1, .slice q2 n2 e2, .slice pb nk cb, .int .u64 gr, .int .u64 la.sq, .int .i64 la.kd, .int .i64 la.sd, .int .i64 la.pr, .int .u64 la.qt, .int .i64 la.ct] 57 (0, 0)) from by rw [← hV5]; exact set_row _ (row_on HR4.out VB.out))
            have K5 := hid (show Kp (fun j => j = R) wb V5 from by rw [← hV5]; exact Kp.set _ _ _ _)
            have BWB := hid (btr BV4.out VB.out)
            have HD5 := hid (K5.out.row (row_on HD4.out VB.out) (fun e => row_ne (row_on HD4.out VB.out) (row_on HR4.out VB.out) (by decide) e))
            have HZ5 := hid (K5.out.row (row_on HZW.out BWB.out) (fun e => by have e' : R + 1 = R := e; omega))
            have HB5 := hid (show Below w.heap.size w V5 from (btr HB.out BWB.out).trans (K5.out.below (btr HB.out BWB.out).size (fun g hg e => by have := HR.out; omega)))
            have HRD5 := hid (show Rd V5 ⟨sq, gr, l1, l2, wo L y, la⟩ q1 e1 q2 e2 pb cb from by
              have hd := HD.out.on BWB.out
              have hw : Dw 0 wb pb cb (wo L y) := by
                unfold Dw
                rw [HNK.out]
                exact own_base HB1.out (Nat.zero_le _)
              have hRb := row_on HR4.out VB.out
              exact ⟨hd.o1.kept K5.out (fun g hg e => by obtain ⟨cu, hc⟩ := hd.o1.ty hg; exact row_ne hc hRb (by decide) e), hd.o2.kept K5.out (fun g hg e => by obtain ⟨cu, hc⟩ := hd.o2.ty hg; exact row_ne hc hRb (by decide) e), hw.kept K5.out (fun g hg e => by obtain ⟨cu, hc⟩ := hw.ty hg; exact row_ne hc hRb (by decide) e)⟩)
            have HPB := hid (show ∀ g, OfP pb g → w.heap.size ≤ g from fun g hg => by
              have h1 := own_base HB1.out (Nat.le_refl _)
              have h2 : V4.heap.size ≤ g := own_geP HB1.out hg
              exact Nat.le_trans (btr HB.out BV4.out).size h2)
            rw [hV5]
            clear hV5
            have CD := hid (rdoes_any m HFM.out.1 hold ⟨sq, gr, l1, l2, wo L y, la⟩ q1 q2 pb e1 e2 nk cb V5 HRD5.out.o1 HRD5.out.o2 HG.out.k1.len HG.out.k2.len)
            dsimp only at CD
            rw [← HNX.out, HN1.out, HN2.out] at CD
            obtain ⟨N, hNN⟩ : ∃ N, nxS ⟨sq, gr, l1, l2, L, la⟩ = N := ⟨_, rfl⟩
            rw [hNN] at CD
            have HNN := hid hNN
            obtain ⟨m1, hm1⟩ : ∃ k, N.l1.length = k := ⟨_, rfl⟩
            obtain ⟨m2, hm2⟩ : ∃ k, N.l2.length = k := ⟨_, rfl⟩
            rw [hm1, hm2] at CD
            have HM1 := hid hm1
            have HM2 := hid hm2
            clear hNN hm1 hm2
            obtain ⟨k0, k1, k2, k3, k4, k5, k6, k7, k8, k9, k10, k11⟩ := row12c HR5.out
            obtain ⟨j0, j1, j2, j3, j4, j5⟩ := row6 HD5.out
            have AA := hid (show ∀ (r1 : Option Addr) (f1 : Nat) (r2 : Option Addr) (f2 : Nat), (#[.int .i64 hold, .int .u64 N.sq, .slice r1 m1 f1, .slice r2 m2 f2, .slice pb nk cb, .int .u64 gr, .int .u64 N.la.sq, .int .i64 N.la.kd, .int .i64 N.la.sd, .int .i64 N.la.pr, .int .u64 N.la.qt, .int .i64 N.la.ct] : Array Value).all (·.oneCell') = true from fun _ _ _ _ => by simp [Value.oneCell'])
            go_upto_region 6 with fail
            go_wp2_with (first | (go_at_call 56; with_reducible refine (CD.out).mono ?_; rintro e V6 ⟨r1, f1, r2, f2, rfl, x1, x2, x3, x4, x5⟩; have X1 := hid x1; have X2 := hid x2; have X3 := hid x3; have X4 := hid x4; have X5 := hid x5; have HR6 := hid (row_on HR5.out x5); clear x1 x2 x3 x4 x5) | (refine wpList_store_row (by rfl) 57 (.tmp 1) (.tmp 34) (by rfl) R #[.int .i64 hold, .int .u64 N.sq, .slice r1 m1 f1, .slice r2 m2 f2, .slice pb nk cb, .int .u64 gr, .int .u64 N.la.sq, .int .i64 N.la.kd, .int .i64 N.la.sd, .int .i64 N.la.pr, .int .u64 N.la.qt, .int .i64 N.la.ct] (by rfl) (by rfl) 57 _ HR6.out (infoRSa _ _ _ _ _ _ _ _ _ _ _ _) (by rfl) (AA.out r1 f1 r2 f2) ?_))
            go_roundg (N.L.length)
            case measure =>
              have := HK.out
              rw [← this, ← HNN.out]
              exact wo_lt HX.out
            case rel =>
              have hNL : N.L = wo L y ∧ N.gr = gr := by rw [← HNN.out, HNX.out]; exact ⟨rfl, rfl⟩
              have hR6 := HR6.out
              have k6 : Kp (fun j => j = R) V6 _ := setRow_kp V6 R #[.int .i64 hold, .int .u64 N.sq, .slice r1 m1 f1, .slice r2 m2 f2, .slice pb nk cb, .int .u64 gr, .int .u64 N.la.sq, .int .i64 N.la.kd, .int .i64 N.la.sd, .int .i64 N.la.pr, .int .u64 N.la.qt, .int .i64 N.la.ct]
              have hw6 := HRD5.out.o3.on X5.out
              refine ⟨N, r1, f1, r2, f2, pb, cb, ?_, k6.row (row_on HZ5.out X5.out) (fun e => by have e' : R + 1 = R := e; omega), ⟨?_, ?_, ?_⟩, ?_, ?_, rfl, ?_, ?_, ?_, ?_⟩
              · have := setRow_heap V6 R _ #[.int .i64 hold, .int .u64 N.sq, .slice r1 m1 f1, .slice r2 m2 f2, .slice pb nk cb, .int .u64 gr, .int .u64 N.la.sq, .int .i64 N.la.kd, .int .i64 N.la.sd, .int .i64 N.la.pr, .int .u64 N.la.qt, .int .i64 N.la.ct] 57 (0, 0) hR6
                rw [hNL.1, hNL.2, HM1.out, HM2.out, HNK.out]
                exact this
              · exact X1.out.kept k6 (fun g hg e => by obtain ⟨cu, hc⟩ := X1.out.ty hg; exact row_ne hc hR6 (by decide) e)
              · exact X2.out.kept k6 (fun g hg e => by obtain ⟨cu, hc⟩ := X2.out.ty hg; exact row_ne hc hR6 (by decide) e)
              · rw [hNL.1]; exact hw6.kept k6 (fun g hg e => by obtain ⟨cu, hc⟩ := hw6.ty hg; exact row_ne hc hR6 (by decide) e)
              · rw [← HNN.out]; exact HG.out.nxS HX.out
              · rw [← HNN.out, ← goS_yes HX.out]; exact HE.out
              · exact setRow_below (btr HB5.out X5.out) (by have := HR.out; omega)
              · intro g hg
                rcases X3.out g hg with h | h
                · exact HF1.out g h
                · exact .inr (Nat.le_trans HB5.out.size h)
              · intro g hg
                rcases X4.out g hg with h | h
                · exact HF2.out g h
                · exact .inr (Nat.le_trans HB5.out.size h)
              · exact fun g hg => .inr (HPB.out g hg)
end Go.Proofs.Ytiphgfghdbmlcaa
