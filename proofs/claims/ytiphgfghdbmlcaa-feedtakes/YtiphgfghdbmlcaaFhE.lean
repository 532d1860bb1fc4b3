/-
  A subscriber does a message.
-/
import Derived.Test.YtiphgfghdbmlcaaFhD
namespace Go.Proofs.Ytiphgfghdbmlcaa
open Go.RowKit Go.Deep
set_option linter.unusedVariables false
set_option linter.unusedSimpArgs false
set_option maxHeartbeats 8000000
set_option maxRecDepth 100000
/-- a subscriber lies. -/
structure Su (w : World) (S M nm hold : Nat) (s : Ss) (p1 : Option Addr) (c1 : Nat) (p2 : Option Addr) (c2 : Nat) : Prop where
  sb : Sb w S M nm s.sq hold s.gr p1 c1 s.l1 p2 c2 s.l2 s.L s.la
  ap : ∀ g, OfP p1 g → ¬ OfP p2 g
theorem Su.on {w w' : World} {S M nm hold : Nat} {s : Ss} {p1 p2 : Option Addr} {c1 c2 : Nat} (h : Su w S M nm hold s p1 c1 p2 c2) (hb : Below w.heap.size w w') : Su w' S M nm hold s p1 c1 p2 c2 := ⟨h.sb.on hb, h.ap⟩
theorem Su.lt {w : World} {S M nm hold : Nat} {s : Ss} {p1 p2 : Option Addr} {c1 c2 : Nat} (h : Su w S M nm hold s p1 c1 p2 c2) : (∀ g, OfP p1 g → g < w.heap.size) ∧ (∀ g, OfP p2 g → g < w.heap.size) :=
  ⟨fun g hg => by obtain ⟨cu, hc⟩ := h.sb.o1.ty hg; exact row_lt hc, fun g hg => by obtain ⟨cu, hc⟩ := h.sb.o2.ty hg; exact row_lt hc⟩
theorem do_sellS {w : World} {S M nm hold : Nat} {s : Ss} {p1 p2 : Option Addr} {c1 c2 : Nat} (h : Su w S M nm hold s p1 c1 p2 c2) (d : Dm) (hok : dOk d = true) (hq : 0 ≤ d.sq ∧ d.sq < 18446744073709551616) (hk : d.kd = 1) (hsd : d.sd = 2) : Calls Try.prog 59 #[.pointer (some ⟨S, 0, none⟩), .agg #[.int .u64 d.sq, .int .i64 d.kd, .int .i64 d.sd, .int .i64 d.pr, .int .u64 d.qt, .int .i64 d.ct]] w fun e w' => e = .returned (.tuple #[]) ∧ ∃ q1 e1 q2 e2, Su w' S M nm hold (doS s d) q1 e1 q2 e2 ∧ Kp (fun g => g = S ∨ OfP p1 g ∨ OfP p2 g) w w' ∧ Fr w.heap.size p1 q1 ∧ Fr w.heap.size p2 q2 := by
  have hgn : dgn d = (d.ct == 0) := by
    have := (dOk_iff d).1 hok
    rw [Bool.eq_iff_iff]
    simp only [dgn, decide_eq_true_eq, beq_iff_eq]
    omega
  have hlok : Lok 2 (dnl d.sd (lvD d) (d.ct == 0) s.l2) := by
    have := h.sb.k2.dnS hok
    unfold dnS at this
    rw [if_pos ⟨hk, hsd⟩, ← hsd] at this
    rw [← hsd]
    exact this
  have e0 : doS s d = ⟨d.sq, s.gr, s.l1, dnl d.sd (lvD d) (d.ct == 0) s.l2, s.L, s.la⟩ := by
    unfold doS dnS
    simp [hk, hsd]
  obtain ⟨sq, gr, l1, l2, L, la⟩ := s
  obtain ⟨h, ap⟩ := h
  rw [e0]
  clear e0
  dsimp only at h hlok ⊢
  obtain ⟨D, hD⟩ : ∃ D, dnl d.sd (lvD d) (d.ct == 0) l2 = D := ⟨_, rfl⟩
  obtain ⟨R, hR⟩ : ∃ R, w.heap.size = R := ⟨_, rfl⟩
  obtain ⟨W, hW⟩ : ∃ W, w.alloc (.cells #[.int .u64 d.sq, .int .i64 d.kd, .int .i64 d.sd, .int .i64 d.pr, .int .u64 d.qt, .int .i64 d.ct] 48) = W := ⟨_, rfl⟩
  have hb0 : Below w.heap.size w W := by rw [← hW]; exact ball _ _
  have HD := hid (show W.heap[R]? = some (.cells #[.int .u64 d.sq, .int .i64 d.kd, .int .i64 d.sd, .int .i64 d.pr, .int .u64 d.qt, .int .i64 d.ct] 48 (0, 0)) from by rw [← hW, ← hR]; exact World.alloc_heap_new _ _)
  have HS := hid (h.on hb0)
  have HB := hid hb0
  have HW := hid hW
  have HR := hid hR
  have CE := hid (change_any p2 c2 l2 d W.drew (HS.out.o2.on (bdrew1 W)) (by rw [hsd]; exact h.k2) hgn)
  rw [hD] at CE hlok ⊢
  have q1 : (d.kd == 2) = false := by simp [hk]
  have q2 : (d.sd == 1) = false := by simp [hsd]
  obtain ⟨n2, hn2⟩ : ∃ n, l2.length = n := ⟨_, rfl⟩
  obtain ⟨m, hm⟩ : ∃ n, D.length = n := ⟨_, rfl⟩
  have HN := hid hn2
  have HM0 := hid hm
  obtain ⟨k0, k1, k2, k3, k4, k5⟩ := row12 HS.out.row
  obtain ⟨j0, j1, j2, j3, j4, j5⟩ := row6 HD.out
  rw [hn2] at CE k2
  rw [hm] at CE
  have HNW := hid hlok
  have HAP := hid ap
  have HLT := hid (Su.lt (s := ⟨sq, gr, l1, l2, L, la⟩) ⟨h, ap⟩)
  clear h hb0 hW hR k0 k1 k3 k4 k5 hk hsd hgn hn2 hm hlok ap hD hok
  go_enter Try.func59, Try.ntmps59
  go_upto_region 2 with fail
  rw [HW.out, HR.out]
  go_upto_region 1 with fail
  have LW := hid (show ∀ (w1 : World), Kp (fun g => OfP p2 g) W.drew w1 → w1.heap[S]? = some (.cells #[.int .u64 sq, .slice p1 l1.length c1, .slice p2 l2.length c2, .int .i64 hold, .map (some M), .int .u64 gr, .int .u64 la.sq, .int .i64 la.kd, .int .i64 la.sd, .int .i64 la.pr, .int .u64 la.qt, .int .i64 la.ct] 92 (0, 0)) ∧ w1.heap[R]? = some (.cells #[.int .u64 d.sq, .int .i64 d.kd, .int .i64 d.sd, .int .i64 d.pr, .int .u64 d.qt, .int .i64 d.ct] 48 (0, 0)) from fun w1 hk => by
    have hs := HS.out.on (bdrew1 W)
    refine ⟨hk.row hs.row (fun e => ?_), hk.row (row_on HD.out (bdrew1 W)) (fun e => ?_)⟩
    · obtain ⟨cu, hc⟩ := hs.o2.ty e; exact row_ne hc hs.row (by decide) rfl
    · obtain ⟨cu, hc⟩ := hs.o2.ty e; exact row_ne hc (row_on HD.out (bdrew1 W)) (by decide) rfl)
  go_region_law (go_simp; go_at_call 66; with_reducible refine (CE.out).mono ?_; rintro e w1 ⟨q, c', rfl, h1, h2, h3⟩; have F1 := hid h1; have F2 := hid h2; have F3 := hid h3; obtain ⟨g1, g2⟩ := LW.out w1 h2; have G1 := hid g1; have G2 := hid g2; have z2 := row_cell g1 2; have z3 := row_frz g1 2; clear h1 h2 h3 g1 g2)
  all_goals
    clear z2 z3
    obtain ⟨V, hV⟩ : ∃ V, w1.setCell ⟨S, 2, none⟩ (.slice q m c') = V := ⟨_, rfl⟩
    have GV := hid (show V.heap[S]? = some (.cells #[.int .u64 sq, .slice p1 l1.length c1, .slice q m c', .int .i64 hold, .map (some M), .int .u64 gr, .int .u64 la.sq, .int .i64 la.kd, .int .i64 la.sd, .int .i64 la.pr, .int .u64 la.qt, .int .i64 la.ct] 92 (0, 0)) from by rw [← hV]; exact set_row _ G1.out)
    have GD := hid (show V.heap[R]? = some (.cells #[.int .u64 d.sq, .int .i64 d.kd, .int .i64 d.sd, .int .i64 d.pr, .int .u64 d.qt, .int .i64 d.ct] 48 (0, 0)) from by rw [← hV]; exact set_oth _ G2.out (row_ne G2.out G1.out (by decide)))
    have KV := hid (show Kp (fun g => g = S) w1 V from by rw [← hV]; exact Kp.set _ _ _ _)
    rw [hV]
    clear hV
    have z0 := row_cell GV.out 0
    have z1 := row_frz GV.out 0
    obtain ⟨t0, t1, t2, t3, t4, t5⟩ := row6 GD.out
    go_wp2
    go_end0
    have hf : Fr w.heap.size p2 q := F3.out.mono (by have := HB.out.size; simpa using this)
    refine ⟨rfl, p1, c1, q, c', ⟨?_, ?_⟩, ?_, Fr.refl _ _, hf⟩
    · have hs := HS.out.on (bdrew1 W)
      have K2 := KV.out.trans (Kp.set V S 0 (.int .u64 d.sq)) (fun _ _ h => h)
      have ns : ∀ g, (∃ cu, w1.heap[g]? = some (.cells cu 89 (0, 0))) → ¬ g = S := fun g hg e => by obtain ⟨cu, hc⟩ := hg; exact row_ne hc G1.out (by decide) e
      have oo := hs.o1.kept F2.out (fun g hg => HAP.out g hg)
      have hM := hs.hm.kept F2.out (fun e => by obtain ⟨cu, hc⟩ := hs.o2.ty e; exact map_ne hs.hm hc rfl)
      refine ⟨?_, oo.kept K2 (fun g hg => ns g (oo.ty hg)), F1.out.kept K2 (fun g hg => ns g (F1.out.ty hg)), hs.k1, HNW.out, hM.kept K2 (fun e => map_ne hM G1.out e), hq, hs.gr⟩
      dsimp only
      rw [HM0.out]
      exact set_row _ GV.out
    · intro g hg hg2
      have hb := HLT.out.1 g hg
      rcases hf g hg2 with e | e
      · exact HAP.out g hg e
      · omega
    · refine (((Kp.of _ (btr HB.out (bdrew1 W))).trans F2.out (fun _ _ h => .inr (.inr h))).trans KV.out (fun _ _ h => .inl h)).trans (Kp.set V S 0 (.int .u64 d.sq)) (fun _ _ h => .inl h)
theorem do_buyS {w : World} {S M nm hold : Nat} {s : Ss} {p1 p2 : Option Addr} {c1 c2 : Nat} (h : Su w S M nm hold s p1 c1 p2 c2) (d : Dm) (hok : dOk d = true) (hq : 0 ≤ d.sq ∧ d.sq < 18446744073709551616) (hk : d.kd = 1) (hsd : d.sd = 1) : Calls Try.prog 59 #[.pointer (some ⟨S, 0, none⟩), .agg #[.int .u64 d.sq, .int .i64 d.kd, .int .i64 d.sd, .int .i64 d.pr, .int .u64 d.qt, .int .i64 d.ct]] w fun e w' => e = .returned (.tuple #[]) ∧ ∃ q1 e1 q2 e2, Su w' S M nm hold (doS s d) q1 e1 q2 e2 ∧ Kp (fun g => g = S ∨ OfP p1 g ∨ OfP p2 g) w w' ∧ Fr w.heap.size p1 q1 ∧ Fr w.heap.size p2 q2 := by
  have hgn : dgn d = (d.ct == 0) := by
    have := (dOk_iff d).1 hok
    rw [Bool.eq_iff_iff]
    simp only [dgn, decide_eq_true_eq, beq_iff_eq]
    omega
  have hlok : Lok 1 (dnl d.sd (lvD d) (d.ct == 0) s.l1) := by
    have := h.sb.k1.dnS hok
    unfold dnS at this
    rw [if_pos ⟨hk, hsd⟩, ← hsd] at this
    rw [← hsd]
    exact this
  have e0 : doS s d = ⟨d.sq, s.gr, dnl d.sd (lvD d) (d.ct == 0) s.l1, s.l2, s.L, s.la⟩ := by
    unfold doS dnS
    simp [hk, hsd]
  obtain ⟨sq, gr, l1, l2, L, la⟩ := s
  obtain ⟨h, ap⟩ := h
  rw [e0]
  clear e0
  dsimp only at h hlok ⊢
  obtain ⟨D, hD⟩ : ∃ D, dnl d.sd (lvD d) (d.ct == 0) l1 = D := ⟨_, rfl⟩
  obtain ⟨R, hR⟩ : ∃ R, w.heap.size = R := ⟨_, rfl⟩
  obtain ⟨W, hW⟩ : ∃ W, w.alloc (.cells #[.int .u64 d.sq, .int .i64 d.kd, .int .i64 d.sd, .int .i64 d.pr, .int .u64 d.qt, .int .i64 d.ct] 48) = W := ⟨_, rfl⟩
  have hb0 : Below w.heap.size w W := by rw [← hW]; exact ball _ _
  have HD := hid (show W.heap[R]? = some (.cells #[.int .u64 d.sq, .int .i64 d.kd, .int .i64 d.sd, .int .i64 d.pr, .int .u64 d.qt, .int .i64 d.ct] 48 (0, 0)) from by rw [← hW, ← hR]; exact World.alloc_heap_new _ _)
  have HS := hid (h.on hb0)
  have HB := hid hb0
  have HW := hid hW
  have HR := hid hR
  have CE := hid (change_any p1 c1 l1 d W.drew (HS.out.o1.on (bdrew1 W)) (by rw [hsd]; exact h.k1) hgn)
  rw [hD] at CE hlok ⊢
  have q1 : (d.kd == 2) = false := by simp [hk]
  have q2 : (d.sd == 1) = true := by simp [hsd]
  obtain ⟨n2, hn2⟩ : ∃ n, l1.length = n := ⟨_, rfl⟩
  obtain ⟨m, hm⟩ : ∃ n, D.length = n := ⟨_, rfl⟩
  have HN := hid hn2
  have HM0 := hid hm
  obtain ⟨k0, k1, k2, k3, k4, k5⟩ := row12 HS.out.row
  obtain ⟨j0, j1, j2, j3, j4, j5⟩ := row6 HD.out
  rw [hn2] at CE k1
  rw [hm] at CE
  have HNW := hid hlok
  have HAP := hid ap
  have HLT := hid (Su.lt (s := ⟨sq, gr, l1, l2, L, la⟩) ⟨h, ap⟩)
  clear h hb0 hW hR k0 k2 k3 k4 k5 hk hsd hgn hn2 hm hlok ap hD hok
  go_enter Try.func59, Try.ntmps59
  go_upto_region 2 with fail
  rw [HW.out, HR.out]
  go_upto_region 5 with fail
  have LW := hid (show ∀ (w1 : World), Kp (fun g => OfP p1 g) W.drew w1 → w1.heap[S]? = some (.cells #[.int .u64 sq, .slice p1 l1.length c1, .slice p2 l2.length c2, .int .i64 hold, .map (some M), .int .u64 gr, .int .u64 la.sq, .int .i64 la.kd, .int .i64 la.sd, .int .i64 la.pr, .int .u64 la.qt, .int .i64 la.ct] 92 (0, 0)) ∧ w1.heap[R]? = some (.cells #[.int .u64 d.sq, .int .i64 d.kd, .int .i64 d.sd, .int .i64 d.pr, .int .u64 d.qt, .int .i64 d.ct] 48 (0, 0)) from fun w1 hk => by
    have hs := HS.out.on (bdrew1 W)
    refine ⟨hk.row hs.row (fun e => ?_), hk.row (row_on HD.out (bdrew1 W)) (fun e => ?_)⟩
    · obtain ⟨cu, hc⟩ := hs.o1.ty e; exact row_ne hc hs.row (by decide) rfl
    · obtain ⟨cu, hc⟩ := hs.o1.ty e; exact row_ne hc (row_on HD.out (bdrew1 W)) (by decide) rfl)
  go_region_law (go_simp; go_at_call 66; with_reducible refine (CE.out).mono ?_; rintro e w1 ⟨q, c', rfl, h1, h2, h3⟩; have F1 := hid h1; have F2 := hid h2; have F3 := hid h3; obtain ⟨g1, g2⟩ := LW.out w1 h2; have G1 := hid g1; have G2 := hid g2; have z2 := row_cell g1 1; have z3 := row_frz g1 1; clear h1 h2 h3 g1 g2)
  all_goals
    clear z2 z3
    obtain ⟨V, hV⟩ : ∃ V, w1.setCell ⟨S, 1, none⟩ (.slice q m c') = V := ⟨_, rfl⟩
    have GV := hid (show V.heap[S]? = some (.cells #[.int .u64 sq, .slice q m c', .slice p2 l2.length c2, .int .i64 hold, .map (some M), .int .u64 gr, .int .u64 la.sq, .int .i64 la.kd, .int .i64 la.sd, .int .i64 la.pr, .int .u64 la.qt, .int .i64 la.ct] 92 (0, 0)) from by rw [← hV]; exact set_row _ G1.out)
    have GD := hid (show V.heap[R]? = some (.cells #[.int .u64 d.sq, .int .i64 d.kd, .int .i64 d.sd, .int .i64 d.pr, .int .u64 d.qt, .int .i64 d.ct] 48 (0, 0)) from by rw [← hV]; exact set_oth _ G2.out (row_ne G2.out G1.out (by decide)))
    have KV := hid (show Kp (fun g => g = S) w1 V from by rw [← hV]; exact Kp.set _ _ _ _)
    rw [hV]
    clear hV
    have z0 := row_cell GV.out 0
    have z1 := row_frz GV.out 0
    obtain ⟨t0, t1, t2, t3, t4, t5⟩ := row6 GD.out
    go_wp2
    go_end0
    have hf : Fr w.heap.size p1 q := F3.out.mono (by have := HB.out.size; simpa using this)
    refine ⟨rfl, q, c', p2, c2, ⟨?_, ?_⟩, ?_, hf, Fr.refl _ _⟩
    · have hs := HS.out.on (bdrew1 W)
      have K2 := KV.out.trans (Kp.set V S 0 (.int .u64 d.sq)) (fun _ _ h => h)
      have ns : ∀ g, (∃ cu, w1.heap[g]? = some (.cells cu 89 (0, 0))) → ¬ g = S := fun g hg e => by obtain ⟨cu, hc⟩ := hg; exact row_ne hc G1.out (by decide) e
      have oo := hs.o2.kept F2.out (fun g hg => fun e => HAP.out g e hg)
      have hM := hs.hm.kept F2.out (fun e => by obtain ⟨cu, hc⟩ := hs.o1.ty e; exact map_ne hs.hm hc rfl)
      refine ⟨?_, F1.out.kept K2 (fun g hg => ns g (F1.out.ty hg)), oo.kept K2 (fun g hg => ns g (oo.ty hg)), HNW.out, hs.k2, hM.kept K2 (fun e => map_ne hM G1.out e), hq, hs.gr⟩
      dsimp only
      rw [HM0.out]
      exact set_row _ GV.out
    · intro g hg hg2
      have hb := HLT.out.2 g hg2
      rcases hf g hg with e | e
      · exact HAP.out g e hg2
      · omega
    · refine (((Kp.of _ (btr HB.out (bdrew1 W))).trans F2.out (fun _ _ h => .inr (.inl h))).trans KV.out (fun _ _ h => .inl h)).trans (Kp.set V S 0 (.int .u64 d.sq)) (fun _ _ h => .inl h)
theorem do_trade {w : World} {S M nm hold : Nat} {s : Ss} {p1 p2 : Option Addr} {c1 c2 : Nat} (h : Su w S M nm hold s p1 c1 p2 c2) (d : Dm) (hok : dOk d = true) (hq : 0 ≤ d.sq ∧ d.sq < 18446744073709551616) (hk : d.kd = 2) : Calls Try.prog 59 #[.pointer (some ⟨S, 0, none⟩), .agg #[.int .u64 d.sq, .int .i64 d.kd, .int .i64 d.sd, .int .i64 d.pr, .int .u64 d.qt, .int .i64 d.ct]] w fun e w' => e = .returned (.tuple #[]) ∧ ∃ q1 e1 q2 e2, Su w' S M nm hold (doS s d) q1 e1 q2 e2 ∧ Kp (fun g => g = S ∨ OfP p1 g ∨ OfP p2 g) w w' ∧ Fr w.heap.size p1 q1 ∧ Fr w.heap.size p2 q2 := by
  have e0 : doS s d = ⟨d.sq, s.gr, s.l1, s.l2, s.L, d⟩ := by
    unfold doS dnS
    simp [hk]
  obtain ⟨sq, gr, l1, l2, L, la⟩ := s
  obtain ⟨h, ap⟩ := h
  rw [e0]
  clear e0
  dsimp only at h ⊢
  obtain ⟨R, hR⟩ : ∃ R, w.heap.size = R := ⟨_, rfl⟩
  obtain ⟨W, hW⟩ : ∃ W, w.alloc (.cells #[.int .u64 d.sq, .int .i64 d.kd, .int .i64 d.sd, .int .i64 d.pr, .int .u64 d.qt, .int .i64 d.ct] 48) = W := ⟨_, rfl⟩
  have hb0 : Below w.heap.size w W := by rw [← hW]; exact ball _ _
  have HD := hid (show W.heap[R]? = some (.cells #[.int .u64 d.sq, .int .i64 d.kd, .int .i64 d.sd, .int .i64 d.pr, .int .u64 d.qt, .int .i64 d.ct] 48 (0, 0)) from by rw [← hW, ← hR]; exact World.alloc_heap_new _ _)
  have HS := hid (h.on hb0)
  have HB := hid hb0
  have HW := hid hW
  have HR := hid hR
  have q1 : (d.kd == 2) = true := by simp [hk]
  have HAP := hid ap
  obtain ⟨j0, j1, j2, j3, j4, j5⟩ := row6 HD.out
  clear h hb0 hW hR hk ap hok
  have TH := hid (row_there HS.out.row 6 6 (by simp))
  have AD := hid (show ∀ a b c d e f : Value, (Try.prog.info? 48).map (·.size) = some (#[a, b, c, d, e, f] : Array Value).size from fun _ _ _ _ _ _ => infoD)
  go_enter Try.func59, Try.ntmps59
  go_upto_region 2 with fail
  rw [HW.out, HR.out]
  go_upto_region 6 with (refine wpList_store_mid (by rfl) 48 (.tmp 22) (.tmp 20) (by rfl) S 6 #[.int .u64 d.sq, .int .i64 d.kd, .int .i64 d.sd, .int .i64 d.pr, .int .u64 d.qt, .int .i64 d.ct] (by rfl) (by rfl) TH.out (AD.out _ _ _ _ _ _) (by simp [Value.oneCell']) ?_)
  obtain ⟨V, hV⟩ : ∃ V, W.setCells S 6 #[.int .u64 d.sq, .int .i64 d.kd, .int .i64 d.sd, .int .i64 d.pr, .int .u64 d.qt, .int .i64 d.ct].toList = V := ⟨_, rfl⟩
  have hV' : (((((W.setCell ⟨S, 6, none⟩ (.int .u64 d.sq)).setCell ⟨S, 7, none⟩ (.int .i64 d.kd)).setCell ⟨S, 8, none⟩ (.int .i64 d.sd)).setCell ⟨S, 9, none⟩ (.int .i64 d.pr)).setCell ⟨S, 10, none⟩ (.int .u64 d.qt)).setCell ⟨S, 11, none⟩ (.int .i64 d.ct) = V := hV
  have KV := hid (show Kp (fun g => g = S) W V from by rw [← hV']; exact (((((Kp.set _ _ _ _).trans (Kp.set _ _ _ _) (fun _ _ h => h)).trans (Kp.set _ _ _ _) (fun _ _ h => h)).trans (Kp.set _ _ _ _) (fun _ _ h => h)).trans (Kp.set _ _ _ _) (fun _ _ h => h)).trans (Kp.set _ _ _ _) (fun _ _ h => h))
  have GV := hid (show V.heap[S]? = some (.cells #[.int .u64 sq, .slice p1 l1.length c1, .slice p2 l2.length c2, .int .i64 hold, .map (some M), .int .u64 gr, .int .u64 d.sq, .int .i64 d.kd, .int .i64 d.sd, .int .i64 d.pr, .int .u64 d.qt, .int .i64 d.ct] 92 (0, 0)) from by rw [← hV']; exact set_row _ (set_row _ (set_row _ (set_row _ (set_row _ (set_row _ HS.out.row))))))
  have GD := hid (KV.out.row HD.out (fun e => row_ne HD.out HS.out.row (by decide) e))
  try rw [hV]
  clear hV hV' j0 j1 j2 j3 j4 j5
  have z0 := row_cell GV.out 0
  have z1 := row_frz GV.out 0
  obtain ⟨t0, t1, t2, t3, t4, t5⟩ := row6 GD.out
  go_wp2
  go_end0
  refine ⟨rfl, p1, c1, p2, c2, ⟨?_, HAP.out⟩, ?_, Fr.refl _ _, Fr.refl _ _⟩
  · have hs := HS.out
    have K2 := KV.out.trans (Kp.set V S 0 (.int .u64 d.sq)) (fun _ _ h => h)
    have ns : ∀ g, (∃ cu, W.heap[g]? = some (.cells cu 89 (0, 0))) → ¬ g = S := fun g hg e => by obtain ⟨cu, hc⟩ := hg; exact row_ne hc hs.row (by decide) e
    exact ⟨set_row _ GV.out, hs.o1.kept K2 (fun g hg => ns g (hs.o1.ty hg)), hs.o2.kept K2 (fun g hg => ns g (hs.o2.ty hg)), hs.k1, hs.k2, hs.hm.kept K2 (fun e => map_ne hs.hm hs.row e), hq, hs.gr⟩
  · exact ((Kp.of _ HB.out).trans KV.out (fun _ _ h => .inl h)).trans (Kp.set V S 0 (.int .u64 d.sq)) (fun _ _ h => .inl h)
theorem do_any {w : World} {S M nm hold : Nat} {s : Ss} {p1 p2 : Option Addr} {c1 c2 : Nat} (h : Su w S M nm hold s p1 c1 p2 c2) (d : Dm) (hok : dOk d = true) (hq : 0 ≤ d.sq ∧ d.sq < 18446744073709551616) : Calls Try.prog 59 #[.pointer (some ⟨S, 0, none⟩), .agg #[.int .u64 d.sq, .int .i64 d.kd, .int .i64 d.sd, .int .i64 d.pr, .int .u64 d.qt, .int .i64 d.ct]] w fun e w' => e = .returned (.tuple #[]) ∧ ∃ q1 e1 q2 e2, Su w' S M nm hold (doS s d) q1 e1 q2 e2 ∧ Kp (fun g => g = S ∨ OfP p1 g ∨ OfP p2 g) w w' ∧ Fr w.heap.size p1 q1 ∧ Fr w.heap.size p2 q2 := by
  have h' := (dOk_iff _).1 hok
  by_cases hk : d.kd = 1
  · by_cases hs : d.sd = 1
    · exact do_buyS h d hok hq hk hs
    · exact do_sellS h d hok hq hk (by omega)
  · exact do_trade h d hok hq (by omega)
end Go.Proofs.Ytiphgfghdbmlcaa
