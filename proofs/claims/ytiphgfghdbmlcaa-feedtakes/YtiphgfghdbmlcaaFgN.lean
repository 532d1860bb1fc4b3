/-
  The document's Done: a picture behind a message.
-/
import Derived.Test.YtiphgfghdbmlcaaHe
import Derived.Test.YtiphgfghdbmlcaaFgD
import Derived.Test.YtiphgfghdbmlcaaFeF
namespace Go.Proofs.Ytiphgfghdbmlcaa
open Go.RowKit Go.Deep
set_option linter.unusedVariables false
set_option linter.unusedSimpArgs false
set_option maxHeartbeats 8000000
set_option maxRecDepth 100000
/-- a slice is the old one, or one's own. -/
def Sd (w w' : World) (p : Option Addr) (c : Nat) (l : List Lv) (q : Option Addr) (e : Nat) (l' : List Lv) : Prop := (q = p ∧ e = c ∧ l' = l) ∨ Lo w.heap.size w' q e l'
/-- a side's levels behind a message. -/
def dnS (s : Int) (d : Dm) (l : List Lv) : List Lv := if d.kd = 1 ∧ d.sd = s then dnl s (lvD d) (d.ct == 0) l else l
theorem rDone_t (d : Dm) (hk : d.kd = 2) (sq : Int) (p1 p2 : Option Addr) (c1 c2 : Nat) (l1 l2 : List Lv) (w : World) (h1 : Rl w p1 c1 l1) (h2 : Rl w p2 c2 l2) (b1 : l1.length ≤ 262144) (b2 : l2.length ≤ 262144) :
    Calls Try.prog 65 #[.agg #[.int .u64 sq, .slice p1 l1.length c1, .slice p2 l2.length c2], .agg #[.int .u64 d.sq, .int .i64 d.kd, .int .i64 d.sd, .int .i64 d.pr, .int .u64 d.qt, .int .i64 d.ct]] w fun e w' => ∃ q1 e1 q2 e2, e = .returned (.agg #[.int .u64 d.sq, .slice q1 l1.length e1, .slice q2 l2.length e2]) ∧ Rl w' q1 e1 l1 ∧ Rl w' q2 e2 l2 ∧ Sd w w' p1 c1 l1 q1 e1 l1 ∧ Sd w w' p2 c2 l2 q2 e2 l2 ∧ Below w.heap.size w w' := by
  obtain ⟨n1, hn1⟩ : ∃ n, l1.length = n := ⟨_, rfl⟩
  obtain ⟨n2, hn2⟩ : ∃ n, l2.length = n := ⟨_, rfl⟩
  have HN1 := hid hn1
  have HN2 := hid hn2
  obtain ⟨R, hR⟩ : ∃ R, w.heap.size = R := ⟨_, rfl⟩
  obtain ⟨W, hW⟩ : ∃ W, ((w.alloc (.cells #[.int .u64 sq, .slice p1 n1 c1, .slice p2 n2 c2] 30)).alloc (.cells #[.int .u64 d.sq, .int .i64 d.kd, .int .i64 d.sd, .int .i64 d.pr, .int .u64 d.qt, .int .i64 d.ct] 48)).alloc (.cells #[.int .u64 0, .slice none 0 0, .slice none 0 0] 30) = W := ⟨_, rfl⟩
  obtain ⟨hb0, x0, x1, x2⟩ := alloc3 hR hW
  obtain ⟨W1, hW1⟩ : ∃ W1, W.setCell ⟨R, 0, none⟩ (.int .u64 d.sq) = W1 := ⟨_, rfl⟩
  have KW := Kp.set W R 0 (.int .u64 d.sq)
  rw [hW1] at KW
  have B1 := hid (show Below w.heap.size w W1 from hb0.trans (KW.below hb0.size (fun g hg e => by have e' : g = R := e; omega)))
  have HP := hid (show W1.heap[R]? = some (.cells #[.int .u64 d.sq, .slice p1 n1 c1, .slice p2 n2 c2] 30 (0, 0)) from by rw [← hW1]; exact set_row _ x0)
  have HD := hid (KW.row x1 (fun e => row_ne x1 x0 (by decide) e))
  have HZ := hid (KW.row x2 (fun e => by have e' : R + 1 + 1 = R := e; omega))
  have H1 := hid h1
  have H2 := hid h2
  have HL1 := hid (h1.on B1.out)
  have HL2 := hid (h2.on B1.out)
  have kw0 := row_cell x0 0
  have fw0 := row_frz x0 0
  obtain ⟨j0, j1, j2, j3, j4, j5⟩ := row6 x1
  have HR := hid hR
  have HW := hid hW
  have HW1 := hid hW1
  rw [hn1, hn2]
  have qk : (d.kd == 1) = false := by simp [hk]
  clear h1 h2 b1 b2 hb0 x0 x1 x2 hW hW1 KW hR hn1 hn2 hk
  go_enter Try.func65, Try.ntmps65
  go_upto_region 1 with fail
  rw [HW.out, HR.out]
  go_upto_region 2 with fail
  rw [HW1.out]
  clear kw0 fw0 j0 j1 j2 j3 j4 j5
  obtain ⟨k0, k1, k2⟩ := row3 HP.out
  obtain ⟨j0, j1, j2, j3, j4, j5⟩ := row6 HD.out
  have AI := hid (show (Try.prog.info? 30).map (·.size) = some (#[.int .u64 d.sq, .slice p1 n1 c1, .slice p2 n2 c2] : Array Value).size from infoP)
  have AS := hid (show (#[.int .u64 0, .slice none 0 0, .slice none 0 0] : Array Value).size = (#[.int .u64 d.sq, .slice p1 n1 c1, .slice p2 n2 c2] : Array Value).size from rfl)
  have AA := hid (show (#[.int .u64 d.sq, .slice p1 n1 c1, .slice p2 n2 c2] : Array Value).all (·.oneCell') = true from by simp [Value.oneCell'])
  go_wp2_with (refine wpList_store_row (by rfl) 30 (.tmp 4) (.tmp 34) (by rfl) (R + 1 + 1) #[.int .u64 d.sq, .slice p1 n1 c1, .slice p2 n2 c2] (by rfl) (by rfl) 30 _ HZ.out AI.out AS.out AA.out ?_)
  refine bodyPost_ret (results_cell_row (fn := Try.f65) Try.results65 _ _ (R + 1 + 1) 30 #[.int .u64 d.sq, .slice p1 n1 c1, .slice p2 n2 c2] (0, 0) _ (by rfl) (setRow_heap _ _ _ _ 30 (0, 0) HZ.out) Try.underlying30 rfl infoP) rfl ?_
  have z : Below w.heap.size w (W1.setRow (R + 1 + 1) #[.int .u64 d.sq, .slice p1 n1 c1, .slice p2 n2 c2]) := setRow_below B1.out (by have := HR.out; omega)
  exact ⟨p1, c1, p2, c2, rfl, H1.out.on z, H2.out.on z, .inl ⟨rfl, rfl, rfl⟩, .inl ⟨rfl, rfl, rfl⟩, z⟩
theorem rDone_b (d : Dm) (hk : d.kd = 1) (hs : d.sd = 1) (sq : Int) (p1 p2 : Option Addr) (c1 c2 : Nat) (l1 l2 : List Lv) (w : World) (h1 : Rl w p1 c1 l1) (h2 : Rl w p2 c2 l2) (b1 : l1.length ≤ 262144) (b2 : l2.length ≤ 262144) :
    Calls Try.prog 65 #[.agg #[.int .u64 sq, .slice p1 l1.length c1, .slice p2 l2.length c2], .agg #[.int .u64 d.sq, .int .i64 d.kd, .int .i64 d.sd, .int .i64 d.pr, .int .u64 d.qt, .int .i64 d.ct]] w fun e w' => ∃ q1 e1 q2 e2, e = .returned (.agg #[.int .u64 d.sq, .slice q1 (dnl d.sd (lvD d) (d.ct == 0) l1).length e1, .slice q2 l2.length e2]) ∧ Rl w' q1 e1 (dnl d.sd (lvD d) (d.ct == 0) l1) ∧ Rl w' q2 e2 l2 ∧ Sd w w' p1 c1 l1 q1 e1 (dnl d.sd (lvD d) (d.ct == 0) l1) ∧ Sd w w' p2 c2 l2 q2 e2 l2 ∧ Below w.heap.size w w' := by
  obtain ⟨n1, hn1⟩ : ∃ n, l1.length = n := ⟨_, rfl⟩
  obtain ⟨n2, hn2⟩ : ∃ n, l2.length = n := ⟨_, rfl⟩
  have HN1 := hid hn1
  have HN2 := hid hn2
  obtain ⟨R, hR⟩ : ∃ R, w.heap.size = R := ⟨_, rfl⟩
  obtain ⟨W, hW⟩ : ∃ W, ((w.alloc (.cells #[.int .u64 sq, .slice p1 n1 c1, .slice p2 n2 c2] 30)).alloc (.cells #[.int .u64 d.sq, .int .i64 d.kd, .int .i64 d.sd, .int .i64 d.pr, .int .u64 d.qt, .int .i64 d.ct] 48)).alloc (.cells #[.int .u64 0, .slice none 0 0, .slice none 0 0] 30) = W := ⟨_, rfl⟩
  obtain ⟨hb0, x0, x1, x2⟩ := alloc3 hR hW
  obtain ⟨W1, hW1⟩ : ∃ W1, W.setCell ⟨R, 0, none⟩ (.int .u64 d.sq) = W1 := ⟨_, rfl⟩
  have KW := Kp.set W R 0 (.int .u64 d.sq)
  rw [hW1] at KW
  have B1 := hid (show Below w.heap.size w W1 from hb0.trans (KW.below hb0.size (fun g hg e => by have e' : g = R := e; omega)))
  have HP := hid (show W1.heap[R]? = some (.cells #[.int .u64 d.sq, .slice p1 n1 c1, .slice p2 n2 c2] 30 (0, 0)) from by rw [← hW1]; exact set_row _ x0)
  have HD := hid (KW.row x1 (fun e => row_ne x1 x0 (by decide) e))
  have HZ := hid (KW.row x2 (fun e => by have e' : R + 1 + 1 = R := e; omega))
  have H1 := hid h1
  have H2 := hid h2
  have HL1 := hid (h1.on B1.out)
  have HL2 := hid (h2.on B1.out)
  have kw0 := row_cell x0 0
  have fw0 := row_frz x0 0
  obtain ⟨j0, j1, j2, j3, j4, j5⟩ := row6 x1
  have HR := hid hR
  have HW := hid hW
  have HW1 := hid hW1
  have CD := hid (rdone_any d p1 c1 l1 W1 HL1.out b1)
  rw [hn1] at CD
  rw [hn1, hn2]
  have qk : (d.kd == 1) = true := by simp [hk]
  have qs1 : (d.sd == 1) = true := by simp [hs]
  have qs2 : (d.sd == 2) = false := by simp [hs]
  clear h1 h2 b1 b2 hb0 x0 x1 x2 hW hW1 KW hR hn1 hn2 hk hs
  go_enter Try.func65, Try.ntmps65
  go_upto_region 1 with fail
  rw [HW.out, HR.out]
  go_upto_region 2 with fail
  rw [HW1.out]
  clear kw0 fw0 j0 j1 j2 j3 j4 j5
  obtain ⟨k0, k1, k2⟩ := row3 HP.out
  obtain ⟨j0, j1, j2, j3, j4, j5⟩ := row6 HD.out
  go_upto_region 3 with fail
  have f1 := row_frz HP.out 1
  go_upto_region 4 with (go_at_call 68; with_reducible refine (CD.out).mono ?_; rintro e V ⟨q, c', rfl, h1, h2⟩; have LQ := hid h1; have BV := hid h2; have HPv := hid (row_on HP.out h2); have g1 := row_cell HPv.out 1; have g2 := row_frz HPv.out 1; clear h1 h2)
  obtain ⟨nq, hnq⟩ : ∃ k, (dnl d.sd (lvD d) (d.ct == 0) l1).length = k := ⟨_, rfl⟩
  rw [hnq]
  have HNQ := hid hnq
  clear hnq
  obtain ⟨V1, hV1⟩ : ∃ V1, V.setCell ⟨R, 1, none⟩ (.slice q nq c') = V1 := ⟨_, rfl⟩
  have KV := hid (show Kp (fun g => g = R) V V1 from by rw [← hV1]; exact Kp.set _ _ _ _)
  have HP1 := hid (show V1.heap[R]? = some (.cells #[.int .u64 d.sq, .slice q nq c', .slice p2 n2 c2] 30 (0, 0)) from by rw [← hV1]; exact set_row _ HPv.out)
  have HD1 := hid (KV.out.row (row_on HD.out BV.out) (fun e => row_ne (row_on HD.out BV.out) HPv.out (by decide) e))
  have HZ1 := hid (KV.out.row (row_on HZ.out BV.out) (fun e => by have e' : R + 1 + 1 = R := e; omega))
  have HV1 := hid hV1
  rw [hV1]
  clear hV1 g1 g2 k0 k1 k2 j0 j1 j2 j3 j4 j5
  obtain ⟨k0, k1, k2⟩ := row3 HP1.out
  obtain ⟨j0, j1, j2, j3, j4, j5⟩ := row6 HD1.out
  have AI := hid (show (Try.prog.info? 30).map (·.size) = some (#[.int .u64 d.sq, .slice q nq c', .slice p2 n2 c2] : Array Value).size from infoP)
  have AS := hid (show (#[.int .u64 0, .slice none 0 0, .slice none 0 0] : Array Value).size = (#[.int .u64 d.sq, .slice q nq c', .slice p2 n2 c2] : Array Value).size from rfl)
  have AA := hid (show (#[.int .u64 d.sq, .slice q nq c', .slice p2 n2 c2] : Array Value).all (·.oneCell') = true from by simp [Value.oneCell'])
  go_wp2_with (refine wpList_store_row (by rfl) 30 (.tmp 4) (.tmp 34) (by rfl) (R + 1 + 1) #[.int .u64 d.sq, .slice q nq c', .slice p2 n2 c2] (by rfl) (by rfl) 30 _ HZ1.out AI.out AS.out AA.out ?_)
  refine bodyPost_ret (results_cell_row (fn := Try.f65) Try.results65 _ _ (R + 1 + 1) 30 #[.int .u64 d.sq, .slice q nq c', .slice p2 n2 c2] (0, 0) _ (by rfl) (setRow_heap _ _ _ _ 30 (0, 0) HZ1.out) Try.underlying30 rfl infoP) rfl ?_
  have y : Below w.heap.size w V := btr B1.out BV.out
  have y1 : Below w.heap.size w V1 := y.trans (KV.out.below y.size (fun g hg e => by have := HR.out; have e' : g = R := e; omega))
  have z : Below w.heap.size w (V1.setRow (R + 1 + 1) #[.int .u64 d.sq, .slice q nq c', .slice p2 n2 c2]) := setRow_below y1 (by have := HR.out; omega)
  have lR : R < W1.heap.size := row_lt HP.out
  have lZ : R + 1 + 1 < W1.heap.size := row_lt HZ.out
  have lq := LQ.out.set (g := R) (k := 1) (v := .slice q nq c') lR
  rw [HV1.out] at lq
  have lo := (lq.setRow (g := R + 1 + 1) (cs := #[.int .u64 d.sq, .slice q nq c', .slice p2 n2 c2]) lZ).base B1.out.size
  have lr := (lq.setRow (g := R + 1 + 1) (cs := #[.int .u64 d.sq, .slice q nq c', .slice p2 n2 c2]) lZ).rl
  exact ⟨q, c', p2, c2, by rw [HNQ.out], lr, H2.out.on z, .inr lo, .inl ⟨rfl, rfl, rfl⟩, z⟩
theorem rDone_s (d : Dm) (hk : d.kd = 1) (hs : d.sd = 2) (sq : Int) (p1 p2 : Option Addr) (c1 c2 : Nat) (l1 l2 : List Lv) (w : World) (h1 : Rl w p1 c1 l1) (h2 : Rl w p2 c2 l2) (b1 : l1.length ≤ 262144) (b2 : l2.length ≤ 262144) :
    Calls Try.prog 65 #[.agg #[.int .u64 sq, .slice p1 l1.length c1, .slice p2 l2.length c2], .agg #[.int .u64 d.sq, .int .i64 d.kd, .int .i64 d.sd, .int .i64 d.pr, .int .u64 d.qt, .int .i64 d.ct]] w fun e w' => ∃ q1 e1 q2 e2, e = .returned (.agg #[.int .u64 d.sq, .slice q1 l1.length e1, .slice q2 (dnl d.sd (lvD d) (d.ct == 0) l2).length e2]) ∧ Rl w' q1 e1 l1 ∧ Rl w' q2 e2 (dnl d.sd (lvD d) (d.ct == 0) l2) ∧ Sd w w' p1 c1 l1 q1 e1 l1 ∧ Sd w w' p2 c2 l2 q2 e2 (dnl d.sd (lvD d) (d.ct == 0) l2) ∧ Below w.heap.size w w' := by
  obtain ⟨n1, hn1⟩ : ∃ n, l1.length = n := ⟨_, rfl⟩
  obtain ⟨n2, hn2⟩ : ∃ n, l2.length = n := ⟨_, rfl⟩
  have HN1 := hid hn1
  have HN2 := hid hn2
  obtain ⟨R, hR⟩ : ∃ R, w.heap.size = R := ⟨_, rfl⟩
  obtain ⟨W, hW⟩ : ∃ W, ((w.alloc (.cells #[.int .u64 sq, .slice p1 n1 c1, .slice p2 n2 c2] 30)).alloc (.cells #[.int .u64 d.sq, .int .i64 d.kd, .int .i64 d.sd, .int .i64 d.pr, .int .u64 d.qt, .int .i64 d.ct] 48)).alloc (.cells #[.int .u64 0, .slice none 0 0, .slice none 0 0] 30) = W := ⟨_, rfl⟩
  obtain ⟨hb0, x0, x1, x2⟩ := alloc3 hR hW
  obtain ⟨W1, hW1⟩ : ∃ W1, W.setCell ⟨R, 0, none⟩ (.int .u64 d.sq) = W1 := ⟨_, rfl⟩
  have KW := Kp.set W R 0 (.int .u64 d.sq)
  rw [hW1] at KW
  have B1 := hid (show Below w.heap.size w W1 from hb0.trans (KW.below hb0.size (fun g hg e => by have e' : g = R := e; omega)))
  have HP := hid (show W1.heap[R]? = some (.cells #[.int .u64 d.sq, .slice p1 n1 c1, .slice p2 n2 c2] 30 (0, 0)) from by rw [← hW1]; exact set_row _ x0)
  have HD := hid (KW.row x1 (fun e => row_ne x1 x0 (by decide) e))
  have HZ := hid (KW.row x2 (fun e => by have e' : R + 1 + 1 = R := e; omega))
  have H1 := hid h1
  have H2 := hid h2
  have HL1 := hid (h1.on B1.out)
  have HL2 := hid (h2.on B1.out)
  have kw0 := row_cell x0 0
  have fw0 := row_frz x0 0
  obtain ⟨j0, j1, j2, j3, j4, j5⟩ := row6 x1
  have HR := hid hR
  have HW := hid hW
  have HW1 := hid hW1
  have CD := hid (rdone_any d p2 c2 l2 W1 HL2.out b2)
  rw [hn2] at CD
  rw [hn1, hn2]
  have qk : (d.kd == 1) = true := by simp [hk]
  have qs1 : (d.sd == 1) = false := by simp [hs]
  have qs2 : (d.sd == 2) = true := by simp [hs]
  clear h1 h2 b1 b2 hb0 x0 x1 x2 hW hW1 KW hR hn1 hn2 hk hs
  go_enter Try.func65, Try.ntmps65
  go_upto_region 1 with fail
  rw [HW.out, HR.out]
  go_upto_region 2 with fail
  rw [HW1.out]
  clear kw0 fw0 j0 j1 j2 j3 j4 j5
  obtain ⟨k0, k1, k2⟩ := row3 HP.out
  obtain ⟨j0, j1, j2, j3, j4, j5⟩ := row6 HD.out
  go_upto_region 5 with fail
  have f2 := row_frz HP.out 2
  go_upto_region 6 with (go_at_call 68; with_reducible refine (CD.out).mono ?_; rintro e V ⟨q, c', rfl, h1, h2⟩; have LQ := hid h1; have BV := hid h2; have HPv := hid (row_on HP.out h2); have g1 := row_cell HPv.out 2; have g2 := row_frz HPv.out 2; clear h1 h2)
  obtain ⟨nq, hnq⟩ : ∃ k, (dnl d.sd (lvD d) (d.ct == 0) l2).length = k := ⟨_, rfl⟩
  rw [hnq]
  have HNQ := hid hnq
  clear hnq
  obtain ⟨V1, hV1⟩ : ∃ V1, V.setCell ⟨R, 2, none⟩ (.slice q nq c') = V1 := ⟨_, rfl⟩
  have KV := hid (show Kp (fun g => g = R) V V1 from by rw [← hV1]; exact Kp.set _ _ _ _)
  have HP1 := hid (show V1.heap[R]? = some (.cells #[.int .u64 d.sq, .slice p1 n1 c1, .slice q nq c'] 30 (0, 0)) from by rw [← hV1]; exact set_row _ HPv.out)
  have HD1 := hid (KV.out.row (row_on HD.out BV.out) (fun e => row_ne (row_on HD.out BV.out) HPv.out (by decide) e))
  have HZ1 := hid (KV.out.row (row_on HZ.out BV.out) (fun e => by have e' : R + 1 + 1 = R := e; omega))
  have HV1 := hid hV1
  rw [hV1]
  clear hV1 g1 g2 k0 k1 k2 j0 j1 j2 j3 j4 j5
  obtain ⟨k0, k1, k2⟩ := row3 HP1.out
  obtain ⟨j0, j1, j2, j3, j4, j5⟩ := row6 HD1.out
  have AI := hid (show (Try.prog.info? 30).map (·.size) = some (#[.int .u64 d.sq, .slice p1 n1 c1, .slice q nq c'] : Array Value).size from infoP)
  have AS := hid (show (#[.int .u64 0, .slice none 0 0, .slice none 0 0] : Array Value).size = (#[.int .u64 d.sq, .slice p1 n1 c1, .slice q nq c'] : Array Value).size from rfl)
  have AA := hid (show (#[.int .u64 d.sq, .slice p1 n1 c1, .slice q nq c'] : Array Value).all (·.oneCell') = true from by simp [Value.oneCell'])
  go_wp2_with (refine wpList_store_row (by rfl) 30 (.tmp 4) (.tmp 34) (by rfl) (R + 1 + 1) #[.int .u64 d.sq, .slice p1 n1 c1, .slice q nq c'] (by rfl) (by rfl) 30 _ HZ1.out AI.out AS.out AA.out ?_)
  refine bodyPost_ret (results_cell_row (fn := Try.f65) Try.results65 _ _ (R + 1 + 1) 30 #[.int .u64 d.sq, .slice p1 n1 c1, .slice q nq c'] (0, 0) _ (by rfl) (setRow_heap _ _ _ _ 30 (0, 0) HZ1.out) Try.underlying30 rfl infoP) rfl ?_
  have y : Below w.heap.size w V := btr B1.out BV.out
  have y1 : Below w.heap.size w V1 := y.trans (KV.out.below y.size (fun g hg e => by have := HR.out; have e' : g = R := e; omega))
  have z : Below w.heap.size w (V1.setRow (R + 1 + 1) #[.int .u64 d.sq, .slice p1 n1 c1, .slice q nq c']) := setRow_below y1 (by have := HR.out; omega)
  have lR : R < W1.heap.size := row_lt HP.out
  have lZ : R + 1 + 1 < W1.heap.size := row_lt HZ.out
  have lq := LQ.out.set (g := R) (k := 2) (v := .slice q nq c') lR
  rw [HV1.out] at lq
  have lo := (lq.setRow (g := R + 1 + 1) (cs := #[.int .u64 d.sq, .slice p1 n1 c1, .slice q nq c']) lZ).base B1.out.size
  have lr := (lq.setRow (g := R + 1 + 1) (cs := #[.int .u64 d.sq, .slice p1 n1 c1, .slice q nq c']) lZ).rl
  exact ⟨p1, c1, q, c', by rw [HNQ.out], H1.out.on z, lr, .inl ⟨rfl, rfl, rfl⟩, .inr lo, z⟩
end Go.Proofs.Ytiphgfghdbmlcaa
