/-
  RuRs
-/
import Derived.Test.YtalgndgoedlpoaaRuSf
namespace Go.Proofs.Ytalgndgoedlpoaa
open Go.RowKit Go.Deep Go.Shelf
set_option linter.unusedVariables false
set_option linter.unusedSimpArgs false
set_option maxHeartbeats 8000000
set_option maxRecDepth 100000
attribute [local go_sem ↓] Go.wp_at_zero Go.wp_at_succ
theorem dstep_tC0 (d : Db) (o : Or) (s q : Int) (x : Or) (r : List Or) (p : Option Addr) (n c : Nat) (es : List Ev) (w : World) (hs : s = 1 ∨ s = 2) (h : Dm w d) (hl : d.os (oth s) = x :: r) (hx : OrOk x) (hpk : x.pk = 0 → x.hi = 0) (hq : 0 < q) (hq1 : q < 4294967296) (hr : ∀ y ∈ r, y.id ≠ x.id) (hm : 0 ≤ d.meet ∧ d.meet ≤ 3) (he : es.length = n) (hv : Rv w (.slice p n c) es) (hn : n ≤ 17179869182)
  (hwy : x.mb = 0 ∨ (x.mb ≠ 0 ∧ x.mb ≠ o.mb) ∨ (x.mb ≠ 0 ∧ x.mb = o.mb ∧ d.meet = 0)) (hc : q = x.vi) (hh : x.hi = 0) :
  Calls Try.prog 68 #[.agg #[.int .i64 d.cap, .int .i64 d.meet, .slice d.p1 d.o1.length d.c1, .slice d.p2 d.o2.length d.c2, .int .u64 d.high, .int .u64 d.seq, .slice p n c], .agg #[.int .u64 o.id, .int .u64 q, .int .u64 o.pk, .int .u32 o.mb, .int .i64 s, .int .i64 o.ty, .int .i64 o.pr]] w fun e w' => ∃ d2 p2 n2 c2, e = .returned (.tuple #[.agg #[.int .i64 d2.cap, .int .i64 d2.meet, .slice d2.p1 d2.o1.length d2.c1, .slice d2.p2 d2.o2.length d2.c2, .int .u64 d2.high, .int .u64 d2.seq, .slice p2 n2 c2], .agg #[.int .u64 o.id, .int .u64 (stD d.seq d.meet o s q x r).2.2.1, .int .u64 o.pk, .int .u32 o.mb, .int .i64 s, .int .i64 o.ty, .int .i64 o.pr]]) ∧ (Dm w' d2 ∧ Nwl w.heap.size d d2) ∧ (es ++ (stD d.seq d.meet o s q x r).2.1).length = n2 ∧ Rv w' (.slice p2 n2 c2) (es ++ (stD d.seq d.meet o s q x r).2.1) ∧ d2.os (oth s) = (stD d.seq d.meet o s q x r).1 ∧ d2.os s = d.os s ∧ d2.cap = d.cap ∧ d2.meet = d.meet ∧ d2.high = d.high ∧ d2.seq = (stD d.seq d.meet o s q x r).2.2.2 ∧ Below w.heap.size w w' := by
 subst hc
 have CS := hid (fun (U : World) (hU : Below w.heap.size w U) (t : Int) (ht : oth s = t) => wside d s t ht hs U (h.on hU))
 rw [hl] at CS
 have ho := oth_wrap hs
 obtain ⟨t, ht⟩ : ∃ t, oth s = t := ⟨_, rfl⟩
 have HT := hid ht
 rw [ht] at ho
 have HDM := hid h
 have HOS := hid hl
 have HXO := hid hx
 have HRN := hid hr
 have HEN := hid he
 have HVV := hid hv
 have HNN := hid hn
 have HSS := hid hs
 obtain ⟨R, hR⟩ : ∃ R, w.heap.size = R := ⟨_, rfl⟩
 obtain ⟨U0, hU0⟩ : ∃ U, w.alloc (.cells #[.int .i64 d.cap, .int .i64 d.meet, .slice d.p1 d.o1.length d.c1, .slice d.p2 d.o2.length d.c2, .int .u64 d.high, .int .u64 d.seq, .slice p n c] 74) = U := ⟨_, rfl⟩
 obtain ⟨U1, hU1⟩ : ∃ U, U0.alloc (.cells #[.int .u64 o.id, .int .u64 x.vi, .int .u64 o.pk, .int .u32 o.mb, .int .i64 s, .int .i64 o.ty, .int .i64 o.pr] 78) = U := ⟨_, rfl⟩
 obtain ⟨U2, hU2⟩ : ∃ U, U1.alloc (.cells #[.int .i64 0, .int .i64 0, .slice none 0 0, .slice none 0 0, .int .u64 0, .int .u64 0, .slice none 0 0] 74) = U := ⟨_, rfl⟩
 obtain ⟨W, hW⟩ : ∃ U, U2.alloc (.cells #[.int .u64 0, .int .u64 0, .int .u64 0, .int .u32 0, .int .i64 0, .int .i64 0, .int .i64 0] 78) = U := ⟨_, rfl⟩
 have s0 : U0.heap.size = R + 1 := by rw [← hU0, ← hR]; simp
 have s1 : U1.heap.size = R + 1 + 1 := by rw [← hU1]; simp [s0]
 have s2 : U2.heap.size = R + 1 + 1 + 1 := by rw [← hU2]; simp [s1]
 have b0 : Below w.heap.size w U0 := by rw [← hU0]; exact ball _ _
 have b1 : Below U0.heap.size U0 U1 := by rw [← hU1]; exact ball _ _
 have b2 : Below U1.heap.size U1 U2 := by rw [← hU2]; exact ball _ _
 have b3 : Below U2.heap.size U2 W := by rw [← hW]; exact ball _ _
 have HBW := hid (btr (btr (btr b0 b1) b2) b3)
 have HA := hid (show W.heap[R]? = some (.cells #[.int .i64 d.cap, .int .i64 d.meet, .slice d.p1 d.o1.length d.c1, .slice d.p2 d.o2.length d.c2, .int .u64 d.high, .int .u64 d.seq, .slice p n c] 74 (0, 0)) from row_on (row_on (row_on (by rw [← hU0, ← hR]; exact World.alloc_heap_new _ _) b1) b2) b3)
 have HB := hid (show W.heap[R + 1]? = some (.cells #[.int .u64 o.id, .int .u64 x.vi, .int .u64 o.pk, .int .u32 o.mb, .int .i64 s, .int .i64 o.ty, .int .i64 o.pr] 78 (0, 0)) from row_on (row_on (by rw [← hU1, ← s0]; exact World.alloc_heap_new _ _) b2) b3)
 have HC := hid (show W.heap[R + 1 + 1]? = some (.cells #[.int .i64 0, .int .i64 0, .slice none 0 0, .slice none 0 0, .int .u64 0, .int .u64 0, .slice none 0 0] 74 (0, 0)) from row_on (by rw [← hU2, ← s1]; exact World.alloc_heap_new _ _) b3)
 have HD := hid (show W.heap[R + 1 + 1 + 1]? = some (.cells #[.int .u64 0, .int .u64 0, .int .u64 0, .int .u32 0, .int .i64 0, .int .i64 0, .int .i64 0] 78 (0, 0)) from by rw [← hW, ← s2]; exact World.alloc_heap_new _ _)
 have HU0 := hid hU0
 have HU1 := hid hU1
 have HU2 := hid hU2
 have HW := hid hW
 have HRR := hid hR
 clear hR hU0 hU1 hU2 hW s0 s1 s2 b0 b1 b2 b3 h hl hx hr he hv ht
 have HWY := hid hwy
 have HHH := hid hh
 have HQ := hid hq
 have HQ1 := hid hq1
 have HMT := hid hm
 have HPK := hid hpk
 clear hwy hh hq hq1 hm hpk hn hs
 go_enter Try.func68, Try.ntmps68
 go_upto_region 1 with fail
 rw [HU0.out, HU1.out, HU2.out, HW.out, HRR.out]
 obtain ⟨a0, a1, a2, a3, a4, a5, a6⟩ := row7 HA.out
 obtain ⟨b0, b1, b2, b3, b4, b5, b6⟩ := row7 HB.out
 go_upto_region 3 with (go_at_call 34; with_reducible refine (CS.out _ HBW.out _ HT.out).mono ?_; rintro e w1 ⟨p1, n1, c1, rfl, HN1, HR1, HB1⟩)
 obtain ⟨g1, hp1, gl1, m0, m1, m2, m3, m4, m5, m6⟩ := rw_first HR1.out HN1.out
 subst hp1
 have hn1 : (0 : Int) < (n1 : Int) := by have := HN1.out; simp at this; omega
 clear a0 a1 a2 a3 a4 a5 a6 b0 b1 b2 b3 b4 b5 b6
 go_upto_region 4 with fail
 obtain ⟨g, hg⟩ : ∃ g, w1.heap.size = g := ⟨_, rfl⟩
 obtain ⟨M, hM⟩ : ∃ X, w1.alloc (.cells #[.int .u64 x.id, .int .u32 x.mb, .int .i64 x.ty, .int .i64 x.pr, .int .u64 x.vi, .int .u64 x.hi, .int .u64 x.pk] 50) = X := ⟨_, rfl⟩
 have bM : Below w1.heap.size w1 M := by rw [← hM]; exact ball _ _
 have HM := hid (show Ss w M R g #[.int .i64 d.cap, .int .i64 d.meet, .slice d.p1 d.o1.length d.c1, .slice d.p2 d.o2.length d.c2, .int .u64 d.high, .int .u64 d.seq, .slice p n c] #[.int .u64 o.id, .int .u64 x.vi, .int .u64 o.pk, .int .u32 o.mb, .int .i64 s, .int .i64 o.ty, .int .i64 o.pr] #[.int .u64 x.id, .int .u32 x.mb, .int .i64 x.ty, .int .i64 x.pr, .int .u64 x.vi, .int .u64 x.hi, .int .u64 x.pk] from ⟨btr (btr HBW.out HB1.out) bM, row_on (row_on HA.out HB1.out) bM, row_on (row_on HB.out HB1.out) bM, row_on (row_on HC.out HB1.out) bM, row_on (row_on HD.out HB1.out) bM, by rw [← hM, ← hg]; exact World.alloc_heap_new _ _, HRR.out, by rw [← hg]; exact (btr HBW.out HB1.out).size⟩)
 have HRX := hid (HR1.out.on bM)
 have HNG := hid (show ∀ j, (Value.slice (some ⟨g1, 0, none⟩) n1 c1).ownBlock = some j → j ≠ g from fun j hj e => by have h1 := (HR1.out.lt j hj).2; rw [hg] at h1; omega)
 rw [hM, hg]
 clear hM hg bM m0 m1 m2 m3 m4 m5 m6
 obtain ⟨a0, a1, a2, a3, a4, a5, a6⟩ := row7 HM.out.t
 obtain ⟨b0, b1, b2, b3, b4, b5, b6⟩ := row7 HM.out.c
 obtain ⟨m0, m1, m2, m3, m4, m5, m6⟩ := row7 HM.out.m
 rcases HWY.out with h1 | ⟨h1, h2⟩ | ⟨h1, h2, h3⟩
 focus
  have f1 : (x.mb == 0) = true := by simpa using h1
  have f1n : (x.mb != 0) = false := by simpa using h1
  clear h1
 rotate_left
 focus
  have f1 : (x.mb == 0) = false := by simpa using h1
  have f1n : (x.mb != 0) = true := by simpa using h1
  have f2 : (x.mb == o.mb) = false := by simpa using h2
  clear h1 h2
 rotate_left
 focus
  have f1 : (x.mb == 0) = false := by simpa using h1
  have f1n : (x.mb != 0) = true := by simpa using h1
  have f2 : (x.mb == o.mb) = true := by simpa using h2
  have g0 : (d.meet == 0) = true := by simpa using h3
  have g0n : (d.meet != 0) = false := by simpa using h3
  clear h1 h2 h3
 rotate_left
 all_goals
  have e1 : decide (x.vi < x.vi) = false := by simp
  have CT2 := hid (wtell d p n c es (evT o s x x.vi) HEN.out (by have := HNN.out; omega) M (HVV.out.on HM.out.be))
  unfold ecs evT at CT2
  simp only at CT2
  have HLB := hid (show (x :: r).length ≤ 1048576 from by rw [← HOS.out]; exact (HDM.out.at' (oth s)).2)
  go_upto_region 16 with fail
  go_upto_region 17 with (first | (go_at_call 30; with_reducible refine (CT2.out).mono ?_; rintro e w2 ⟨p2, c2, d2, rfl, HD2, HV2, HB2⟩; have AI2 := hid (show (Try.prog.info? 74).map (·.size) = some (#[.int .i64 d2.cap, .int .i64 d2.meet, .slice d2.p1 d2.o1.length d2.c1, .slice d2.p2 d2.o2.length d2.c2, .int .u64 d2.high, .int .u64 d2.seq, .slice p2 (n + 1) c2] : Array Value).size from i74 _ _ _ _ _ _ _); have AS2 := hid (show (#[.int .i64 d.cap, .int .i64 d.meet, .slice d.p1 d.o1.length d.c1, .slice d.p2 d.o2.length d.c2, .int .u64 d.high, .int .u64 d.seq, .slice p n c] : Array Value).size = (#[.int .i64 d2.cap, .int .i64 d2.meet, .slice d2.p1 d2.o1.length d2.c1, .slice d2.p2 d2.o2.length d2.c2, .int .u64 d2.high, .int .u64 d2.seq, .slice p2 (n + 1) c2] : Array Value).size from s7 _ _ _ _ _ _ _ _ _ _ _ _ _ _); have AA2 := hid (show (#[.int .i64 d2.cap, .int .i64 d2.meet, .slice d2.p1 d2.o1.length d2.c1, .slice d2.p2 d2.o2.length d2.c2, .int .u64 d2.high, .int .u64 d2.seq, .slice p2 (n + 1) c2] : Array Value).all (·.oneCell') = true from allT _ _ _ _); have HS2 := hid (HM.out.on HB2.out)) | (refine wpList_store_row (by rfl) 74 (.tmp 2) (.tmp 103) (by rfl) (R) #[.int .i64 d2.cap, .int .i64 d2.meet, .slice d2.p1 d2.o1.length d2.c1, .slice d2.p2 d2.o2.length d2.c2, .int .u64 d2.high, .int .u64 d2.seq, .slice p2 (n + 1) c2] (by rfl) (by rfl) 74 _ HS2.out.t AI2.out AS2.out AA2.out ?_))
  have HS3 := hid (HS2.out.setT #[.int .i64 d2.cap, .int .i64 d2.meet, .slice d2.p1 d2.o1.length d2.c1, .slice d2.p2 d2.o2.length d2.c2, .int .u64 d2.high, .int .u64 d2.seq, .slice p2 (n + 1) c2])
  have HV3 := hid (own_setRow (cs' := #[.int .i64 d2.cap, .int .i64 d2.meet, .slice d2.p1 d2.o1.length d2.c1, .slice d2.p2 d2.o2.length d2.c2, .int .u64 d2.high, .int .u64 d2.seq, .slice p2 (n + 1) c2]) HV2.out HS2.out.t (by decide))
  have HR3 := hid (own_setRow (cs' := #[.int .i64 d2.cap, .int .i64 d2.meet, .slice d2.p1 d2.o1.length d2.c1, .slice d2.p2 d2.o2.length d2.c2, .int .u64 d2.high, .int .u64 d2.seq, .slice p2 (n + 1) c2]) (HRX.out.on HB2.out) HS2.out.t (by decide))
  obtain ⟨W3, hW3⟩ : ∃ X, w2.setRow R #[.int .i64 d2.cap, .int .i64 d2.meet, .slice d2.p1 d2.o1.length d2.c1, .slice d2.p2 d2.o2.length d2.c2, .int .u64 d2.high, .int .u64 d2.seq, .slice p2 (n + 1) c2] = X := ⟨_, rfl⟩
  rw [hW3] at HS3 HV3 HR3 ⊢
  clear hW3 a0 a1 a2 a3 a4 a5 a6 b0 b1 b2 b3 b4 b5 b6 m0 m1 m2 m3 m4 m5 m6
  obtain ⟨b0, b1, b2, b3, b4, b5, b6⟩ := row7 HS3.out.c
  have fz := row_frz HS3.out.c 1
  go_upto_region 18 with fail
  have HS4 := hid (show Ss w (W3.setCell ⟨R + 1, 1, none⟩ (.int .u64 0)) R g #[.int .i64 d2.cap, .int .i64 d2.meet, .slice d2.p1 d2.o1.length d2.c1, .slice d2.p2 d2.o2.length d2.c2, .int .u64 d2.high, .int .u64 d2.seq, .slice p2 (n + 1) c2] #[.int .u64 o.id, .int .u64 0, .int .u64 o.pk, .int .u32 o.mb, .int .i64 s, .int .i64 o.ty, .int .i64 o.pr] #[.int .u64 x.id, .int .u32 x.mb, .int .i64 x.ty, .int .i64 x.pr, .int .u64 x.vi, .int .u64 x.hi, .int .u64 x.pk] from HS3.out.setC 1 (.int .u64 0))
  have HV4 := hid (own_set (k := 1) (v := .int .u64 0) HV3.out HS3.out.c (by decide))
  have HR4 := hid (own_set (k := 1) (v := .int .u64 0) HR3.out HS3.out.c (by decide))
  obtain ⟨W4, hW4⟩ : ∃ X, W3.setCell ⟨R + 1, 1, none⟩ (.int .u64 0) = X := ⟨_, rfl⟩
  rw [hW4] at HS4 HV4 HR4 ⊢
  clear hW4 b0 b1 b2 b3 b4 b5 b6 fz
  obtain ⟨m0, m1, m2, m3, m4, m5, m6⟩ := row7 HS4.out.m
  have fz := row_frz HS4.out.m 4
  go_upto_region 19 with fail
  have HS5 := hid (show Ss w (W4.setCell ⟨g, 4, none⟩ (.int .u64 0)) R g #[.int .i64 d2.cap, .int .i64 d2.meet, .slice d2.p1 d2.o1.length d2.c1, .slice d2.p2 d2.o2.length d2.c2, .int .u64 d2.high, .int .u64 d2.seq, .slice p2 (n + 1) c2] #[.int .u64 o.id, .int .u64 0, .int .u64 o.pk, .int .u32 o.mb, .int .i64 s, .int .i64 o.ty, .int .i64 o.pr] #[.int .u64 x.id, .int .u32 x.mb, .int .i64 x.ty, .int .i64 x.pr, .int .u64 0, .int .u64 x.hi, .int .u64 x.pk] from HS4.out.setM 4 (.int .u64 0))
  have HV5 := hid (own_set (k := 4) (v := .int .u64 0) HV4.out HS4.out.m (by decide))
  obtain ⟨W5, hW5⟩ : ∃ X, W4.setCell ⟨g, 4, none⟩ (.int .u64 0) = X := ⟨_, rfl⟩
  have HR5 := hid (show Rw (W4.setCell ⟨g, 4, none⟩ (.int .u64 0)) _ (x :: r) from own_same HR4.out (fun j hj => (Kp.set W4 g 4 _).obj j (HR4.out.lt j hj).2 (fun e => HNG.out j hj e)))
  rw [hW5] at HS5 HV5 HR5 ⊢
  clear hW5 m0 m1 m2 m3 m4 m5 m6 fz
  obtain ⟨m0, m1, m2, m3, m4, m5, m6⟩ := row7 HS5.out.m
  go_upto_region 20 with (go_at_call 33; with_reducible refine (wwithout2 _ n1 c1 (x :: r) x.id HN1.out (by have := HLB.out; have := HN1.out; omega) W5 HR5.out).mono ?_; rintro e w6 ⟨q5, m5', c5, rfl, HL5, HW5, HB5, HJ5⟩)
  have HS6 := hid (HS5.out.on HB5.out)
  have HV6 := hid (own_on HV5.out HB5.out)
  have HS6 := hid (HS5.out.on HB5.out)
  clear m0 m1 m2 m3 m4 m5 m6
  obtain ⟨a0, a1, a2, a3, a4, a5, a6⟩ := row7 HS6.out.t
  obtain ⟨m0, m1, m2, m3, m4, m5, m6⟩ := row7 HS6.out.m
  rw [HHH.out] at m5
  go_upto_region 30 with fail
  go_upto_region 31 with (go_at_call 32; with_reducible refine (wwith d2 t q5 m5' c5 (wo x.id (x :: r)) HL5.out w6).mono ?_; rintro e w7 ⟨d7, rfl, HD7, HB7⟩; have HS7 := hid (HS6.out.on HB7.out); obtain ⟨a0, a1, a2, a3, a4, a5, a6⟩ := row7 HS7.out.t; have z0 := row_frz HS7.out.t 0; have z1 := row_frz HS7.out.t 1; have z2 := row_frz HS7.out.t 2; have z3 := row_frz HS7.out.t 3; have z4 := row_frz HS7.out.t 4; have z5 := row_frz HS7.out.t 5)
  have h6 := set6 (.int .i64 d7.cap) (.int .i64 d7.meet) (.slice d7.p1 d7.o1.length d7.c1) (.slice d7.p2 d7.o2.length d7.c2) (.int .u64 d7.high) (.int .u64 d7.seq) HS7.out.t
  have HS8 := hid (HS7.out.kp h6.2 h6.1)
  have HK8 := hid h6.2
  clear h6
  obtain ⟨W8, hW8⟩ : ∃ X, ((((((w7.setCell ⟨R, 0, none⟩ (.int .i64 d7.cap)).setCell ⟨R, 1, none⟩ (.int .i64 d7.meet)).setCell ⟨R, 2, none⟩ (.slice d7.p1 d7.o1.length d7.c1)).setCell ⟨R, 3, none⟩ (.slice d7.p2 d7.o2.length d7.c2)).setCell ⟨R, 4, none⟩ (.int .u64 d7.high)).setCell ⟨R, 5, none⟩ (.int .u64 d7.seq)) = X := ⟨_, rfl⟩
  rw [hW8] at HS8 HK8 ⊢
  clear hW8
  have HO8 := hid (show ∀ (base : Nat) (e : TypeId) (size m : Nat) (v : Value) (xs : List Value), w7.ownsRow base e size v m xs → e ≠ 74 → W8.ownsRow base e size v m xs from fun base e size m v xs hh n1 => own_same hh (fun j hj => by obtain ⟨cc, hc⟩ := own_ty hh hj; exact HK8.out.obj j (row_lt hc) (row_ne hc HS7.out.t n1)))
  obtain ⟨V, hV⟩ : ∃ X, W8.drew = X := ⟨_, rfl⟩
  have HSV := hid (show Ss w V R g _ _ _ from by rw [← hV]; exact HS8.out.on (bdrew1 _))
  have HKV := hid (show Below W8.heap.size W8 V from by rw [← hV]; exact bdrew1 _)
  refine wp_region_held_drew (S := (fun U => (U.cell? ⟨R, 0, none⟩ = some (.int .i64 d7.cap) ∧ U.cell? ⟨R, 1, none⟩ = some (.int .i64 d7.meet) ∧ U.cell? ⟨R, 2, none⟩ = some (.slice d7.p1 d7.o1.length d7.c1) ∧ U.cell? ⟨R, 3, none⟩ = some (.slice d7.p2 d7.o2.length d7.c2) ∧ U.cell? ⟨R, 4, none⟩ = some (.int .u64 d7.high) ∧ U.cell? ⟨R, 5, none⟩ = some (.int .u64 d7.seq) ∧ U.cell? ⟨R, 6, none⟩ = some (.slice p2 (n + 1) c2)) ∧ (U.cell? ⟨R + 1, 0, none⟩ = some (.int .u64 o.id) ∧ U.cell? ⟨R + 1, 1, none⟩ = some (.int .u64 0) ∧ U.cell? ⟨R + 1, 2, none⟩ = some (.int .u64 o.pk) ∧ U.cell? ⟨R + 1, 3, none⟩ = some (.int .u32 o.mb) ∧ U.cell? ⟨R + 1, 4, none⟩ = some (.int .i64 s) ∧ U.cell? ⟨R + 1, 5, none⟩ = some (.int .i64 o.ty) ∧ U.cell? ⟨R + 1, 6, none⟩ = some (.int .i64 o.pr)))) (by kernel_rfl) ?_ (fun hHeld => ?_)
  ·(try dsimp only); ((rw [hV]; exact ⟨row7 HSV.out.t, row7 HSV.out.c⟩))
  rw [hV] at hHeld ⊢
  clear hV
  refine' wpAnyH_take (i := 0) (oi := _) (v := _) rfl (by kernel_rfl) (by kernel_rfl) (by kernel_rfl) (fun _ _ _ h => h) (Or.inl ⟨by kernel_rfl, ?_⟩) (by assumption) ?_
  rotate_left
  ·(intro w hSw; (try dsimp only at hSw); go_simp; try (with_reducible rfl))
  try simp only [List.getElem_toArray, List.getElem_cons_succ, List.getElem_cons_zero, Act.put, List.setIfInBounds_toArray, List.set_cons_zero, List.set_cons_succ]
  refine' wpAnyH_take (i := 1) (oi := _) (v := _) rfl (by kernel_rfl) (by kernel_rfl) (by kernel_rfl) (fun _ _ _ h => h) (Or.inl ⟨by kernel_rfl, ?_⟩) (by assumption) ?_
  rotate_left
  ·(intro w hSw; (try dsimp only at hSw); go_simp; try (with_reducible rfl))
  try simp only [List.getElem_toArray, List.getElem_cons_succ, List.getElem_cons_zero, Act.put, List.setIfInBounds_toArray, List.set_cons_zero, List.set_cons_succ]
  have AIE1 := hid (show (Try.prog.info? 74).map (·.size) = some (#[.int .i64 d7.cap, .int .i64 d7.meet, .slice d7.p1 d7.o1.length d7.c1, .slice d7.p2 d7.o2.length d7.c2, .int .u64 d7.high, .int .u64 d7.seq, .slice p2 (n + 1) c2] : Array Value).size from info74)
  have ASE1 := hid (show (#[.int .i64 0, .int .i64 0, .slice none 0 0, .slice none 0 0, .int .u64 0, .int .u64 0, .slice none 0 0] : Array Value).size = (#[.int .i64 d7.cap, .int .i64 d7.meet, .slice d7.p1 d7.o1.length d7.c1, .slice d7.p2 d7.o2.length d7.c2, .int .u64 d7.high, .int .u64 d7.seq, .slice p2 (n + 1) c2] : Array Value).size from rfl)
  have AAE1 := hid (show (#[.int .i64 d7.cap, .int .i64 d7.meet, .slice d7.p1 d7.o1.length d7.c1, .slice d7.p2 d7.o2.length d7.c2, .int .u64 d7.high, .int .u64 d7.seq, .slice p2 (n + 1) c2] : Array Value).all (·.oneCell') = true from by simp [Value.oneCell'])
  have AIE2 := hid (show (Try.prog.info? 78).map (·.size) = some (#[.int .u64 o.id, .int .u64 0, .int .u64 o.pk, .int .u32 o.mb, .int .i64 s, .int .i64 o.ty, .int .i64 o.pr] : Array Value).size from info78)
  have ASE2 := hid (show (#[.int .u64 0, .int .u64 0, .int .u64 0, .int .u32 0, .int .i64 0, .int .i64 0, .int .i64 0] : Array Value).size = (#[.int .u64 o.id, .int .u64 0, .int .u64 o.pk, .int .u32 o.mb, .int .i64 s, .int .i64 o.ty, .int .i64 o.pr] : Array Value).size from rfl)
  have AAE2 := hid (show (#[.int .u64 o.id, .int .u64 0, .int .u64 o.pk, .int .u32 o.mb, .int .i64 s, .int .i64 o.ty, .int .i64 o.pr] : Array Value).all (·.oneCell') = true from by simp [Value.oneCell'])
  refine wpAnyH_ready (rs := [2]) (by kernel_rfl) (by simp) ?_
  refine AllReadyH.cons (o := _) rfl (fun K hK => ?_) AllReadyH.nil
  refine step_store_row (by rfl) 74 (.tmp 4) (.tmp 171) (by rfl) (R + 1 + 1) #[.int .i64 d7.cap, .int .i64 d7.meet, .slice d7.p1 d7.o1.length d7.c1, .slice d7.p2 d7.o2.length d7.c2, .int .u64 d7.high, .int .u64 d7.seq, .slice p2 (n + 1) c2] (by rfl) (by rfl) 74 _ HSV.out.z1 AIE1.out ASE1.out AAE1.out ?_
  have k1 := setRow_kp V (R + 1 + 1) #[.int .i64 d7.cap, .int .i64 d7.meet, .slice d7.p1 d7.o1.length d7.c1, .slice d7.p2 d7.o2.length d7.c2, .int .u64 d7.high, .int .u64 d7.seq, .slice p2 (n + 1) c2]
  have HZ1 := hid (setRow_heap V (R + 1 + 1) _ #[.int .i64 d7.cap, .int .i64 d7.meet, .slice d7.p1 d7.o1.length d7.c1, .slice d7.p2 d7.o2.length d7.c2, .int .u64 d7.high, .int .u64 d7.seq, .slice p2 (n + 1) c2] 74 (0, 0) HSV.out.z1)
  have HZ2 := hid (k1.row HSV.out.z2 (by omega))
  have HZT := hid (k1.row HSV.out.t (by omega))
  have HZC := hid (k1.row HSV.out.c (by omega))
  have HZB := hid (HSV.out.be.trans (k1.below HSV.out.be.size (fun j hj e => by have := HSV.out.r; omega)))
  have HK1 := hid k1
  refine hK.out _ _ ?_ (fun hHeld => ?_)
  ·(try dsimp only); exact ⟨row7 HZT.out, row7 HZC.out⟩
  clear hK K k1
  try simp only [List.getElem_toArray, List.getElem_cons_succ, List.getElem_cons_zero, Act.put, List.setIfInBounds_toArray, List.set_cons_zero, List.set_cons_succ]
  obtain ⟨X1, hX1⟩ : ∃ X, V.setRow (R + 1 + 1) #[.int .i64 d7.cap, .int .i64 d7.meet, .slice d7.p1 d7.o1.length d7.c1, .slice d7.p2 d7.o2.length d7.c2, .int .u64 d7.high, .int .u64 d7.seq, .slice p2 (n + 1) c2] = X := ⟨_, rfl⟩
  rw [hX1] at HZ1 HZ2 HZT HZC HZB HK1 hHeld ⊢
  clear hX1
  refine wpAnyH_ready (rs := [3]) (by kernel_rfl) (by simp) ?_
  refine AllReadyH.cons (o := _) rfl (fun K hK => ?_) AllReadyH.nil
  refine step_store_row (by rfl) 78 (.tmp 5) (.tmp 172) (by rfl) (R + 1 + 1 + 1) #[.int .u64 o.id, .int .u64 0, .int .u64 o.pk, .int .u32 o.mb, .int .i64 s, .int .i64 o.ty, .int .i64 o.pr] (by rfl) (by rfl) 78 _ HZ2.out AIE2.out ASE2.out AAE2.out ?_
  have k2 := setRow_kp X1 (R + 1 + 1 + 1) #[.int .u64 o.id, .int .u64 0, .int .u64 o.pk, .int .u32 o.mb, .int .i64 s, .int .i64 o.ty, .int .i64 o.pr]
  have HY1 := hid (k2.row HZ1.out (by omega))
  have HY2 := hid (setRow_heap X1 (R + 1 + 1 + 1) _ #[.int .u64 o.id, .int .u64 0, .int .u64 o.pk, .int .u32 o.mb, .int .i64 s, .int .i64 o.ty, .int .i64 o.pr] 78 (0, 0) HZ2.out)
  have HYB := hid (HZB.out.trans (k2.below HZB.out.size (fun j hj e => by have := HSV.out.r; omega)))
  have HK2 := hid k2
  refine hK.out _ _ ?_ (fun hHeld => ?_)
  ·(try dsimp only); exact ⟨row7 (k2.row HZT.out (by omega)), row7 (k2.row HZC.out (by omega))⟩
  clear hK K k2
  try simp only [List.getElem_toArray, List.getElem_cons_succ, List.getElem_cons_zero, Act.put, List.setIfInBounds_toArray, List.set_cons_zero, List.set_cons_succ]
  refine wpAnyH_done (by kernel_rfl) ?_ _
  obtain ⟨X2, hX2⟩ : ∃ X, X1.setRow (R + 1 + 1 + 1) #[.int .u64 o.id, .int .u64 0, .int .u64 o.pk, .int .u32 o.mb, .int .i64 s, .int .i64 o.ty, .int .i64 o.pr] = X := ⟨_, rfl⟩
  rw [hX2] at HY1 HY2 HYB HK2 ⊢
  clear hX2 hHeld
  go_wp2
  refine bodyPost_ret (res_cc Try.results68 _ _ (R + 1 + 1) (R + 1 + 1 + 1) 74 78 #[.int .i64 d7.cap, .int .i64 d7.meet, .slice d7.p1 d7.o1.length d7.c1, .slice d7.p2 d7.o2.length d7.c2, .int .u64 d7.high, .int .u64 d7.seq, .slice p2 (n + 1) c2] #[.int .u64 o.id, .int .u64 0, .int .u64 o.pk, .int .u32 o.mb, .int .i64 s, .int .i64 o.ty, .int .i64 o.pr] (0, 0) (0, 0) _ _ (by rfl) (by rfl) HY1.out HY2.out Try.underlying74 rfl info74 Try.underlying78 rfl info78) rfl ?_
  have HKE := hid (show ∀ (base : Nat) (e : TypeId) (size m : Nat) (v : Value) (xs : List Value), W8.ownsRow base e size v m xs → e ≠ 74 → e ≠ 78 → X2.ownsRow base e size v m xs from fun base e size m v xs hh n1 n2 => by
   have h1 := own_on hh HKV.out
   have h2 := own_same (w' := X1) h1 (fun j hj => by obtain ⟨cc, hc⟩ := own_ty h1 hj; exact HK1.out.obj j (row_lt hc) (row_ne hc HSV.out.z1 n1))
   exact own_same h2 (fun j hj => by obtain ⟨cc, hc⟩ := own_ty h2 hj; exact HK2.out.obj j (row_lt hc) (row_ne hc HZ2.out n2)))
  have hmin : min x.vi x.vi = x.vi := by have := HXO.out; unfold OrOk at this; omega
  have HZ : stD d.seq d.meet o s x.vi x r = (r, [(evT o s x x.vi).num (nx d.seq)], 0, nx d.seq) := by
   unfold stD
   rw [if_neg (by first | (unfold prtO; rw [g0]; simp; done) | (unfold prtO; rw [f2]; simp; done) | (unfold prtO; rw [f1]; simp; done)), hmin, if_neg (by omega), if_pos HHH.out]
   simp
  rw [HZ]
  have hd := HD2.out
  subst hd
  have hd7 := HD7.out
  rw [← HT.out, wo_self HRN.out] at hd7
  have hr7 := HW5.out.on HB7.out
  have hl5 := HL5.out
  rw [wo_self HRN.out] at hr7 hl5
  subst hl5
  obtain ⟨j1, j2, j3, j4, j5, j6⟩ := put_os d.told HSS.out q5 c5 r
  subst hd7
  refine ⟨_, p2, n + 1, c2, rfl, ?_, ?_, ?_, j1, j2, j3, j4, j5, j6, HYB.out⟩
  ·exact ⟨Dm.put (d := d.told) ⟨(HDM.out.on HYB.out).r1, (HDM.out.on HYB.out).r2, HDM.out.l1, HDM.out.l2⟩ (HKE.out _ _ _ _ _ _ (HO8.out _ _ _ _ _ _ hr7 (by decide)) (by decide) (by decide)) (by have := HLB.out; simp at this; omega), Nwl.put (d := d.told) ⟨fun _ h => .inl h, fun _ h => .inl h⟩ (fun j hj => Nat.le_trans HS5.out.be.size (HJ5.out j (ofp_own hj)))⟩
  ·rw [List.length_append, HEN.out]; rfl
  ·have h9 := HKE.out _ _ _ _ _ _ (HO8.out _ _ _ _ _ _ (own_on HV6.out HB7.out) (by decide)) (by decide) (by decide); unfold Rv; rw [List.length_append, HEN.out]; rw [List.length_append, HEN.out] at h9; exact h9
theorem dstep_tCl (d : Db) (o : Or) (s q : Int) (x : Or) (r : List Or) (p : Option Addr) (n c : Nat) (es : List Ev) (w : World) (hs : s = 1 ∨ s = 2) (h : Dm w d) (hl : d.os (oth s) = x :: r) (hx : OrOk x) (hpk : x.pk = 0 → x.hi = 0) (hq : 0 < q) (hq1 : q < 4294967296) (hr : ∀ y ∈ r, y.id ≠ x.id) (hm : 0 ≤ d.meet ∧ d.meet ≤ 3) (he : es.length = n) (hv : Rv w (.slice p n c) es) (hn : n ≤ 17179869182)
  (hwy : x.mb = 0 ∨ (x.mb ≠ 0 ∧ x.mb ≠ o.mb) ∨ (x.mb ≠ 0 ∧ x.mb = o.mb ∧ d.meet = 0)) (hc : q = x.vi) (hh : 0 < x.hi ∧ x.hi < x.pk) :
  Calls Try.prog 68 #[.agg #[.int .i64 d.cap, .int .i64 d.meet, .slice d.p1 d.o1.length d.c1, .slice d.p2 d.o2.length d.c2, .int .u64 d.high, .int .u64 d.seq, .slice p n c], .agg #[.int .u64 o.id, .int .u64 q, .int .u64 o.pk, .int .u32 o.mb, .int .i64 s, .int .i64 o.ty, .int .i64 o.pr]] w fun e w' => ∃ d2 p2 n2 c2, e = .returned (.tuple #[.agg #[.int .i64 d2.cap, .int .i64 d2.meet, .slice d2.p1 d2.o1.length d2.c1, .slice d2.p2 d2.o2.length d2.c2, .int .u64 d2.high, .int .u64 d2.seq, .slice p2 n2 c2], .agg #[.int .u64 o.id, .int .u64 (stD d.seq d.meet o s q x r).2.2.1, .int .u64 o.pk, .int .u32 o.mb, .int .i64 s, .int .i64 o.ty, .int .i64 o.pr]]) ∧ (Dm w' d2 ∧ Nwl w.heap.size d d2) ∧ (es ++ (stD d.seq d.meet o s q x r).2.1).length = n2 ∧ Rv w' (.slice p2 n2 c2) (es ++ (stD d.seq d.meet o s q x r).2.1) ∧ d2.os (oth s) = (stD d.seq d.meet o s q x r).1 ∧ d2.os s = d.os s ∧ d2.cap = d.cap ∧ d2.meet = d.meet ∧ d2.high = d.high ∧ d2.seq = (stD d.seq d.meet o s q x r).2.2.2 ∧ Below w.heap.size w w' := by
 subst hc
 have CS := hid (fun (U : World) (hU : Below w.heap.size w U) (t : Int) (ht : oth s = t) => wside d s t ht hs U (h.on hU))
 rw [hl] at CS
 have ho := oth_wrap hs
 obtain ⟨t, ht⟩ : ∃ t, oth s = t := ⟨_, rfl⟩
 have HT := hid ht
 rw [ht] at ho
 have HDM := hid h
 have HOS := hid hl
 have HXO := hid hx
 have HRN := hid hr
 have HEN := hid he
 have HVV := hid hv
 have HNN := hid hn
 have HSS := hid hs
 obtain ⟨R, hR⟩ : ∃ R, w.heap.size = R := ⟨_, rfl⟩
 obtain ⟨U0, hU0⟩ : ∃ U, w.alloc (.cells #[.int .i64 d.cap, .int .i64 d.meet, .slice d.p1 d.o1.length d.c1, .slice d.p2 d.o2.length d.c2, .int .u64 d.high, .int .u64 d.seq, .slice p n c] 74) = U := ⟨_, rfl⟩
 obtain ⟨U1, hU1⟩ : ∃ U, U0.alloc (.cells #[.int .u64 o.id, .int .u64 x.vi, .int .u64 o.pk, .int .u32 o.mb, .int .i64 s, .int .i64 o.ty, .int .i64 o.pr] 78) = U := ⟨_, rfl⟩
 obtain ⟨U2, hU2⟩ : ∃ U, U1.alloc (.cells #[.int .i64 0, .int .i64 0, .slice none 0 0, .slice none 0 0, .int .u64 0, .int .u64 0, .slice none 0 0] 74) = U := ⟨_, rfl⟩
 obtain ⟨W, hW⟩ : ∃ U, U2.alloc (.cells #[.int .u64 0, .int .u64 0, .int .u64 0, .int .u32 0, .int .i64 0, .int .i64 0, .int .i64 0] 78) = U := ⟨_, rfl⟩
 have s0 : U0.heap.size = R + 1 := by rw [← hU0, ← hR]; simp
 have s1 : U1.heap.size = R + 1 + 1 := by rw [← hU1]; simp [s0]
 have s2 : U2.heap.size = R + 1 + 1 + 1 := by rw [← hU2]; simp [s1]
 have b0 : Below w.heap.size w U0 := by rw [← hU0]; exact ball _ _
 have b1 : Below U0.heap.size U0 U1 := by rw [← hU1]; exact ball _ _
 have b2 : Below U1.heap.size U1 U2 := by rw [← hU2]; exact ball _ _
 have b3 : Below U2.heap.size U2 W := by rw [← hW]; exact ball _ _
 have HBW := hid (btr (btr (btr b0 b1) b2) b3)
 have HA := hid (show W.heap[R]? = some (.cells #[.int .i64 d.cap, .int .i64 d.meet, .slice d.p1 d.o1.length d.c1, .slice d.p2 d.o2.length d.c2, .int .u64 d.high, .int .u64 d.seq, .slice p n c] 74 (0, 0)) from row_on (row_on (row_on (by rw [← hU0, ← hR]; exact World.alloc_heap_new _ _) b1) b2) b3)
 have HB := hid (show W.heap[R + 1]? = some (.cells #[.int .u64 o.id, .int .u64 x.vi, .int .u64 o.pk, .int .u32 o.mb, .int .i64 s, .int .i64 o.ty, .int .i64 o.pr] 78 (0, 0)) from row_on (row_on (by rw [← hU1, ← s0]; exact World.alloc_heap_new _ _) b2) b3)
 have HC := hid (show W.heap[R + 1 + 1]? = some (.cells #[.int .i64 0, .int .i64 0, .slice none 0 0, .slice none 0 0, .int .u64 0, .int .u64 0, .slice none 0 0] 74 (0, 0)) from row_on (by rw [← hU2, ← s1]; exact World.alloc_heap_new _ _) b3)
 have HD := hid (show W.heap[R + 1 + 1 + 1]? = some (.cells #[.int .u64 0, .int .u64 0, .int .u64 0, .int .u32 0, .int .i64 0, .int .i64 0, .int .i64 0] 78 (0, 0)) from by rw [← hW, ← s2]; exact World.alloc_heap_new _ _)
 have HU0 := hid hU0
 have HU1 := hid hU1
 have HU2 := hid hU2
 have HW := hid hW
 have HRR := hid hR
 clear hR hU0 hU1 hU2 hW s0 s1 s2 b0 b1 b2 b3 h hl hx hr he hv ht
 have HWY := hid hwy
 have HHH := hid hh
 have HQ := hid hq
 have HQ1 := hid hq1
 have HMT := hid hm
 have HPK := hid hpk
 clear hwy hh hq hq1 hm hpk hn hs
 go_enter Try.func68, Try.ntmps68
 go_upto_region 1 with fail
 rw [HU0.out, HU1.out, HU2.out, HW.out, HRR.out]
 obtain ⟨a0, a1, a2, a3, a4, a5, a6⟩ := row7 HA.out
 obtain ⟨b0, b1, b2, b3, b4, b5, b6⟩ := row7 HB.out
 go_upto_region 3 with (go_at_call 34; with_reducible refine (CS.out _ HBW.out _ HT.out).mono ?_; rintro e w1 ⟨p1, n1, c1, rfl, HN1, HR1, HB1⟩)
 obtain ⟨g1, hp1, gl1, m0, m1, m2, m3, m4, m5, m6⟩ := rw_first HR1.out HN1.out
 subst hp1
 have hn1 : (0 : Int) < (n1 : Int) := by have := HN1.out; simp at this; omega
 clear a0 a1 a2 a3 a4 a5 a6 b0 b1 b2 b3 b4 b5 b6
 go_upto_region 4 with fail
 obtain ⟨g, hg⟩ : ∃ g, w1.heap.size = g := ⟨_, rfl⟩
 obtain ⟨M, hM⟩ : ∃ X, w1.alloc (.cells #[.int .u64 x.id, .int .u32 x.mb, .int .i64 x.ty, .int .i64 x.pr, .int .u64 x.vi, .int .u64 x.hi, .int .u64 x.pk] 50) = X := ⟨_, rfl⟩
 have bM : Below w1.heap.size w1 M := by rw [← hM]; exact ball _ _
 have HM := hid (show Ss w M R g #[.int .i64 d.cap, .int .i64 d.meet, .slice d.p1 d.o1.length d.c1, .slice d.p2 d.o2.length d.c2, .int .u64 d.high, .int .u64 d.seq, .slice p n c] #[.int .u64 o.id, .int .u64 x.vi, .int .u64 o.pk, .int .u32 o.mb, .int .i64 s, .int .i64 o.ty, .int .i64 o.pr] #[.int .u64 x.id, .int .u32 x.mb, .int .i64 x.ty, .int .i64 x.pr, .int .u64 x.vi, .int .u64 x.hi, .int .u64 x.pk] from ⟨btr (btr HBW.out HB1.out) bM, row_on (row_on HA.out HB1.out) bM, row_on (row_on HB.out HB1.out) bM, row_on (row_on HC.out HB1.out) bM, row_on (row_on HD.out HB1.out) bM, by rw [← hM, ← hg]; exact World.alloc_heap_new _ _, HRR.out, by rw [← hg]; exact (btr HBW.out HB1.out).size⟩)
 have HRX := hid (HR1.out.on bM)
 have HNG := hid (show ∀ j, (Value.slice (some ⟨g1, 0, none⟩) n1 c1).ownBlock = some j → j ≠ g from fun j hj e => by have h1 := (HR1.out.lt j hj).2; rw [hg] at h1; omega)
 rw [hM, hg]
 clear hM hg bM m0 m1 m2 m3 m4 m5 m6
 obtain ⟨a0, a1, a2, a3, a4, a5, a6⟩ := row7 HM.out.t
 obtain ⟨b0, b1, b2, b3, b4, b5, b6⟩ := row7 HM.out.c
 obtain ⟨m0, m1, m2, m3, m4, m5, m6⟩ := row7 HM.out.m
 rcases HWY.out with h1 | ⟨h1, h2⟩ | ⟨h1, h2, h3⟩
 focus
  have f1 : (x.mb == 0) = true := by simpa using h1
  have f1n : (x.mb != 0) = false := by simpa using h1
  clear h1
 rotate_left
 focus
  have f1 : (x.mb == 0) = false := by simpa using h1
  have f1n : (x.mb != 0) = true := by simpa using h1
  have f2 : (x.mb == o.mb) = false := by simpa using h2
  clear h1 h2
 rotate_left
 focus
  have f1 : (x.mb == 0) = false := by simpa using h1
  have f1n : (x.mb != 0) = true := by simpa using h1
  have f2 : (x.mb == o.mb) = true := by simpa using h2
  have g0 : (d.meet == 0) = true := by simpa using h3
  have g0n : (d.meet != 0) = false := by simpa using h3
  clear h1 h2 h3
 rotate_left
 all_goals
  have e1 : decide (x.vi < x.vi) = false := by simp
  have CT2 := hid (wtell d p n c es (evT o s x x.vi) HEN.out (by have := HNN.out; omega) M (HVV.out.on HM.out.be))
  unfold ecs evT at CT2
  simp only at CT2
  have HLB := hid (show (x :: r).length ≤ 1048576 from by rw [← HOS.out]; exact (HDM.out.at' (oth s)).2)
  go_upto_region 16 with fail
  go_upto_region 17 with (first | (go_at_call 30; with_reducible refine (CT2.out).mono ?_; rintro e w2 ⟨p2, c2, d2, rfl, HD2, HV2, HB2⟩; have AI2 := hid (show (Try.prog.info? 74).map (·.size) = some (#[.int .i64 d2.cap, .int .i64 d2.meet, .slice d2.p1 d2.o1.length d2.c1, .slice d2.p2 d2.o2.length d2.c2, .int .u64 d2.high, .int .u64 d2.seq, .slice p2 (n + 1) c2] : Array Value).size from i74 _ _ _ _ _ _ _); have AS2 := hid (show (#[.int .i64 d.cap, .int .i64 d.meet, .slice d.p1 d.o1.length d.c1, .slice d.p2 d.o2.length d.c2, .int .u64 d.high, .int .u64 d.seq, .slice p n c] : Array Value).size = (#[.int .i64 d2.cap, .int .i64 d2.meet, .slice d2.p1 d2.o1.length d2.c1, .slice d2.p2 d2.o2.length d2.c2, .int .u64 d2.high, .int .u64 d2.seq, .slice p2 (n + 1) c2] : Array Value).size from s7 _ _ _ _ _ _ _ _ _ _ _ _ _ _); have AA2 := hid (show (#[.int .i64 d2.cap, .int .i64 d2.meet, .slice d2.p1 d2.o1.length d2.c1, .slice d2.p2 d2.o2.length d2.c2, .int .u64 d2.high, .int .u64 d2.seq, .slice p2 (n + 1) c2] : Array Value).all (·.oneCell') = true from allT _ _ _ _); have HS2 := hid (HM.out.on HB2.out)) | (refine wpList_store_row (by rfl) 74 (.tmp 2) (.tmp 103) (by rfl) (R) #[.int .i64 d2.cap, .int .i64 d2.meet, .slice d2.p1 d2.o1.length d2.c1, .slice d2.p2 d2.o2.length d2.c2, .int .u64 d2.high, .int .u64 d2.seq, .slice p2 (n + 1) c2] (by rfl) (by rfl) 74 _ HS2.out.t AI2.out AS2.out AA2.out ?_))
  have HS3 := hid (HS2.out.setT #[.int .i64 d2.cap, .int .i64 d2.meet, .slice d2.p1 d2.o1.length d2.c1, .slice d2.p2 d2.o2.length d2.c2, .int .u64 d2.high, .int .u64 d2.seq, .slice p2 (n + 1) c2])
  have HV3 := hid (own_setRow (cs' := #[.int .i64 d2.cap, .int .i64 d2.meet, .slice d2.p1 d2.o1.length d2.c1, .slice d2.p2 d2.o2.length d2.c2, .int .u64 d2.high, .int .u64 d2.seq, .slice p2 (n + 1) c2]) HV2.out HS2.out.t (by decide))
  have HR3 := hid (own_setRow (cs' := #[.int .i64 d2.cap, .int .i64 d2.meet, .slice d2.p1 d2.o1.length d2.c1, .slice d2.p2 d2.o2.length d2.c2, .int .u64 d2.high, .int .u64 d2.seq, .slice p2 (n + 1) c2]) (HRX.out.on HB2.out) HS2.out.t (by decide))
  obtain ⟨W3, hW3⟩ : ∃ X, w2.setRow R #[.int .i64 d2.cap, .int .i64 d2.meet, .slice d2.p1 d2.o1.length d2.c1, .slice d2.p2 d2.o2.length d2.c2, .int .u64 d2.high, .int .u64 d2.seq, .slice p2 (n + 1) c2] = X := ⟨_, rfl⟩
  rw [hW3] at HS3 HV3 HR3 ⊢
  clear hW3 a0 a1 a2 a3 a4 a5 a6 b0 b1 b2 b3 b4 b5 b6 m0 m1 m2 m3 m4 m5 m6
  obtain ⟨b0, b1, b2, b3, b4, b5, b6⟩ := row7 HS3.out.c
  have fz := row_frz HS3.out.c 1
  go_upto_region 18 with fail
  have HS4 := hid (show Ss w (W3.setCell ⟨R + 1, 1, none⟩ (.int .u64 0)) R g #[.int .i64 d2.cap, .int .i64 d2.meet, .slice d2.p1 d2.o1.length d2.c1, .slice d2.p2 d2.o2.length d2.c2, .int .u64 d2.high, .int .u64 d2.seq, .slice p2 (n + 1) c2] #[.int .u64 o.id, .int .u64 0, .int .u64 o.pk, .int .u32 o.mb, .int .i64 s, .int .i64 o.ty, .int .i64 o.pr] #[.int .u64 x.id, .int .u32 x.mb, .int .i64 x.ty, .int .i64 x.pr, .int .u64 x.vi, .int .u64 x.hi, .int .u64 x.pk] from HS3.out.setC 1 (.int .u64 0))
  have HV4 := hid (own_set (k := 1) (v := .int .u64 0) HV3.out HS3.out.c (by decide))
  have HR4 := hid (own_set (k := 1) (v := .int .u64 0) HR3.out HS3.out.c (by decide))
  obtain ⟨W4, hW4⟩ : ∃ X, W3.setCell ⟨R + 1, 1, none⟩ (.int .u64 0) = X := ⟨_, rfl⟩
  rw [hW4] at HS4 HV4 HR4 ⊢
  clear hW4 b0 b1 b2 b3 b4 b5 b6 fz
  obtain ⟨m0, m1, m2, m3, m4, m5, m6⟩ := row7 HS4.out.m
  have fz := row_frz HS4.out.m 4
  go_upto_region 19 with fail
  have HS5 := hid (show Ss w (W4.setCell ⟨g, 4, none⟩ (.int .u64 0)) R g #[.int .i64 d2.cap, .int .i64 d2.meet, .slice d2.p1 d2.o1.length d2.c1, .slice d2.p2 d2.o2.length d2.c2, .int .u64 d2.high, .int .u64 d2.seq, .slice p2 (n + 1) c2] #[.int .u64 o.id, .int .u64 0, .int .u64 o.pk, .int .u32 o.mb, .int .i64 s, .int .i64 o.ty, .int .i64 o.pr] #[.int .u64 x.id, .int .u32 x.mb, .int .i64 x.ty, .int .i64 x.pr, .int .u64 0, .int .u64 x.hi, .int .u64 x.pk] from HS4.out.setM 4 (.int .u64 0))
  have HV5 := hid (own_set (k := 4) (v := .int .u64 0) HV4.out HS4.out.m (by decide))
  obtain ⟨W5, hW5⟩ : ∃ X, W4.setCell ⟨g, 4, none⟩ (.int .u64 0) = X := ⟨_, rfl⟩
  have HR5 := hid (show Rw (W4.setCell ⟨g, 4, none⟩ (.int .u64 0)) _ (x :: r) from own_same HR4.out (fun j hj => (Kp.set W4 g 4 _).obj j (HR4.out.lt j hj).2 (fun e => HNG.out j hj e)))
  rw [hW5] at HS5 HV5 HR5 ⊢
  clear hW5 m0 m1 m2 m3 m4 m5 m6 fz
  obtain ⟨m0, m1, m2, m3, m4, m5, m6⟩ := row7 HS5.out.m
  go_upto_region 20 with (go_at_call 33; with_reducible refine (wwithout2 _ n1 c1 (x :: r) x.id HN1.out (by have := HLB.out; have := HN1.out; omega) W5 HR5.out).mono ?_; rintro e w6 ⟨q5, m5', c5, rfl, HL5, HW5, HB5, HJ5⟩)
  have HS6 := hid (HS5.out.on HB5.out)
  have HV6 := hid (own_on HV5.out HB5.out)
  have HS6 := hid (HS5.out.on HB5.out)
  clear m0 m1 m2 m3 m4 m5 m6
  have hpp : 0 < x.pk := by have h0 := HXO.out; unfold OrOk at h0; have h1 := HHH.out; have h2 := HPK.out; omega
  have e3 : decide (0 < x.hi) = true := by have := HHH.out; simp; omega
  have e4 : decide (x.hi < x.pk) = true := by have := HHH.out; simp; omega
  have HPP := hid hpp
  clear hpp
  have HGN := hid (show ∀ j, (Value.slice q5 m5' c5).ownBlock = some j → j ≠ g from fun j hj e => by have h1 := HJ5.out j hj; have h2 := row_lt HS5.out.m; omega)
  obtain ⟨m0, m1, m2, m3, m4, m5, m6⟩ := row7 HS6.out.m
  have fz := row_frz HS6.out.m 4
  go_upto_region 25 with fail
  have HS7 := hid (show Ss w (w6.setCell ⟨g, 4, none⟩ (.int .u64 x.pk)) R g #[.int .i64 d2.cap, .int .i64 d2.meet, .slice d2.p1 d2.o1.length d2.c1, .slice d2.p2 d2.o2.length d2.c2, .int .u64 d2.high, .int .u64 d2.seq, .slice p2 (n + 1) c2] #[.int .u64 o.id, .int .u64 0, .int .u64 o.pk, .int .u32 o.mb, .int .i64 s, .int .i64 o.ty, .int .i64 o.pr] #[.int .u64 x.id, .int .u32 x.mb, .int .i64 x.ty, .int .i64 x.pr, .int .u64 x.pk, .int .u64 x.hi, .int .u64 x.pk] from HS6.out.setM 4 (.int .u64 x.pk))
  have HV7 := hid (own_set (k := 4) (v := .int .u64 x.pk) HV6.out HS6.out.m (by decide))
  have HR7 := hid (show Rw (w6.setCell ⟨g, 4, none⟩ (.int .u64 x.pk)) (.slice q5 m5' c5) (wo x.id (x :: r)) from own_same HW5.out (fun j hj => (Kp.set w6 g 4 _).obj j (HW5.out.lt j hj).2 (HGN.out j hj)))
  obtain ⟨W7, hW7⟩ : ∃ X, w6.setCell ⟨g, 4, none⟩ (.int .u64 x.pk) = X := ⟨_, rfl⟩
  rw [hW7] at HS7 HV7 HR7 ⊢
  clear hW7 m0 m1 m2 m3 m4 m5 m6 fz
  obtain ⟨m0, m1, m2, m3, m4, m5, m6⟩ := row7 HS7.out.m
  have fz := row_frz HS7.out.m 4
  go_upto_region 27 with fail
  have HS8 := hid (show Ss w (W7.setCell ⟨g, 4, none⟩ (.int .u64 x.hi)) R g #[.int .i64 d2.cap, .int .i64 d2.meet, .slice d2.p1 d2.o1.length d2.c1, .slice d2.p2 d2.o2.length d2.c2, .int .u64 d2.high, .int .u64 d2.seq, .slice p2 (n + 1) c2] #[.int .u64 o.id, .int .u64 0, .int .u64 o.pk, .int .u32 o.mb, .int .i64 s, .int .i64 o.ty, .int .i64 o.pr] #[.int .u64 x.id, .int .u32 x.mb, .int .i64 x.ty, .int .i64 x.pr, .int .u64 x.hi, .int .u64 x.hi, .int .u64 x.pk] from HS7.out.setM 4 (.int .u64 x.hi))
  have HV8 := hid (own_set (k := 4) (v := .int .u64 x.hi) HV7.out HS7.out.m (by decide))
  have HR8 := hid (show Rw (W7.setCell ⟨g, 4, none⟩ (.int .u64 x.hi)) (.slice q5 m5' c5) (wo x.id (x :: r)) from own_same HR7.out (fun j hj => (Kp.set W7 g 4 _).obj j (HR7.out.lt j hj).2 (HGN.out j hj)))
  obtain ⟨W8, hW8⟩ : ∃ X, W7.setCell ⟨g, 4, none⟩ (.int .u64 x.hi) = X := ⟨_, rfl⟩
  rw [hW8] at HS8 HV8 HR8 ⊢
  clear hW8 m0 m1 m2 m3 m4 m5 m6 fz
  obtain ⟨m0, m1, m2, m3, m4, m5, m6⟩ := row7 HS8.out.m
  have fz := row_frz HS8.out.m 5
  go_upto_region 28 with fail
  have HS9 := hid (show Ss w (W8.setCell ⟨g, 5, none⟩ (.int .u64 0)) R g #[.int .i64 d2.cap, .int .i64 d2.meet, .slice d2.p1 d2.o1.length d2.c1, .slice d2.p2 d2.o2.length d2.c2, .int .u64 d2.high, .int .u64 d2.seq, .slice p2 (n + 1) c2] #[.int .u64 o.id, .int .u64 0, .int .u64 o.pk, .int .u32 o.mb, .int .i64 s, .int .i64 o.ty, .int .i64 o.pr] #[.int .u64 x.id, .int .u32 x.mb, .int .i64 x.ty, .int .i64 x.pr, .int .u64 x.hi, .int .u64 0, .int .u64 x.pk] from HS8.out.setM 5 (.int .u64 0))
  have HV9 := hid (own_set (k := 5) (v := .int .u64 0) HV8.out HS8.out.m (by decide))
  have HR9 := hid (show Rw (W8.setCell ⟨g, 5, none⟩ (.int .u64 0)) (.slice q5 m5' c5) (wo x.id (x :: r)) from own_same HR8.out (fun j hj => (Kp.set W8 g 5 _).obj j (HR8.out.lt j hj).2 (HGN.out j hj)))
  obtain ⟨W9, hW9⟩ : ∃ X, W8.setCell ⟨g, 5, none⟩ (.int .u64 0) = X := ⟨_, rfl⟩
  rw [hW9] at HS9 HV9 HR9 ⊢
  clear hW9 m0 m1 m2 m3 m4 m5 m6 fz
  have CTa := hid (wtell d2 p2 (n + 1) c2 _ (evF (⟨x.id, x.mb, x.ty, x.pr, x.hi, 0, x.pk⟩ : Or)) (by rw [List.length_append, HEN.out]; rfl) (by have := HNN.out; omega) W9 HV9.out)
  unfold ecs evF at CTa
  simp only at CTa
  obtain ⟨a0, a1, a2, a3, a4, a5, a6⟩ := row7 HS9.out.t
  obtain ⟨m0, m1, m2, m3, m4, m5, m6⟩ := row7 HS9.out.m
  go_upto_region 29 with (first | (go_at_call 30; with_reducible refine (CTa.out).mono ?_; rintro e wa ⟨pa, ca, da, rfl, HDa, HVa, HBa⟩; have AIa := hid (show (Try.prog.info? 74).map (·.size) = some (#[.int .i64 da.cap, .int .i64 da.meet, .slice da.p1 da.o1.length da.c1, .slice da.p2 da.o2.length da.c2, .int .u64 da.high, .int .u64 da.seq, .slice pa ((n + 1) + 1) ca] : Array Value).size from i74 _ _ _ _ _ _ _); have ASa := hid (show (#[.int .i64 d2.cap, .int .i64 d2.meet, .slice d2.p1 d2.o1.length d2.c1, .slice d2.p2 d2.o2.length d2.c2, .int .u64 d2.high, .int .u64 d2.seq, .slice p2 (n + 1) c2] : Array Value).size = (#[.int .i64 da.cap, .int .i64 da.meet, .slice da.p1 da.o1.length da.c1, .slice da.p2 da.o2.length da.c2, .int .u64 da.high, .int .u64 da.seq, .slice pa ((n + 1) + 1) ca] : Array Value).size from s7 _ _ _ _ _ _ _ _ _ _ _ _ _ _); have AAa := hid (show (#[.int .i64 da.cap, .int .i64 da.meet, .slice da.p1 da.o1.length da.c1, .slice da.p2 da.o2.length da.c2, .int .u64 da.high, .int .u64 da.seq, .slice pa ((n + 1) + 1) ca] : Array Value).all (·.oneCell') = true from allT _ _ _ _); have HSa := hid (HS9.out.on HBa.out)) | (refine wpList_store_row (by rfl) 74 (.tmp 2) (.tmp 160) (by rfl) (R) #[.int .i64 da.cap, .int .i64 da.meet, .slice da.p1 da.o1.length da.c1, .slice da.p2 da.o2.length da.c2, .int .u64 da.high, .int .u64 da.seq, .slice pa ((n + 1) + 1) ca] (by rfl) (by rfl) 74 _ HSa.out.t AIa.out ASa.out AAa.out ?_))
  have HS10 := hid (HSa.out.setT #[.int .i64 da.cap, .int .i64 da.meet, .slice da.p1 da.o1.length da.c1, .slice da.p2 da.o2.length da.c2, .int .u64 da.high, .int .u64 da.seq, .slice pa ((n + 1) + 1) ca])
  have HV10 := hid (own_setRow (cs' := #[.int .i64 da.cap, .int .i64 da.meet, .slice da.p1 da.o1.length da.c1, .slice da.p2 da.o2.length da.c2, .int .u64 da.high, .int .u64 da.seq, .slice pa ((n + 1) + 1) ca]) HVa.out HSa.out.t (by decide))
  have HR10 := hid (show Rw (wa.setRow R #[.int .i64 da.cap, .int .i64 da.meet, .slice da.p1 da.o1.length da.c1, .slice da.p2 da.o2.length da.c2, .int .u64 da.high, .int .u64 da.seq, .slice pa ((n + 1) + 1) ca]) (.slice q5 m5' c5) (wo x.id (x :: r)) from own_setRow (HR9.out.on HBa.out) HSa.out.t (by decide))
  obtain ⟨W10, hW10⟩ : ∃ X, wa.setRow R #[.int .i64 da.cap, .int .i64 da.meet, .slice da.p1 da.o1.length da.c1, .slice da.p2 da.o2.length da.c2, .int .u64 da.high, .int .u64 da.seq, .slice pa ((n + 1) + 1) ca] = X := ⟨_, rfl⟩
  rw [hW10] at HS10 HV10 HR10 ⊢
  clear hW10 a0 a1 a2 a3 a4 a5 a6 m0 m1 m2 m3 m4 m5 m6
  obtain ⟨m0, m1, m2, m3, m4, m5, m6⟩ := row7 HS10.out.m
  have CE := hid (wenqN t q5 m5' c5 (wo x.id (x :: r)) (⟨x.id, x.mb, x.ty, x.pr, x.hi, 0, x.pk⟩ : Or) HL5.out (by have h1 := HLB.out; have h2 := HL5.out; have h3 := wo_len x.id (x :: r); omega) W10 HR10.out)
  simp only at CE
  go_upto_region 30 with (go_at_call 57; with_reducible refine (CE.out).mono ?_; rintro e wb ⟨q8, c8, rfl, HR8', HBb, HJ8⟩)
  have HS11 := hid (HS10.out.on HBb.out)
  clear m0 m1 m2 m3 m4 m5 m6
  have HLI := hid (show (inO (bhO t x.pr (wo x.id (x :: r))) (⟨x.id, x.mb, x.ty, x.pr, x.hi, 0, x.pk⟩ : Or) (wo x.id (x :: r))).length = m5' + 1 from by have h1 := bhO_le t x.pr (wo x.id (x :: r)); rw [← HL5.out]; unfold inO; simp; omega)
  obtain ⟨a0, a1, a2, a3, a4, a5, a6⟩ := row7 HS11.out.t
  go_upto_region 31 with (go_at_call 32; with_reducible refine (wwith da t q8 (m5' + 1) c8 (inO (bhO t x.pr (wo x.id (x :: r))) (⟨x.id, x.mb, x.ty, x.pr, x.hi, 0, x.pk⟩ : Or) (wo x.id (x :: r))) HLI.out wb).mono ?_; rintro e w7 ⟨d7, rfl, HD7, HB7⟩; have HS12 := hid (HS11.out.on HB7.out); obtain ⟨a0, a1, a2, a3, a4, a5, a6⟩ := row7 HS12.out.t; have z0 := row_frz HS12.out.t 0; have z1 := row_frz HS12.out.t 1; have z2 := row_frz HS12.out.t 2; have z3 := row_frz HS12.out.t 3; have z4 := row_frz HS12.out.t 4; have z5 := row_frz HS12.out.t 5)
  have h6 := set6 (.int .i64 d7.cap) (.int .i64 d7.meet) (.slice d7.p1 d7.o1.length d7.c1) (.slice d7.p2 d7.o2.length d7.c2) (.int .u64 d7.high) (.int .u64 d7.seq) HS12.out.t
  have HS13 := hid (HS12.out.kp h6.2 h6.1)
  have HK13 := hid h6.2
  clear h6
  obtain ⟨W13, hW13⟩ : ∃ X, ((((((w7.setCell ⟨R, 0, none⟩ (.int .i64 d7.cap)).setCell ⟨R, 1, none⟩ (.int .i64 d7.meet)).setCell ⟨R, 2, none⟩ (.slice d7.p1 d7.o1.length d7.c1)).setCell ⟨R, 3, none⟩ (.slice d7.p2 d7.o2.length d7.c2)).setCell ⟨R, 4, none⟩ (.int .u64 d7.high)).setCell ⟨R, 5, none⟩ (.int .u64 d7.seq)) = X := ⟨_, rfl⟩
  rw [hW13] at HS13 HK13 ⊢
  clear hW13
  have HO13 := hid (show ∀ (base : Nat) (e : TypeId) (size m : Nat) (v : Value) (xs : List Value), w7.ownsRow base e size v m xs → e ≠ 74 → W13.ownsRow base e size v m xs from fun base e size m v xs hh n1 => own_same hh (fun j hj => by obtain ⟨cc, hc⟩ := own_ty hh hj; exact HK13.out.obj j (row_lt hc) (row_ne hc HS12.out.t n1)))
  obtain ⟨V, hV⟩ : ∃ X, W13.drew = X := ⟨_, rfl⟩
  have HSV := hid (show Ss w V R g _ _ _ from by rw [← hV]; exact HS13.out.on (bdrew1 _))
  have HKV := hid (show Below W13.heap.size W13 V from by rw [← hV]; exact bdrew1 _)
  refine wp_region_held_drew (S := (fun U => (U.cell? ⟨R, 0, none⟩ = some (.int .i64 d7.cap) ∧ U.cell? ⟨R, 1, none⟩ = some (.int .i64 d7.meet) ∧ U.cell? ⟨R, 2, none⟩ = some (.slice d7.p1 d7.o1.length d7.c1) ∧ U.cell? ⟨R, 3, none⟩ = some (.slice d7.p2 d7.o2.length d7.c2) ∧ U.cell? ⟨R, 4, none⟩ = some (.int .u64 d7.high) ∧ U.cell? ⟨R, 5, none⟩ = some (.int .u64 d7.seq) ∧ U.cell? ⟨R, 6, none⟩ = some (.slice pa (n + 1 + 1) ca)) ∧ (U.cell? ⟨R + 1, 0, none⟩ = some (.int .u64 o.id) ∧ U.cell? ⟨R + 1, 1, none⟩ = some (.int .u64 0) ∧ U.cell? ⟨R + 1, 2, none⟩ = some (.int .u64 o.pk) ∧ U.cell? ⟨R + 1, 3, none⟩ = some (.int .u32 o.mb) ∧ U.cell? ⟨R + 1, 4, none⟩ = some (.int .i64 s) ∧ U.cell? ⟨R + 1, 5, none⟩ = some (.int .i64 o.ty) ∧ U.cell? ⟨R + 1, 6, none⟩ = some (.int .i64 o.pr)))) (by kernel_rfl) ?_ (fun hHeld => ?_)
  ·(try dsimp only); ((rw [hV]; exact ⟨row7 HSV.out.t, row7 HSV.out.c⟩))
  rw [hV] at hHeld ⊢
  clear hV
  refine' wpAnyH_take (i := 0) (oi := _) (v := _) rfl (by kernel_rfl) (by kernel_rfl) (by kernel_rfl) (fun _ _ _ h => h) (Or.inl ⟨by kernel_rfl, ?_⟩) (by assumption) ?_
  rotate_left
  ·(intro w hSw; (try dsimp only at hSw); go_simp; try (with_reducible rfl))
  try simp only [List.getElem_toArray, List.getElem_cons_succ, List.getElem_cons_zero, Act.put, List.setIfInBounds_toArray, List.set_cons_zero, List.set_cons_succ]
  refine' wpAnyH_take (i := 1) (oi := _) (v := _) rfl (by kernel_rfl) (by kernel_rfl) (by kernel_rfl) (fun _ _ _ h => h) (Or.inl ⟨by kernel_rfl, ?_⟩) (by assumption) ?_
  rotate_left
  ·(intro w hSw; (try dsimp only at hSw); go_simp; try (with_reducible rfl))
  try simp only [List.getElem_toArray, List.getElem_cons_succ, List.getElem_cons_zero, Act.put, List.setIfInBounds_toArray, List.set_cons_zero, List.set_cons_succ]
  have AIE1 := hid (show (Try.prog.info? 74).map (·.size) = some (#[.int .i64 d7.cap, .int .i64 d7.meet, .slice d7.p1 d7.o1.length d7.c1, .slice d7.p2 d7.o2.length d7.c2, .int .u64 d7.high, .int .u64 d7.seq, .slice pa (n + 1 + 1) ca] : Array Value).size from info74)
  have ASE1 := hid (show (#[.int .i64 0, .int .i64 0, .slice none 0 0, .slice none 0 0, .int .u64 0, .int .u64 0, .slice none 0 0] : Array Value).size = (#[.int .i64 d7.cap, .int .i64 d7.meet, .slice d7.p1 d7.o1.length d7.c1, .slice d7.p2 d7.o2.length d7.c2, .int .u64 d7.high, .int .u64 d7.seq, .slice pa (n + 1 + 1) ca] : Array Value).size from rfl)
  have AAE1 := hid (show (#[.int .i64 d7.cap, .int .i64 d7.meet, .slice d7.p1 d7.o1.length d7.c1, .slice d7.p2 d7.o2.length d7.c2, .int .u64 d7.high, .int .u64 d7.seq, .slice pa (n + 1 + 1) ca] : Array Value).all (·.oneCell') = true from by simp [Value.oneCell'])
  have AIE2 := hid (show (Try.prog.info? 78).map (·.size) = some (#[.int .u64 o.id, .int .u64 0, .int .u64 o.pk, .int .u32 o.mb, .int .i64 s, .int .i64 o.ty, .int .i64 o.pr] : Array Value).size from info78)
  have ASE2 := hid (show (#[.int .u64 0, .int .u64 0, .int .u64 0, .int .u32 0, .int .i64 0, .int .i64 0, .int .i64 0] : Array Value).size = (#[.int .u64 o.id, .int .u64 0, .int .u64 o.pk, .int .u32 o.mb, .int .i64 s, .int .i64 o.ty, .int .i64 o.pr] : Array Value).size from rfl)
  have AAE2 := hid (show (#[.int .u64 o.id, .int .u64 0, .int .u64 o.pk, .int .u32 o.mb, .int .i64 s, .int .i64 o.ty, .int .i64 o.pr] : Array Value).all (·.oneCell') = true from by simp [Value.oneCell'])
  refine wpAnyH_ready (rs := [2]) (by kernel_rfl) (by simp) ?_
  refine AllReadyH.cons (o := _) rfl (fun K hK => ?_) AllReadyH.nil
  refine step_store_row (by rfl) 74 (.tmp 4) (.tmp 171) (by rfl) (R + 1 + 1) #[.int .i64 d7.cap, .int .i64 d7.meet, .slice d7.p1 d7.o1.length d7.c1, .slice d7.p2 d7.o2.length d7.c2, .int .u64 d7.high, .int .u64 d7.seq, .slice pa (n + 1 + 1) ca] (by rfl) (by rfl) 74 _ HSV.out.z1 AIE1.out ASE1.out AAE1.out ?_
  have k1 := setRow_kp V (R + 1 + 1) #[.int .i64 d7.cap, .int .i64 d7.meet, .slice d7.p1 d7.o1.length d7.c1, .slice d7.p2 d7.o2.length d7.c2, .int .u64 d7.high, .int .u64 d7.seq, .slice pa (n + 1 + 1) ca]
  have HZ1 := hid (setRow_heap V (R + 1 + 1) _ #[.int .i64 d7.cap, .int .i64 d7.meet, .slice d7.p1 d7.o1.length d7.c1, .slice d7.p2 d7.o2.length d7.c2, .int .u64 d7.high, .int .u64 d7.seq, .slice pa (n + 1 + 1) ca] 74 (0, 0) HSV.out.z1)
  have HZ2 := hid (k1.row HSV.out.z2 (by omega))
  have HZT := hid (k1.row HSV.out.t (by omega))
  have HZC := hid (k1.row HSV.out.c (by omega))
  have HZB := hid (HSV.out.be.trans (k1.below HSV.out.be.size (fun j hj e => by have := HSV.out.r; omega)))
  have HK1 := hid k1
  refine hK.out _ _ ?_ (fun hHeld => ?_)
  ·(try dsimp only); exact ⟨row7 HZT.out, row7 HZC.out⟩
  clear hK K k1
  try simp only [List.getElem_toArray, List.getElem_cons_succ, List.getElem_cons_zero, Act.put, List.setIfInBounds_toArray, List.set_cons_zero, List.set_cons_succ]
  obtain ⟨X1, hX1⟩ : ∃ X, V.setRow (R + 1 + 1) #[.int .i64 d7.cap, .int .i64 d7.meet, .slice d7.p1 d7.o1.length d7.c1, .slice d7.p2 d7.o2.length d7.c2, .int .u64 d7.high, .int .u64 d7.seq, .slice pa (n + 1 + 1) ca] = X := ⟨_, rfl⟩
  rw [hX1] at HZ1 HZ2 HZT HZC HZB HK1 hHeld ⊢
  clear hX1
  refine wpAnyH_ready (rs := [3]) (by kernel_rfl) (by simp) ?_
  refine AllReadyH.cons (o := _) rfl (fun K hK => ?_) AllReadyH.nil
  refine step_store_row (by rfl) 78 (.tmp 5) (.tmp 172) (by rfl) (R + 1 + 1 + 1) #[.int .u64 o.id, .int .u64 0, .int .u64 o.pk, .int .u32 o.mb, .int .i64 s, .int .i64 o.ty, .int .i64 o.pr] (by rfl) (by rfl) 78 _ HZ2.out AIE2.out ASE2.out AAE2.out ?_
  have k2 := setRow_kp X1 (R + 1 + 1 + 1) #[.int .u64 o.id, .int .u64 0, .int .u64 o.pk, .int .u32 o.mb, .int .i64 s, .int .i64 o.ty, .int .i64 o.pr]
  have HY1 := hid (k2.row HZ1.out (by omega))
  have HY2 := hid (setRow_heap X1 (R + 1 + 1 + 1) _ #[.int .u64 o.id, .int .u64 0, .int .u64 o.pk, .int .u32 o.mb, .int .i64 s, .int .i64 o.ty, .int .i64 o.pr] 78 (0, 0) HZ2.out)
  have HYB := hid (HZB.out.trans (k2.below HZB.out.size (fun j hj e => by have := HSV.out.r; omega)))
  have HK2 := hid k2
  refine hK.out _ _ ?_ (fun hHeld => ?_)
  ·(try dsimp only); exact ⟨row7 (k2.row HZT.out (by omega)), row7 (k2.row HZC.out (by omega))⟩
  clear hK K k2
  try simp only [List.getElem_toArray, List.getElem_cons_succ, List.getElem_cons_zero, Act.put, List.setIfInBounds_toArray, List.set_cons_zero, List.set_cons_succ]
  refine wpAnyH_done (by kernel_rfl) ?_ _
  obtain ⟨X2, hX2⟩ : ∃ X, X1.setRow (R + 1 + 1 + 1) #[.int .u64 o.id, .int .u64 0, .int .u64 o.pk, .int .u32 o.mb, .int .i64 s, .int .i64 o.ty, .int .i64 o.pr] = X := ⟨_, rfl⟩
  rw [hX2] at HY1 HY2 HYB HK2 ⊢
  clear hX2 hHeld
  go_wp2
  refine bodyPost_ret (res_cc Try.results68 _ _ (R + 1 + 1) (R + 1 + 1 + 1) 74 78 #[.int .i64 d7.cap, .int .i64 d7.meet, .slice d7.p1 d7.o1.length d7.c1, .slice d7.p2 d7.o2.length d7.c2, .int .u64 d7.high, .int .u64 d7.seq, .slice pa (n + 1 + 1) ca] #[.int .u64 o.id, .int .u64 0, .int .u64 o.pk, .int .u32 o.mb, .int .i64 s, .int .i64 o.ty, .int .i64 o.pr] (0, 0) (0, 0) _ _ (by rfl) (by rfl) HY1.out HY2.out Try.underlying74 rfl info74 Try.underlying78 rfl info78) rfl ?_
  have HKE := hid (show ∀ (base : Nat) (e : TypeId) (size m : Nat) (v : Value) (xs : List Value), W13.ownsRow base e size v m xs → e ≠ 74 → e ≠ 78 → X2.ownsRow base e size v m xs from fun base e size m v xs hh n1 n2 => by
   have h1 := own_on hh HKV.out
   have h2 := own_same (w' := X1) h1 (fun j hj => by obtain ⟨cc, hc⟩ := own_ty h1 hj; exact HK1.out.obj j (row_lt hc) (row_ne hc HSV.out.z1 n1))
   exact own_same h2 (fun j hj => by obtain ⟨cc, hc⟩ := own_ty h2 hj; exact HK2.out.obj j (row_lt hc) (row_ne hc HZ2.out n2)))
  have hmin : min x.vi x.vi = x.vi := by have := HXO.out; unfold OrOk at this; omega
  have hy : (x.less x.vi).shn = (⟨x.id, x.mb, x.ty, x.pr, x.hi, 0, x.pk⟩ : Or) := by
   have h1 := HHH.out
   have h2 := HPP.out
   unfold Or.shn Or.less shw
   simp only
   rw [if_pos (by omega)]
  have HZ : stD d.seq d.meet o s x.vi x r = (inO (bhO (oth s) x.pr r) (⟨x.id, x.mb, x.ty, x.pr, x.hi, 0, x.pk⟩ : Or) r, [(evT o s x x.vi).num (nx d.seq), (evF (⟨x.id, x.mb, x.ty, x.pr, x.hi, 0, x.pk⟩ : Or)).num (nx (nx d.seq))], 0, nx (nx d.seq)) := by
   unfold stD
   rw [if_neg (by first | (unfold prtO; rw [g0]; simp; done) | (unfold prtO; rw [f2]; simp; done) | (unfold prtO; rw [f1]; simp; done)), hmin, if_neg (by omega), if_neg (by have := HHH.out; omega), hy]
   simp
  rw [HZ]
  have hd := HD2.out
  subst hd
  have hda := HDa.out
  subst hda
  have hd7 := HD7.out
  rw [← HT.out, wo_self HRN.out] at hd7
  have hli := HLI.out
  have hr8 := HR8'.out
  rw [← HT.out, wo_self HRN.out] at hli
  rw [wo_self HRN.out, ← HT.out] at hr8
  obtain ⟨j1, j2, j3, j4, j5, j6⟩ := put_os d.told.told HSS.out q8 c8 (inO (bhO (oth s) x.pr r) (⟨x.id, x.mb, x.ty, x.pr, x.hi, 0, x.pk⟩ : Or) r)
  subst hd7
  rw [← hli] at hr8
  refine ⟨_, pa, n + 1 + 1, ca, rfl, ?_, ?_, ?_, j1, j2, j3, j4, j5, j6, HYB.out⟩
  ·exact ⟨Dm.put (d := d.told.told) ⟨(HDM.out.on HYB.out).r1, (HDM.out.on HYB.out).r2, HDM.out.l1, HDM.out.l2⟩ (HKE.out _ _ _ _ _ _ (HO13.out _ _ _ _ _ _ (own_on hr8 HB7.out) (by decide)) (by decide) (by decide)) (by rw [hli]; have h1 := HLB.out; have h2 := HL5.out; rw [wo_self HRN.out] at h2; simp at h1; omega), Nwl.put (d := d.told.told) ⟨fun _ h => .inl h, fun _ h => .inl h⟩ (fun j hj => Nat.le_trans HS10.out.be.size (HJ8.out j hj))⟩
  ·rw [List.length_append, HEN.out]; rfl
  ·have h9 := HKE.out _ _ _ _ _ _ (HO13.out _ _ _ _ _ _ (own_on (own_on HV10.out HBb.out) HB7.out) (by decide)) (by decide) (by decide); unfold Rv; rw [List.append_assoc] at h9; rw [List.length_append, HEN.out]; rw [List.length_append, HEN.out] at h9; exact h9
theorem dstep_tCg (d : Db) (o : Or) (s q : Int) (x : Or) (r : List Or) (p : Option Addr) (n c : Nat) (es : List Ev) (w : World) (hs : s = 1 ∨ s = 2) (h : Dm w d) (hl : d.os (oth s) = x :: r) (hx : OrOk x) (hpk : x.pk = 0 → x.hi = 0) (hq : 0 < q) (hq1 : q < 4294967296) (hr : ∀ y ∈ r, y.id ≠ x.id) (hm : 0 ≤ d.meet ∧ d.meet ≤ 3) (he : es.length = n) (hv : Rv w (.slice p n c) es) (hn : n ≤ 17179869182)
  (hwy : x.mb = 0 ∨ (x.mb ≠ 0 ∧ x.mb ≠ o.mb) ∨ (x.mb ≠ 0 ∧ x.mb = o.mb ∧ d.meet = 0)) (hc : q = x.vi) (hh : 0 < x.hi ∧ x.pk ≤ x.hi) :
  Calls Try.prog 68 #[.agg #[.int .i64 d.cap, .int .i64 d.meet, .slice d.p1 d.o1.length d.c1, .slice d.p2 d.o2.length d.c2, .int .u64 d.high, .int .u64 d.seq, .slice p n c], .agg #[.int .u64 o.id, .int .u64 q, .int .u64 o.pk, .int .u32 o.mb, .int .i64 s, .int .i64 o.ty, .int .i64 o.pr]] w fun e w' => ∃ d2 p2 n2 c2, e = .returned (.tuple #[.agg #[.int .i64 d2.cap, .int .i64 d2.meet, .slice d2.p1 d2.o1.length d2.c1, .slice d2.p2 d2.o2.length d2.c2, .int .u64 d2.high, .int .u64 d2.seq, .slice p2 n2 c2], .agg #[.int .u64 o.id, .int .u64 (stD d.seq d.meet o s q x r).2.2.1, .int .u64 o.pk, .int .u32 o.mb, .int .i64 s, .int .i64 o.ty, .int .i64 o.pr]]) ∧ (Dm w' d2 ∧ Nwl w.heap.size d d2) ∧ (es ++ (stD d.seq d.meet o s q x r).2.1).length = n2 ∧ Rv w' (.slice p2 n2 c2) (es ++ (stD d.seq d.meet o s q x r).2.1) ∧ d2.os (oth s) = (stD d.seq d.meet o s q x r).1 ∧ d2.os s = d.os s ∧ d2.cap = d.cap ∧ d2.meet = d.meet ∧ d2.high = d.high ∧ d2.seq = (stD d.seq d.meet o s q x r).2.2.2 ∧ Below w.heap.size w w' := by
 subst hc
 have CS := hid (fun (U : World) (hU : Below w.heap.size w U) (t : Int) (ht : oth s = t) => wside d s t ht hs U (h.on hU))
 rw [hl] at CS
 have ho := oth_wrap hs
 obtain ⟨t, ht⟩ : ∃ t, oth s = t := ⟨_, rfl⟩
 have HT := hid ht
 rw [ht] at ho
 have HDM := hid h
 have HOS := hid hl
 have HXO := hid hx
 have HRN := hid hr
 have HEN := hid he
 have HVV := hid hv
 have HNN := hid hn
 have HSS := hid hs
 obtain ⟨R, hR⟩ : ∃ R, w.heap.size = R := ⟨_, rfl⟩
 obtain ⟨U0, hU0⟩ : ∃ U, w.alloc (.cells #[.int .i64 d.cap, .int .i64 d.meet, .slice d.p1 d.o1.length d.c1, .slice d.p2 d.o2.length d.c2, .int .u64 d.high, .int .u64 d.seq, .slice p n c] 74) = U := ⟨_, rfl⟩
 obtain ⟨U1, hU1⟩ : ∃ U, U0.alloc (.cells #[.int .u64 o.id, .int .u64 x.vi, .int .u64 o.pk, .int .u32 o.mb, .int .i64 s, .int .i64 o.ty, .int .i64 o.pr] 78) = U := ⟨_, rfl⟩
 obtain ⟨U2, hU2⟩ : ∃ U, U1.alloc (.cells #[.int .i64 0, .int .i64 0, .slice none 0 0, .slice none 0 0, .int .u64 0, .int .u64 0, .slice none 0 0] 74) = U := ⟨_, rfl⟩
 obtain ⟨W, hW⟩ : ∃ U, U2.alloc (.cells #[.int .u64 0, .int .u64 0, .int .u64 0, .int .u32 0, .int .i64 0, .int .i64 0, .int .i64 0] 78) = U := ⟨_, rfl⟩
 have s0 : U0.heap.size = R + 1 := by rw [← hU0, ← hR]; simp
 have s1 : U1.heap.size = R + 1 + 1 := by rw [← hU1]; simp [s0]
 have s2 : U2.heap.size = R + 1 + 1 + 1 := by rw [← hU2]; simp [s1]
 have b0 : Below w.heap.size w U0 := by rw [← hU0]; exact ball _ _
 have b1 : Below U0.heap.size U0 U1 := by rw [← hU1]; exact ball _ _
 have b2 : Below U1.heap.size U1 U2 := by rw [← hU2]; exact ball _ _
 have b3 : Below U2.heap.size U2 W := by rw [← hW]; exact ball _ _
 have HBW := hid (btr (btr (btr b0 b1) b2) b3)
 have HA := hid (show W.heap[R]? = some (.cells #[.int .i64 d.cap, .int .i64 d.meet, .slice d.p1 d.o1.length d.c1, .slice d.p2 d.o2.length d.c2, .int .u64 d.high, .int .u64 d.seq, .slice p n c] 74 (0, 0)) from row_on (row_on (row_on (by rw [← hU0, ← hR]; exact World.alloc_heap_new _ _) b1) b2) b3)
 have HB := hid (show W.heap[R + 1]? = some (.cells #[.int .u64 o.id, .int .u64 x.vi, .int .u64 o.pk, .int .u32 o.mb, .int .i64 s, .int .i64 o.ty, .int .i64 o.pr] 78 (0, 0)) from row_on (row_on (by rw [← hU1, ← s0]; exact World.alloc_heap_new _ _) b2) b3)
 have HC := hid (show W.heap[R + 1 + 1]? = some (.cells #[.int .i64 0, .int .i64 0, .slice none 0 0, .slice none 0 0, .int .u64 0, .int .u64 0, .slice none 0 0] 74 (0, 0)) from row_on (by rw [← hU2, ← s1]; exact World.alloc_heap_new _ _) b3)
 have HD := hid (show W.heap[R + 1 + 1 + 1]? = some (.cells #[.int .u64 0, .int .u64 0, .int .u64 0, .int .u32 0, .int .i64 0, .int .i64 0, .int .i64 0] 78 (0, 0)) from by rw [← hW, ← s2]; exact World.alloc_heap_new _ _)
 have HU0 := hid hU0
 have HU1 := hid hU1
 have HU2 := hid hU2
 have HW := hid hW
 have HRR := hid hR
 clear hR hU0 hU1 hU2 hW s0 s1 s2 b0 b1 b2 b3 h hl hx hr he hv ht
 have HWY := hid hwy
 have HHH := hid hh
 have HQ := hid hq
 have HQ1 := hid hq1
 have HMT := hid hm
 have HPK := hid hpk
 clear hwy hh hq hq1 hm hpk hn hs
 go_enter Try.func68, Try.ntmps68
 go_upto_region 1 with fail
 rw [HU0.out, HU1.out, HU2.out, HW.out, HRR.out]
 obtain ⟨a0, a1, a2, a3, a4, a5, a6⟩ := row7 HA.out
 obtain ⟨b0, b1, b2, b3, b4, b5, b6⟩ := row7 HB.out
 go_upto_region 3 with (go_at_call 34; with_reducible refine (CS.out _ HBW.out _ HT.out).mono ?_; rintro e w1 ⟨p1, n1, c1, rfl, HN1, HR1, HB1⟩)
 obtain ⟨g1, hp1, gl1, m0, m1, m2, m3, m4, m5, m6⟩ := rw_first HR1.out HN1.out
 subst hp1
 have hn1 : (0 : Int) < (n1 : Int) := by have := HN1.out; simp at this; omega
 clear a0 a1 a2 a3 a4 a5 a6 b0 b1 b2 b3 b4 b5 b6
 go_upto_region 4 with fail
 obtain ⟨g, hg⟩ : ∃ g, w1.heap.size = g := ⟨_, rfl⟩
 obtain ⟨M, hM⟩ : ∃ X, w1.alloc (.cells #[.int .u64 x.id, .int .u32 x.mb, .int .i64 x.ty, .int .i64 x.pr, .int .u64 x.vi, .int .u64 x.hi, .int .u64 x.pk] 50) = X := ⟨_, rfl⟩
 have bM : Below w1.heap.size w1 M := by rw [← hM]; exact ball _ _
 have HM := hid (show Ss w M R g #[.int .i64 d.cap, .int .i64 d.meet, .slice d.p1 d.o1.length d.c1, .slice d.p2 d.o2.length d.c2, .int .u64 d.high, .int .u64 d.seq, .slice p n c] #[.int .u64 o.id, .int .u64 x.vi, .int .u64 o.pk, .int .u32 o.mb, .int .i64 s, .int .i64 o.ty, .int .i64 o.pr] #[.int .u64 x.id, .int .u32 x.mb, .int .i64 x.ty, .int .i64 x.pr, .int .u64 x.vi, .int .u64 x.hi, .int .u64 x.pk] from ⟨btr (btr HBW.out HB1.out) bM, row_on (row_on HA.out HB1.out) bM, row_on (row_on HB.out HB1.out) bM, row_on (row_on HC.out HB1.out) bM, row_on (row_on HD.out HB1.out) bM, by rw [← hM, ← hg]; exact World.alloc_heap_new _ _, HRR.out, by rw [← hg]; exact (btr HBW.out HB1.out).size⟩)
 have HRX := hid (HR1.out.on bM)
 have HNG := hid (show ∀ j, (Value.slice (some ⟨g1, 0, none⟩) n1 c1).ownBlock = some j → j ≠ g from fun j hj e => by have h1 := (HR1.out.lt j hj).2; rw [hg] at h1; omega)
 rw [hM, hg]
 clear hM hg bM m0 m1 m2 m3 m4 m5 m6
 obtain ⟨a0, a1, a2, a3, a4, a5, a6⟩ := row7 HM.out.t
 obtain ⟨b0, b1, b2, b3, b4, b5, b6⟩ := row7 HM.out.c
 obtain ⟨m0, m1, m2, m3, m4, m5, m6⟩ := row7 HM.out.m
 rcases HWY.out with h1 | ⟨h1, h2⟩ | ⟨h1, h2, h3⟩
 focus
  have f1 : (x.mb == 0) = true := by simpa using h1
  have f1n : (x.mb != 0) = false := by simpa using h1
  clear h1
 rotate_left
 focus
  have f1 : (x.mb == 0) = false := by simpa using h1
  have f1n : (x.mb != 0) = true := by simpa using h1
  have f2 : (x.mb == o.mb) = false := by simpa using h2
  clear h1 h2
 rotate_left
 focus
  have f1 : (x.mb == 0) = false := by simpa using h1
  have f1n : (x.mb != 0) = true := by simpa using h1
  have f2 : (x.mb == o.mb) = true := by simpa using h2
  have g0 : (d.meet == 0) = true := by simpa using h3
  have g0n : (d.meet != 0) = false := by simpa using h3
  clear h1 h2 h3
 rotate_left
 all_goals
  have e1 : decide (x.vi < x.vi) = false := by simp
  have CT2 := hid (wtell d p n c es (evT o s x x.vi) HEN.out (by have := HNN.out; omega) M (HVV.out.on HM.out.be))
  unfold ecs evT at CT2
  simp only at CT2
  have HLB := hid (show (x :: r).length ≤ 1048576 from by rw [← HOS.out]; exact (HDM.out.at' (oth s)).2)
  go_upto_region 16 with fail
  go_upto_region 17 with (first | (go_at_call 30; with_reducible refine (CT2.out).mono ?_; rintro e w2 ⟨p2, c2, d2, rfl, HD2, HV2, HB2⟩; have AI2 := hid (show (Try.prog.info? 74).map (·.size) = some (#[.int .i64 d2.cap, .int .i64 d2.meet, .slice d2.p1 d2.o1.length d2.c1, .slice d2.p2 d2.o2.length d2.c2, .int .u64 d2.high, .int .u64 d2.seq, .slice p2 (n + 1) c2] : Array Value).size from i74 _ _ _ _ _ _ _); have AS2 := hid (show (#[.int .i64 d.cap, .int .i64 d.meet, .slice d.p1 d.o1.length d.c1, .slice d.p2 d.o2.length d.c2, .int .u64 d.high, .int .u64 d.seq, .slice p n c] : Array Value).size = (#[.int .i64 d2.cap, .int .i64 d2.meet, .slice d2.p1 d2.o1.length d2.c1, .slice d2.p2 d2.o2.length d2.c2, .int .u64 d2.high, .int .u64 d2.seq, .slice p2 (n + 1) c2] : Array Value).size from s7 _ _ _ _ _ _ _ _ _ _ _ _ _ _); have AA2 := hid (show (#[.int .i64 d2.cap, .int .i64 d2.meet, .slice d2.p1 d2.o1.length d2.c1, .slice d2.p2 d2.o2.length d2.c2, .int .u64 d2.high, .int .u64 d2.seq, .slice p2 (n + 1) c2] : Array Value).all (·.oneCell') = true from allT _ _ _ _); have HS2 := hid (HM.out.on HB2.out)) | (refine wpList_store_row (by rfl) 74 (.tmp 2) (.tmp 103) (by rfl) (R) #[.int .i64 d2.cap, .int .i64 d2.meet, .slice d2.p1 d2.o1.length d2.c1, .slice d2.p2 d2.o2.length d2.c2, .int .u64 d2.high, .int .u64 d2.seq, .slice p2 (n + 1) c2] (by rfl) (by rfl) 74 _ HS2.out.t AI2.out AS2.out AA2.out ?_))
  have HS3 := hid (HS2.out.setT #[.int .i64 d2.cap, .int .i64 d2.meet, .slice d2.p1 d2.o1.length d2.c1, .slice d2.p2 d2.o2.length d2.c2, .int .u64 d2.high, .int .u64 d2.seq, .slice p2 (n + 1) c2])
  have HV3 := hid (own_setRow (cs' := #[.int .i64 d2.cap, .int .i64 d2.meet, .slice d2.p1 d2.o1.length d2.c1, .slice d2.p2 d2.o2.length d2.c2, .int .u64 d2.high, .int .u64 d2.seq, .slice p2 (n + 1) c2]) HV2.out HS2.out.t (by decide))
  have HR3 := hid (own_setRow (cs' := #[.int .i64 d2.cap, .int .i64 d2.meet, .slice d2.p1 d2.o1.length d2.c1, .slice d2.p2 d2.o2.length d2.c2, .int .u64 d2.high, .int .u64 d2.seq, .slice p2 (n + 1) c2]) (HRX.out.on HB2.out) HS2.out.t (by decide))
  obtain ⟨W3, hW3⟩ : ∃ X, w2.setRow R #[.int .i64 d2.cap, .int .i64 d2.meet, .slice d2.p1 d2.o1.length d2.c1, .slice d2.p2 d2.o2.length d2.c2, .int .u64 d2.high, .int .u64 d2.seq, .slice p2 (n + 1) c2] = X := ⟨_, rfl⟩
  rw [hW3] at HS3 HV3 HR3 ⊢
  clear hW3 a0 a1 a2 a3 a4 a5 a6 b0 b1 b2 b3 b4 b5 b6 m0 m1 m2 m3 m4 m5 m6
  obtain ⟨b0, b1, b2, b3, b4, b5, b6⟩ := row7 HS3.out.c
  have fz := row_frz HS3.out.c 1
  go_upto_region 18 with fail
  have HS4 := hid (show Ss w (W3.setCell ⟨R + 1, 1, none⟩ (.int .u64 0)) R g #[.int .i64 d2.cap, .int .i64 d2.meet, .slice d2.p1 d2.o1.length d2.c1, .slice d2.p2 d2.o2.length d2.c2, .int .u64 d2.high, .int .u64 d2.seq, .slice p2 (n + 1) c2] #[.int .u64 o.id, .int .u64 0, .int .u64 o.pk, .int .u32 o.mb, .int .i64 s, .int .i64 o.ty, .int .i64 o.pr] #[.int .u64 x.id, .int .u32 x.mb, .int .i64 x.ty, .int .i64 x.pr, .int .u64 x.vi, .int .u64 x.hi, .int .u64 x.pk] from HS3.out.setC 1 (.int .u64 0))
  have HV4 := hid (own_set (k := 1) (v := .int .u64 0) HV3.out HS3.out.c (by decide))
  have HR4 := hid (own_set (k := 1) (v := .int .u64 0) HR3.out HS3.out.c (by decide))
  obtain ⟨W4, hW4⟩ : ∃ X, W3.setCell ⟨R + 1, 1, none⟩ (.int .u64 0) = X := ⟨_, rfl⟩
  rw [hW4] at HS4 HV4 HR4 ⊢
  clear hW4 b0 b1 b2 b3 b4 b5 b6 fz
  obtain ⟨m0, m1, m2, m3, m4, m5, m6⟩ := row7 HS4.out.m
  have fz := row_frz HS4.out.m 4
  go_upto_region 19 with fail
  have HS5 := hid (show Ss w (W4.setCell ⟨g, 4, none⟩ (.int .u64 0)) R g #[.int .i64 d2.cap, .int .i64 d2.meet, .slice d2.p1 d2.o1.length d2.c1, .slice d2.p2 d2.o2.length d2.c2, .int .u64 d2.high, .int .u64 d2.seq, .slice p2 (n + 1) c2] #[.int .u64 o.id, .int .u64 0, .int .u64 o.pk, .int .u32 o.mb, .int .i64 s, .int .i64 o.ty, .int .i64 o.pr] #[.int .u64 x.id, .int .u32 x.mb, .int .i64 x.ty, .int .i64 x.pr, .int .u64 0, .int .u64 x.hi, .int .u64 x.pk] from HS4.out.setM 4 (.int .u64 0))
  have HV5 := hid (own_set (k := 4) (v := .int .u64 0) HV4.out HS4.out.m (by decide))
  obtain ⟨W5, hW5⟩ : ∃ X, W4.setCell ⟨g, 4, none⟩ (.int .u64 0) = X := ⟨_, rfl⟩
  have HR5 := hid (show Rw (W4.setCell ⟨g, 4, none⟩ (.int .u64 0)) _ (x :: r) from own_same HR4.out (fun j hj => (Kp.set W4 g 4 _).obj j (HR4.out.lt j hj).2 (fun e => HNG.out j hj e)))
  rw [hW5] at HS5 HV5 HR5 ⊢
  clear hW5 m0 m1 m2 m3 m4 m5 m6 fz
  obtain ⟨m0, m1, m2, m3, m4, m5, m6⟩ := row7 HS5.out.m
  go_upto_region 20 with (go_at_call 33; with_reducible refine (wwithout2 _ n1 c1 (x :: r) x.id HN1.out (by have := HLB.out; have := HN1.out; omega) W5 HR5.out).mono ?_; rintro e w6 ⟨q5, m5', c5, rfl, HL5, HW5, HB5, HJ5⟩)
  have HS6 := hid (HS5.out.on HB5.out)
  have HV6 := hid (own_on HV5.out HB5.out)
  have HS6 := hid (HS5.out.on HB5.out)
  clear m0 m1 m2 m3 m4 m5 m6
  have hpp : 0 < x.pk := by have h0 := HXO.out; unfold OrOk at h0; have h1 := HHH.out; have h2 := HPK.out; omega
  have e3 : decide (0 < x.hi) = true := by have := HHH.out; simp; omega
  have e4 : decide (x.hi < x.pk) = false := by have := HHH.out; simp; omega
  have w3 : IntKind.u64.wrap (x.hi - x.pk) = x.hi - x.pk := by have h0 := HXO.out; unfold OrOk at h0; have := HHH.out; rw [IntKind.wrap_u64]; omega
  have HPP := hid hpp
  clear hpp
  have HGN := hid (show ∀ j, (Value.slice q5 m5' c5).ownBlock = some j → j ≠ g from fun j hj e => by have h1 := HJ5.out j hj; have h2 := row_lt HS5.out.m; omega)
  obtain ⟨m0, m1, m2, m3, m4, m5, m6⟩ := row7 HS6.out.m
  have fz := row_frz HS6.out.m 4
  go_upto_region 25 with fail
  have HS7 := hid (show Ss w (w6.setCell ⟨g, 4, none⟩ (.int .u64 x.pk)) R g #[.int .i64 d2.cap, .int .i64 d2.meet, .slice d2.p1 d2.o1.length d2.c1, .slice d2.p2 d2.o2.length d2.c2, .int .u64 d2.high, .int .u64 d2.seq, .slice p2 (n + 1) c2] #[.int .u64 o.id, .int .u64 0, .int .u64 o.pk, .int .u32 o.mb, .int .i64 s, .int .i64 o.ty, .int .i64 o.pr] #[.int .u64 x.id, .int .u32 x.mb, .int .i64 x.ty, .int .i64 x.pr, .int .u64 x.pk, .int .u64 x.hi, .int .u64 x.pk] from HS6.out.setM 4 (.int .u64 x.pk))
  have HV7 := hid (own_set (k := 4) (v := .int .u64 x.pk) HV6.out HS6.out.m (by decide))
  have HR7 := hid (show Rw (w6.setCell ⟨g, 4, none⟩ (.int .u64 x.pk)) (.slice q5 m5' c5) (wo x.id (x :: r)) from own_same HW5.out (fun j hj => (Kp.set w6 g 4 _).obj j (HW5.out.lt j hj).2 (HGN.out j hj)))
  obtain ⟨W7, hW7⟩ : ∃ X, w6.setCell ⟨g, 4, none⟩ (.int .u64 x.pk) = X := ⟨_, rfl⟩
  rw [hW7] at HS7 HV7 HR7 ⊢
  clear hW7 m0 m1 m2 m3 m4 m5 m6 fz
  obtain ⟨m0, m1, m2, m3, m4, m5, m6⟩ := row7 HS7.out.m
  have fz := row_frz HS7.out.m 5
  go_upto_region 28 with fail
  have HS9 := hid (show Ss w (W7.setCell ⟨g, 5, none⟩ (.int .u64 (x.hi - x.pk))) R g #[.int .i64 d2.cap, .int .i64 d2.meet, .slice d2.p1 d2.o1.length d2.c1, .slice d2.p2 d2.o2.length d2.c2, .int .u64 d2.high, .int .u64 d2.seq, .slice p2 (n + 1) c2] #[.int .u64 o.id, .int .u64 0, .int .u64 o.pk, .int .u32 o.mb, .int .i64 s, .int .i64 o.ty, .int .i64 o.pr] #[.int .u64 x.id, .int .u32 x.mb, .int .i64 x.ty, .int .i64 x.pr, .int .u64 x.pk, .int .u64 (x.hi - x.pk), .int .u64 x.pk] from HS7.out.setM 5 (.int .u64 (x.hi - x.pk)))
  have HV9 := hid (own_set (k := 5) (v := .int .u64 (x.hi - x.pk)) HV7.out HS7.out.m (by decide))
  have HR9 := hid (show Rw (W7.setCell ⟨g, 5, none⟩ (.int .u64 (x.hi - x.pk))) (.slice q5 m5' c5) (wo x.id (x :: r)) from own_same HR7.out (fun j hj => (Kp.set W7 g 5 _).obj j (HR7.out.lt j hj).2 (HGN.out j hj)))
  obtain ⟨W9, hW9⟩ : ∃ X, W7.setCell ⟨g, 5, none⟩ (.int .u64 (x.hi - x.pk)) = X := ⟨_, rfl⟩
  rw [hW9] at HS9 HV9 HR9 ⊢
  clear hW9 m0 m1 m2 m3 m4 m5 m6 fz
  have CTa := hid (wtell d2 p2 (n + 1) c2 _ (evF (⟨x.id, x.mb, x.ty, x.pr, x.pk, (x.hi - x.pk), x.pk⟩ : Or)) (by rw [List.length_append, HEN.out]; rfl) (by have := HNN.out; omega) W9 HV9.out)
  unfold ecs evF at CTa
  simp only at CTa
  obtain ⟨a0, a1, a2, a3, a4, a5, a6⟩ := row7 HS9.out.t
  obtain ⟨m0, m1, m2, m3, m4, m5, m6⟩ := row7 HS9.out.m
  go_upto_region 29 with (first | (go_at_call 30; with_reducible refine (CTa.out).mono ?_; rintro e wa ⟨pa, ca, da, rfl, HDa, HVa, HBa⟩; have AIa := hid (show (Try.prog.info? 74).map (·.size) = some (#[.int .i64 da.cap, .int .i64 da.meet, .slice da.p1 da.o1.length da.c1, .slice da.p2 da.o2.length da.c2, .int .u64 da.high, .int .u64 da.seq, .slice pa ((n + 1) + 1) ca] : Array Value).size from i74 _ _ _ _ _ _ _); have ASa := hid (show (#[.int .i64 d2.cap, .int .i64 d2.meet, .slice d2.p1 d2.o1.length d2.c1, .slice d2.p2 d2.o2.length d2.c2, .int .u64 d2.high, .int .u64 d2.seq, .slice p2 (n + 1) c2] : Array Value).size = (#[.int .i64 da.cap, .int .i64 da.meet, .slice da.p1 da.o1.length da.c1, .slice da.p2 da.o2.length da.c2, .int .u64 da.high, .int .u64 da.seq, .slice pa ((n + 1) + 1) ca] : Array Value).size from s7 _ _ _ _ _ _ _ _ _ _ _ _ _ _); have AAa := hid (show (#[.int .i64 da.cap, .int .i64 da.meet, .slice da.p1 da.o1.length da.c1, .slice da.p2 da.o2.length da.c2, .int .u64 da.high, .int .u64 da.seq, .slice pa ((n + 1) + 1) ca] : Array Value).all (·.oneCell') = true from allT _ _ _ _); have HSa := hid (HS9.out.on HBa.out)) | (refine wpList_store_row (by rfl) 74 (.tmp 2) (.tmp 160) (by rfl) (R) #[.int .i64 da.cap, .int .i64 da.meet, .slice da.p1 da.o1.length da.c1, .slice da.p2 da.o2.length da.c2, .int .u64 da.high, .int .u64 da.seq, .slice pa ((n + 1) + 1) ca] (by rfl) (by rfl) 74 _ HSa.out.t AIa.out ASa.out AAa.out ?_))
  have HS10 := hid (HSa.out.setT #[.int .i64 da.cap, .int .i64 da.meet, .slice da.p1 da.o1.length da.c1, .slice da.p2 da.o2.length da.c2, .int .u64 da.high, .int .u64 da.seq, .slice pa ((n + 1) + 1) ca])
  have HV10 := hid (own_setRow (cs' := #[.int .i64 da.cap, .int .i64 da.meet, .slice da.p1 da.o1.length da.c1, .slice da.p2 da.o2.length da.c2, .int .u64 da.high, .int .u64 da.seq, .slice pa ((n + 1) + 1) ca]) HVa.out HSa.out.t (by decide))
  have HR10 := hid (show Rw (wa.setRow R #[.int .i64 da.cap, .int .i64 da.meet, .slice da.p1 da.o1.length da.c1, .slice da.p2 da.o2.length da.c2, .int .u64 da.high, .int .u64 da.seq, .slice pa ((n + 1) + 1) ca]) (.slice q5 m5' c5) (wo x.id (x :: r)) from own_setRow (HR9.out.on HBa.out) HSa.out.t (by decide))
  obtain ⟨W10, hW10⟩ : ∃ X, wa.setRow R #[.int .i64 da.cap, .int .i64 da.meet, .slice da.p1 da.o1.length da.c1, .slice da.p2 da.o2.length da.c2, .int .u64 da.high, .int .u64 da.seq, .slice pa ((n + 1) + 1) ca] = X := ⟨_, rfl⟩
  rw [hW10] at HS10 HV10 HR10 ⊢
  clear hW10 a0 a1 a2 a3 a4 a5 a6 m0 m1 m2 m3 m4 m5 m6
  obtain ⟨m0, m1, m2, m3, m4, m5, m6⟩ := row7 HS10.out.m
  have CE := hid (wenqN t q5 m5' c5 (wo x.id (x :: r)) (⟨x.id, x.mb, x.ty, x.pr, x.pk, (x.hi - x.pk), x.pk⟩ : Or) HL5.out (by have h1 := HLB.out; have h2 := HL5.out; have h3 := wo_len x.id (x :: r); omega) W10 HR10.out)
  simp only at CE
  go_upto_region 30 with (go_at_call 57; with_reducible refine (CE.out).mono ?_; rintro e wb ⟨q8, c8, rfl, HR8', HBb, HJ8⟩)
  have HS11 := hid (HS10.out.on HBb.out)
  clear m0 m1 m2 m3 m4 m5 m6
  have HLI := hid (show (inO (bhO t x.pr (wo x.id (x :: r))) (⟨x.id, x.mb, x.ty, x.pr, x.pk, (x.hi - x.pk), x.pk⟩ : Or) (wo x.id (x :: r))).length = m5' + 1 from by have h1 := bhO_le t x.pr (wo x.id (x :: r)); rw [← HL5.out]; unfold inO; simp; omega)
  obtain ⟨a0, a1, a2, a3, a4, a5, a6⟩ := row7 HS11.out.t
  go_upto_region 31 with (go_at_call 32; with_reducible refine (wwith da t q8 (m5' + 1) c8 (inO (bhO t x.pr (wo x.id (x :: r))) (⟨x.id, x.mb, x.ty, x.pr, x.pk, (x.hi - x.pk), x.pk⟩ : Or) (wo x.id (x :: r))) HLI.out wb).mono ?_; rintro e w7 ⟨d7, rfl, HD7, HB7⟩; have HS12 := hid (HS11.out.on HB7.out); obtain ⟨a0, a1, a2, a3, a4, a5, a6⟩ := row7 HS12.out.t; have z0 := row_frz HS12.out.t 0; have z1 := row_frz HS12.out.t 1; have z2 := row_frz HS12.out.t 2; have z3 := row_frz HS12.out.t 3; have z4 := row_frz HS12.out.t 4; have z5 := row_frz HS12.out.t 5)
  have h6 := set6 (.int .i64 d7.cap) (.int .i64 d7.meet) (.slice d7.p1 d7.o1.length d7.c1) (.slice d7.p2 d7.o2.length d7.c2) (.int .u64 d7.high) (.int .u64 d7.seq) HS12.out.t
  have HS13 := hid (HS12.out.kp h6.2 h6.1)
  have HK13 := hid h6.2
  clear h6
  obtain ⟨W13, hW13⟩ : ∃ X, ((((((w7.setCell ⟨R, 0, none⟩ (.int .i64 d7.cap)).setCell ⟨R, 1, none⟩ (.int .i64 d7.meet)).setCell ⟨R, 2, none⟩ (.slice d7.p1 d7.o1.length d7.c1)).setCell ⟨R, 3, none⟩ (.slice d7.p2 d7.o2.length d7.c2)).setCell ⟨R, 4, none⟩ (.int .u64 d7.high)).setCell ⟨R, 5, none⟩ (.int .u64 d7.seq)) = X := ⟨_, rfl⟩
  rw [hW13] at HS13 HK13 ⊢
  clear hW13
  have HO13 := hid (show ∀ (base : Nat) (e : TypeId) (size m : Nat) (v : Value) (xs : List Value), w7.ownsRow base e size v m xs → e ≠ 74 → W13.ownsRow base e size v m xs from fun base e size m v xs hh n1 => own_same hh (fun j hj => by obtain ⟨cc, hc⟩ := own_ty hh hj; exact HK13.out.obj j (row_lt hc) (row_ne hc HS12.out.t n1)))
  obtain ⟨V, hV⟩ : ∃ X, W13.drew = X := ⟨_, rfl⟩
  have HSV := hid (show Ss w V R g _ _ _ from by rw [← hV]; exact HS13.out.on (bdrew1 _))
  have HKV := hid (show Below W13.heap.size W13 V from by rw [← hV]; exact bdrew1 _)
  refine wp_region_held_drew (S := (fun U => (U.cell? ⟨R, 0, none⟩ = some (.int .i64 d7.cap) ∧ U.cell? ⟨R, 1, none⟩ = some (.int .i64 d7.meet) ∧ U.cell? ⟨R, 2, none⟩ = some (.slice d7.p1 d7.o1.length d7.c1) ∧ U.cell? ⟨R, 3, none⟩ = some (.slice d7.p2 d7.o2.length d7.c2) ∧ U.cell? ⟨R, 4, none⟩ = some (.int .u64 d7.high) ∧ U.cell? ⟨R, 5, none⟩ = some (.int .u64 d7.seq) ∧ U.cell? ⟨R, 6, none⟩ = some (.slice pa (n + 1 + 1) ca)) ∧ (U.cell? ⟨R + 1, 0, none⟩ = some (.int .u64 o.id) ∧ U.cell? ⟨R + 1, 1, none⟩ = some (.int .u64 0) ∧ U.cell? ⟨R + 1, 2, none⟩ = some (.int .u64 o.pk) ∧ U.cell? ⟨R + 1, 3, none⟩ = some (.int .u32 o.mb) ∧ U.cell? ⟨R + 1, 4, none⟩ = some (.int .i64 s) ∧ U.cell? ⟨R + 1, 5, none⟩ = some (.int .i64 o.ty) ∧ U.cell? ⟨R + 1, 6, none⟩ = some (.int .i64 o.pr)))) (by kernel_rfl) ?_ (fun hHeld => ?_)
  ·(try dsimp only); ((rw [hV]; exact ⟨row7 HSV.out.t, row7 HSV.out.c⟩))
  rw [hV] at hHeld ⊢
  clear hV
  refine' wpAnyH_take (i := 0) (oi := _) (v := _) rfl (by kernel_rfl) (by kernel_rfl) (by kernel_rfl) (fun _ _ _ h => h) (Or.inl ⟨by kernel_rfl, ?_⟩) (by assumption) ?_
  rotate_left
  ·(intro w hSw; (try dsimp only at hSw); go_simp; try (with_reducible rfl))
  try simp only [List.getElem_toArray, List.getElem_cons_succ, List.getElem_cons_zero, Act.put, List.setIfInBounds_toArray, List.set_cons_zero, List.set_cons_succ]
  refine' wpAnyH_take (i := 1) (oi := _) (v := _) rfl (by kernel_rfl) (by kernel_rfl) (by kernel_rfl) (fun _ _ _ h => h) (Or.inl ⟨by kernel_rfl, ?_⟩) (by assumption) ?_
  rotate_left
  ·(intro w hSw; (try dsimp only at hSw); go_simp; try (with_reducible rfl))
  try simp only [List.getElem_toArray, List.getElem_cons_succ, List.getElem_cons_zero, Act.put, List.setIfInBounds_toArray, List.set_cons_zero, List.set_cons_succ]
  have AIE1 := hid (show (Try.prog.info? 74).map (·.size) = some (#[.int .i64 d7.cap, .int .i64 d7.meet, .slice d7.p1 d7.o1.length d7.c1, .slice d7.p2 d7.o2.length d7.c2, .int .u64 d7.high, .int .u64 d7.seq, .slice pa (n + 1 + 1) ca] : Array Value).size from info74)
  have ASE1 := hid (show (#[.int .i64 0, .int .i64 0, .slice none 0 0, .slice none 0 0, .int .u64 0, .int .u64 0, .slice none 0 0] : Array Value).size = (#[.int .i64 d7.cap, .int .i64 d7.meet, .slice d7.p1 d7.o1.length d7.c1, .slice d7.p2 d7.o2.length d7.c2, .int .u64 d7.high, .int .u64 d7.seq, .slice pa (n + 1 + 1) ca] : Array Value).size from rfl)
  have AAE1 := hid (show (#[.int .i64 d7.cap, .int .i64 d7.meet, .slice d7.p1 d7.o1.length d7.c1, .slice d7.p2 d7.o2.length d7.c2, .int .u64 d7.high, .int .u64 d7.seq, .slice pa (n + 1 + 1) ca] : Array Value).all (·.oneCell') = true from by simp [Value.oneCell'])
  have AIE2 := hid (show (Try.prog.info? 78).map (·.size) = some (#[.int .u64 o.id, .int .u64 0, .int .u64 o.pk, .int .u32 o.mb, .int .i64 s, .int .i64 o.ty, .int .i64 o.pr] : Array Value).size from info78)
  have ASE2 := hid (show (#[.int .u64 0, .int .u64 0, .int .u64 0, .int .u32 0, .int .i64 0, .int .i64 0, .int .i64 0] : Array Value).size = (#[.int .u64 o.id, .int .u64 0, .int .u64 o.pk, .int .u32 o.mb, .int .i64 s, .int .i64 o.ty, .int .i64 o.pr] : Array Value).size from rfl)
  have AAE2 := hid (show (#[.int .u64 o.id, .int .u64 0, .int .u64 o.pk, .int .u32 o.mb, .int .i64 s, .int .i64 o.ty, .int .i64 o.pr] : Array Value).all (·.oneCell') = true from by simp [Value.oneCell'])
  refine wpAnyH_ready (rs := [2]) (by kernel_rfl) (by simp) ?_
  refine AllReadyH.cons (o := _) rfl (fun K hK => ?_) AllReadyH.nil
  refine step_store_row (by rfl) 74 (.tmp 4) (.tmp 171) (by rfl) (R + 1 + 1) #[.int .i64 d7.cap, .int .i64 d7.meet, .slice d7.p1 d7.o1.length d7.c1, .slice d7.p2 d7.o2.length d7.c2, .int .u64 d7.high, .int .u64 d7.seq, .slice pa (n + 1 + 1) ca] (by rfl) (by rfl) 74 _ HSV.out.z1 AIE1.out ASE1.out AAE1.out ?_
  have k1 := setRow_kp V (R + 1 + 1) #[.int .i64 d7.cap, .int .i64 d7.meet, .slice d7.p1 d7.o1.length d7.c1, .slice d7.p2 d7.o2.length d7.c2, .int .u64 d7.high, .int .u64 d7.seq, .slice pa (n + 1 + 1) ca]
  have HZ1 := hid (setRow_heap V (R + 1 + 1) _ #[.int .i64 d7.cap, .int .i64 d7.meet, .slice d7.p1 d7.o1.length d7.c1, .slice d7.p2 d7.o2.length d7.c2, .int .u64 d7.high, .int .u64 d7.seq, .slice pa (n + 1 + 1) ca] 74 (0, 0) HSV.out.z1)
  have HZ2 := hid (k1.row HSV.out.z2 (by omega))
  have HZT := hid (k1.row HSV.out.t (by omega))
  have HZC := hid (k1.row HSV.out.c (by omega))
  have HZB := hid (HSV.out.be.trans (k1.below HSV.out.be.size (fun j hj e => by have := HSV.out.r; omega)))
  have HK1 := hid k1
  refine hK.out _ _ ?_ (fun hHeld => ?_)
  ·(try dsimp only); exact ⟨row7 HZT.out, row7 HZC.out⟩
  clear hK K k1
  try simp only [List.getElem_toArray, List.getElem_cons_succ, List.getElem_cons_zero, Act.put, List.setIfInBounds_toArray, List.set_cons_zero, List.set_cons_succ]
  obtain ⟨X1, hX1⟩ : ∃ X, V.setRow (R + 1 + 1) #[.int .i64 d7.cap, .int .i64 d7.meet, .slice d7.p1 d7.o1.length d7.c1, .slice d7.p2 d7.o2.length d7.c2, .int .u64 d7.high, .int .u64 d7.seq, .slice pa (n + 1 + 1) ca] = X := ⟨_, rfl⟩
  rw [hX1] at HZ1 HZ2 HZT HZC HZB HK1 hHeld ⊢
  clear hX1
  refine wpAnyH_ready (rs := [3]) (by kernel_rfl) (by simp) ?_
  refine AllReadyH.cons (o := _) rfl (fun K hK => ?_) AllReadyH.nil
  refine step_store_row (by rfl) 78 (.tmp 5) (.tmp 172) (by rfl) (R + 1 + 1 + 1) #[.int .u64 o.id, .int .u64 0, .int .u64 o.pk, .int .u32 o.mb, .int .i64 s, .int .i64 o.ty, .int .i64 o.pr] (by rfl) (by rfl) 78 _ HZ2.out AIE2.out ASE2.out AAE2.out ?_
  have k2 := setRow_kp X1 (R + 1 + 1 + 1) #[.int .u64 o.id, .int .u64 0, .int .u64 o.pk, .int .u32 o.mb, .int .i64 s, .int .i64 o.ty, .int .i64 o.pr]
  have HY1 := hid (k2.row HZ1.out (by omega))
  have HY2 := hid (setRow_heap X1 (R + 1 + 1 + 1) _ #[.int .u64 o.id, .int .u64 0, .int .u64 o.pk, .int .u32 o.mb, .int .i64 s, .int .i64 o.ty, .int .i64 o.pr] 78 (0, 0) HZ2.out)
  have HYB := hid (HZB.out.trans (k2.below HZB.out.size (fun j hj e => by have := HSV.out.r; omega)))
  have HK2 := hid k2
  refine hK.out _ _ ?_ (fun hHeld => ?_)
  ·(try dsimp only); exact ⟨row7 (k2.row HZT.out (by omega)), row7 (k2.row HZC.out (by omega))⟩
  clear hK K k2
  try simp only [List.getElem_toArray, List.getElem_cons_succ, List.getElem_cons_zero, Act.put, List.setIfInBounds_toArray, List.set_cons_zero, List.set_cons_succ]
  refine wpAnyH_done (by kernel_rfl) ?_ _
  obtain ⟨X2, hX2⟩ : ∃ X, X1.setRow (R + 1 + 1 + 1) #[.int .u64 o.id, .int .u64 0, .int .u64 o.pk, .int .u32 o.mb, .int .i64 s, .int .i64 o.ty, .int .i64 o.pr] = X := ⟨_, rfl⟩
  rw [hX2] at HY1 HY2 HYB HK2 ⊢
  clear hX2 hHeld
  go_wp2
  refine bodyPost_ret (res_cc Try.results68 _ _ (R + 1 + 1) (R + 1 + 1 + 1) 74 78 #[.int .i64 d7.cap, .int .i64 d7.meet, .slice d7.p1 d7.o1.length d7.c1, .slice d7.p2 d7.o2.length d7.c2, .int .u64 d7.high, .int .u64 d7.seq, .slice pa (n + 1 + 1) ca] #[.int .u64 o.id, .int .u64 0, .int .u64 o.pk, .int .u32 o.mb, .int .i64 s, .int .i64 o.ty, .int .i64 o.pr] (0, 0) (0, 0) _ _ (by rfl) (by rfl) HY1.out HY2.out Try.underlying74 rfl info74 Try.underlying78 rfl info78) rfl ?_
  have HKE := hid (show ∀ (base : Nat) (e : TypeId) (size m : Nat) (v : Value) (xs : List Value), W13.ownsRow base e size v m xs → e ≠ 74 → e ≠ 78 → X2.ownsRow base e size v m xs from fun base e size m v xs hh n1 n2 => by
   have h1 := own_on hh HKV.out
   have h2 := own_same (w' := X1) h1 (fun j hj => by obtain ⟨cc, hc⟩ := own_ty h1 hj; exact HK1.out.obj j (row_lt hc) (row_ne hc HSV.out.z1 n1))
   exact own_same h2 (fun j hj => by obtain ⟨cc, hc⟩ := own_ty h2 hj; exact HK2.out.obj j (row_lt hc) (row_ne hc HZ2.out n2)))
  have hmin : min x.vi x.vi = x.vi := by have := HXO.out; unfold OrOk at this; omega
  have hy : (x.less x.vi).shn = (⟨x.id, x.mb, x.ty, x.pr, x.pk, (x.hi - x.pk), x.pk⟩ : Or) := by
   have h1 := HHH.out
   have h2 := HPP.out
   unfold Or.shn Or.less shw
   simp only
   rw [if_neg (by omega)]
  have HZ : stD d.seq d.meet o s x.vi x r = (inO (bhO (oth s) x.pr r) (⟨x.id, x.mb, x.ty, x.pr, x.pk, (x.hi - x.pk), x.pk⟩ : Or) r, [(evT o s x x.vi).num (nx d.seq), (evF (⟨x.id, x.mb, x.ty, x.pr, x.pk, (x.hi - x.pk), x.pk⟩ : Or)).num (nx (nx d.seq))], 0, nx (nx d.seq)) := by
   unfold stD
   rw [if_neg (by first | (unfold prtO; rw [g0]; simp; done) | (unfold prtO; rw [f2]; simp; done) | (unfold prtO; rw [f1]; simp; done)), hmin, if_neg (by omega), if_neg (by have := HHH.out; omega), hy]
   simp
  rw [HZ]
  have hd := HD2.out
  subst hd
  have hda := HDa.out
  subst hda
  have hd7 := HD7.out
  rw [← HT.out, wo_self HRN.out] at hd7
  have hli := HLI.out
  have hr8 := HR8'.out
  rw [← HT.out, wo_self HRN.out] at hli
  rw [wo_self HRN.out, ← HT.out] at hr8
  obtain ⟨j1, j2, j3, j4, j5, j6⟩ := put_os d.told.told HSS.out q8 c8 (inO (bhO (oth s) x.pr r) (⟨x.id, x.mb, x.ty, x.pr, x.pk, (x.hi - x.pk), x.pk⟩ : Or) r)
  subst hd7
  rw [← hli] at hr8
  refine ⟨_, pa, n + 1 + 1, ca, rfl, ?_, ?_, ?_, j1, j2, j3, j4, j5, j6, HYB.out⟩
  ·exact ⟨Dm.put (d := d.told.told) ⟨(HDM.out.on HYB.out).r1, (HDM.out.on HYB.out).r2, HDM.out.l1, HDM.out.l2⟩ (HKE.out _ _ _ _ _ _ (HO13.out _ _ _ _ _ _ (own_on hr8 HB7.out) (by decide)) (by decide) (by decide)) (by rw [hli]; have h1 := HLB.out; have h2 := HL5.out; rw [wo_self HRN.out] at h2; simp at h1; omega), Nwl.put (d := d.told.told) ⟨fun _ h => .inl h, fun _ h => .inl h⟩ (fun j hj => Nat.le_trans HS10.out.be.size (HJ8.out j hj))⟩
  ·rw [List.length_append, HEN.out]; rfl
  ·have h9 := HKE.out _ _ _ _ _ _ (HO13.out _ _ _ _ _ _ (own_on (own_on HV10.out HBb.out) HB7.out) (by decide)) (by decide) (by decide); unfold Rv; rw [List.append_assoc] at h9; rw [List.length_append, HEN.out]; rw [List.length_append, HEN.out] at h9; exact h9
end Go.Proofs.Ytalgndgoedlpoaa
