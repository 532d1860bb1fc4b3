/-
  RuRt
-/
import Derived.Test.YtalgndgoedlpoaaRuSf
namespace Go.Proofs.Ytalgndgoedlpoaa
open Go.RowKit Go.Deep Go.Shelf
set_option linter.unusedVariables false
set_option linter.unusedSimpArgs false
set_option maxHeartbeats 8000000
set_option maxRecDepth 100000
attribute [local go_sem ↓] Go.wp_at_zero Go.wp_at_succ
theorem dstep_tB (d : Db) (o : Or) (s q : Int) (x : Or) (r : List Or) (p : Option Addr) (n c : Nat) (es : List Ev) (w : World) (hs : s = 1 ∨ s = 2) (h : Dm w d) (hl : d.os (oth s) = x :: r) (hx : OrOk x) (hpk : x.pk = 0 → x.hi = 0) (hq : 0 < q) (hq1 : q < 4294967296) (hr : ∀ y ∈ r, y.id ≠ x.id) (hm : 0 ≤ d.meet ∧ d.meet ≤ 3) (he : es.length = n) (hv : Rv w (.slice p n c) es) (hn : n ≤ 17179869182)
  (hwy : x.mb = 0 ∨ (x.mb ≠ 0 ∧ x.mb ≠ o.mb) ∨ (x.mb ≠ 0 ∧ x.mb = o.mb ∧ d.meet = 0)) (hc : q < x.vi) :
  Calls Try.prog 68 #[.agg #[.int .i64 d.cap, .int .i64 d.meet, .slice d.p1 d.o1.length d.c1, .slice d.p2 d.o2.length d.c2, .int .u64 d.high, .int .u64 d.seq, .slice p n c], .agg #[.int .u64 o.id, .int .u64 q, .int .u64 o.pk, .int .u32 o.mb, .int .i64 s, .int .i64 o.ty, .int .i64 o.pr]] w fun e w' => ∃ d2 p2 n2 c2, e = .returned (.tuple #[.agg #[.int .i64 d2.cap, .int .i64 d2.meet, .slice d2.p1 d2.o1.length d2.c1, .slice d2.p2 d2.o2.length d2.c2, .int .u64 d2.high, .int .u64 d2.seq, .slice p2 n2 c2], .agg #[.int .u64 o.id, .int .u64 (stD d.seq d.meet o s q x r).2.2.1, .int .u64 o.pk, .int .u32 o.mb, .int .i64 s, .int .i64 o.ty, .int .i64 o.pr]]) ∧ (Dm w' d2 ∧ Nwl w.heap.size d d2) ∧ (es ++ (stD d.seq d.meet o s q x r).2.1).length = n2 ∧ Rv w' (.slice p2 n2 c2) (es ++ (stD d.seq d.meet o s q x r).2.1) ∧ d2.os (oth s) = (stD d.seq d.meet o s q x r).1 ∧ d2.os s = d.os s ∧ d2.cap = d.cap ∧ d2.meet = d.meet ∧ d2.high = d.high ∧ d2.seq = (stD d.seq d.meet o s q x r).2.2.2 ∧ Below w.heap.size w w' := by
 have CS := hid (fun (U : World) (hU : Below w.heap.size w U) (t : Int) (ht : oth s = t) => wside d s t ht hs U (h.on hU))
 rw [hl] at CS
 have ho := oth_wrap hs
 obtain ⟨t, ht⟩ : ∃ t, oth s = t := ⟨_, rfl⟩
 have HT := hid ht
 rw [ht] at ho
 have HDM := hid h
 have HOS := hid hl
 have HXO := hid hx
 have HRN := hid hr
 have HEN := hid he
 have HVV := hid hv
 have HNN := hid hn
 have HSS := hid hs
 obtain ⟨R, hR⟩ : ∃ R, w.heap.size = R := ⟨_, rfl⟩
 obtain ⟨U0, hU0⟩ : ∃ U, w.alloc (.cells #[.int .i64 d.cap, .int .i64 d.meet, .slice d.p1 d.o1.length d.c1, .slice d.p2 d.o2.length d.c2, .int .u64 d.high, .int .u64 d.seq, .slice p n c] 74) = U := ⟨_, rfl⟩
 obtain ⟨U1, hU1⟩ : ∃ U, U0.alloc (.cells #[.int .u64 o.id, .int .u64 q, .int .u64 o.pk, .int .u32 o.mb, .int .i64 s, .int .i64 o.ty, .int .i64 o.pr] 78) = U := ⟨_, rfl⟩
 obtain ⟨U2, hU2⟩ : ∃ U, U1.alloc (.cells #[.int .i64 0, .int .i64 0, .slice none 0 0, .slice none 0 0, .int .u64 0, .int .u64 0, .slice none 0 0] 74) = U := ⟨_, rfl⟩
 obtain ⟨W, hW⟩ : ∃ U, U2.alloc (.cells #[.int .u64 0, .int .u64 0, .int .u64 0, .int .u32 0, .int .i64 0, .int .i64 0, .int .i64 0] 78) = U := ⟨_, rfl⟩
 have s0 : U0.heap.size = R + 1 := by rw [← hU0, ← hR]; simp
 have s1 : U1.heap.size = R + 1 + 1 := by rw [← hU1]; simp [s0]
 have s2 : U2.heap.size = R + 1 + 1 + 1 := by rw [← hU2]; simp [s1]
 have b0 : Below w.heap.size w U0 := by rw [← hU0]; exact ball _ _
 have b1 : Below U0.heap.size U0 U1 := by rw [← hU1]; exact ball _ _
 have b2 : Below U1.heap.size U1 U2 := by rw [← hU2]; exact ball _ _
 have b3 : Below U2.heap.size U2 W := by rw [← hW]; exact ball _ _
 have HBW := hid (btr (btr (btr b0 b1) b2) b3)
 have HA := hid (show W.heap[R]? = some (.cells #[.int .i64 d.cap, .int .i64 d.meet, .slice d.p1 d.o1.length d.c1, .slice d.p2 d.o2.length d.c2, .int .u64 d.high, .int .u64 d.seq, .slice p n c] 74 (0, 0)) from row_on (row_on (row_on (by rw [← hU0, ← hR]; exact World.alloc_heap_new _ _) b1) b2) b3)
 have HB := hid (show W.heap[R + 1]? = some (.cells #[.int .u64 o.id, .int .u64 q, .int .u64 o.pk, .int .u32 o.mb, .int .i64 s, .int .i64 o.ty, .int .i64 o.pr] 78 (0, 0)) from row_on (row_on (by rw [← hU1, ← s0]; exact World.alloc_heap_new _ _) b2) b3)
 have HC := hid (show W.heap[R + 1 + 1]? = some (.cells #[.int .i64 0, .int .i64 0, .slice none 0 0, .slice none 0 0, .int .u64 0, .int .u64 0, .slice none 0 0] 74 (0, 0)) from row_on (by rw [← hU2, ← s1]; exact World.alloc_heap_new _ _) b3)
 have HD := hid (show W.heap[R + 1 + 1 + 1]? = some (.cells #[.int .u64 0, .int .u64 0, .int .u64 0, .int .u32 0, .int .i64 0, .int .i64 0, .int .i64 0] 78 (0, 0)) from by rw [← hW, ← s2]; exact World.alloc_heap_new _ _)
 have HU0 := hid hU0
 have HU1 := hid hU1
 have HU2 := hid hU2
 have HW := hid hW
 have HRR := hid hR
 clear hR hU0 hU1 hU2 hW s0 s1 s2 b0 b1 b2 b3 h hl hx hr he hv ht
 have HWY := hid hwy
 have HC0 := hid hc
 have HQ := hid hq
 have HQ1 := hid hq1
 have HMT := hid hm
 have HPK := hid hpk
 clear hwy hc hq hq1 hm hpk hn hs
 go_enter Try.func68, Try.ntmps68
 go_upto_region 1 with fail
 rw [HU0.out, HU1.out, HU2.out, HW.out, HRR.out]
 obtain ⟨a0, a1, a2, a3, a4, a5, a6⟩ := row7 HA.out
 obtain ⟨b0, b1, b2, b3, b4, b5, b6⟩ := row7 HB.out
 go_upto_region 3 with (go_at_call 34; with_reducible refine (CS.out _ HBW.out _ HT.out).mono ?_; rintro e w1 ⟨p1, n1, c1, rfl, HN1, HR1, HB1⟩)
 obtain ⟨g1, hp1, gl1, m0, m1, m2, m3, m4, m5, m6⟩ := rw_first HR1.out HN1.out
 subst hp1
 have hn1 : (0 : Int) < (n1 : Int) := by have := HN1.out; simp at this; omega
 clear a0 a1 a2 a3 a4 a5 a6 b0 b1 b2 b3 b4 b5 b6
 go_upto_region 4 with fail
 obtain ⟨g, hg⟩ : ∃ g, w1.heap.size = g := ⟨_, rfl⟩
 obtain ⟨M, hM⟩ : ∃ X, w1.alloc (.cells #[.int .u64 x.id, .int .u32 x.mb, .int .i64 x.ty, .int .i64 x.pr, .int .u64 x.vi, .int .u64 x.hi, .int .u64 x.pk] 50) = X := ⟨_, rfl⟩
 have bM : Below w1.heap.size w1 M := by rw [← hM]; exact ball _ _
 have HM := hid (show Ss w M R g #[.int .i64 d.cap, .int .i64 d.meet, .slice d.p1 d.o1.length d.c1, .slice d.p2 d.o2.length d.c2, .int .u64 d.high, .int .u64 d.seq, .slice p n c] #[.int .u64 o.id, .int .u64 q, .int .u64 o.pk, .int .u32 o.mb, .int .i64 s, .int .i64 o.ty, .int .i64 o.pr] #[.int .u64 x.id, .int .u32 x.mb, .int .i64 x.ty, .int .i64 x.pr, .int .u64 x.vi, .int .u64 x.hi, .int .u64 x.pk] from ⟨btr (btr HBW.out HB1.out) bM, row_on (row_on HA.out HB1.out) bM, row_on (row_on HB.out HB1.out) bM, row_on (row_on HC.out HB1.out) bM, row_on (row_on HD.out HB1.out) bM, by rw [← hM, ← hg]; exact World.alloc_heap_new _ _, HRR.out, by rw [← hg]; exact (btr HBW.out HB1.out).size⟩)
 have HRX := hid (HR1.out.on bM)
 have HNG := hid (show ∀ j, (Value.slice (some ⟨g1, 0, none⟩) n1 c1).ownBlock = some j → j ≠ g from fun j hj e => by have h1 := (HR1.out.lt j hj).2; rw [hg] at h1; omega)
 rw [hM, hg]
 clear hM hg bM m0 m1 m2 m3 m4 m5 m6
 obtain ⟨a0, a1, a2, a3, a4, a5, a6⟩ := row7 HM.out.t
 obtain ⟨b0, b1, b2, b3, b4, b5, b6⟩ := row7 HM.out.c
 obtain ⟨m0, m1, m2, m3, m4, m5, m6⟩ := row7 HM.out.m
 rcases HWY.out with h1 | ⟨h1, h2⟩ | ⟨h1, h2, h3⟩
 focus
  have f1 : (x.mb == 0) = true := by simpa using h1
  have f1n : (x.mb != 0) = false := by simpa using h1
  clear h1
 rotate_left
 focus
  have f1 : (x.mb == 0) = false := by simpa using h1
  have f1n : (x.mb != 0) = true := by simpa using h1
  have f2 : (x.mb == o.mb) = false := by simpa using h2
  clear h1 h2
 rotate_left
 focus
  have f1 : (x.mb == 0) = false := by simpa using h1
  have f1n : (x.mb != 0) = true := by simpa using h1
  have f2 : (x.mb == o.mb) = true := by simpa using h2
  have g0 : (d.meet == 0) = true := by simpa using h3
  have g0n : (d.meet != 0) = false := by simpa using h3
  clear h1 h2 h3
 rotate_left
 all_goals
  have e1 : decide (x.vi < q) = false := by have := HC0.out; simp; omega
  have w1 : IntKind.u64.wrap (x.vi - q) = x.vi - q := by have := HXO.out; unfold OrOk at this; have := HC0.out; have := HQ.out; rw [IntKind.wrap_u64]; omega
  have e2 : decide (0 < x.vi - q) = true := by have := HC0.out; simp; omega
  have e2b : decide (q < x.vi) = true := by simpa using HC0.out
  have e2c : q < x.vi := HC0.out
  have CT2 := hid (wtell d p n c es (evT o s x q) HEN.out (by have := HNN.out; omega) M (HVV.out.on HM.out.be))
  unfold ecs evT at CT2
  simp only at CT2
  have HLB := hid (show (x :: r).length ≤ 1048576 from by rw [← HOS.out]; exact (HDM.out.at' (oth s)).2)
  go_upto_region 16 with fail
  go_upto_region 17 with (first | (go_at_call 30; with_reducible refine (CT2.out).mono ?_; rintro e w2 ⟨p2, c2, d2, rfl, HD2, HV2, HB2⟩; have AI2 := hid (show (Try.prog.info? 74).map (·.size) = some (#[.int .i64 d2.cap, .int .i64 d2.meet, .slice d2.p1 d2.o1.length d2.c1, .slice d2.p2 d2.o2.length d2.c2, .int .u64 d2.high, .int .u64 d2.seq, .slice p2 (n + 1) c2] : Array Value).size from i74 _ _ _ _ _ _ _); have AS2 := hid (show (#[.int .i64 d.cap, .int .i64 d.meet, .slice d.p1 d.o1.length d.c1, .slice d.p2 d.o2.length d.c2, .int .u64 d.high, .int .u64 d.seq, .slice p n c] : Array Value).size = (#[.int .i64 d2.cap, .int .i64 d2.meet, .slice d2.p1 d2.o1.length d2.c1, .slice d2.p2 d2.o2.length d2.c2, .int .u64 d2.high, .int .u64 d2.seq, .slice p2 (n + 1) c2] : Array Value).size from s7 _ _ _ _ _ _ _ _ _ _ _ _ _ _); have AA2 := hid (show (#[.int .i64 d2.cap, .int .i64 d2.meet, .slice d2.p1 d2.o1.length d2.c1, .slice d2.p2 d2.o2.length d2.c2, .int .u64 d2.high, .int .u64 d2.seq, .slice p2 (n + 1) c2] : Array Value).all (·.oneCell') = true from allT _ _ _ _); have HS2 := hid (HM.out.on HB2.out)) | (refine wpList_store_row (by rfl) 74 (.tmp 2) (.tmp 103) (by rfl) (R) #[.int .i64 d2.cap, .int .i64 d2.meet, .slice d2.p1 d2.o1.length d2.c1, .slice d2.p2 d2.o2.length d2.c2, .int .u64 d2.high, .int .u64 d2.seq, .slice p2 (n + 1) c2] (by rfl) (by rfl) 74 _ HS2.out.t AI2.out AS2.out AA2.out ?_))
  have HS3 := hid (HS2.out.setT #[.int .i64 d2.cap, .int .i64 d2.meet, .slice d2.p1 d2.o1.length d2.c1, .slice d2.p2 d2.o2.length d2.c2, .int .u64 d2.high, .int .u64 d2.seq, .slice p2 (n + 1) c2])
  have HV3 := hid (own_setRow (cs' := #[.int .i64 d2.cap, .int .i64 d2.meet, .slice d2.p1 d2.o1.length d2.c1, .slice d2.p2 d2.o2.length d2.c2, .int .u64 d2.high, .int .u64 d2.seq, .slice p2 (n + 1) c2]) HV2.out HS2.out.t (by decide))
  have HR3 := hid (own_setRow (cs' := #[.int .i64 d2.cap, .int .i64 d2.meet, .slice d2.p1 d2.o1.length d2.c1, .slice d2.p2 d2.o2.length d2.c2, .int .u64 d2.high, .int .u64 d2.seq, .slice p2 (n + 1) c2]) (HRX.out.on HB2.out) HS2.out.t (by decide))
  obtain ⟨W3, hW3⟩ : ∃ X, w2.setRow R #[.int .i64 d2.cap, .int .i64 d2.meet, .slice d2.p1 d2.o1.length d2.c1, .slice d2.p2 d2.o2.length d2.c2, .int .u64 d2.high, .int .u64 d2.seq, .slice p2 (n + 1) c2] = X := ⟨_, rfl⟩
  rw [hW3] at HS3 HV3 HR3 ⊢
  clear hW3 a0 a1 a2 a3 a4 a5 a6 b0 b1 b2 b3 b4 b5 b6 m0 m1 m2 m3 m4 m5 m6
  obtain ⟨b0, b1, b2, b3, b4, b5, b6⟩ := row7 HS3.out.c
  have fz := row_frz HS3.out.c 1
  go_upto_region 18 with fail
  have HS4 := hid (show Ss w (W3.setCell ⟨R + 1, 1, none⟩ (.int .u64 0)) R g #[.int .i64 d2.cap, .int .i64 d2.meet, .slice d2.p1 d2.o1.length d2.c1, .slice d2.p2 d2.o2.length d2.c2, .int .u64 d2.high, .int .u64 d2.seq, .slice p2 (n + 1) c2] #[.int .u64 o.id, .int .u64 0, .int .u64 o.pk, .int .u32 o.mb, .int .i64 s, .int .i64 o.ty, .int .i64 o.pr] #[.int .u64 x.id, .int .u32 x.mb, .int .i64 x.ty, .int .i64 x.pr, .int .u64 x.vi, .int .u64 x.hi, .int .u64 x.pk] from HS3.out.setC 1 (.int .u64 0))
  have HV4 := hid (own_set (k := 1) (v := .int .u64 0) HV3.out HS3.out.c (by decide))
  have HR4 := hid (own_set (k := 1) (v := .int .u64 0) HR3.out HS3.out.c (by decide))
  obtain ⟨W4, hW4⟩ : ∃ X, W3.setCell ⟨R + 1, 1, none⟩ (.int .u64 0) = X := ⟨_, rfl⟩
  rw [hW4] at HS4 HV4 HR4 ⊢
  clear hW4 b0 b1 b2 b3 b4 b5 b6 fz
  obtain ⟨m0, m1, m2, m3, m4, m5, m6⟩ := row7 HS4.out.m
  have fz := row_frz HS4.out.m 4
  go_upto_region 19 with fail
  have HS5 := hid (show Ss w (W4.setCell ⟨g, 4, none⟩ (.int .u64 (x.vi - q))) R g #[.int .i64 d2.cap, .int .i64 d2.meet, .slice d2.p1 d2.o1.length d2.c1, .slice d2.p2 d2.o2.length d2.c2, .int .u64 d2.high, .int .u64 d2.seq, .slice p2 (n + 1) c2] #[.int .u64 o.id, .int .u64 0, .int .u64 o.pk, .int .u32 o.mb, .int .i64 s, .int .i64 o.ty, .int .i64 o.pr] #[.int .u64 x.id, .int .u32 x.mb, .int .i64 x.ty, .int .i64 x.pr, .int .u64 (x.vi - q), .int .u64 x.hi, .int .u64 x.pk] from HS4.out.setM 4 (.int .u64 (x.vi - q)))
  have HV5 := hid (own_set (k := 4) (v := .int .u64 (x.vi - q)) HV4.out HS4.out.m (by decide))
  obtain ⟨W5, hW5⟩ : ∃ X, W4.setCell ⟨g, 4, none⟩ (.int .u64 (x.vi - q)) = X := ⟨_, rfl⟩
  have HR5 := hid (show Rw (W4.setCell ⟨g, 4, none⟩ (.int .u64 (x.vi - q))) _ (x :: r) from own_same HR4.out (fun j hj => (Kp.set W4 g 4 _).obj j (HR4.out.lt j hj).2 (fun e => HNG.out j hj e)))
  rw [hW5] at HS5 HV5 HR5 ⊢
  clear hW5 m0 m1 m2 m3 m4 m5 m6 fz
  obtain ⟨m0, m1, m2, m3, m4, m5, m6⟩ := row7 HS5.out.m
  go_upto_region 20 with (go_at_call 33; with_reducible refine (wwithout2 _ n1 c1 (x :: r) x.id HN1.out (by have := HLB.out; have := HN1.out; omega) W5 HR5.out).mono ?_; rintro e w6 ⟨q5, m5', c5, rfl, HL5, HW5, HB5, HJ5⟩)
  have HS6 := hid (HS5.out.on HB5.out)
  have HV6 := hid (own_on HV5.out HB5.out)
  have HS6 := hid (HS5.out.on HB5.out)
  clear m0 m1 m2 m3 m4 m5 m6
  obtain ⟨m0, m1, m2, m3, m4, m5, m6⟩ := row7 HS6.out.m
  go_upto_region 21 with fail
  clear m0 m1 m2 m3 m4 m5 m6
  obtain ⟨i0, hi, hz0, hz1, hz2⟩ := info_parts info50all
  have HI := hid hi
  have HZ0 := hid hz0
  have HZ1 := hid hz1
  have HZ2 := hid hz2
  clear hi hz0 hz1 hz2
  have HML := hid (show m5' ≤ 1048576 from by have h1 := HLB.out; have h2 := HL5.out; have h3 := wo_len x.id (x :: r); omega)
  obtain ⟨Y0, hY0⟩ : ∃ X, w6.drew = X := ⟨_, rfl⟩
  have HQ0 := hid (show Ss w Y0 R g _ _ _ from by rw [← hY0]; exact HS6.out.on (bdrew1 _))
  have HE0 := hid (show Below w6.heap.size w6 Y0 from by rw [← hY0]; exact bdrew1 _)
  have HEY := hid (Below.refl Y0.heap.size Y0)
  have HRY := hid (fun (U : World) (hU : Below Y0.heap.size Y0 U) => (show U.ownsRow 0 50 7 (.slice q5 m5' c5) m5' (ors (wo x.id (x :: r))) from by have h := own_on (own_on HW5.out HE0.out) hU; rw [HL5.out] at h; exact h))
  refine wp_region_held_drew (S := (fun U => U.cell? ⟨g, 0, none⟩ = some (.int .u64 x.id) ∧ U.cell? ⟨g, 1, none⟩ = some (.int .u32 x.mb) ∧ U.cell? ⟨g, 2, none⟩ = some (.int .i64 x.ty) ∧ U.cell? ⟨g, 3, none⟩ = some (.int .i64 x.pr) ∧ U.cell? ⟨g, 4, none⟩ = some (.int .u64 (x.vi - q)) ∧ U.cell? ⟨g, 5, none⟩ = some (.int .u64 x.hi) ∧ U.cell? ⟨g, 6, none⟩ = some (.int .u64 x.pk))) (by kernel_rfl) ?_ (fun hHeld => ?_)
  ·(try dsimp only); ((rw [hY0]; exact row7 HQ0.out.m))
  rw [hY0] at hHeld ⊢
  clear hY0
  refine' wpAnyH_take (i := 0) (oi := _) (v := _) rfl (by kernel_rfl) (by kernel_rfl) (by kernel_rfl) (fun _ _ _ h => h) (Or.inl ⟨by kernel_rfl, ?_⟩) (by assumption) ?_
  rotate_left
  ·(intro w hSw; (try dsimp only at hSw); go_simp; try (with_reducible rfl))
  try simp only [List.getElem_toArray, List.getElem_cons_succ, List.getElem_cons_zero, Act.put, List.setIfInBounds_toArray, List.set_cons_zero, List.set_cons_succ]
  refine' wpAnyH_take (i := 2) (oi := _) (v := _) rfl (by kernel_rfl) (by kernel_rfl) (by kernel_rfl) (fun _ _ _ h => h) (Or.inl ⟨by kernel_rfl, ?_⟩) (by assumption) ?_
  rotate_left
  ·(intro w hSw; (try dsimp only at hSw); go_simp; try (with_reducible rfl))
  try simp only [List.getElem_toArray, List.getElem_cons_succ, List.getElem_cons_zero, Act.put, List.setIfInBounds_toArray, List.set_cons_zero, List.set_cons_succ]
  refine' wpAnyH_take (i := 3) (oi := _) (v := _) rfl (by kernel_rfl) (by kernel_rfl) (by kernel_rfl) (fun _ _ _ h => h) (Or.inl ⟨by kernel_rfl, ?_⟩) (by assumption) ?_
  rotate_left
  ·(intro w hSw; (try dsimp only at hSw); go_simp; try (with_reducible rfl))
  try simp only [List.getElem_toArray, List.getElem_cons_succ, List.getElem_cons_zero, Act.put, List.setIfInBounds_toArray, List.set_cons_zero, List.set_cons_succ]
  refine' wpAnyH_take (i := 5) (oi := _) (v := _) rfl (by kernel_rfl) (by kernel_rfl) (by kernel_rfl) (fun _ _ _ h => h) (Or.inl ⟨by kernel_rfl, ?_⟩) (by assumption) ?_
  rotate_left
  ·(intro w hSw; (try dsimp only at hSw); go_simp; try (with_reducible rfl))
  try simp only [List.getElem_toArray, List.getElem_cons_succ, List.getElem_cons_zero, Act.put, List.setIfInBounds_toArray, List.set_cons_zero, List.set_cons_succ]
  refine wpAnyH_ready (rs := [1, 4]) (by kernel_rfl) (by simp) ?_
  refine (AllReadyH.cons (o := _) rfl (fun K hK => ?_) (AllReadyH.cons (o := _) rfl (fun K hK => ?_) AllReadyH.nil))
  ·obtain ⟨a0, a1, a2, a3, a4, a5, a6⟩ := row7 HQ0.out.t
   go_simp
   refine hK.out _ _ ?_ (fun hHeld => ?_)
   ·(try dsimp only); exact row7 HQ0.out.m
   clear hK K a0 a1 a2 a3 a4 a5 a6
   try simp only [List.getElem_toArray, List.getElem_cons_succ, List.getElem_cons_zero, Act.put, List.setIfInBounds_toArray, List.set_cons_zero, List.set_cons_succ]
   refine wpAnyH_ready (rs := [4]) (by kernel_rfl) (by simp) ?_
   refine AllReadyH.cons (o := _) rfl (fun K hK => ?_) AllReadyH.nil
   go_simp
   refine hK.out _ _ ?_ (fun hHeld => ?_)
   ·(try dsimp only); exact row7 (HQ0.out.on (ball _ _)).m
   clear hK K
   try simp only [List.getElem_toArray, List.getElem_cons_succ, List.getElem_cons_zero, Act.put, List.setIfInBounds_toArray, List.set_cons_zero, List.set_cons_succ]
   obtain ⟨Y4, hY4⟩ : ∃ X, Y0.alloc (.cells #[.int .u64 x.id, .int .u32 x.mb, .int .i64 x.ty, .int .i64 x.pr, .int .u64 (x.vi - q), .int .u64 x.hi, .int .u64 x.pk] 50) = X := ⟨_, rfl⟩
   obtain ⟨g4, hg4⟩ : ∃ g, Y0.heap.size = g := ⟨_, rfl⟩
   have bY4 : Below Y0.heap.size Y0 Y4 := by rw [← hY4]; exact ball _ _
   have HQ4 := hid (HQ0.out.on bY4)
   have HE4 := hid (btr HEY.out bY4)
   have HM4 := hid (show Y4.ownsRow Y0.heap.size 50 7 (.slice (some ⟨g4, 0, none⟩) 1 1) 1 (orow (⟨x.id, x.mb, x.ty, x.pr, (x.vi - q), x.hi, x.pk⟩ : Or)).toList from ⟨rfl, .inr ⟨g4, 1, #[.int .u64 x.id, .int .u32 x.mb, .int .i64 x.ty, .int .i64 x.pr, .int .u64 (x.vi - q), .int .u64 x.hi, .int .u64 x.pk], rfl, by rw [← hg4]; exact HEY.out.size, by rw [← hY4, ← hg4]; exact World.alloc_heap_new _ _, Nat.le_refl _, by unfold maxLen; omega, rfl, rfl⟩⟩)
   rw [hY4, hg4]
   clear hY4 hg4 bY4
   refine wpAnyH_ready (rs := [6]) (by kernel_rfl) (by simp) ?_
   refine AllReadyH.cons (o := _) rfl (fun K hK => ?_) AllReadyH.nil
   have sz := HE4.out.size
   refine step_app_rows (by rfl) (.tmp 125) (.tmp 126) 29 (by rfl) Y0.heap.size 0 50 i0 _ 7 56 Try.underlying29 HI.out HZ0.out HZ1.out HZ2.out rfl (by decide) (.slice (some ⟨g4, 0, none⟩) 1 1) 1 (orow (⟨x.id, x.mb, x.ty, x.pr, (x.vi - q), x.hi, x.pk⟩ : Or)).toList (by rfl) HM4.out (.slice q5 m5' c5) m5' (ors (wo x.id (x :: r))) (by rfl) (HRY.out _ HE4.out) (ors_one _) (by have := HML.out; unfold maxLen; omega) (by have := HML.out; omega) sz ?_
   intro v9 Y6 hown hgrow
   obtain ⟨p9, c9, rfl⟩ := own_form hown
   have bY6 := (Below.refl Y4.heap.size Y4)
   have HE6 := hid (HE4.out.grown hgrow sz (fun j hj => (HM4.out.lt j hj).1))
   have HQ6 := hid (HQ0.out.on HE6.out)
   have HA9 := hid hown
   refine hK.out _ _ ?_ (fun hHeld => ?_)
   ·(try dsimp only); exact row7 HQ6.out.m
   clear hK K hown hgrow sz bY6
   try simp only [List.getElem_toArray, List.getElem_cons_succ, List.getElem_cons_zero, Act.put, List.setIfInBounds_toArray, List.set_cons_zero, List.set_cons_succ]
   refine wpAnyH_ready (rs := [7]) (by kernel_rfl) (by simp) ?_
   refine AllReadyH.cons (o := _) rfl (fun K hK => ?_) AllReadyH.nil
   go_simp
   go_at_call 32; with_reducible refine (wwith d2 t p9 (1 + m5') c9 ((⟨x.id, x.mb, x.ty, x.pr, (x.vi - q), x.hi, x.pk⟩ : Or) :: wo x.id (x :: r)) (by rw [List.length_cons, HL5.out]; omega) Y6).mono ?_; rintro e Y7 ⟨d7, rfl, HD7, HB7⟩
   (try go_wp2_with fail)
   have HQ7 := hid (HQ6.out.on HB7.out)
   refine hK.out _ _ ?_ (fun hHeld => ?_)
   ·(try dsimp only); exact row7 HQ7.out.m
   clear hK K
   try simp only [List.getElem_toArray, List.getElem_cons_succ, List.getElem_cons_zero, Act.put, List.setIfInBounds_toArray, List.set_cons_zero, List.set_cons_succ]
   refine' wpAnyH_take (i := 8) (oi := _) (v := _) rfl (by kernel_rfl) (by kernel_rfl) (by kernel_rfl) (fun _ _ _ h => h) (Or.inl ⟨by kernel_rfl, ?_⟩) (by assumption) ?_
   rotate_left
   ·(intro w hSw; (try dsimp only at hSw); go_simp; try (with_reducible rfl))
   try simp only [List.getElem_toArray, List.getElem_cons_succ, List.getElem_cons_zero, Act.put, List.setIfInBounds_toArray, List.set_cons_zero, List.set_cons_succ]
   refine wpAnyH_ready (rs := [9]) (by kernel_rfl) (by simp) ?_
   refine AllReadyH.cons (o := _) rfl (fun K hK => ?_) AllReadyH.nil
   obtain ⟨a0, a1, a2, a3, a4, a5, a6⟩ := row7 HQ7.out.t
   have z0 := row_frz HQ7.out.t 0
   have z1 := row_frz HQ7.out.t 1
   have z2 := row_frz HQ7.out.t 2
   have z3 := row_frz HQ7.out.t 3
   have z4 := row_frz HQ7.out.t 4
   have z5 := row_frz HQ7.out.t 5
   have h6 := set6 (.int .i64 d7.cap) (.int .i64 d7.meet) (.slice d7.p1 d7.o1.length d7.c1) (.slice d7.p2 d7.o2.length d7.c2) (.int .u64 d7.high) (.int .u64 d7.seq) HQ7.out.t
   have HS8 := hid (HQ7.out.kp h6.2 h6.1)
   have HK8 := hid h6.2
   clear h6
   go_simp
   refine hK.out _ _ ?_ (fun hHeld => ?_)
   ·(try dsimp only); exact row7 HS8.out.m
   clear hK K a0 a1 a2 a3 a4 a5 a6 z0 z1 z2 z3 z4 z5
   try simp only [List.getElem_toArray, List.getElem_cons_succ, List.getElem_cons_zero, Act.put, List.setIfInBounds_toArray, List.set_cons_zero, List.set_cons_succ]
   refine wpAnyH_done (by kernel_rfl) ?_ _
   obtain ⟨W8, hW8⟩ : ∃ X, ((((((Y7.setCell ⟨R, 0, none⟩ (.int .i64 d7.cap)).setCell ⟨R, 1, none⟩ (.int .i64 d7.meet)).setCell ⟨R, 2, none⟩ (.slice d7.p1 d7.o1.length d7.c1)).setCell ⟨R, 3, none⟩ (.slice d7.p2 d7.o2.length d7.c2)).setCell ⟨R, 4, none⟩ (.int .u64 d7.high)).setCell ⟨R, 5, none⟩ (.int .u64 d7.seq)) = X := ⟨_, rfl⟩
   rw [hW8] at HS8 HK8 ⊢
   clear hW8
   have HO8 := hid (show ∀ (base : Nat) (e : TypeId) (size m : Nat) (v : Value) (xs : List Value), Y7.ownsRow base e size v m xs → e ≠ 74 → W8.ownsRow base e size v m xs from fun base e size m v xs hh n1 => own_same hh (fun j hj => by obtain ⟨cc, hc⟩ := own_ty hh hj; exact HK8.out.obj j (row_lt hc) (row_ne hc HQ7.out.t n1)))
   go_upto_region 22 with fail
   obtain ⟨V, hV⟩ : ∃ X, W8.drew = X := ⟨_, rfl⟩
   have HSV := hid (show Ss w V R g _ _ _ from by rw [← hV]; exact HS8.out.on (bdrew1 _))
   have HKV := hid (show Below W8.heap.size W8 V from by rw [← hV]; exact bdrew1 _)
   refine wp_region_held_drew (S := (fun U => (U.cell? ⟨R, 0, none⟩ = some (.int .i64 d7.cap) ∧ U.cell? ⟨R, 1, none⟩ = some (.int .i64 d7.meet) ∧ U.cell? ⟨R, 2, none⟩ = some (.slice d7.p1 d7.o1.length d7.c1) ∧ U.cell? ⟨R, 3, none⟩ = some (.slice d7.p2 d7.o2.length d7.c2) ∧ U.cell? ⟨R, 4, none⟩ = some (.int .u64 d7.high) ∧ U.cell? ⟨R, 5, none⟩ = some (.int .u64 d7.seq) ∧ U.cell? ⟨R, 6, none⟩ = some (.slice p2 (n + 1) c2)) ∧ (U.cell? ⟨R + 1, 0, none⟩ = some (.int .u64 o.id) ∧ U.cell? ⟨R + 1, 1, none⟩ = some (.int .u64 0) ∧ U.cell? ⟨R + 1, 2, none⟩ = some (.int .u64 o.pk) ∧ U.cell? ⟨R + 1, 3, none⟩ = some (.int .u32 o.mb) ∧ U.cell? ⟨R + 1, 4, none⟩ = some (.int .i64 s) ∧ U.cell? ⟨R + 1, 5, none⟩ = some (.int .i64 o.ty) ∧ U.cell? ⟨R + 1, 6, none⟩ = some (.int .i64 o.pr)))) (by kernel_rfl) ?_ (fun hHeld => ?_)
   ·(try dsimp only); ((rw [hV]; exact ⟨row7 HSV.out.t, row7 HSV.out.c⟩))
   rw [hV] at hHeld ⊢
   clear hV
   refine' wpAnyH_take (i := 0) (oi := _) (v := _) rfl (by kernel_rfl) (by kernel_rfl) (by kernel_rfl) (fun _ _ _ h => h) (Or.inl ⟨by kernel_rfl, ?_⟩) (by assumption) ?_
   rotate_left
   ·(intro w hSw; (try dsimp only at hSw); go_simp; try (with_reducible rfl))
   try simp only [List.getElem_toArray, List.getElem_cons_succ, List.getElem_cons_zero, Act.put, List.setIfInBounds_toArray, List.set_cons_zero, List.set_cons_succ]
   refine' wpAnyH_take (i := 1) (oi := _) (v := _) rfl (by kernel_rfl) (by kernel_rfl) (by kernel_rfl) (fun _ _ _ h => h) (Or.inl ⟨by kernel_rfl, ?_⟩) (by assumption) ?_
   rotate_left
   ·(intro w hSw; (try dsimp only at hSw); go_simp; try (with_reducible rfl))
   try simp only [List.getElem_toArray, List.getElem_cons_succ, List.getElem_cons_zero, Act.put, List.setIfInBounds_toArray, List.set_cons_zero, List.set_cons_succ]
   have AIE1 := hid (show (Try.prog.info? 74).map (·.size) = some (#[.int .i64 d7.cap, .int .i64 d7.meet, .slice d7.p1 d7.o1.length d7.c1, .slice d7.p2 d7.o2.length d7.c2, .int .u64 d7.high, .int .u64 d7.seq, .slice p2 (n + 1) c2] : Array Value).size from info74)
   have ASE1 := hid (show (#[.int .i64 0, .int .i64 0, .slice none 0 0, .slice none 0 0, .int .u64 0, .int .u64 0, .slice none 0 0] : Array Value).size = (#[.int .i64 d7.cap, .int .i64 d7.meet, .slice d7.p1 d7.o1.length d7.c1, .slice d7.p2 d7.o2.length d7.c2, .int .u64 d7.high, .int .u64 d7.seq, .slice p2 (n + 1) c2] : Array Value).size from rfl)
   have AAE1 := hid (show (#[.int .i64 d7.cap, .int .i64 d7.meet, .slice d7.p1 d7.o1.length d7.c1, .slice d7.p2 d7.o2.length d7.c2, .int .u64 d7.high, .int .u64 d7.seq, .slice p2 (n + 1) c2] : Array Value).all (·.oneCell') = true from by simp [Value.oneCell'])
   have AIE2 := hid (show (Try.prog.info? 78).map (·.size) = some (#[.int .u64 o.id, .int .u64 0, .int .u64 o.pk, .int .u32 o.mb, .int .i64 s, .int .i64 o.ty, .int .i64 o.pr] : Array Value).size from info78)
   have ASE2 := hid (show (#[.int .u64 0, .int .u64 0, .int .u64 0, .int .u32 0, .int .i64 0, .int .i64 0, .int .i64 0] : Array Value).size = (#[.int .u64 o.id, .int .u64 0, .int .u64 o.pk, .int .u32 o.mb, .int .i64 s, .int .i64 o.ty, .int .i64 o.pr] : Array Value).size from rfl)
   have AAE2 := hid (show (#[.int .u64 o.id, .int .u64 0, .int .u64 o.pk, .int .u32 o.mb, .int .i64 s, .int .i64 o.ty, .int .i64 o.pr] : Array Value).all (·.oneCell') = true from by simp [Value.oneCell'])
   refine wpAnyH_ready (rs := [2]) (by kernel_rfl) (by simp) ?_
   refine AllReadyH.cons (o := _) rfl (fun K hK => ?_) AllReadyH.nil
   refine step_store_row (by rfl) 74 (.tmp 4) (.tmp 130) (by rfl) (R + 1 + 1) #[.int .i64 d7.cap, .int .i64 d7.meet, .slice d7.p1 d7.o1.length d7.c1, .slice d7.p2 d7.o2.length d7.c2, .int .u64 d7.high, .int .u64 d7.seq, .slice p2 (n + 1) c2] (by rfl) (by rfl) 74 _ HSV.out.z1 AIE1.out ASE1.out AAE1.out ?_
   have k1 := setRow_kp V (R + 1 + 1) #[.int .i64 d7.cap, .int .i64 d7.meet, .slice d7.p1 d7.o1.length d7.c1, .slice d7.p2 d7.o2.length d7.c2, .int .u64 d7.high, .int .u64 d7.seq, .slice p2 (n + 1) c2]
   have HZ1 := hid (setRow_heap V (R + 1 + 1) _ #[.int .i64 d7.cap, .int .i64 d7.meet, .slice d7.p1 d7.o1.length d7.c1, .slice d7.p2 d7.o2.length d7.c2, .int .u64 d7.high, .int .u64 d7.seq, .slice p2 (n + 1) c2] 74 (0, 0) HSV.out.z1)
   have HZ2 := hid (k1.row HSV.out.z2 (by omega))
   have HZT := hid (k1.row HSV.out.t (by omega))
   have HZC := hid (k1.row HSV.out.c (by omega))
   have HZB := hid (HSV.out.be.trans (k1.below HSV.out.be.size (fun j hj e => by have := HSV.out.r; omega)))
   have HK1 := hid k1
   refine hK.out _ _ ?_ (fun hHeld => ?_)
   ·(try dsimp only); exact ⟨row7 HZT.out, row7 HZC.out⟩
   clear hK K k1
   try simp only [List.getElem_toArray, List.getElem_cons_succ, List.getElem_cons_zero, Act.put, List.setIfInBounds_toArray, List.set_cons_zero, List.set_cons_succ]
   obtain ⟨X1, hX1⟩ : ∃ X, V.setRow (R + 1 + 1) #[.int .i64 d7.cap, .int .i64 d7.meet, .slice d7.p1 d7.o1.length d7.c1, .slice d7.p2 d7.o2.length d7.c2, .int .u64 d7.high, .int .u64 d7.seq, .slice p2 (n + 1) c2] = X := ⟨_, rfl⟩
   rw [hX1] at HZ1 HZ2 HZT HZC HZB HK1 hHeld ⊢
   clear hX1
   refine wpAnyH_ready (rs := [3]) (by kernel_rfl) (by simp) ?_
   refine AllReadyH.cons (o := _) rfl (fun K hK => ?_) AllReadyH.nil
   refine step_store_row (by rfl) 78 (.tmp 5) (.tmp 131) (by rfl) (R + 1 + 1 + 1) #[.int .u64 o.id, .int .u64 0, .int .u64 o.pk, .int .u32 o.mb, .int .i64 s, .int .i64 o.ty, .int .i64 o.pr] (by rfl) (by rfl) 78 _ HZ2.out AIE2.out ASE2.out AAE2.out ?_
   have k2 := setRow_kp X1 (R + 1 + 1 + 1) #[.int .u64 o.id, .int .u64 0, .int .u64 o.pk, .int .u32 o.mb, .int .i64 s, .int .i64 o.ty, .int .i64 o.pr]
   have HY1 := hid (k2.row HZ1.out (by omega))
   have HY2 := hid (setRow_heap X1 (R + 1 + 1 + 1) _ #[.int .u64 o.id, .int .u64 0, .int .u64 o.pk, .int .u32 o.mb, .int .i64 s, .int .i64 o.ty, .int .i64 o.pr] 78 (0, 0) HZ2.out)
   have HYB := hid (HZB.out.trans (k2.below HZB.out.size (fun j hj e => by have := HSV.out.r; omega)))
   have HK2 := hid k2
   refine hK.out _ _ ?_ (fun hHeld => ?_)
   ·(try dsimp only); exact ⟨row7 (k2.row HZT.out (by omega)), row7 (k2.row HZC.out (by omega))⟩
   clear hK K k2
   try simp only [List.getElem_toArray, List.getElem_cons_succ, List.getElem_cons_zero, Act.put, List.setIfInBounds_toArray, List.set_cons_zero, List.set_cons_succ]
   refine wpAnyH_done (by kernel_rfl) ?_ _
   obtain ⟨X2, hX2⟩ : ∃ X, X1.setRow (R + 1 + 1 + 1) #[.int .u64 o.id, .int .u64 0, .int .u64 o.pk, .int .u32 o.mb, .int .i64 s, .int .i64 o.ty, .int .i64 o.pr] = X := ⟨_, rfl⟩
   rw [hX2] at HY1 HY2 HYB HK2 ⊢
   clear hX2 hHeld
   go_wp2
   refine bodyPost_ret (res_cc Try.results68 _ _ (R + 1 + 1) (R + 1 + 1 + 1) 74 78 #[.int .i64 d7.cap, .int .i64 d7.meet, .slice d7.p1 d7.o1.length d7.c1, .slice d7.p2 d7.o2.length d7.c2, .int .u64 d7.high, .int .u64 d7.seq, .slice p2 (n + 1) c2] #[.int .u64 o.id, .int .u64 0, .int .u64 o.pk, .int .u32 o.mb, .int .i64 s, .int .i64 o.ty, .int .i64 o.pr] (0, 0) (0, 0) _ _ (by rfl) (by rfl) HY1.out HY2.out Try.underlying74 rfl info74 Try.underlying78 rfl info78) rfl ?_
   have HKE := hid (show ∀ (base : Nat) (e : TypeId) (size m : Nat) (v : Value) (xs : List Value), W8.ownsRow base e size v m xs → e ≠ 74 → e ≠ 78 → X2.ownsRow base e size v m xs from fun base e size m v xs hh n1 n2 => by
   have h1 := own_on hh HKV.out
   have h2 := own_same (w' := X1) h1 (fun j hj => by obtain ⟨cc, hc⟩ := own_ty h1 hj; exact HK1.out.obj j (row_lt hc) (row_ne hc HSV.out.z1 n1))
   exact own_same h2 (fun j hj => by obtain ⟨cc, hc⟩ := own_ty h2 hj; exact HK2.out.obj j (row_lt hc) (row_ne hc HZ2.out n2)))
   have hmin : min q x.vi = q := by have := HC0.out; omega
   have hy : x.less q = (⟨x.id, x.mb, x.ty, x.pr, (x.vi - q), x.hi, x.pk⟩ : Or) := rfl
   have HZ : stD d.seq d.meet o s q x r = ((⟨x.id, x.mb, x.ty, x.pr, (x.vi - q), x.hi, x.pk⟩ : Or) :: r, [(evT o s x q).num (nx d.seq)], 0, nx d.seq) := by
    unfold stD
    rw [if_neg (by first | (unfold prtO; rw [g0]; simp; done) | (unfold prtO; rw [f2]; simp; done) | (unfold prtO; rw [f1]; simp; done)), hmin, if_pos (by have := HC0.out; omega), hy]
    simp
   rw [HZ]
   have hd := HD2.out
   subst hd
   have hd7 := HD7.out
   rw [← HT.out, wo_self HRN.out] at hd7
   have hr9 := HA9.out
   rw [wo_self HRN.out] at hr9
   have hl5 := HL5.out
   rw [wo_self HRN.out] at hl5
   have hrw : Y6.ownsRow 0 50 7 (.slice p9 ((⟨x.id, x.mb, x.ty, x.pr, (x.vi - q), x.hi, x.pk⟩ : Or) :: r).length c9) ((⟨x.id, x.mb, x.ty, x.pr, (x.vi - q), x.hi, x.pk⟩ : Or) :: r).length (ors ((⟨x.id, x.mb, x.ty, x.pr, (x.vi - q), x.hi, x.pk⟩ : Or) :: r)) := by
    have e1 : ((⟨x.id, x.mb, x.ty, x.pr, (x.vi - q), x.hi, x.pk⟩ : Or) :: r).length = 1 + m5' := by rw [List.length_cons, hl5]; omega
    rw [e1]
    exact own_base hr9 (Nat.zero_le _)
   have hrX := HKE.out _ _ _ _ _ _ (own_same (own_on hrw HB7.out) (fun j hj => by obtain ⟨cc, hc⟩ := own_ty (own_on hrw HB7.out) hj; exact HK8.out.obj j (row_lt hc) (row_ne hc HQ7.out.t (by decide)))) (by decide) (by decide)
   obtain ⟨j1, j2, j3, j4, j5, j6⟩ := put_os d.told HSS.out p9 c9 ((⟨x.id, x.mb, x.ty, x.pr, (x.vi - q), x.hi, x.pk⟩ : Or) :: r)
   subst hd7
   refine ⟨_, p2, n + 1, c2, rfl, ?_, ?_, ?_, j1, j2, j3, j4, j5, j6, HYB.out⟩
   ·exact ⟨Dm.put (d := d.told) ⟨(HDM.out.on HYB.out).r1, (HDM.out.on HYB.out).r2, HDM.out.l1, HDM.out.l2⟩ hrX (by have := HLB.out; simpa using this), Nwl.put (d := d.told) ⟨fun _ h => .inl h, fun _ h => .inl h⟩ (fun j hj => Nat.le_trans HQ0.out.be.size (HA9.out.lt j (ofp_own hj)).1)⟩
   ·rw [List.length_append, HEN.out]; rfl
   ·have h9 := HKE.out _ _ _ _ _ _ (HO8.out _ _ _ _ _ _ (own_on (own_on (own_on HV6.out HE0.out) HE6.out) HB7.out) (by decide)) (by decide) (by decide); unfold Rv; rw [List.length_append, HEN.out]; rw [List.length_append, HEN.out] at h9; exact h9
  ·go_simp
   refine hK.out _ _ ?_ (fun hHeld => ?_)
   ·(try dsimp only); exact row7 (HQ0.out.on (ball _ _)).m
   clear hK K
   try simp only [List.getElem_toArray, List.getElem_cons_succ, List.getElem_cons_zero, Act.put, List.setIfInBounds_toArray, List.set_cons_zero, List.set_cons_succ]
   obtain ⟨Y4, hY4⟩ : ∃ X, Y0.alloc (.cells #[.int .u64 x.id, .int .u32 x.mb, .int .i64 x.ty, .int .i64 x.pr, .int .u64 (x.vi - q), .int .u64 x.hi, .int .u64 x.pk] 50) = X := ⟨_, rfl⟩
   obtain ⟨g4, hg4⟩ : ∃ g, Y0.heap.size = g := ⟨_, rfl⟩
   have bY4 : Below Y0.heap.size Y0 Y4 := by rw [← hY4]; exact ball _ _
   have HQ4 := hid (HQ0.out.on bY4)
   have HE4 := hid (btr HEY.out bY4)
   have HM4 := hid (show Y4.ownsRow Y0.heap.size 50 7 (.slice (some ⟨g4, 0, none⟩) 1 1) 1 (orow (⟨x.id, x.mb, x.ty, x.pr, (x.vi - q), x.hi, x.pk⟩ : Or)).toList from ⟨rfl, .inr ⟨g4, 1, #[.int .u64 x.id, .int .u32 x.mb, .int .i64 x.ty, .int .i64 x.pr, .int .u64 (x.vi - q), .int .u64 x.hi, .int .u64 x.pk], rfl, by rw [← hg4]; exact HEY.out.size, by rw [← hY4, ← hg4]; exact World.alloc_heap_new _ _, Nat.le_refl _, by unfold maxLen; omega, rfl, rfl⟩⟩)
   rw [hY4, hg4]
   clear hY4 hg4 bY4
   refine wpAnyH_ready (rs := [1, 6]) (by kernel_rfl) (by simp) ?_
   refine (AllReadyH.cons (o := _) rfl (fun K hK => ?_) (AllReadyH.cons (o := _) rfl (fun K hK => ?_) AllReadyH.nil))
   ·obtain ⟨a0, a1, a2, a3, a4, a5, a6⟩ := row7 HQ4.out.t
    go_simp
    refine hK.out _ _ ?_ (fun hHeld => ?_)
    ·(try dsimp only); exact row7 HQ4.out.m
    clear hK K a0 a1 a2 a3 a4 a5 a6
    try simp only [List.getElem_toArray, List.getElem_cons_succ, List.getElem_cons_zero, Act.put, List.setIfInBounds_toArray, List.set_cons_zero, List.set_cons_succ]
    refine wpAnyH_ready (rs := [6]) (by kernel_rfl) (by simp) ?_
    refine AllReadyH.cons (o := _) rfl (fun K hK => ?_) AllReadyH.nil
    have sz := HE4.out.size
    refine step_app_rows (by rfl) (.tmp 125) (.tmp 126) 29 (by rfl) Y0.heap.size 0 50 i0 _ 7 56 Try.underlying29 HI.out HZ0.out HZ1.out HZ2.out rfl (by decide) (.slice (some ⟨g4, 0, none⟩) 1 1) 1 (orow (⟨x.id, x.mb, x.ty, x.pr, (x.vi - q), x.hi, x.pk⟩ : Or)).toList (by rfl) HM4.out (.slice q5 m5' c5) m5' (ors (wo x.id (x :: r))) (by rfl) (HRY.out _ HE4.out) (ors_one _) (by have := HML.out; unfold maxLen; omega) (by have := HML.out; omega) sz ?_
    intro v9 Y6 hown hgrow
    obtain ⟨p9, c9, rfl⟩ := own_form hown
    have bY6 := (Below.refl Y4.heap.size Y4)
    have HE6 := hid (HE4.out.grown hgrow sz (fun j hj => (HM4.out.lt j hj).1))
    have HQ6 := hid (HQ0.out.on HE6.out)
    have HA9 := hid hown
    refine hK.out _ _ ?_ (fun hHeld => ?_)
    ·(try dsimp only); exact row7 HQ6.out.m
    clear hK K hown hgrow sz bY6
    try simp only [List.getElem_toArray, List.getElem_cons_succ, List.getElem_cons_zero, Act.put, List.setIfInBounds_toArray, List.set_cons_zero, List.set_cons_succ]
    refine wpAnyH_ready (rs := [7]) (by kernel_rfl) (by simp) ?_
    refine AllReadyH.cons (o := _) rfl (fun K hK => ?_) AllReadyH.nil
    go_simp
    go_at_call 32; with_reducible refine (wwith d2 t p9 (1 + m5') c9 ((⟨x.id, x.mb, x.ty, x.pr, (x.vi - q), x.hi, x.pk⟩ : Or) :: wo x.id (x :: r)) (by rw [List.length_cons, HL5.out]; omega) Y6).mono ?_; rintro e Y7 ⟨d7, rfl, HD7, HB7⟩
    (try go_wp2_with fail)
    have HQ7 := hid (HQ6.out.on HB7.out)
    refine hK.out _ _ ?_ (fun hHeld => ?_)
    ·(try dsimp only); exact row7 HQ7.out.m
    clear hK K
    try simp only [List.getElem_toArray, List.getElem_cons_succ, List.getElem_cons_zero, Act.put, List.setIfInBounds_toArray, List.set_cons_zero, List.set_cons_succ]
    refine' wpAnyH_take (i := 8) (oi := _) (v := _) rfl (by kernel_rfl) (by kernel_rfl) (by kernel_rfl) (fun _ _ _ h => h) (Or.inl ⟨by kernel_rfl, ?_⟩) (by assumption) ?_
    rotate_left
    ·(intro w hSw; (try dsimp only at hSw); go_simp; try (with_reducible rfl))
    try simp only [List.getElem_toArray, List.getElem_cons_succ, List.getElem_cons_zero, Act.put, List.setIfInBounds_toArray, List.set_cons_zero, List.set_cons_succ]
    refine wpAnyH_ready (rs := [9]) (by kernel_rfl) (by simp) ?_
    refine AllReadyH.cons (o := _) rfl (fun K hK => ?_) AllReadyH.nil
    obtain ⟨a0, a1, a2, a3, a4, a5, a6⟩ := row7 HQ7.out.t
    have z0 := row_frz HQ7.out.t 0
    have z1 := row_frz HQ7.out.t 1
    have z2 := row_frz HQ7.out.t 2
    have z3 := row_frz HQ7.out.t 3
    have z4 := row_frz HQ7.out.t 4
    have z5 := row_frz HQ7.out.t 5
    have h6 := set6 (.int .i64 d7.cap) (.int .i64 d7.meet) (.slice d7.p1 d7.o1.length d7.c1) (.slice d7.p2 d7.o2.length d7.c2) (.int .u64 d7.high) (.int .u64 d7.seq) HQ7.out.t
    have HS8 := hid (HQ7.out.kp h6.2 h6.1)
    have HK8 := hid h6.2
    clear h6
    go_simp
    refine hK.out _ _ ?_ (fun hHeld => ?_)
    ·(try dsimp only); exact row7 HS8.out.m
    clear hK K a0 a1 a2 a3 a4 a5 a6 z0 z1 z2 z3 z4 z5
    try simp only [List.getElem_toArray, List.getElem_cons_succ, List.getElem_cons_zero, Act.put, List.setIfInBounds_toArray, List.set_cons_zero, List.set_cons_succ]
    refine wpAnyH_done (by kernel_rfl) ?_ _
    obtain ⟨W8, hW8⟩ : ∃ X, ((((((Y7.setCell ⟨R, 0, none⟩ (.int .i64 d7.cap)).setCell ⟨R, 1, none⟩ (.int .i64 d7.meet)).setCell ⟨R, 2, none⟩ (.slice d7.p1 d7.o1.length d7.c1)).setCell ⟨R, 3, none⟩ (.slice d7.p2 d7.o2.length d7.c2)).setCell ⟨R, 4, none⟩ (.int .u64 d7.high)).setCell ⟨R, 5, none⟩ (.int .u64 d7.seq)) = X := ⟨_, rfl⟩
    rw [hW8] at HS8 HK8 ⊢
    clear hW8
    have HO8 := hid (show ∀ (base : Nat) (e : TypeId) (size m : Nat) (v : Value) (xs : List Value), Y7.ownsRow base e size v m xs → e ≠ 74 → W8.ownsRow base e size v m xs from fun base e size m v xs hh n1 => own_same hh (fun j hj => by obtain ⟨cc, hc⟩ := own_ty hh hj; exact HK8.out.obj j (row_lt hc) (row_ne hc HQ7.out.t n1)))
    go_upto_region 22 with fail
    obtain ⟨V, hV⟩ : ∃ X, W8.drew = X := ⟨_, rfl⟩
    have HSV := hid (show Ss w V R g _ _ _ from by rw [← hV]; exact HS8.out.on (bdrew1 _))
    have HKV := hid (show Below W8.heap.size W8 V from by rw [← hV]; exact bdrew1 _)
    refine wp_region_held_drew (S := (fun U => (U.cell? ⟨R, 0, none⟩ = some (.int .i64 d7.cap) ∧ U.cell? ⟨R, 1, none⟩ = some (.int .i64 d7.meet) ∧ U.cell? ⟨R, 2, none⟩ = some (.slice d7.p1 d7.o1.length d7.c1) ∧ U.cell? ⟨R, 3, none⟩ = some (.slice d7.p2 d7.o2.length d7.c2) ∧ U.cell? ⟨R, 4, none⟩ = some (.int .u64 d7.high) ∧ U.cell? ⟨R, 5, none⟩ = some (.int .u64 d7.seq) ∧ U.cell? ⟨R, 6, none⟩ = some (.slice p2 (n + 1) c2)) ∧ (U.cell? ⟨R + 1, 0, none⟩ = some (.int .u64 o.id) ∧ U.cell? ⟨R + 1, 1, none⟩ = some (.int .u64 0) ∧ U.cell? ⟨R + 1, 2, none⟩ = some (.int .u64 o.pk) ∧ U.cell? ⟨R + 1, 3, none⟩ = some (.int .u32 o.mb) ∧ U.cell? ⟨R + 1, 4, none⟩ = some (.int .i64 s) ∧ U.cell? ⟨R + 1, 5, none⟩ = some (.int .i64 o.ty) ∧ U.cell? ⟨R + 1, 6, none⟩ = some (.int .i64 o.pr)))) (by kernel_rfl) ?_ (fun hHeld => ?_)
    ·(try dsimp only); ((rw [hV]; exact ⟨row7 HSV.out.t, row7 HSV.out.c⟩))
    rw [hV] at hHeld ⊢
    clear hV
    refine' wpAnyH_take (i := 0) (oi := _) (v := _) rfl (by kernel_rfl) (by kernel_rfl) (by kernel_rfl) (fun _ _ _ h => h) (Or.inl ⟨by kernel_rfl, ?_⟩) (by assumption) ?_
    rotate_left
    ·(intro w hSw; (try dsimp only at hSw); go_simp; try (with_reducible rfl))
    try simp only [List.getElem_toArray, List.getElem_cons_succ, List.getElem_cons_zero, Act.put, List.setIfInBounds_toArray, List.set_cons_zero, List.set_cons_succ]
    refine' wpAnyH_take (i := 1) (oi := _) (v := _) rfl (by kernel_rfl) (by kernel_rfl) (by kernel_rfl) (fun _ _ _ h => h) (Or.inl ⟨by kernel_rfl, ?_⟩) (by assumption) ?_
    rotate_left
    ·(intro w hSw; (try dsimp only at hSw); go_simp; try (with_reducible rfl))
    try simp only [List.getElem_toArray, List.getElem_cons_succ, List.getElem_cons_zero, Act.put, List.setIfInBounds_toArray, List.set_cons_zero, List.set_cons_succ]
    have AIE1 := hid (show (Try.prog.info? 74).map (·.size) = some (#[.int .i64 d7.cap, .int .i64 d7.meet, .slice d7.p1 d7.o1.length d7.c1, .slice d7.p2 d7.o2.length d7.c2, .int .u64 d7.high, .int .u64 d7.seq, .slice p2 (n + 1) c2] : Array Value).size from info74)
    have ASE1 := hid (show (#[.int .i64 0, .int .i64 0, .slice none 0 0, .slice none 0 0, .int .u64 0, .int .u64 0, .slice none 0 0] : Array Value).size = (#[.int .i64 d7.cap, .int .i64 d7.meet, .slice d7.p1 d7.o1.length d7.c1, .slice d7.p2 d7.o2.length d7.c2, .int .u64 d7.high, .int .u64 d7.seq, .slice p2 (n + 1) c2] : Array Value).size from rfl)
    have AAE1 := hid (show (#[.int .i64 d7.cap, .int .i64 d7.meet, .slice d7.p1 d7.o1.length d7.c1, .slice d7.p2 d7.o2.length d7.c2, .int .u64 d7.high, .int .u64 d7.seq, .slice p2 (n + 1) c2] : Array Value).all (·.oneCell') = true from by simp [Value.oneCell'])
    have AIE2 := hid (show (Try.prog.info? 78).map (·.size) = some (#[.int .u64 o.id, .int .u64 0, .int .u64 o.pk, .int .u32 o.mb, .int .i64 s, .int .i64 o.ty, .int .i64 o.pr] : Array Value).size from info78)
    have ASE2 := hid (show (#[.int .u64 0, .int .u64 0, .int .u64 0, .int .u32 0, .int .i64 0, .int .i64 0, .int .i64 0] : Array Value).size = (#[.int .u64 o.id, .int .u64 0, .int .u64 o.pk, .int .u32 o.mb, .int .i64 s, .int .i64 o.ty, .int .i64 o.pr] : Array Value).size from rfl)
    have AAE2 := hid (show (#[.int .u64 o.id, .int .u64 0, .int .u64 o.pk, .int .u32 o.mb, .int .i64 s, .int .i64 o.ty, .int .i64 o.pr] : Array Value).all (·.oneCell') = true from by simp [Value.oneCell'])
    refine wpAnyH_ready (rs := [2]) (by kernel_rfl) (by simp) ?_
    refine AllReadyH.cons (o := _) rfl (fun K hK => ?_) AllReadyH.nil
    refine step_store_row (by rfl) 74 (.tmp 4) (.tmp 130) (by rfl) (R + 1 + 1) #[.int .i64 d7.cap, .int .i64 d7.meet, .slice d7.p1 d7.o1.length d7.c1, .slice d7.p2 d7.o2.length d7.c2, .int .u64 d7.high, .int .u64 d7.seq, .slice p2 (n + 1) c2] (by rfl) (by rfl) 74 _ HSV.out.z1 AIE1.out ASE1.out AAE1.out ?_
    have k1 := setRow_kp V (R + 1 + 1) #[.int .i64 d7.cap, .int .i64 d7.meet, .slice d7.p1 d7.o1.length d7.c1, .slice d7.p2 d7.o2.length d7.c2, .int .u64 d7.high, .int .u64 d7.seq, .slice p2 (n + 1) c2]
    have HZ1 := hid (setRow_heap V (R + 1 + 1) _ #[.int .i64 d7.cap, .int .i64 d7.meet, .slice d7.p1 d7.o1.length d7.c1, .slice d7.p2 d7.o2.length d7.c2, .int .u64 d7.high, .int .u64 d7.seq, .slice p2 (n + 1) c2] 74 (0, 0) HSV.out.z1)
    have HZ2 := hid (k1.row HSV.out.z2 (by omega))
    have HZT := hid (k1.row HSV.out.t (by omega))
    have HZC := hid (k1.row HSV.out.c (by omega))
    have HZB := hid (HSV.out.be.trans (k1.below HSV.out.be.size (fun j hj e => by have := HSV.out.r; omega)))
    have HK1 := hid k1
    refine hK.out _ _ ?_ (fun hHeld => ?_)
    ·(try dsimp only); exact ⟨row7 HZT.out, row7 HZC.out⟩
    clear hK K k1
    try simp only [List.getElem_toArray, List.getElem_cons_succ, List.getElem_cons_zero, Act.put, List.setIfInBounds_toArray, List.set_cons_zero, List.set_cons_succ]
    obtain ⟨X1, hX1⟩ : ∃ X, V.setRow (R + 1 + 1) #[.int .i64 d7.cap, .int .i64 d7.meet, .slice d7.p1 d7.o1.length d7.c1, .slice d7.p2 d7.o2.length d7.c2, .int .u64 d7.high, .int .u64 d7.seq, .slice p2 (n + 1) c2] = X := ⟨_, rfl⟩
    rw [hX1] at HZ1 HZ2 HZT HZC HZB HK1 hHeld ⊢
    clear hX1
    refine wpAnyH_ready (rs := [3]) (by kernel_rfl) (by simp) ?_
    refine AllReadyH.cons (o := _) rfl (fun K hK => ?_) AllReadyH.nil
    refine step_store_row (by rfl) 78 (.tmp 5) (.tmp 131) (by rfl) (R + 1 + 1 + 1) #[.int .u64 o.id, .int .u64 0, .int .u64 o.pk, .int .u32 o.mb, .int .i64 s, .int .i64 o.ty, .int .i64 o.pr] (by rfl) (by rfl) 78 _ HZ2.out AIE2.out ASE2.out AAE2.out ?_
    have k2 := setRow_kp X1 (R + 1 + 1 + 1) #[.int .u64 o.id, .int .u64 0, .int .u64 o.pk, .int .u32 o.mb, .int .i64 s, .int .i64 o.ty, .int .i64 o.pr]
    have HY1 := hid (k2.row HZ1.out (by omega))
    have HY2 := hid (setRow_heap X1 (R + 1 + 1 + 1) _ #[.int .u64 o.id, .int .u64 0, .int .u64 o.pk, .int .u32 o.mb, .int .i64 s, .int .i64 o.ty, .int .i64 o.pr] 78 (0, 0) HZ2.out)
    have HYB := hid (HZB.out.trans (k2.below HZB.out.size (fun j hj e => by have := HSV.out.r; omega)))
    have HK2 := hid k2
    refine hK.out _ _ ?_ (fun hHeld => ?_)
    ·(try dsimp only); exact ⟨row7 (k2.row HZT.out (by omega)), row7 (k2.row HZC.out (by omega))⟩
    clear hK K k2
    try simp only [List.getElem_toArray, List.getElem_cons_succ, List.getElem_cons_zero, Act.put, List.setIfInBounds_toArray, List.set_cons_zero, List.set_cons_succ]
    refine wpAnyH_done (by kernel_rfl) ?_ _
    obtain ⟨X2, hX2⟩ : ∃ X, X1.setRow (R + 1 + 1 + 1) #[.int .u64 o.id, .int .u64 0, .int .u64 o.pk, .int .u32 o.mb, .int .i64 s, .int .i64 o.ty, .int .i64 o.pr] = X := ⟨_, rfl⟩
    rw [hX2] at HY1 HY2 HYB HK2 ⊢
    clear hX2 hHeld
    go_wp2
    refine bodyPost_ret (res_cc Try.results68 _ _ (R + 1 + 1) (R + 1 + 1 + 1) 74 78 #[.int .i64 d7.cap, .int .i64 d7.meet, .slice d7.p1 d7.o1.length d7.c1, .slice d7.p2 d7.o2.length d7.c2, .int .u64 d7.high, .int .u64 d7.seq, .slice p2 (n + 1) c2] #[.int .u64 o.id, .int .u64 0, .int .u64 o.pk, .int .u32 o.mb, .int .i64 s, .int .i64 o.ty, .int .i64 o.pr] (0, 0) (0, 0) _ _ (by rfl) (by rfl) HY1.out HY2.out Try.underlying74 rfl info74 Try.underlying78 rfl info78) rfl ?_
    have HKE := hid (show ∀ (base : Nat) (e : TypeId) (size m : Nat) (v : Value) (xs : List Value), W8.ownsRow base e size v m xs → e ≠ 74 → e ≠ 78 → X2.ownsRow base e size v m xs from fun base e size m v xs hh n1 n2 => by
   have h1 := own_on hh HKV.out
   have h2 := own_same (w' := X1) h1 (fun j hj => by obtain ⟨cc, hc⟩ := own_ty h1 hj; exact HK1.out.obj j (row_lt hc) (row_ne hc HSV.out.z1 n1))
   exact own_same h2 (fun j hj => by obtain ⟨cc, hc⟩ := own_ty h2 hj; exact HK2.out.obj j (row_lt hc) (row_ne hc HZ2.out n2)))
    have hmin : min q x.vi = q := by have := HC0.out; omega
    have hy : x.less q = (⟨x.id, x.mb, x.ty, x.pr, (x.vi - q), x.hi, x.pk⟩ : Or) := rfl
    have HZ : stD d.seq d.meet o s q x r = ((⟨x.id, x.mb, x.ty, x.pr, (x.vi - q), x.hi, x.pk⟩ : Or) :: r, [(evT o s x q).num (nx d.seq)], 0, nx d.seq) := by
     unfold stD
     rw [if_neg (by first | (unfold prtO; rw [g0]; simp; done) | (unfold prtO; rw [f2]; simp; done) | (unfold prtO; rw [f1]; simp; done)), hmin, if_pos (by have := HC0.out; omega), hy]
     simp
    rw [HZ]
    have hd := HD2.out
    subst hd
    have hd7 := HD7.out
    rw [← HT.out, wo_self HRN.out] at hd7
    have hr9 := HA9.out
    rw [wo_self HRN.out] at hr9
    have hl5 := HL5.out
    rw [wo_self HRN.out] at hl5
    have hrw : Y6.ownsRow 0 50 7 (.slice p9 ((⟨x.id, x.mb, x.ty, x.pr, (x.vi - q), x.hi, x.pk⟩ : Or) :: r).length c9) ((⟨x.id, x.mb, x.ty, x.pr, (x.vi - q), x.hi, x.pk⟩ : Or) :: r).length (ors ((⟨x.id, x.mb, x.ty, x.pr, (x.vi - q), x.hi, x.pk⟩ : Or) :: r)) := by
     have e1 : ((⟨x.id, x.mb, x.ty, x.pr, (x.vi - q), x.hi, x.pk⟩ : Or) :: r).length = 1 + m5' := by rw [List.length_cons, hl5]; omega
     rw [e1]
     exact own_base hr9 (Nat.zero_le _)
    have hrX := HKE.out _ _ _ _ _ _ (own_same (own_on hrw HB7.out) (fun j hj => by obtain ⟨cc, hc⟩ := own_ty (own_on hrw HB7.out) hj; exact HK8.out.obj j (row_lt hc) (row_ne hc HQ7.out.t (by decide)))) (by decide) (by decide)
    obtain ⟨j1, j2, j3, j4, j5, j6⟩ := put_os d.told HSS.out p9 c9 ((⟨x.id, x.mb, x.ty, x.pr, (x.vi - q), x.hi, x.pk⟩ : Or) :: r)
    subst hd7
    refine ⟨_, p2, n + 1, c2, rfl, ?_, ?_, ?_, j1, j2, j3, j4, j5, j6, HYB.out⟩
    ·exact ⟨Dm.put (d := d.told) ⟨(HDM.out.on HYB.out).r1, (HDM.out.on HYB.out).r2, HDM.out.l1, HDM.out.l2⟩ hrX (by have := HLB.out; simpa using this), Nwl.put (d := d.told) ⟨fun _ h => .inl h, fun _ h => .inl h⟩ (fun j hj => Nat.le_trans HQ0.out.be.size (HA9.out.lt j (ofp_own hj)).1)⟩
    ·rw [List.length_append, HEN.out]; rfl
    ·have h9 := HKE.out _ _ _ _ _ _ (HO8.out _ _ _ _ _ _ (own_on (own_on (own_on HV6.out HE0.out) HE6.out) HB7.out) (by decide)) (by decide) (by decide); unfold Rv; rw [List.length_append, HEN.out]; rw [List.length_append, HEN.out] at h9; exact h9
   ·have sz := HE4.out.size
    refine step_app_rows (by rfl) (.tmp 125) (.tmp 126) 29 (by rfl) Y0.heap.size 0 50 i0 _ 7 56 Try.underlying29 HI.out HZ0.out HZ1.out HZ2.out rfl (by decide) (.slice (some ⟨g4, 0, none⟩) 1 1) 1 (orow (⟨x.id, x.mb, x.ty, x.pr, (x.vi - q), x.hi, x.pk⟩ : Or)).toList (by rfl) HM4.out (.slice q5 m5' c5) m5' (ors (wo x.id (x :: r))) (by rfl) (HRY.out _ HE4.out) (ors_one _) (by have := HML.out; unfold maxLen; omega) (by have := HML.out; omega) sz ?_
    intro v9 Y6 hown hgrow
    obtain ⟨p9, c9, rfl⟩ := own_form hown
    have bY6 := (Below.refl Y4.heap.size Y4)
    have HE6 := hid (HE4.out.grown hgrow sz (fun j hj => (HM4.out.lt j hj).1))
    have HQ6 := hid (HQ0.out.on HE6.out)
    have HA9 := hid hown
    refine hK.out _ _ ?_ (fun hHeld => ?_)
    ·(try dsimp only); exact row7 HQ6.out.m
    clear hK K hown hgrow sz bY6
    try simp only [List.getElem_toArray, List.getElem_cons_succ, List.getElem_cons_zero, Act.put, List.setIfInBounds_toArray, List.set_cons_zero, List.set_cons_succ]
    refine wpAnyH_ready (rs := [1]) (by kernel_rfl) (by simp) ?_
    refine AllReadyH.cons (o := _) rfl (fun K hK => ?_) AllReadyH.nil
    obtain ⟨a0, a1, a2, a3, a4, a5, a6⟩ := row7 HQ6.out.t
    go_simp
    refine hK.out _ _ ?_ (fun hHeld => ?_)
    ·(try dsimp only); exact row7 HQ6.out.m
    clear hK K a0 a1 a2 a3 a4 a5 a6
    try simp only [List.getElem_toArray, List.getElem_cons_succ, List.getElem_cons_zero, Act.put, List.setIfInBounds_toArray, List.set_cons_zero, List.set_cons_succ]
    refine wpAnyH_ready (rs := [7]) (by kernel_rfl) (by simp) ?_
    refine AllReadyH.cons (o := _) rfl (fun K hK => ?_) AllReadyH.nil
    go_simp
    go_at_call 32; with_reducible refine (wwith d2 t p9 (1 + m5') c9 ((⟨x.id, x.mb, x.ty, x.pr, (x.vi - q), x.hi, x.pk⟩ : Or) :: wo x.id (x :: r)) (by rw [List.length_cons, HL5.out]; omega) Y6).mono ?_; rintro e Y7 ⟨d7, rfl, HD7, HB7⟩
    (try go_wp2_with fail)
    have HQ7 := hid (HQ6.out.on HB7.out)
    refine hK.out _ _ ?_ (fun hHeld => ?_)
    ·(try dsimp only); exact row7 HQ7.out.m
    clear hK K
    try simp only [List.getElem_toArray, List.getElem_cons_succ, List.getElem_cons_zero, Act.put, List.setIfInBounds_toArray, List.set_cons_zero, List.set_cons_succ]
    refine' wpAnyH_take (i := 8) (oi := _) (v := _) rfl (by kernel_rfl) (by kernel_rfl) (by kernel_rfl) (fun _ _ _ h => h) (Or.inl ⟨by kernel_rfl, ?_⟩) (by assumption) ?_
    rotate_left
    ·(intro w hSw; (try dsimp only at hSw); go_simp; try (with_reducible rfl))
    try simp only [List.getElem_toArray, List.getElem_cons_succ, List.getElem_cons_zero, Act.put, List.setIfInBounds_toArray, List.set_cons_zero, List.set_cons_succ]
    refine wpAnyH_ready (rs := [9]) (by kernel_rfl) (by simp) ?_
    refine AllReadyH.cons (o := _) rfl (fun K hK => ?_) AllReadyH.nil
    obtain ⟨a0, a1, a2, a3, a4, a5, a6⟩ := row7 HQ7.out.t
    have z0 := row_frz HQ7.out.t 0
    have z1 := row_frz HQ7.out.t 1
    have z2 := row_frz HQ7.out.t 2
    have z3 := row_frz HQ7.out.t 3
    have z4 := row_frz HQ7.out.t 4
    have z5 := row_frz HQ7.out.t 5
    have h6 := set6 (.int .i64 d7.cap) (.int .i64 d7.meet) (.slice d7.p1 d7.o1.length d7.c1) (.slice d7.p2 d7.o2.length d7.c2) (.int .u64 d7.high) (.int .u64 d7.seq) HQ7.out.t
    have HS8 := hid (HQ7.out.kp h6.2 h6.1)
    have HK8 := hid h6.2
    clear h6
    go_simp
    refine hK.out _ _ ?_ (fun hHeld => ?_)
    ·(try dsimp only); exact row7 HS8.out.m
    clear hK K a0 a1 a2 a3 a4 a5 a6 z0 z1 z2 z3 z4 z5
    try simp only [List.getElem_toArray, List.getElem_cons_succ, List.getElem_cons_zero, Act.put, List.setIfInBounds_toArray, List.set_cons_zero, List.set_cons_succ]
    refine wpAnyH_done (by kernel_rfl) ?_ _
    obtain ⟨W8, hW8⟩ : ∃ X, ((((((Y7.setCell ⟨R, 0, none⟩ (.int .i64 d7.cap)).setCell ⟨R, 1, none⟩ (.int .i64 d7.meet)).setCell ⟨R, 2, none⟩ (.slice d7.p1 d7.o1.length d7.c1)).setCell ⟨R, 3, none⟩ (.slice d7.p2 d7.o2.length d7.c2)).setCell ⟨R, 4, none⟩ (.int .u64 d7.high)).setCell ⟨R, 5, none⟩ (.int .u64 d7.seq)) = X := ⟨_, rfl⟩
    rw [hW8] at HS8 HK8 ⊢
    clear hW8
    have HO8 := hid (show ∀ (base : Nat) (e : TypeId) (size m : Nat) (v : Value) (xs : List Value), Y7.ownsRow base e size v m xs → e ≠ 74 → W8.ownsRow base e size v m xs from fun base e size m v xs hh n1 => own_same hh (fun j hj => by obtain ⟨cc, hc⟩ := own_ty hh hj; exact HK8.out.obj j (row_lt hc) (row_ne hc HQ7.out.t n1)))
    go_upto_region 22 with fail
    obtain ⟨V, hV⟩ : ∃ X, W8.drew = X := ⟨_, rfl⟩
    have HSV := hid (show Ss w V R g _ _ _ from by rw [← hV]; exact HS8.out.on (bdrew1 _))
    have HKV := hid (show Below W8.heap.size W8 V from by rw [← hV]; exact bdrew1 _)
    refine wp_region_held_drew (S := (fun U => (U.cell? ⟨R, 0, none⟩ = some (.int .i64 d7.cap) ∧ U.cell? ⟨R, 1, none⟩ = some (.int .i64 d7.meet) ∧ U.cell? ⟨R, 2, none⟩ = some (.slice d7.p1 d7.o1.length d7.c1) ∧ U.cell? ⟨R, 3, none⟩ = some (.slice d7.p2 d7.o2.length d7.c2) ∧ U.cell? ⟨R, 4, none⟩ = some (.int .u64 d7.high) ∧ U.cell? ⟨R, 5, none⟩ = some (.int .u64 d7.seq) ∧ U.cell? ⟨R, 6, none⟩ = some (.slice p2 (n + 1) c2)) ∧ (U.cell? ⟨R + 1, 0, none⟩ = some (.int .u64 o.id) ∧ U.cell? ⟨R + 1, 1, none⟩ = some (.int .u64 0) ∧ U.cell? ⟨R + 1, 2, none⟩ = some (.int .u64 o.pk) ∧ U.cell? ⟨R + 1, 3, none⟩ = some (.int .u32 o.mb) ∧ U.cell? ⟨R + 1, 4, none⟩ = some (.int .i64 s) ∧ U.cell? ⟨R + 1, 5, none⟩ = some (.int .i64 o.ty) ∧ U.cell? ⟨R + 1, 6, none⟩ = some (.int .i64 o.pr)))) (by kernel_rfl) ?_ (fun hHeld => ?_)
    ·(try dsimp only); ((rw [hV]; exact ⟨row7 HSV.out.t, row7 HSV.out.c⟩))
    rw [hV] at hHeld ⊢
    clear hV
    refine' wpAnyH_take (i := 0) (oi := _) (v := _) rfl (by kernel_rfl) (by kernel_rfl) (by kernel_rfl) (fun _ _ _ h => h) (Or.inl ⟨by kernel_rfl, ?_⟩) (by assumption) ?_
    rotate_left
    ·(intro w hSw; (try dsimp only at hSw); go_simp; try (with_reducible rfl))
    try simp only [List.getElem_toArray, List.getElem_cons_succ, List.getElem_cons_zero, Act.put, List.setIfInBounds_toArray, List.set_cons_zero, List.set_cons_succ]
    refine' wpAnyH_take (i := 1) (oi := _) (v := _) rfl (by kernel_rfl) (by kernel_rfl) (by kernel_rfl) (fun _ _ _ h => h) (Or.inl ⟨by kernel_rfl, ?_⟩) (by assumption) ?_
    rotate_left
    ·(intro w hSw; (try dsimp only at hSw); go_simp; try (with_reducible rfl))
    try simp only [List.getElem_toArray, List.getElem_cons_succ, List.getElem_cons_zero, Act.put, List.setIfInBounds_toArray, List.set_cons_zero, List.set_cons_succ]
    have AIE1 := hid (show (Try.prog.info? 74).map (·.size) = some (#[.int .i64 d7.cap, .int .i64 d7.meet, .slice d7.p1 d7.o1.length d7.c1, .slice d7.p2 d7.o2.length d7.c2, .int .u64 d7.high, .int .u64 d7.seq, .slice p2 (n + 1) c2] : Array Value).size from info74)
    have ASE1 := hid (show (#[.int .i64 0, .int .i64 0, .slice none 0 0, .slice none 0 0, .int .u64 0, .int .u64 0, .slice none 0 0] : Array Value).size = (#[.int .i64 d7.cap, .int .i64 d7.meet, .slice d7.p1 d7.o1.length d7.c1, .slice d7.p2 d7.o2.length d7.c2, .int .u64 d7.high, .int .u64 d7.seq, .slice p2 (n + 1) c2] : Array Value).size from rfl)
    have AAE1 := hid (show (#[.int .i64 d7.cap, .int .i64 d7.meet, .slice d7.p1 d7.o1.length d7.c1, .slice d7.p2 d7.o2.length d7.c2, .int .u64 d7.high, .int .u64 d7.seq, .slice p2 (n + 1) c2] : Array Value).all (·.oneCell') = true from by simp [Value.oneCell'])
    have AIE2 := hid (show (Try.prog.info? 78).map (·.size) = some (#[.int .u64 o.id, .int .u64 0, .int .u64 o.pk, .int .u32 o.mb, .int .i64 s, .int .i64 o.ty, .int .i64 o.pr] : Array Value).size from info78)
    have ASE2 := hid (show (#[.int .u64 0, .int .u64 0, .int .u64 0, .int .u32 0, .int .i64 0, .int .i64 0, .int .i64 0] : Array Value).size = (#[.int .u64 o.id, .int .u64 0, .int .u64 o.pk, .int .u32 o.mb, .int .i64 s, .int .i64 o.ty, .int .i64 o.pr] : Array Value).size from rfl)
    have AAE2 := hid (show (#[.int .u64 o.id, .int .u64 0, .int .u64 o.pk, .int .u32 o.mb, .int .i64 s, .int .i64 o.ty, .int .i64 o.pr] : Array Value).all (·.oneCell') = true from by simp [Value.oneCell'])
    refine wpAnyH_ready (rs := [2]) (by kernel_rfl) (by simp) ?_
    refine AllReadyH.cons (o := _) rfl (fun K hK => ?_) AllReadyH.nil
    refine step_store_row (by rfl) 74 (.tmp 4) (.tmp 130) (by rfl) (R + 1 + 1) #[.int .i64 d7.cap, .int .i64 d7.meet, .slice d7.p1 d7.o1.length d7.c1, .slice d7.p2 d7.o2.length d7.c2, .int .u64 d7.high, .int .u64 d7.seq, .slice p2 (n + 1) c2] (by rfl) (by rfl) 74 _ HSV.out.z1 AIE1.out ASE1.out AAE1.out ?_
    have k1 := setRow_kp V (R + 1 + 1) #[.int .i64 d7.cap, .int .i64 d7.meet, .slice d7.p1 d7.o1.length d7.c1, .slice d7.p2 d7.o2.length d7.c2, .int .u64 d7.high, .int .u64 d7.seq, .slice p2 (n + 1) c2]
    have HZ1 := hid (setRow_heap V (R + 1 + 1) _ #[.int .i64 d7.cap, .int .i64 d7.meet, .slice d7.p1 d7.o1.length d7.c1, .slice d7.p2 d7.o2.length d7.c2, .int .u64 d7.high, .int .u64 d7.seq, .slice p2 (n + 1) c2] 74 (0, 0) HSV.out.z1)
    have HZ2 := hid (k1.row HSV.out.z2 (by omega))
    have HZT := hid (k1.row HSV.out.t (by omega))
    have HZC := hid (k1.row HSV.out.c (by omega))
    have HZB := hid (HSV.out.be.trans (k1.below HSV.out.be.size (fun j hj e => by have := HSV.out.r; omega)))
    have HK1 := hid k1
    refine hK.out _ _ ?_ (fun hHeld => ?_)
    ·(try dsimp only); exact ⟨row7 HZT.out, row7 HZC.out⟩
    clear hK K k1
    try simp only [List.getElem_toArray, List.getElem_cons_succ, List.getElem_cons_zero, Act.put, List.setIfInBounds_toArray, List.set_cons_zero, List.set_cons_succ]
    obtain ⟨X1, hX1⟩ : ∃ X, V.setRow (R + 1 + 1) #[.int .i64 d7.cap, .int .i64 d7.meet, .slice d7.p1 d7.o1.length d7.c1, .slice d7.p2 d7.o2.length d7.c2, .int .u64 d7.high, .int .u64 d7.seq, .slice p2 (n + 1) c2] = X := ⟨_, rfl⟩
    rw [hX1] at HZ1 HZ2 HZT HZC HZB HK1 hHeld ⊢
    clear hX1
    refine wpAnyH_ready (rs := [3]) (by kernel_rfl) (by simp) ?_
    refine AllReadyH.cons (o := _) rfl (fun K hK => ?_) AllReadyH.nil
    refine step_store_row (by rfl) 78 (.tmp 5) (.tmp 131) (by rfl) (R + 1 + 1 + 1) #[.int .u64 o.id, .int .u64 0, .int .u64 o.pk, .int .u32 o.mb, .int .i64 s, .int .i64 o.ty, .int .i64 o.pr] (by rfl) (by rfl) 78 _ HZ2.out AIE2.out ASE2.out AAE2.out ?_
    have k2 := setRow_kp X1 (R + 1 + 1 + 1) #[.int .u64 o.id, .int .u64 0, .int .u64 o.pk, .int .u32 o.mb, .int .i64 s, .int .i64 o.ty, .int .i64 o.pr]
    have HY1 := hid (k2.row HZ1.out (by omega))
    have HY2 := hid (setRow_heap X1 (R + 1 + 1 + 1) _ #[.int .u64 o.id, .int .u64 0, .int .u64 o.pk, .int .u32 o.mb, .int .i64 s, .int .i64 o.ty, .int .i64 o.pr] 78 (0, 0) HZ2.out)
    have HYB := hid (HZB.out.trans (k2.below HZB.out.size (fun j hj e => by have := HSV.out.r; omega)))
    have HK2 := hid k2
    refine hK.out _ _ ?_ (fun hHeld => ?_)
    ·(try dsimp only); exact ⟨row7 (k2.row HZT.out (by omega)), row7 (k2.row HZC.out (by omega))⟩
    clear hK K k2
    try simp only [List.getElem_toArray, List.getElem_cons_succ, List.getElem_cons_zero, Act.put, List.setIfInBounds_toArray, List.set_cons_zero, List.set_cons_succ]
    refine wpAnyH_done (by kernel_rfl) ?_ _
    obtain ⟨X2, hX2⟩ : ∃ X, X1.setRow (R + 1 + 1 + 1) #[.int .u64 o.id, .int .u64 0, .int .u64 o.pk, .int .u32 o.mb, .int .i64 s, .int .i64 o.ty, .int .i64 o.pr] = X := ⟨_, rfl⟩
    rw [hX2] at HY1 HY2 HYB HK2 ⊢
    clear hX2 hHeld
    go_wp2
    refine bodyPost_ret (res_cc Try.results68 _ _ (R + 1 + 1) (R + 1 + 1 + 1) 74 78 #[.int .i64 d7.cap, .int .i64 d7.meet, .slice d7.p1 d7.o1.length d7.c1, .slice d7.p2 d7.o2.length d7.c2, .int .u64 d7.high, .int .u64 d7.seq, .slice p2 (n + 1) c2] #[.int .u64 o.id, .int .u64 0, .int .u64 o.pk, .int .u32 o.mb, .int .i64 s, .int .i64 o.ty, .int .i64 o.pr] (0, 0) (0, 0) _ _ (by rfl) (by rfl) HY1.out HY2.out Try.underlying74 rfl info74 Try.underlying78 rfl info78) rfl ?_
    have HKE := hid (show ∀ (base : Nat) (e : TypeId) (size m : Nat) (v : Value) (xs : List Value), W8.ownsRow base e size v m xs → e ≠ 74 → e ≠ 78 → X2.ownsRow base e size v m xs from fun base e size m v xs hh n1 n2 => by
   have h1 := own_on hh HKV.out
   have h2 := own_same (w' := X1) h1 (fun j hj => by obtain ⟨cc, hc⟩ := own_ty h1 hj; exact HK1.out.obj j (row_lt hc) (row_ne hc HSV.out.z1 n1))
   exact own_same h2 (fun j hj => by obtain ⟨cc, hc⟩ := own_ty h2 hj; exact HK2.out.obj j (row_lt hc) (row_ne hc HZ2.out n2)))
    have hmin : min q x.vi = q := by have := HC0.out; omega
    have hy : x.less q = (⟨x.id, x.mb, x.ty, x.pr, (x.vi - q), x.hi, x.pk⟩ : Or) := rfl
    have HZ : stD d.seq d.meet o s q x r = ((⟨x.id, x.mb, x.ty, x.pr, (x.vi - q), x.hi, x.pk⟩ : Or) :: r, [(evT o s x q).num (nx d.seq)], 0, nx d.seq) := by
     unfold stD
     rw [if_neg (by first | (unfold prtO; rw [g0]; simp; done) | (unfold prtO; rw [f2]; simp; done) | (unfold prtO; rw [f1]; simp; done)), hmin, if_pos (by have := HC0.out; omega), hy]
     simp
    rw [HZ]
    have hd := HD2.out
    subst hd
    have hd7 := HD7.out
    rw [← HT.out, wo_self HRN.out] at hd7
    have hr9 := HA9.out
    rw [wo_self HRN.out] at hr9
    have hl5 := HL5.out
    rw [wo_self HRN.out] at hl5
    have hrw : Y6.ownsRow 0 50 7 (.slice p9 ((⟨x.id, x.mb, x.ty, x.pr, (x.vi - q), x.hi, x.pk⟩ : Or) :: r).length c9) ((⟨x.id, x.mb, x.ty, x.pr, (x.vi - q), x.hi, x.pk⟩ : Or) :: r).length (ors ((⟨x.id, x.mb, x.ty, x.pr, (x.vi - q), x.hi, x.pk⟩ : Or) :: r)) := by
     have e1 : ((⟨x.id, x.mb, x.ty, x.pr, (x.vi - q), x.hi, x.pk⟩ : Or) :: r).length = 1 + m5' := by rw [List.length_cons, hl5]; omega
     rw [e1]
     exact own_base hr9 (Nat.zero_le _)
    have hrX := HKE.out _ _ _ _ _ _ (own_same (own_on hrw HB7.out) (fun j hj => by obtain ⟨cc, hc⟩ := own_ty (own_on hrw HB7.out) hj; exact HK8.out.obj j (row_lt hc) (row_ne hc HQ7.out.t (by decide)))) (by decide) (by decide)
    obtain ⟨j1, j2, j3, j4, j5, j6⟩ := put_os d.told HSS.out p9 c9 ((⟨x.id, x.mb, x.ty, x.pr, (x.vi - q), x.hi, x.pk⟩ : Or) :: r)
    subst hd7
    refine ⟨_, p2, n + 1, c2, rfl, ?_, ?_, ?_, j1, j2, j3, j4, j5, j6, HYB.out⟩
    ·exact ⟨Dm.put (d := d.told) ⟨(HDM.out.on HYB.out).r1, (HDM.out.on HYB.out).r2, HDM.out.l1, HDM.out.l2⟩ hrX (by have := HLB.out; simpa using this), Nwl.put (d := d.told) ⟨fun _ h => .inl h, fun _ h => .inl h⟩ (fun j hj => Nat.le_trans HQ0.out.be.size (HA9.out.lt j (ofp_own hj)).1)⟩
    ·rw [List.length_append, HEN.out]; rfl
    ·have h9 := HKE.out _ _ _ _ _ _ (HO8.out _ _ _ _ _ _ (own_on (own_on (own_on HV6.out HE0.out) HE6.out) HB7.out) (by decide)) (by decide) (by decide); unfold Rv; rw [List.length_append, HEN.out]; rw [List.length_append, HEN.out] at h9; exact h9
end Go.Proofs.Ytalgndgoedlpoaa
