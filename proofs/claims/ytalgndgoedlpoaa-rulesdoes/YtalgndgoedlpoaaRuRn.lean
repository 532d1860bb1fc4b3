/-
  RuRn
-/
import Derived.Test.YtalgndgoedlpoaaRuRm
namespace Go.Proofs.Ytalgndgoedlpoaa
open Go.RowKit Go.Deep Go.Shelf
set_option linter.unusedVariables false
set_option linter.unusedSimpArgs false
set_option maxHeartbeats 8000000
set_option maxRecDepth 100000
attribute [local go_sem ↓] Go.wp_at_zero Go.wp_at_succ
theorem dstep_m2 (d : Db) (o : Or) (s q : Int) (x : Or) (r : List Or) (p : Option Addr) (n c : Nat) (es : List Ev) (w : World) (hs : s = 1 ∨ s = 2) (h : Dm w d) (hl : d.os (oth s) = x :: r) (hx : OrOk x) (hpk : x.pk = 0 → x.hi = 0) (hq : 0 < q) (hq1 : q < 4294967296) (hr : ∀ y ∈ r, y.id ≠ x.id) (hm : 0 ≤ d.meet ∧ d.meet ≤ 3) (he : es.length = n) (hv : Rv w (.slice p n c) es) (hn : n ≤ 17179869182)
  (h1 : x.mb ≠ 0) (h2 : x.mb = o.mb) (h3 : d.meet = 2) :
  Calls Try.prog 68 #[.agg #[.int .i64 d.cap, .int .i64 d.meet, .slice d.p1 d.o1.length d.c1, .slice d.p2 d.o2.length d.c2, .int .u64 d.high, .int .u64 d.seq, .slice p n c], .agg #[.int .u64 o.id, .int .u64 q, .int .u64 o.pk, .int .u32 o.mb, .int .i64 s, .int .i64 o.ty, .int .i64 o.pr]] w fun e w' => ∃ d2 p2 n2 c2, e = .returned (.tuple #[.agg #[.int .i64 d2.cap, .int .i64 d2.meet, .slice d2.p1 d2.o1.length d2.c1, .slice d2.p2 d2.o2.length d2.c2, .int .u64 d2.high, .int .u64 d2.seq, .slice p2 n2 c2], .agg #[.int .u64 o.id, .int .u64 (stD d.seq d.meet o s q x r).2.2.1, .int .u64 o.pk, .int .u32 o.mb, .int .i64 s, .int .i64 o.ty, .int .i64 o.pr]]) ∧ (Dm w' d2 ∧ Nwl w.heap.size d d2) ∧ (es ++ (stD d.seq d.meet o s q x r).2.1).length = n2 ∧ Rv w' (.slice p2 n2 c2) (es ++ (stD d.seq d.meet o s q x r).2.1) ∧ d2.os (oth s) = (stD d.seq d.meet o s q x r).1 ∧ d2.os s = d.os s ∧ d2.cap = d.cap ∧ d2.meet = d.meet ∧ d2.high = d.high ∧ d2.seq = (stD d.seq d.meet o s q x r).2.2.2 ∧ Below w.heap.size w w' := by
 have CS := hid (fun (U : World) (hU : Below w.heap.size w U) (t : Int) (ht : oth s = t) => wside d s t ht hs U (h.on hU))
 rw [hl] at CS
 have ho := oth_wrap hs
 obtain ⟨t, ht⟩ : ∃ t, oth s = t := ⟨_, rfl⟩
 have HT := hid ht
 rw [ht] at ho
 have HDM := hid h
 have HOS := hid hl
 have HXO := hid hx
 have HRN := hid hr
 have HEN := hid he
 have HVV := hid hv
 have HNN := hid hn
 have HSS := hid hs
 obtain ⟨R, hR⟩ : ∃ R, w.heap.size = R := ⟨_, rfl⟩
 obtain ⟨U0, hU0⟩ : ∃ U, w.alloc (.cells #[.int .i64 d.cap, .int .i64 d.meet, .slice d.p1 d.o1.length d.c1, .slice d.p2 d.o2.length d.c2, .int .u64 d.high, .int .u64 d.seq, .slice p n c] 74) = U := ⟨_, rfl⟩
 obtain ⟨U1, hU1⟩ : ∃ U, U0.alloc (.cells #[.int .u64 o.id, .int .u64 q, .int .u64 o.pk, .int .u32 o.mb, .int .i64 s, .int .i64 o.ty, .int .i64 o.pr] 78) = U := ⟨_, rfl⟩
 obtain ⟨U2, hU2⟩ : ∃ U, U1.alloc (.cells #[.int .i64 0, .int .i64 0, .slice none 0 0, .slice none 0 0, .int .u64 0, .int .u64 0, .slice none 0 0] 74) = U := ⟨_, rfl⟩
 obtain ⟨W, hW⟩ : ∃ U, U2.alloc (.cells #[.int .u64 0, .int .u64 0, .int .u64 0, .int .u32 0, .int .i64 0, .int .i64 0, .int .i64 0] 78) = U := ⟨_, rfl⟩
 have s0 : U0.heap.size = R + 1 := by rw [← hU0, ← hR]; simp
 have s1 : U1.heap.size = R + 1 + 1 := by rw [← hU1]; simp [s0]
 have s2 : U2.heap.size = R + 1 + 1 + 1 := by rw [← hU2]; simp [s1]
 have b0 : Below w.heap.size w U0 := by rw [← hU0]; exact ball _ _
 have b1 : Below U0.heap.size U0 U1 := by rw [← hU1]; exact ball _ _
 have b2 : Below U1.heap.size U1 U2 := by rw [← hU2]; exact ball _ _
 have b3 : Below U2.heap.size U2 W := by rw [← hW]; exact ball _ _
 have HBW := hid (btr (btr (btr b0 b1) b2) b3)
 have HA := hid (show W.heap[R]? = some (.cells #[.int .i64 d.cap, .int .i64 d.meet, .slice d.p1 d.o1.length d.c1, .slice d.p2 d.o2.length d.c2, .int .u64 d.high, .int .u64 d.seq, .slice p n c] 74 (0, 0)) from row_on (row_on (row_on (by rw [← hU0, ← hR]; exact World.alloc_heap_new _ _) b1) b2) b3)
 have HB := hid (show W.heap[R + 1]? = some (.cells #[.int .u64 o.id, .int .u64 q, .int .u64 o.pk, .int .u32 o.mb, .int .i64 s, .int .i64 o.ty, .int .i64 o.pr] 78 (0, 0)) from row_on (row_on (by rw [← hU1, ← s0]; exact World.alloc_heap_new _ _) b2) b3)
 have HC := hid (show W.heap[R + 1 + 1]? = some (.cells #[.int .i64 0, .int .i64 0, .slice none 0 0, .slice none 0 0, .int .u64 0, .int .u64 0, .slice none 0 0] 74 (0, 0)) from row_on (by rw [← hU2, ← s1]; exact World.alloc_heap_new _ _) b3)
 have HD := hid (show W.heap[R + 1 + 1 + 1]? = some (.cells #[.int .u64 0, .int .u64 0, .int .u64 0, .int .u32 0, .int .i64 0, .int .i64 0, .int .i64 0] 78 (0, 0)) from by rw [← hW, ← s2]; exact World.alloc_heap_new _ _)
 have HU0 := hid hU0
 have HU1 := hid hU1
 have HU2 := hid hU2
 have HW := hid hW
 have HRR := hid hR
 clear hR hU0 hU1 hU2 hW s0 s1 s2 b0 b1 b2 b3 h hl hx hr he hv ht
 have H1 := hid h1
 have H2 := hid h2
 have H3 := hid h3
 have HQ := hid hq
 have HQ1 := hid hq1
 have HMT := hid hm
 have HPK := hid hpk
 clear h1 h2 h3 hq hq1 hm hpk hn hs
 go_enter Try.func68, Try.ntmps68
 go_upto_region 1 with fail
 rw [HU0.out, HU1.out, HU2.out, HW.out, HRR.out]
 obtain ⟨a0, a1, a2, a3, a4, a5, a6⟩ := row7 HA.out
 obtain ⟨b0, b1, b2, b3, b4, b5, b6⟩ := row7 HB.out
 go_upto_region 3 with (go_at_call 34; with_reducible refine (CS.out _ HBW.out _ HT.out).mono ?_; rintro e w1 ⟨p1, n1, c1, rfl, HN1, HR1, HB1⟩)
 obtain ⟨g1, hp1, gl1, m0, m1, m2, m3, m4, m5, m6⟩ := rw_first HR1.out HN1.out
 subst hp1
 have hn1 : (0 : Int) < (n1 : Int) := by have := HN1.out; simp at this; omega
 clear a0 a1 a2 a3 a4 a5 a6 b0 b1 b2 b3 b4 b5 b6
 go_upto_region 4 with fail
 obtain ⟨g, hg⟩ : ∃ g, w1.heap.size = g := ⟨_, rfl⟩
 obtain ⟨M, hM⟩ : ∃ X, w1.alloc (.cells #[.int .u64 x.id, .int .u32 x.mb, .int .i64 x.ty, .int .i64 x.pr, .int .u64 x.vi, .int .u64 x.hi, .int .u64 x.pk] 50) = X := ⟨_, rfl⟩
 have bM : Below w1.heap.size w1 M := by rw [← hM]; exact ball _ _
 have HM := hid (show Ss w M R g #[.int .i64 d.cap, .int .i64 d.meet, .slice d.p1 d.o1.length d.c1, .slice d.p2 d.o2.length d.c2, .int .u64 d.high, .int .u64 d.seq, .slice p n c] #[.int .u64 o.id, .int .u64 q, .int .u64 o.pk, .int .u32 o.mb, .int .i64 s, .int .i64 o.ty, .int .i64 o.pr] #[.int .u64 x.id, .int .u32 x.mb, .int .i64 x.ty, .int .i64 x.pr, .int .u64 x.vi, .int .u64 x.hi, .int .u64 x.pk] from ⟨btr (btr HBW.out HB1.out) bM, row_on (row_on HA.out HB1.out) bM, row_on (row_on HB.out HB1.out) bM, row_on (row_on HC.out HB1.out) bM, row_on (row_on HD.out HB1.out) bM, by rw [← hM, ← hg]; exact World.alloc_heap_new _ _, HRR.out, by rw [← hg]; exact (btr HBW.out HB1.out).size⟩)
 have HRX := hid (HR1.out.on bM)
 rw [hM, hg]
 clear hM hg bM m0 m1 m2 m3 m4 m5 m6
 obtain ⟨a0, a1, a2, a3, a4, a5, a6⟩ := row7 HM.out.t
 obtain ⟨b0, b1, b2, b3, b4, b5, b6⟩ := row7 HM.out.c
 obtain ⟨m0, m1, m2, m3, m4, m5, m6⟩ := row7 HM.out.m
 have f1 : (x.mb == 0) = false := by simpa using H1.out
 have f1n : (x.mb != 0) = true := by simpa using H1.out
 have f2 : (x.mb == o.mb) = true := by simpa using H2.out
 have g0 : (d.meet == 0) = false := by rw [H3.out]; rfl
 have g1 : (d.meet == 1) = false := by rw [H3.out]; rfl
 have g2 : (d.meet == 2) = true := by rw [H3.out]; rfl
 have g3 : (d.meet == 3) = false := by rw [H3.out]; rfl
 have g0n : (d.meet != 0) = true := by rw [H3.out]; rfl
 have vw : IntKind.u64.wrap (x.vi + x.hi) = x.vi + x.hi := by have := HXO.out; unfold OrOk at this; rw [IntKind.wrap_u64]; omega
 have CT2 := hid (wtell d p n c es (evC x.id (x.vi + x.hi) 5) HEN.out (by have := HNN.out; omega) M (HVV.out.on HM.out.be))
 unfold ecs evC at CT2
 simp only at CT2
 have HLB := hid (show (x :: r).length ≤ 1048576 from by rw [← HOS.out]; exact (HDM.out.at' (oth s)).2)
 go_upto_region 7 with fail
 go_upto_region 8 with (first | (go_at_call 30; with_reducible refine (CT2.out).mono ?_; rintro e w2 ⟨p2, c2, d2, rfl, HD2, HV2, HB2⟩; have AI2 := hid (show (Try.prog.info? 74).map (·.size) = some (#[.int .i64 d2.cap, .int .i64 d2.meet, .slice d2.p1 d2.o1.length d2.c1, .slice d2.p2 d2.o2.length d2.c2, .int .u64 d2.high, .int .u64 d2.seq, .slice p2 (n + 1) c2] : Array Value).size from i74 _ _ _ _ _ _ _); have AS2 := hid (show (#[.int .i64 d.cap, .int .i64 d.meet, .slice d.p1 d.o1.length d.c1, .slice d.p2 d.o2.length d.c2, .int .u64 d.high, .int .u64 d.seq, .slice p n c] : Array Value).size = (#[.int .i64 d2.cap, .int .i64 d2.meet, .slice d2.p1 d2.o1.length d2.c1, .slice d2.p2 d2.o2.length d2.c2, .int .u64 d2.high, .int .u64 d2.seq, .slice p2 (n + 1) c2] : Array Value).size from s7 _ _ _ _ _ _ _ _ _ _ _ _ _ _); have AA2 := hid (show (#[.int .i64 d2.cap, .int .i64 d2.meet, .slice d2.p1 d2.o1.length d2.c1, .slice d2.p2 d2.o2.length d2.c2, .int .u64 d2.high, .int .u64 d2.seq, .slice p2 (n + 1) c2] : Array Value).all (·.oneCell') = true from allT _ _ _ _); have HS2 := hid (HM.out.on HB2.out)) | (refine wpList_store_row (by rfl) 74 (.tmp 2) (.tmp 58) (by rfl) (R) #[.int .i64 d2.cap, .int .i64 d2.meet, .slice d2.p1 d2.o1.length d2.c1, .slice d2.p2 d2.o2.length d2.c2, .int .u64 d2.high, .int .u64 d2.seq, .slice p2 (n + 1) c2] (by rfl) (by rfl) 74 _ HS2.out.t AI2.out AS2.out AA2.out ?_))
 have HS3 := hid (HS2.out.setT #[.int .i64 d2.cap, .int .i64 d2.meet, .slice d2.p1 d2.o1.length d2.c1, .slice d2.p2 d2.o2.length d2.c2, .int .u64 d2.high, .int .u64 d2.seq, .slice p2 (n + 1) c2])
 have HV3 := hid (own_setRow (cs' := #[.int .i64 d2.cap, .int .i64 d2.meet, .slice d2.p1 d2.o1.length d2.c1, .slice d2.p2 d2.o2.length d2.c2, .int .u64 d2.high, .int .u64 d2.seq, .slice p2 (n + 1) c2]) HV2.out HS2.out.t (by decide))
 have HRW3 := hid (own_setRow (cs' := #[.int .i64 d2.cap, .int .i64 d2.meet, .slice d2.p1 d2.o1.length d2.c1, .slice d2.p2 d2.o2.length d2.c2, .int .u64 d2.high, .int .u64 d2.seq, .slice p2 (n + 1) c2]) (HRX.out.on HB2.out) HS2.out.t (by decide))
 obtain ⟨W3, hW3⟩ : ∃ X, w2.setRow R #[.int .i64 d2.cap, .int .i64 d2.meet, .slice d2.p1 d2.o1.length d2.c1, .slice d2.p2 d2.o2.length d2.c2, .int .u64 d2.high, .int .u64 d2.seq, .slice p2 (n + 1) c2] = X := ⟨_, rfl⟩
 rw [hW3] at HS3 HV3 HRW3 ⊢
 clear hW3 a0 a1 a2 a3 a4 a5 a6 b0 b1 b2 b3 b4 b5 b6 m0 m1 m2 m3 m4 m5 m6
 obtain ⟨Y0, hY0⟩ : ∃ X, W3.drew = X := ⟨_, rfl⟩
 have HQ0 := hid (show Ss w Y0 R g _ _ _ from by rw [← hY0]; exact HS3.out.on (bdrew1 _))
 have HE0 := hid (show Below W3.heap.size W3 Y0 from by rw [← hY0]; exact bdrew1 _)
 refine wp_region_held_drew (S := (fun U => U.cell? ⟨g, 0, none⟩ = some (.int .u64 x.id))) (by kernel_rfl) ?_ (fun hHeld => ?_)
 ·(try dsimp only); ((rw [hY0]; exact (row7 HQ0.out.m).1))
 rw [hY0] at hHeld ⊢
 clear hY0
 refine' wpAnyH_take (i := 0) (oi := _) (v := _) rfl (by kernel_rfl) (by kernel_rfl) (by kernel_rfl) (fun _ _ _ h => h) (Or.inl ⟨by kernel_rfl, ?_⟩) (by assumption) ?_
 rotate_left
 ·(intro w hSw; (try dsimp only at hSw); go_simp; try (with_reducible rfl))
 try simp only [List.getElem_toArray, List.getElem_cons_succ, List.getElem_cons_zero, Act.put, List.setIfInBounds_toArray, List.set_cons_zero, List.set_cons_succ]
 refine' wpAnyH_take (i := 2) (oi := _) (v := _) rfl (by kernel_rfl) (by kernel_rfl) (by kernel_rfl) (fun _ _ _ h => h) (Or.inl ⟨by kernel_rfl, ?_⟩) (by assumption) ?_
 rotate_left
 ·(intro w hSw; (try dsimp only at hSw); go_simp; try (with_reducible rfl))
 try simp only [List.getElem_toArray, List.getElem_cons_succ, List.getElem_cons_zero, Act.put, List.setIfInBounds_toArray, List.set_cons_zero, List.set_cons_succ]
 refine' wpAnyH_take (i := 3) (oi := _) (v := _) rfl (by kernel_rfl) (by kernel_rfl) (by kernel_rfl) (fun _ _ _ h => h) (Or.inl ⟨by kernel_rfl, ?_⟩) (by assumption) ?_
 rotate_left
 ·(intro w hSw; (try dsimp only at hSw); go_simp; try (with_reducible rfl))
 try simp only [List.getElem_toArray, List.getElem_cons_succ, List.getElem_cons_zero, Act.put, List.setIfInBounds_toArray, List.set_cons_zero, List.set_cons_succ]
 refine' wpAnyH_take (i := 4) (oi := _) (v := _) rfl (by kernel_rfl) (by kernel_rfl) (by kernel_rfl) (fun _ _ _ h => h) (Or.inl ⟨by kernel_rfl, ?_⟩) (by assumption) ?_
 rotate_left
 ·(intro w hSw; (try dsimp only at hSw); go_simp; try (with_reducible rfl))
 try simp only [List.getElem_toArray, List.getElem_cons_succ, List.getElem_cons_zero, Act.put, List.setIfInBounds_toArray, List.set_cons_zero, List.set_cons_succ]
 refine' wpAnyH_take (i := 5) (oi := _) (v := _) rfl (by kernel_rfl) (by kernel_rfl) (by kernel_rfl) (fun _ _ _ h => h) (Or.inl ⟨by kernel_rfl, ?_⟩) (by assumption) ?_
 rotate_left
 ·(intro w hSw; (try dsimp only at hSw); go_simp; try (with_reducible rfl))
 try simp only [List.getElem_toArray, List.getElem_cons_succ, List.getElem_cons_zero, Act.put, List.setIfInBounds_toArray, List.set_cons_zero, List.set_cons_succ]
 have HRW := hid (fun (U : World) (hU : Below Y0.heap.size Y0 U) => (show Rw U _ (x :: r) from own_on (own_on HRW3.out HE0.out) hU))
 have HEY := hid (Below.refl Y0.heap.size Y0)
 refine wpAnyH_ready (rs := [1, 6]) (by kernel_rfl) (by simp) ?_
 refine (AllReadyH.cons (o := _) rfl (fun K hK => ?_) (AllReadyH.cons (o := _) rfl (fun K hK => ?_) AllReadyH.nil))
 focus
  obtain ⟨a0, a1, a2, a3, a4, a5, a6⟩ := row7 HQ0.out.t
  go_simp
  refine hK.out _ _ ?_ (fun hHeld => ?_)
  ·(try dsimp only); exact (row7 HQ0.out.m).1
  clear hK K a0 a1 a2 a3 a4 a5 a6
  try simp only [List.getElem_toArray, List.getElem_cons_succ, List.getElem_cons_zero, Act.put, List.setIfInBounds_toArray, List.set_cons_zero, List.set_cons_succ]
  refine wpAnyH_ready (rs := [6]) (by kernel_rfl) (by simp) ?_
  refine AllReadyH.cons (o := _) rfl (fun K hK => ?_) AllReadyH.nil
  go_simp
  go_at_call 33; with_reducible refine (wwithout2 _ n1 c1 (x :: r) x.id HN1.out (by have := HLB.out; have := HN1.out; omega) Y0 (HRW.out _ HEY.out)).mono ?_; rintro e Y6 ⟨q5, m5, c5, rfl, HL5, HW5, HB5, HJ5⟩
  (try go_wp2_with fail)
  have HQ6 := hid (HQ0.out.on HB5.out)
  have HE6 := hid (btr HEY.out HB5.out)
  refine hK.out _ _ ?_ (fun hHeld => ?_)
  ·(try dsimp only); exact (row7 HQ6.out.m).1
  clear hK K
  try simp only [List.getElem_toArray, List.getElem_cons_succ, List.getElem_cons_zero, Act.put, List.setIfInBounds_toArray, List.set_cons_zero, List.set_cons_succ]
 rotate_left
 focus
  go_simp
  go_at_call 33; with_reducible refine (wwithout2 _ n1 c1 (x :: r) x.id HN1.out (by have := HLB.out; have := HN1.out; omega) Y0 (HRW.out _ HEY.out)).mono ?_; rintro e Y6 ⟨q5, m5, c5, rfl, HL5, HW5, HB5, HJ5⟩
  (try go_wp2_with fail)
  have HQ6 := hid (HQ0.out.on HB5.out)
  have HE6 := hid (btr HEY.out HB5.out)
  refine hK.out _ _ ?_ (fun hHeld => ?_)
  ·(try dsimp only); exact (row7 HQ6.out.m).1
  clear hK K
  try simp only [List.getElem_toArray, List.getElem_cons_succ, List.getElem_cons_zero, Act.put, List.setIfInBounds_toArray, List.set_cons_zero, List.set_cons_succ]
  refine wpAnyH_ready (rs := [1]) (by kernel_rfl) (by simp) ?_
  refine AllReadyH.cons (o := _) rfl (fun K hK => ?_) AllReadyH.nil
  obtain ⟨a0, a1, a2, a3, a4, a5, a6⟩ := row7 HQ6.out.t
  go_simp
  refine hK.out _ _ ?_ (fun hHeld => ?_)
  ·(try dsimp only); exact (row7 HQ6.out.m).1
  clear hK K a0 a1 a2 a3 a4 a5 a6
  try simp only [List.getElem_toArray, List.getElem_cons_succ, List.getElem_cons_zero, Act.put, List.setIfInBounds_toArray, List.set_cons_zero, List.set_cons_succ]
 rotate_left
 all_goals
  refine wpAnyH_ready (rs := [7]) (by kernel_rfl) (by simp) ?_
  refine AllReadyH.cons (o := _) rfl (fun K hK => ?_) AllReadyH.nil
  go_simp
  go_at_call 32; with_reducible refine (wwith d2 t q5 m5 c5 (wo x.id (x :: r)) HL5.out Y6).mono ?_; rintro e Y7 ⟨d4, rfl, HD4, HB7⟩
  (try go_wp2_with fail)
  have HQ7 := hid (HQ6.out.on HB7.out)
  have HE7 := hid (btr HE6.out HB7.out)
  have HW7 := hid (HW5.out.on (HB7.out))
  refine hK.out _ _ ?_ (fun hHeld => ?_)
  ·(try dsimp only); exact (row7 HQ7.out.m).1
  clear hK K
  try simp only [List.getElem_toArray, List.getElem_cons_succ, List.getElem_cons_zero, Act.put, List.setIfInBounds_toArray, List.set_cons_zero, List.set_cons_succ]
  refine' wpAnyH_take (i := 8) (oi := _) (v := _) rfl (by kernel_rfl) (by kernel_rfl) (by kernel_rfl) (fun _ _ _ h => h) (Or.inl ⟨by kernel_rfl, ?_⟩) (by assumption) ?_
  rotate_left
  ·(intro w hSw; (try dsimp only at hSw); go_simp; try (with_reducible rfl))
  try simp only [List.getElem_toArray, List.getElem_cons_succ, List.getElem_cons_zero, Act.put, List.setIfInBounds_toArray, List.set_cons_zero, List.set_cons_succ]
  refine wpAnyH_ready (rs := [9]) (by kernel_rfl) (by simp) ?_
  refine AllReadyH.cons (o := _) rfl (fun K hK => ?_) AllReadyH.nil
  obtain ⟨a0, a1, a2, a3, a4, a5, a6⟩ := row7 HQ7.out.t
  have z0 := row_frz HQ7.out.t 0
  have z1 := row_frz HQ7.out.t 1
  have z2 := row_frz HQ7.out.t 2
  have z3 := row_frz HQ7.out.t 3
  have z4 := row_frz HQ7.out.t 4
  have z5 := row_frz HQ7.out.t 5
  have h6 := set6 (.int .i64 d4.cap) (.int .i64 d4.meet) (.slice d4.p1 d4.o1.length d4.c1) (.slice d4.p2 d4.o2.length d4.c2) (.int .u64 d4.high) (.int .u64 d4.seq) HQ7.out.t
  have HS4 := hid (HQ7.out.kp h6.2 h6.1)
  have HK4 := hid h6.2
  clear h6
  go_simp
  refine hK.out _ _ ?_ (fun hHeld => ?_)
  ·(try dsimp only); exact (row7 HS4.out.m).1
  clear hK K a0 a1 a2 a3 a4 a5 a6 z0 z1 z2 z3 z4 z5
  try simp only [List.getElem_toArray, List.getElem_cons_succ, List.getElem_cons_zero, Act.put, List.setIfInBounds_toArray, List.set_cons_zero, List.set_cons_succ]
  refine wpAnyH_done (by kernel_rfl) ?_ _
  obtain ⟨W4, hW4⟩ : ∃ X, ((((((Y7.setCell ⟨R, 0, none⟩ (.int .i64 d4.cap)).setCell ⟨R, 1, none⟩ (.int .i64 d4.meet)).setCell ⟨R, 2, none⟩ (.slice d4.p1 d4.o1.length d4.c1)).setCell ⟨R, 3, none⟩ (.slice d4.p2 d4.o2.length d4.c2)).setCell ⟨R, 4, none⟩ (.int .u64 d4.high)).setCell ⟨R, 5, none⟩ (.int .u64 d4.seq)) = X := ⟨_, rfl⟩
  rw [hW4] at HS4 HK4 ⊢
  clear hW4
  have HO4 := hid (show ∀ (base : Nat) (e : TypeId) (size m : Nat) (v : Value) (xs : List Value), W3.ownsRow base e size v m xs → e ≠ 74 → W4.ownsRow base e size v m xs from fun base e size m v xs hh n1 => by
  have h1 := own_on (own_on hh HE0.out) (HE7.out)
  exact own_same h1 (fun j hj => by obtain ⟨cc, hc⟩ := own_ty h1 hj; exact HK4.out.obj j (row_lt hc) (row_ne hc HQ7.out.t n1)))
  have HR4 := hid (show Rw W4 (.slice q5 m5 c5) (wo x.id (x :: r)) from own_same HW7.out (fun j hj => by obtain ⟨cc, hc⟩ := own_ty HW7.out hj; exact HK4.out.obj j (row_lt hc) (row_ne hc HQ7.out.t (by decide))))
  obtain ⟨a0, a1, a2, a3, a4, a5, a6⟩ := row7 HS4.out.t
  obtain ⟨b0, b1, b2, b3, b4, b5, b6⟩ := row7 HS4.out.c
  go_upto_region 12 with fail
  clear a0 a1 a2 a3 a4 a5 a6 b0 b1 b2 b3 b4 b5 b6
  obtain ⟨V, hV⟩ : ∃ X, W4.drew = X := ⟨_, rfl⟩
  have HSV := hid (show Ss w V R g _ _ _ from by rw [← hV]; exact HS4.out.on (bdrew1 _))
  have HKV := hid (show Below W4.heap.size W4 V from by rw [← hV]; exact bdrew1 _)
  refine wp_region_held_drew (S := (fun U => (U.cell? ⟨R, 0, none⟩ = some (.int .i64 d4.cap) ∧ U.cell? ⟨R, 1, none⟩ = some (.int .i64 d4.meet) ∧ U.cell? ⟨R, 2, none⟩ = some (.slice d4.p1 d4.o1.length d4.c1) ∧ U.cell? ⟨R, 3, none⟩ = some (.slice d4.p2 d4.o2.length d4.c2) ∧ U.cell? ⟨R, 4, none⟩ = some (.int .u64 d4.high) ∧ U.cell? ⟨R, 5, none⟩ = some (.int .u64 d4.seq) ∧ U.cell? ⟨R, 6, none⟩ = some (.slice p2 (n + 1) c2)) ∧ (U.cell? ⟨R + 1, 0, none⟩ = some (.int .u64 o.id) ∧ U.cell? ⟨R + 1, 1, none⟩ = some (.int .u64 q) ∧ U.cell? ⟨R + 1, 2, none⟩ = some (.int .u64 o.pk) ∧ U.cell? ⟨R + 1, 3, none⟩ = some (.int .u32 o.mb) ∧ U.cell? ⟨R + 1, 4, none⟩ = some (.int .i64 s) ∧ U.cell? ⟨R + 1, 5, none⟩ = some (.int .i64 o.ty) ∧ U.cell? ⟨R + 1, 6, none⟩ = some (.int .i64 o.pr)))) (by kernel_rfl) ?_ (fun hHeld => ?_)
  ·(try dsimp only); ((rw [hV]; exact ⟨row7 HSV.out.t, row7 HSV.out.c⟩))
  rw [hV] at hHeld ⊢
  clear hV
  refine' wpAnyH_take (i := 0) (oi := _) (v := _) rfl (by kernel_rfl) (by kernel_rfl) (by kernel_rfl) (fun _ _ _ h => h) (Or.inl ⟨by kernel_rfl, ?_⟩) (by assumption) ?_
  rotate_left
  ·(intro w hSw; (try dsimp only at hSw); go_simp; try (with_reducible rfl))
  try simp only [List.getElem_toArray, List.getElem_cons_succ, List.getElem_cons_zero, Act.put, List.setIfInBounds_toArray, List.set_cons_zero, List.set_cons_succ]
  refine' wpAnyH_take (i := 1) (oi := _) (v := _) rfl (by kernel_rfl) (by kernel_rfl) (by kernel_rfl) (fun _ _ _ h => h) (Or.inl ⟨by kernel_rfl, ?_⟩) (by assumption) ?_
  rotate_left
  ·(intro w hSw; (try dsimp only at hSw); go_simp; try (with_reducible rfl))
  try simp only [List.getElem_toArray, List.getElem_cons_succ, List.getElem_cons_zero, Act.put, List.setIfInBounds_toArray, List.set_cons_zero, List.set_cons_succ]
  have AIE1 := hid (show (Try.prog.info? 74).map (·.size) = some (#[.int .i64 d4.cap, .int .i64 d4.meet, .slice d4.p1 d4.o1.length d4.c1, .slice d4.p2 d4.o2.length d4.c2, .int .u64 d4.high, .int .u64 d4.seq, .slice p2 (n + 1) c2] : Array Value).size from info74)
  have ASE1 := hid (show (#[.int .i64 0, .int .i64 0, .slice none 0 0, .slice none 0 0, .int .u64 0, .int .u64 0, .slice none 0 0] : Array Value).size = (#[.int .i64 d4.cap, .int .i64 d4.meet, .slice d4.p1 d4.o1.length d4.c1, .slice d4.p2 d4.o2.length d4.c2, .int .u64 d4.high, .int .u64 d4.seq, .slice p2 (n + 1) c2] : Array Value).size from rfl)
  have AAE1 := hid (show (#[.int .i64 d4.cap, .int .i64 d4.meet, .slice d4.p1 d4.o1.length d4.c1, .slice d4.p2 d4.o2.length d4.c2, .int .u64 d4.high, .int .u64 d4.seq, .slice p2 (n + 1) c2] : Array Value).all (·.oneCell') = true from by simp [Value.oneCell'])
  have AIE2 := hid (show (Try.prog.info? 78).map (·.size) = some (#[.int .u64 o.id, .int .u64 q, .int .u64 o.pk, .int .u32 o.mb, .int .i64 s, .int .i64 o.ty, .int .i64 o.pr] : Array Value).size from info78)
  have ASE2 := hid (show (#[.int .u64 0, .int .u64 0, .int .u64 0, .int .u32 0, .int .i64 0, .int .i64 0, .int .i64 0] : Array Value).size = (#[.int .u64 o.id, .int .u64 q, .int .u64 o.pk, .int .u32 o.mb, .int .i64 s, .int .i64 o.ty, .int .i64 o.pr] : Array Value).size from rfl)
  have AAE2 := hid (show (#[.int .u64 o.id, .int .u64 q, .int .u64 o.pk, .int .u32 o.mb, .int .i64 s, .int .i64 o.ty, .int .i64 o.pr] : Array Value).all (·.oneCell') = true from by simp [Value.oneCell'])
  refine wpAnyH_ready (rs := [2]) (by kernel_rfl) (by simp) ?_
  refine AllReadyH.cons (o := _) rfl (fun K hK => ?_) AllReadyH.nil
  refine step_store_row (by rfl) 74 (.tmp 4) (.tmp 82) (by rfl) (R + 1 + 1) #[.int .i64 d4.cap, .int .i64 d4.meet, .slice d4.p1 d4.o1.length d4.c1, .slice d4.p2 d4.o2.length d4.c2, .int .u64 d4.high, .int .u64 d4.seq, .slice p2 (n + 1) c2] (by rfl) (by rfl) 74 _ HSV.out.z1 AIE1.out ASE1.out AAE1.out ?_
  have k1 := setRow_kp V (R + 1 + 1) #[.int .i64 d4.cap, .int .i64 d4.meet, .slice d4.p1 d4.o1.length d4.c1, .slice d4.p2 d4.o2.length d4.c2, .int .u64 d4.high, .int .u64 d4.seq, .slice p2 (n + 1) c2]
  have HZ1 := hid (setRow_heap V (R + 1 + 1) _ #[.int .i64 d4.cap, .int .i64 d4.meet, .slice d4.p1 d4.o1.length d4.c1, .slice d4.p2 d4.o2.length d4.c2, .int .u64 d4.high, .int .u64 d4.seq, .slice p2 (n + 1) c2] 74 (0, 0) HSV.out.z1)
  have HZ2 := hid (k1.row HSV.out.z2 (by omega))
  have HZT := hid (k1.row HSV.out.t (by omega))
  have HZC := hid (k1.row HSV.out.c (by omega))
  have HZB := hid (HSV.out.be.trans (k1.below HSV.out.be.size (fun j hj e => by have := HSV.out.r; omega)))
  have HK1 := hid k1
  refine hK.out _ _ ?_ (fun hHeld => ?_)
  ·(try dsimp only); exact ⟨row7 HZT.out, row7 HZC.out⟩
  clear hK K k1
  try simp only [List.getElem_toArray, List.getElem_cons_succ, List.getElem_cons_zero, Act.put, List.setIfInBounds_toArray, List.set_cons_zero, List.set_cons_succ]
  obtain ⟨X1, hX1⟩ : ∃ X, V.setRow (R + 1 + 1) #[.int .i64 d4.cap, .int .i64 d4.meet, .slice d4.p1 d4.o1.length d4.c1, .slice d4.p2 d4.o2.length d4.c2, .int .u64 d4.high, .int .u64 d4.seq, .slice p2 (n + 1) c2] = X := ⟨_, rfl⟩
  rw [hX1] at HZ1 HZ2 HZT HZC HZB HK1 hHeld ⊢
  clear hX1
  refine wpAnyH_ready (rs := [3]) (by kernel_rfl) (by simp) ?_
  refine AllReadyH.cons (o := _) rfl (fun K hK => ?_) AllReadyH.nil
  refine step_store_row (by rfl) 78 (.tmp 5) (.tmp 83) (by rfl) (R + 1 + 1 + 1) #[.int .u64 o.id, .int .u64 q, .int .u64 o.pk, .int .u32 o.mb, .int .i64 s, .int .i64 o.ty, .int .i64 o.pr] (by rfl) (by rfl) 78 _ HZ2.out AIE2.out ASE2.out AAE2.out ?_
  have k2 := setRow_kp X1 (R + 1 + 1 + 1) #[.int .u64 o.id, .int .u64 q, .int .u64 o.pk, .int .u32 o.mb, .int .i64 s, .int .i64 o.ty, .int .i64 o.pr]
  have HY1 := hid (k2.row HZ1.out (by omega))
  have HY2 := hid (setRow_heap X1 (R + 1 + 1 + 1) _ #[.int .u64 o.id, .int .u64 q, .int .u64 o.pk, .int .u32 o.mb, .int .i64 s, .int .i64 o.ty, .int .i64 o.pr] 78 (0, 0) HZ2.out)
  have HYB := hid (HZB.out.trans (k2.below HZB.out.size (fun j hj e => by have := HSV.out.r; omega)))
  have HK2 := hid k2
  refine hK.out _ _ ?_ (fun hHeld => ?_)
  ·(try dsimp only); exact ⟨row7 (k2.row HZT.out (by omega)), row7 (k2.row HZC.out (by omega))⟩
  clear hK K k2
  try simp only [List.getElem_toArray, List.getElem_cons_succ, List.getElem_cons_zero, Act.put, List.setIfInBounds_toArray, List.set_cons_zero, List.set_cons_succ]
  refine wpAnyH_done (by kernel_rfl) ?_ _
  obtain ⟨X2, hX2⟩ : ∃ X, X1.setRow (R + 1 + 1 + 1) #[.int .u64 o.id, .int .u64 q, .int .u64 o.pk, .int .u32 o.mb, .int .i64 s, .int .i64 o.ty, .int .i64 o.pr] = X := ⟨_, rfl⟩
  rw [hX2] at HY1 HY2 HYB HK2 ⊢
  clear hX2 hHeld
  go_wp2
  refine bodyPost_ret (res_cc Try.results68 _ _ (R + 1 + 1) (R + 1 + 1 + 1) 74 78 #[.int .i64 d4.cap, .int .i64 d4.meet, .slice d4.p1 d4.o1.length d4.c1, .slice d4.p2 d4.o2.length d4.c2, .int .u64 d4.high, .int .u64 d4.seq, .slice p2 (n + 1) c2] #[.int .u64 o.id, .int .u64 q, .int .u64 o.pk, .int .u32 o.mb, .int .i64 s, .int .i64 o.ty, .int .i64 o.pr] (0, 0) (0, 0) _ _ (by rfl) (by rfl) HY1.out HY2.out Try.underlying74 rfl info74 Try.underlying78 rfl info78) rfl ?_
  have HKE := hid (show ∀ (base : Nat) (e : TypeId) (size m : Nat) (v : Value) (xs : List Value), W4.ownsRow base e size v m xs → e ≠ 74 → e ≠ 78 → X2.ownsRow base e size v m xs from fun base e size m v xs hh n1 n2 => by
  have h1 := own_on hh HKV.out
  have h2 := own_same (w' := X1) h1 (fun j hj => by obtain ⟨cc, hc⟩ := own_ty h1 hj; exact HK1.out.obj j (row_lt hc) (row_ne hc HSV.out.z1 n1))
  exact own_same h2 (fun j hj => by obtain ⟨cc, hc⟩ := own_ty h2 hj; exact HK2.out.obj j (row_lt hc) (row_ne hc HZ2.out n2)))
  have HZ : stD d.seq d.meet o s q x r = (r, [(evC x.id (x.vi + x.hi) 5).num (nx d.seq)], q, nx d.seq) := by unfold stD; rw [if_pos (by unfold prtO; rw [f1, f2, g0]; rfl), if_neg (by rw [H3.out]; decide), if_pos H3.out]
  rw [HZ]
  have hd := HD2.out
  subst hd
  have hd4 := HD4.out
  rw [← HT.out, wo_self HRN.out] at hd4
  have hr4 := HR4.out
  have hl5 := HL5.out
  rw [wo_self HRN.out] at hr4 hl5
  subst hl5
  obtain ⟨j1, j2, j3, j4, j5, j6⟩ := put_os d.told HSS.out q5 c5 r
  subst hd4
  refine ⟨_, p2, n + 1, c2, rfl, ?_, ?_, ?_, j1, j2, j3, j4, j5, j6, HYB.out⟩
  ·exact ⟨Dm.put (d := d.told) ⟨(HDM.out.on HYB.out).r1, (HDM.out.on HYB.out).r2, HDM.out.l1, HDM.out.l2⟩ (HKE.out _ _ _ _ _ _ hr4 (by decide) (by decide)) (by have := HLB.out; simp at this; omega), Nwl.put (d := d.told) ⟨fun _ h => .inl h, fun _ h => .inl h⟩ (fun j hj => Nat.le_trans HQ0.out.be.size (HJ5.out j (ofp_own hj)))⟩
  ·rw [List.length_append, HEN.out]; rfl
  ·have h9 := HKE.out _ _ _ _ _ _ (HO4.out _ _ _ _ _ _ HV3.out (by decide)) (by decide) (by decide); unfold Rv; rw [List.length_append, HEN.out]; rw [List.length_append, HEN.out] at h9; exact h9
theorem dstep_m3 (d : Db) (o : Or) (s q : Int) (x : Or) (r : List Or) (p : Option Addr) (n c : Nat) (es : List Ev) (w : World) (hs : s = 1 ∨ s = 2) (h : Dm w d) (hl : d.os (oth s) = x :: r) (hx : OrOk x) (hpk : x.pk = 0 → x.hi = 0) (hq : 0 < q) (hq1 : q < 4294967296) (hr : ∀ y ∈ r, y.id ≠ x.id) (hm : 0 ≤ d.meet ∧ d.meet ≤ 3) (he : es.length = n) (hv : Rv w (.slice p n c) es) (hn : n ≤ 17179869182)
  (h1 : x.mb ≠ 0) (h2 : x.mb = o.mb) (h3 : d.meet = 3) :
  Calls Try.prog 68 #[.agg #[.int .i64 d.cap, .int .i64 d.meet, .slice d.p1 d.o1.length d.c1, .slice d.p2 d.o2.length d.c2, .int .u64 d.high, .int .u64 d.seq, .slice p n c], .agg #[.int .u64 o.id, .int .u64 q, .int .u64 o.pk, .int .u32 o.mb, .int .i64 s, .int .i64 o.ty, .int .i64 o.pr]] w fun e w' => ∃ d2 p2 n2 c2, e = .returned (.tuple #[.agg #[.int .i64 d2.cap, .int .i64 d2.meet, .slice d2.p1 d2.o1.length d2.c1, .slice d2.p2 d2.o2.length d2.c2, .int .u64 d2.high, .int .u64 d2.seq, .slice p2 n2 c2], .agg #[.int .u64 o.id, .int .u64 (stD d.seq d.meet o s q x r).2.2.1, .int .u64 o.pk, .int .u32 o.mb, .int .i64 s, .int .i64 o.ty, .int .i64 o.pr]]) ∧ (Dm w' d2 ∧ Nwl w.heap.size d d2) ∧ (es ++ (stD d.seq d.meet o s q x r).2.1).length = n2 ∧ Rv w' (.slice p2 n2 c2) (es ++ (stD d.seq d.meet o s q x r).2.1) ∧ d2.os (oth s) = (stD d.seq d.meet o s q x r).1 ∧ d2.os s = d.os s ∧ d2.cap = d.cap ∧ d2.meet = d.meet ∧ d2.high = d.high ∧ d2.seq = (stD d.seq d.meet o s q x r).2.2.2 ∧ Below w.heap.size w w' := by
 have CS := hid (fun (U : World) (hU : Below w.heap.size w U) (t : Int) (ht : oth s = t) => wside d s t ht hs U (h.on hU))
 rw [hl] at CS
 have ho := oth_wrap hs
 obtain ⟨t, ht⟩ : ∃ t, oth s = t := ⟨_, rfl⟩
 have HT := hid ht
 rw [ht] at ho
 have HDM := hid h
 have HOS := hid hl
 have HXO := hid hx
 have HRN := hid hr
 have HEN := hid he
 have HVV := hid hv
 have HNN := hid hn
 have HSS := hid hs
 obtain ⟨R, hR⟩ : ∃ R, w.heap.size = R := ⟨_, rfl⟩
 obtain ⟨U0, hU0⟩ : ∃ U, w.alloc (.cells #[.int .i64 d.cap, .int .i64 d.meet, .slice d.p1 d.o1.length d.c1, .slice d.p2 d.o2.length d.c2, .int .u64 d.high, .int .u64 d.seq, .slice p n c] 74) = U := ⟨_, rfl⟩
 obtain ⟨U1, hU1⟩ : ∃ U, U0.alloc (.cells #[.int .u64 o.id, .int .u64 q, .int .u64 o.pk, .int .u32 o.mb, .int .i64 s, .int .i64 o.ty, .int .i64 o.pr] 78) = U := ⟨_, rfl⟩
 obtain ⟨U2, hU2⟩ : ∃ U, U1.alloc (.cells #[.int .i64 0, .int .i64 0, .slice none 0 0, .slice none 0 0, .int .u64 0, .int .u64 0, .slice none 0 0] 74) = U := ⟨_, rfl⟩
 obtain ⟨W, hW⟩ : ∃ U, U2.alloc (.cells #[.int .u64 0, .int .u64 0, .int .u64 0, .int .u32 0, .int .i64 0, .int .i64 0, .int .i64 0] 78) = U := ⟨_, rfl⟩
 have s0 : U0.heap.size = R + 1 := by rw [← hU0, ← hR]; simp
 have s1 : U1.heap.size = R + 1 + 1 := by rw [← hU1]; simp [s0]
 have s2 : U2.heap.size = R + 1 + 1 + 1 := by rw [← hU2]; simp [s1]
 have b0 : Below w.heap.size w U0 := by rw [← hU0]; exact ball _ _
 have b1 : Below U0.heap.size U0 U1 := by rw [← hU1]; exact ball _ _
 have b2 : Below U1.heap.size U1 U2 := by rw [← hU2]; exact ball _ _
 have b3 : Below U2.heap.size U2 W := by rw [← hW]; exact ball _ _
 have HBW := hid (btr (btr (btr b0 b1) b2) b3)
 have HA := hid (show W.heap[R]? = some (.cells #[.int .i64 d.cap, .int .i64 d.meet, .slice d.p1 d.o1.length d.c1, .slice d.p2 d.o2.length d.c2, .int .u64 d.high, .int .u64 d.seq, .slice p n c] 74 (0, 0)) from row_on (row_on (row_on (by rw [← hU0, ← hR]; exact World.alloc_heap_new _ _) b1) b2) b3)
 have HB := hid (show W.heap[R + 1]? = some (.cells #[.int .u64 o.id, .int .u64 q, .int .u64 o.pk, .int .u32 o.mb, .int .i64 s, .int .i64 o.ty, .int .i64 o.pr] 78 (0, 0)) from row_on (row_on (by rw [← hU1, ← s0]; exact World.alloc_heap_new _ _) b2) b3)
 have HC := hid (show W.heap[R + 1 + 1]? = some (.cells #[.int .i64 0, .int .i64 0, .slice none 0 0, .slice none 0 0, .int .u64 0, .int .u64 0, .slice none 0 0] 74 (0, 0)) from row_on (by rw [← hU2, ← s1]; exact World.alloc_heap_new _ _) b3)
 have HD := hid (show W.heap[R + 1 + 1 + 1]? = some (.cells #[.int .u64 0, .int .u64 0, .int .u64 0, .int .u32 0, .int .i64 0, .int .i64 0, .int .i64 0] 78 (0, 0)) from by rw [← hW, ← s2]; exact World.alloc_heap_new _ _)
 have HU0 := hid hU0
 have HU1 := hid hU1
 have HU2 := hid hU2
 have HW := hid hW
 have HRR := hid hR
 clear hR hU0 hU1 hU2 hW s0 s1 s2 b0 b1 b2 b3 h hl hx hr he hv ht
 have H1 := hid h1
 have H2 := hid h2
 have H3 := hid h3
 have HQ := hid hq
 have HQ1 := hid hq1
 have HMT := hid hm
 have HPK := hid hpk
 clear h1 h2 h3 hq hq1 hm hpk hn hs
 go_enter Try.func68, Try.ntmps68
 go_upto_region 1 with fail
 rw [HU0.out, HU1.out, HU2.out, HW.out, HRR.out]
 obtain ⟨a0, a1, a2, a3, a4, a5, a6⟩ := row7 HA.out
 obtain ⟨b0, b1, b2, b3, b4, b5, b6⟩ := row7 HB.out
 go_upto_region 3 with (go_at_call 34; with_reducible refine (CS.out _ HBW.out _ HT.out).mono ?_; rintro e w1 ⟨p1, n1, c1, rfl, HN1, HR1, HB1⟩)
 obtain ⟨g1, hp1, gl1, m0, m1, m2, m3, m4, m5, m6⟩ := rw_first HR1.out HN1.out
 subst hp1
 have hn1 : (0 : Int) < (n1 : Int) := by have := HN1.out; simp at this; omega
 clear a0 a1 a2 a3 a4 a5 a6 b0 b1 b2 b3 b4 b5 b6
 go_upto_region 4 with fail
 obtain ⟨g, hg⟩ : ∃ g, w1.heap.size = g := ⟨_, rfl⟩
 obtain ⟨M, hM⟩ : ∃ X, w1.alloc (.cells #[.int .u64 x.id, .int .u32 x.mb, .int .i64 x.ty, .int .i64 x.pr, .int .u64 x.vi, .int .u64 x.hi, .int .u64 x.pk] 50) = X := ⟨_, rfl⟩
 have bM : Below w1.heap.size w1 M := by rw [← hM]; exact ball _ _
 have HM := hid (show Ss w M R g #[.int .i64 d.cap, .int .i64 d.meet, .slice d.p1 d.o1.length d.c1, .slice d.p2 d.o2.length d.c2, .int .u64 d.high, .int .u64 d.seq, .slice p n c] #[.int .u64 o.id, .int .u64 q, .int .u64 o.pk, .int .u32 o.mb, .int .i64 s, .int .i64 o.ty, .int .i64 o.pr] #[.int .u64 x.id, .int .u32 x.mb, .int .i64 x.ty, .int .i64 x.pr, .int .u64 x.vi, .int .u64 x.hi, .int .u64 x.pk] from ⟨btr (btr HBW.out HB1.out) bM, row_on (row_on HA.out HB1.out) bM, row_on (row_on HB.out HB1.out) bM, row_on (row_on HC.out HB1.out) bM, row_on (row_on HD.out HB1.out) bM, by rw [← hM, ← hg]; exact World.alloc_heap_new _ _, HRR.out, by rw [← hg]; exact (btr HBW.out HB1.out).size⟩)
 have HRX := hid (HR1.out.on bM)
 rw [hM, hg]
 clear hM hg bM m0 m1 m2 m3 m4 m5 m6
 obtain ⟨a0, a1, a2, a3, a4, a5, a6⟩ := row7 HM.out.t
 obtain ⟨b0, b1, b2, b3, b4, b5, b6⟩ := row7 HM.out.c
 obtain ⟨m0, m1, m2, m3, m4, m5, m6⟩ := row7 HM.out.m
 have f1 : (x.mb == 0) = false := by simpa using H1.out
 have f1n : (x.mb != 0) = true := by simpa using H1.out
 have f2 : (x.mb == o.mb) = true := by simpa using H2.out
 have g0 : (d.meet == 0) = false := by rw [H3.out]; rfl
 have g1 : (d.meet == 1) = false := by rw [H3.out]; rfl
 have g2 : (d.meet == 2) = false := by rw [H3.out]; rfl
 have g3 : (d.meet == 3) = true := by rw [H3.out]; rfl
 have g0n : (d.meet != 0) = true := by rw [H3.out]; rfl
 have vw : IntKind.u64.wrap (x.vi + x.hi) = x.vi + x.hi := by have := HXO.out; unfold OrOk at this; rw [IntKind.wrap_u64]; omega
 have CT2 := hid (wtell d p n c es (evC x.id (x.vi + x.hi) 5) HEN.out (by have := HNN.out; omega) M (HVV.out.on HM.out.be))
 unfold ecs evC at CT2
 simp only at CT2
 have HLB := hid (show (x :: r).length ≤ 1048576 from by rw [← HOS.out]; exact (HDM.out.at' (oth s)).2)
 go_upto_region 7 with fail
 go_upto_region 8 with (first | (go_at_call 30; with_reducible refine (CT2.out).mono ?_; rintro e w2 ⟨p2, c2, d2, rfl, HD2, HV2, HB2⟩; have AI2 := hid (show (Try.prog.info? 74).map (·.size) = some (#[.int .i64 d2.cap, .int .i64 d2.meet, .slice d2.p1 d2.o1.length d2.c1, .slice d2.p2 d2.o2.length d2.c2, .int .u64 d2.high, .int .u64 d2.seq, .slice p2 (n + 1) c2] : Array Value).size from i74 _ _ _ _ _ _ _); have AS2 := hid (show (#[.int .i64 d.cap, .int .i64 d.meet, .slice d.p1 d.o1.length d.c1, .slice d.p2 d.o2.length d.c2, .int .u64 d.high, .int .u64 d.seq, .slice p n c] : Array Value).size = (#[.int .i64 d2.cap, .int .i64 d2.meet, .slice d2.p1 d2.o1.length d2.c1, .slice d2.p2 d2.o2.length d2.c2, .int .u64 d2.high, .int .u64 d2.seq, .slice p2 (n + 1) c2] : Array Value).size from s7 _ _ _ _ _ _ _ _ _ _ _ _ _ _); have AA2 := hid (show (#[.int .i64 d2.cap, .int .i64 d2.meet, .slice d2.p1 d2.o1.length d2.c1, .slice d2.p2 d2.o2.length d2.c2, .int .u64 d2.high, .int .u64 d2.seq, .slice p2 (n + 1) c2] : Array Value).all (·.oneCell') = true from allT _ _ _ _); have HS2 := hid (HM.out.on HB2.out)) | (refine wpList_store_row (by rfl) 74 (.tmp 2) (.tmp 58) (by rfl) (R) #[.int .i64 d2.cap, .int .i64 d2.meet, .slice d2.p1 d2.o1.length d2.c1, .slice d2.p2 d2.o2.length d2.c2, .int .u64 d2.high, .int .u64 d2.seq, .slice p2 (n + 1) c2] (by rfl) (by rfl) 74 _ HS2.out.t AI2.out AS2.out AA2.out ?_))
 have HS3 := hid (HS2.out.setT #[.int .i64 d2.cap, .int .i64 d2.meet, .slice d2.p1 d2.o1.length d2.c1, .slice d2.p2 d2.o2.length d2.c2, .int .u64 d2.high, .int .u64 d2.seq, .slice p2 (n + 1) c2])
 have HV3 := hid (own_setRow (cs' := #[.int .i64 d2.cap, .int .i64 d2.meet, .slice d2.p1 d2.o1.length d2.c1, .slice d2.p2 d2.o2.length d2.c2, .int .u64 d2.high, .int .u64 d2.seq, .slice p2 (n + 1) c2]) HV2.out HS2.out.t (by decide))
 have HRW3 := hid (own_setRow (cs' := #[.int .i64 d2.cap, .int .i64 d2.meet, .slice d2.p1 d2.o1.length d2.c1, .slice d2.p2 d2.o2.length d2.c2, .int .u64 d2.high, .int .u64 d2.seq, .slice p2 (n + 1) c2]) (HRX.out.on HB2.out) HS2.out.t (by decide))
 obtain ⟨W3, hW3⟩ : ∃ X, w2.setRow R #[.int .i64 d2.cap, .int .i64 d2.meet, .slice d2.p1 d2.o1.length d2.c1, .slice d2.p2 d2.o2.length d2.c2, .int .u64 d2.high, .int .u64 d2.seq, .slice p2 (n + 1) c2] = X := ⟨_, rfl⟩
 rw [hW3] at HS3 HV3 HRW3 ⊢
 clear hW3 a0 a1 a2 a3 a4 a5 a6 b0 b1 b2 b3 b4 b5 b6 m0 m1 m2 m3 m4 m5 m6
 obtain ⟨Y0, hY0⟩ : ∃ X, W3.drew = X := ⟨_, rfl⟩
 have HQ0 := hid (show Ss w Y0 R g _ _ _ from by rw [← hY0]; exact HS3.out.on (bdrew1 _))
 have HE0 := hid (show Below W3.heap.size W3 Y0 from by rw [← hY0]; exact bdrew1 _)
 refine wp_region_held_drew (S := (fun U => U.cell? ⟨g, 0, none⟩ = some (.int .u64 x.id))) (by kernel_rfl) ?_ (fun hHeld => ?_)
 ·(try dsimp only); ((rw [hY0]; exact (row7 HQ0.out.m).1))
 rw [hY0] at hHeld ⊢
 clear hY0
 refine' wpAnyH_take (i := 0) (oi := _) (v := _) rfl (by kernel_rfl) (by kernel_rfl) (by kernel_rfl) (fun _ _ _ h => h) (Or.inl ⟨by kernel_rfl, ?_⟩) (by assumption) ?_
 rotate_left
 ·(intro w hSw; (try dsimp only at hSw); go_simp; try (with_reducible rfl))
 try simp only [List.getElem_toArray, List.getElem_cons_succ, List.getElem_cons_zero, Act.put, List.setIfInBounds_toArray, List.set_cons_zero, List.set_cons_succ]
 refine' wpAnyH_take (i := 2) (oi := _) (v := _) rfl (by kernel_rfl) (by kernel_rfl) (by kernel_rfl) (fun _ _ _ h => h) (Or.inl ⟨by kernel_rfl, ?_⟩) (by assumption) ?_
 rotate_left
 ·(intro w hSw; (try dsimp only at hSw); go_simp; try (with_reducible rfl))
 try simp only [List.getElem_toArray, List.getElem_cons_succ, List.getElem_cons_zero, Act.put, List.setIfInBounds_toArray, List.set_cons_zero, List.set_cons_succ]
 refine' wpAnyH_take (i := 3) (oi := _) (v := _) rfl (by kernel_rfl) (by kernel_rfl) (by kernel_rfl) (fun _ _ _ h => h) (Or.inl ⟨by kernel_rfl, ?_⟩) (by assumption) ?_
 rotate_left
 ·(intro w hSw; (try dsimp only at hSw); go_simp; try (with_reducible rfl))
 try simp only [List.getElem_toArray, List.getElem_cons_succ, List.getElem_cons_zero, Act.put, List.setIfInBounds_toArray, List.set_cons_zero, List.set_cons_succ]
 refine' wpAnyH_take (i := 4) (oi := _) (v := _) rfl (by kernel_rfl) (by kernel_rfl) (by kernel_rfl) (fun _ _ _ h => h) (Or.inl ⟨by kernel_rfl, ?_⟩) (by assumption) ?_
 rotate_left
 ·(intro w hSw; (try dsimp only at hSw); go_simp; try (with_reducible rfl))
 try simp only [List.getElem_toArray, List.getElem_cons_succ, List.getElem_cons_zero, Act.put, List.setIfInBounds_toArray, List.set_cons_zero, List.set_cons_succ]
 refine' wpAnyH_take (i := 5) (oi := _) (v := _) rfl (by kernel_rfl) (by kernel_rfl) (by kernel_rfl) (fun _ _ _ h => h) (Or.inl ⟨by kernel_rfl, ?_⟩) (by assumption) ?_
 rotate_left
 ·(intro w hSw; (try dsimp only at hSw); go_simp; try (with_reducible rfl))
 try simp only [List.getElem_toArray, List.getElem_cons_succ, List.getElem_cons_zero, Act.put, List.setIfInBounds_toArray, List.set_cons_zero, List.set_cons_succ]
 have HRW := hid (fun (U : World) (hU : Below Y0.heap.size Y0 U) => (show Rw U _ (x :: r) from own_on (own_on HRW3.out HE0.out) hU))
 have HEY := hid (Below.refl Y0.heap.size Y0)
 refine wpAnyH_ready (rs := [1, 6]) (by kernel_rfl) (by simp) ?_
 refine (AllReadyH.cons (o := _) rfl (fun K hK => ?_) (AllReadyH.cons (o := _) rfl (fun K hK => ?_) AllReadyH.nil))
 focus
  obtain ⟨a0, a1, a2, a3, a4, a5, a6⟩ := row7 HQ0.out.t
  go_simp
  refine hK.out _ _ ?_ (fun hHeld => ?_)
  ·(try dsimp only); exact (row7 HQ0.out.m).1
  clear hK K a0 a1 a2 a3 a4 a5 a6
  try simp only [List.getElem_toArray, List.getElem_cons_succ, List.getElem_cons_zero, Act.put, List.setIfInBounds_toArray, List.set_cons_zero, List.set_cons_succ]
  refine wpAnyH_ready (rs := [6]) (by kernel_rfl) (by simp) ?_
  refine AllReadyH.cons (o := _) rfl (fun K hK => ?_) AllReadyH.nil
  go_simp
  go_at_call 33; with_reducible refine (wwithout2 _ n1 c1 (x :: r) x.id HN1.out (by have := HLB.out; have := HN1.out; omega) Y0 (HRW.out _ HEY.out)).mono ?_; rintro e Y6 ⟨q5, m5, c5, rfl, HL5, HW5, HB5, HJ5⟩
  (try go_wp2_with fail)
  have HQ6 := hid (HQ0.out.on HB5.out)
  have HE6 := hid (btr HEY.out HB5.out)
  refine hK.out _ _ ?_ (fun hHeld => ?_)
  ·(try dsimp only); exact (row7 HQ6.out.m).1
  clear hK K
  try simp only [List.getElem_toArray, List.getElem_cons_succ, List.getElem_cons_zero, Act.put, List.setIfInBounds_toArray, List.set_cons_zero, List.set_cons_succ]
 rotate_left
 focus
  go_simp
  go_at_call 33; with_reducible refine (wwithout2 _ n1 c1 (x :: r) x.id HN1.out (by have := HLB.out; have := HN1.out; omega) Y0 (HRW.out _ HEY.out)).mono ?_; rintro e Y6 ⟨q5, m5, c5, rfl, HL5, HW5, HB5, HJ5⟩
  (try go_wp2_with fail)
  have HQ6 := hid (HQ0.out.on HB5.out)
  have HE6 := hid (btr HEY.out HB5.out)
  refine hK.out _ _ ?_ (fun hHeld => ?_)
  ·(try dsimp only); exact (row7 HQ6.out.m).1
  clear hK K
  try simp only [List.getElem_toArray, List.getElem_cons_succ, List.getElem_cons_zero, Act.put, List.setIfInBounds_toArray, List.set_cons_zero, List.set_cons_succ]
  refine wpAnyH_ready (rs := [1]) (by kernel_rfl) (by simp) ?_
  refine AllReadyH.cons (o := _) rfl (fun K hK => ?_) AllReadyH.nil
  obtain ⟨a0, a1, a2, a3, a4, a5, a6⟩ := row7 HQ6.out.t
  go_simp
  refine hK.out _ _ ?_ (fun hHeld => ?_)
  ·(try dsimp only); exact (row7 HQ6.out.m).1
  clear hK K a0 a1 a2 a3 a4 a5 a6
  try simp only [List.getElem_toArray, List.getElem_cons_succ, List.getElem_cons_zero, Act.put, List.setIfInBounds_toArray, List.set_cons_zero, List.set_cons_succ]
 rotate_left
 all_goals
  refine wpAnyH_ready (rs := [7]) (by kernel_rfl) (by simp) ?_
  refine AllReadyH.cons (o := _) rfl (fun K hK => ?_) AllReadyH.nil
  go_simp
  go_at_call 32; with_reducible refine (wwith d2 t q5 m5 c5 (wo x.id (x :: r)) HL5.out Y6).mono ?_; rintro e Y7 ⟨d4, rfl, HD4, HB7⟩
  (try go_wp2_with fail)
  have HQ7 := hid (HQ6.out.on HB7.out)
  have HE7 := hid (btr HE6.out HB7.out)
  have HW7 := hid (HW5.out.on (HB7.out))
  refine hK.out _ _ ?_ (fun hHeld => ?_)
  ·(try dsimp only); exact (row7 HQ7.out.m).1
  clear hK K
  try simp only [List.getElem_toArray, List.getElem_cons_succ, List.getElem_cons_zero, Act.put, List.setIfInBounds_toArray, List.set_cons_zero, List.set_cons_succ]
  refine' wpAnyH_take (i := 8) (oi := _) (v := _) rfl (by kernel_rfl) (by kernel_rfl) (by kernel_rfl) (fun _ _ _ h => h) (Or.inl ⟨by kernel_rfl, ?_⟩) (by assumption) ?_
  rotate_left
  ·(intro w hSw; (try dsimp only at hSw); go_simp; try (with_reducible rfl))
  try simp only [List.getElem_toArray, List.getElem_cons_succ, List.getElem_cons_zero, Act.put, List.setIfInBounds_toArray, List.set_cons_zero, List.set_cons_succ]
  refine wpAnyH_ready (rs := [9]) (by kernel_rfl) (by simp) ?_
  refine AllReadyH.cons (o := _) rfl (fun K hK => ?_) AllReadyH.nil
  obtain ⟨a0, a1, a2, a3, a4, a5, a6⟩ := row7 HQ7.out.t
  have z0 := row_frz HQ7.out.t 0
  have z1 := row_frz HQ7.out.t 1
  have z2 := row_frz HQ7.out.t 2
  have z3 := row_frz HQ7.out.t 3
  have z4 := row_frz HQ7.out.t 4
  have z5 := row_frz HQ7.out.t 5
  have h6 := set6 (.int .i64 d4.cap) (.int .i64 d4.meet) (.slice d4.p1 d4.o1.length d4.c1) (.slice d4.p2 d4.o2.length d4.c2) (.int .u64 d4.high) (.int .u64 d4.seq) HQ7.out.t
  have HS4 := hid (HQ7.out.kp h6.2 h6.1)
  have HK4 := hid h6.2
  clear h6
  go_simp
  refine hK.out _ _ ?_ (fun hHeld => ?_)
  ·(try dsimp only); exact (row7 HS4.out.m).1
  clear hK K a0 a1 a2 a3 a4 a5 a6 z0 z1 z2 z3 z4 z5
  try simp only [List.getElem_toArray, List.getElem_cons_succ, List.getElem_cons_zero, Act.put, List.setIfInBounds_toArray, List.set_cons_zero, List.set_cons_succ]
  refine wpAnyH_done (by kernel_rfl) ?_ _
  obtain ⟨W4, hW4⟩ : ∃ X, ((((((Y7.setCell ⟨R, 0, none⟩ (.int .i64 d4.cap)).setCell ⟨R, 1, none⟩ (.int .i64 d4.meet)).setCell ⟨R, 2, none⟩ (.slice d4.p1 d4.o1.length d4.c1)).setCell ⟨R, 3, none⟩ (.slice d4.p2 d4.o2.length d4.c2)).setCell ⟨R, 4, none⟩ (.int .u64 d4.high)).setCell ⟨R, 5, none⟩ (.int .u64 d4.seq)) = X := ⟨_, rfl⟩
  rw [hW4] at HS4 HK4 ⊢
  clear hW4
  have HO4 := hid (show ∀ (base : Nat) (e : TypeId) (size m : Nat) (v : Value) (xs : List Value), W3.ownsRow base e size v m xs → e ≠ 74 → W4.ownsRow base e size v m xs from fun base e size m v xs hh n1 => by
  have h1 := own_on (own_on hh HE0.out) (HE7.out)
  exact own_same h1 (fun j hj => by obtain ⟨cc, hc⟩ := own_ty h1 hj; exact HK4.out.obj j (row_lt hc) (row_ne hc HQ7.out.t n1)))
  have HR4 := hid (show Rw W4 (.slice q5 m5 c5) (wo x.id (x :: r)) from own_same HW7.out (fun j hj => by obtain ⟨cc, hc⟩ := own_ty HW7.out hj; exact HK4.out.obj j (row_lt hc) (row_ne hc HQ7.out.t (by decide))))
  obtain ⟨a0, a1, a2, a3, a4, a5, a6⟩ := row7 HS4.out.t
  obtain ⟨b0, b1, b2, b3, b4, b5, b6⟩ := row7 HS4.out.c
  have CT6 := hid (wtell d4 p2 (n + 1) c2 _ (evC o.id q 5) (by rw [List.length_append, HEN.out]; rfl) (by have := HNN.out; omega) W4 (HO4.out _ _ _ _ _ _ HV3.out (by decide)))
  unfold ecs evC at CT6
  simp only at CT6
  go_upto_region 10 with fail
  go_upto_region 11 with (first | (go_at_call 30; with_reducible refine (CT6.out).mono ?_; rintro e w6 ⟨p6, c6, d6, rfl, HD6, HV6, HB6⟩; have AI6 := hid (show (Try.prog.info? 74).map (·.size) = some (#[.int .i64 d6.cap, .int .i64 d6.meet, .slice d6.p1 d6.o1.length d6.c1, .slice d6.p2 d6.o2.length d6.c2, .int .u64 d6.high, .int .u64 d6.seq, .slice p6 ((n + 1) + 1) c6] : Array Value).size from i74 _ _ _ _ _ _ _); have AS6 := hid (show (#[.int .i64 d4.cap, .int .i64 d4.meet, .slice d4.p1 d4.o1.length d4.c1, .slice d4.p2 d4.o2.length d4.c2, .int .u64 d4.high, .int .u64 d4.seq, .slice p2 (n + 1) c2] : Array Value).size = (#[.int .i64 d6.cap, .int .i64 d6.meet, .slice d6.p1 d6.o1.length d6.c1, .slice d6.p2 d6.o2.length d6.c2, .int .u64 d6.high, .int .u64 d6.seq, .slice p6 ((n + 1) + 1) c6] : Array Value).size from s7 _ _ _ _ _ _ _ _ _ _ _ _ _ _); have AA6 := hid (show (#[.int .i64 d6.cap, .int .i64 d6.meet, .slice d6.p1 d6.o1.length d6.c1, .slice d6.p2 d6.o2.length d6.c2, .int .u64 d6.high, .int .u64 d6.seq, .slice p6 ((n + 1) + 1) c6] : Array Value).all (·.oneCell') = true from allT _ _ _ _); have HS6 := hid (HS4.out.on HB6.out)) | (refine wpList_store_row (by rfl) 74 (.tmp 2) (.tmp 80) (by rfl) (R) #[.int .i64 d6.cap, .int .i64 d6.meet, .slice d6.p1 d6.o1.length d6.c1, .slice d6.p2 d6.o2.length d6.c2, .int .u64 d6.high, .int .u64 d6.seq, .slice p6 ((n + 1) + 1) c6] (by rfl) (by rfl) 74 _ HS6.out.t AI6.out AS6.out AA6.out ?_))
  have HS7 := hid (HS6.out.setT #[.int .i64 d6.cap, .int .i64 d6.meet, .slice d6.p1 d6.o1.length d6.c1, .slice d6.p2 d6.o2.length d6.c2, .int .u64 d6.high, .int .u64 d6.seq, .slice p6 ((n + 1) + 1) c6])
  have HV7 := hid (own_setRow (cs' := #[.int .i64 d6.cap, .int .i64 d6.meet, .slice d6.p1 d6.o1.length d6.c1, .slice d6.p2 d6.o2.length d6.c2, .int .u64 d6.high, .int .u64 d6.seq, .slice p6 ((n + 1) + 1) c6]) HV6.out HS6.out.t (by decide))
  have HK6 := hid (setRow_kp w6 R #[.int .i64 d6.cap, .int .i64 d6.meet, .slice d6.p1 d6.o1.length d6.c1, .slice d6.p2 d6.o2.length d6.c2, .int .u64 d6.high, .int .u64 d6.seq, .slice p6 ((n + 1) + 1) c6])
  obtain ⟨W7, hW7⟩ : ∃ X, w6.setRow R #[.int .i64 d6.cap, .int .i64 d6.meet, .slice d6.p1 d6.o1.length d6.c1, .slice d6.p2 d6.o2.length d6.c2, .int .u64 d6.high, .int .u64 d6.seq, .slice p6 ((n + 1) + 1) c6] = X := ⟨_, rfl⟩
  rw [hW7] at HS7 HV7 HK6 ⊢
  clear hW7 a0 a1 a2 a3 a4 a5 a6 b0 b1 b2 b3 b4 b5 b6
  obtain ⟨b0, b1, b2, b3, b4, b5, b6⟩ := row7 HS7.out.c
  have fz := row_frz HS7.out.c 1
  go_upto_region 12 with fail
  have HS8 := hid (show Ss w (W7.setCell ⟨R + 1, 1, none⟩ (.int .u64 0)) R g #[.int .i64 d6.cap, .int .i64 d6.meet, .slice d6.p1 d6.o1.length d6.c1, .slice d6.p2 d6.o2.length d6.c2, .int .u64 d6.high, .int .u64 d6.seq, .slice p6 ((n + 1) + 1) c6] #[.int .u64 o.id, .int .u64 0, .int .u64 o.pk, .int .u32 o.mb, .int .i64 s, .int .i64 o.ty, .int .i64 o.pr] #[.int .u64 x.id, .int .u32 x.mb, .int .i64 x.ty, .int .i64 x.pr, .int .u64 x.vi, .int .u64 x.hi, .int .u64 x.pk] from HS7.out.setC 1 (.int .u64 0))
  have HV8 := hid (own_set (k := 1) (v := .int .u64 0) HV7.out HS7.out.c (by decide))
  have HOX := hid (show ∀ (base : Nat) (e : TypeId) (size m : Nat) (v : Value) (xs : List Value), W4.ownsRow base e size v m xs → e ≠ 74 → e ≠ 78 → (W7.setCell ⟨R + 1, 1, none⟩ (.int .u64 0)).ownsRow base e size v m xs from fun base e size m v xs hh n1 n2 => by
   have h1 := own_on hh HB6.out
   have h2 := own_same (w' := W7) h1 (fun j hj => by obtain ⟨cc, hc⟩ := own_ty h1 hj; exact HK6.out.obj j (row_lt hc) (row_ne hc HS6.out.t n1))
   exact own_set h2 HS7.out.c n2)
  obtain ⟨W8, hW8⟩ : ∃ X, W7.setCell ⟨R + 1, 1, none⟩ (.int .u64 0) = X := ⟨_, rfl⟩
  rw [hW8] at HS8 HV8 HOX ⊢
  clear hW8 b0 b1 b2 b3 b4 b5 b6 fz
  obtain ⟨V, hV⟩ : ∃ X, W8.drew = X := ⟨_, rfl⟩
  have HSV := hid (show Ss w V R g _ _ _ from by rw [← hV]; exact HS8.out.on (bdrew1 _))
  have HKV := hid (show Below W8.heap.size W8 V from by rw [← hV]; exact bdrew1 _)
  refine wp_region_held_drew (S := (fun U => (U.cell? ⟨R, 0, none⟩ = some (.int .i64 d6.cap) ∧ U.cell? ⟨R, 1, none⟩ = some (.int .i64 d6.meet) ∧ U.cell? ⟨R, 2, none⟩ = some (.slice d6.p1 d6.o1.length d6.c1) ∧ U.cell? ⟨R, 3, none⟩ = some (.slice d6.p2 d6.o2.length d6.c2) ∧ U.cell? ⟨R, 4, none⟩ = some (.int .u64 d6.high) ∧ U.cell? ⟨R, 5, none⟩ = some (.int .u64 d6.seq) ∧ U.cell? ⟨R, 6, none⟩ = some (.slice p6 ((n + 1) + 1) c6)) ∧ (U.cell? ⟨R + 1, 0, none⟩ = some (.int .u64 o.id) ∧ U.cell? ⟨R + 1, 1, none⟩ = some (.int .u64 0) ∧ U.cell? ⟨R + 1, 2, none⟩ = some (.int .u64 o.pk) ∧ U.cell? ⟨R + 1, 3, none⟩ = some (.int .u32 o.mb) ∧ U.cell? ⟨R + 1, 4, none⟩ = some (.int .i64 s) ∧ U.cell? ⟨R + 1, 5, none⟩ = some (.int .i64 o.ty) ∧ U.cell? ⟨R + 1, 6, none⟩ = some (.int .i64 o.pr)))) (by kernel_rfl) ?_ (fun hHeld => ?_)
  ·(try dsimp only); ((rw [hV]; exact ⟨row7 HSV.out.t, row7 HSV.out.c⟩))
  rw [hV] at hHeld ⊢
  clear hV
  refine' wpAnyH_take (i := 0) (oi := _) (v := _) rfl (by kernel_rfl) (by kernel_rfl) (by kernel_rfl) (fun _ _ _ h => h) (Or.inl ⟨by kernel_rfl, ?_⟩) (by assumption) ?_
  rotate_left
  ·(intro w hSw; (try dsimp only at hSw); go_simp; try (with_reducible rfl))
  try simp only [List.getElem_toArray, List.getElem_cons_succ, List.getElem_cons_zero, Act.put, List.setIfInBounds_toArray, List.set_cons_zero, List.set_cons_succ]
  refine' wpAnyH_take (i := 1) (oi := _) (v := _) rfl (by kernel_rfl) (by kernel_rfl) (by kernel_rfl) (fun _ _ _ h => h) (Or.inl ⟨by kernel_rfl, ?_⟩) (by assumption) ?_
  rotate_left
  ·(intro w hSw; (try dsimp only at hSw); go_simp; try (with_reducible rfl))
  try simp only [List.getElem_toArray, List.getElem_cons_succ, List.getElem_cons_zero, Act.put, List.setIfInBounds_toArray, List.set_cons_zero, List.set_cons_succ]
  have AIE1 := hid (show (Try.prog.info? 74).map (·.size) = some (#[.int .i64 d6.cap, .int .i64 d6.meet, .slice d6.p1 d6.o1.length d6.c1, .slice d6.p2 d6.o2.length d6.c2, .int .u64 d6.high, .int .u64 d6.seq, .slice p6 ((n + 1) + 1) c6] : Array Value).size from info74)
  have ASE1 := hid (show (#[.int .i64 0, .int .i64 0, .slice none 0 0, .slice none 0 0, .int .u64 0, .int .u64 0, .slice none 0 0] : Array Value).size = (#[.int .i64 d6.cap, .int .i64 d6.meet, .slice d6.p1 d6.o1.length d6.c1, .slice d6.p2 d6.o2.length d6.c2, .int .u64 d6.high, .int .u64 d6.seq, .slice p6 ((n + 1) + 1) c6] : Array Value).size from rfl)
  have AAE1 := hid (show (#[.int .i64 d6.cap, .int .i64 d6.meet, .slice d6.p1 d6.o1.length d6.c1, .slice d6.p2 d6.o2.length d6.c2, .int .u64 d6.high, .int .u64 d6.seq, .slice p6 ((n + 1) + 1) c6] : Array Value).all (·.oneCell') = true from by simp [Value.oneCell'])
  have AIE2 := hid (show (Try.prog.info? 78).map (·.size) = some (#[.int .u64 o.id, .int .u64 0, .int .u64 o.pk, .int .u32 o.mb, .int .i64 s, .int .i64 o.ty, .int .i64 o.pr] : Array Value).size from info78)
  have ASE2 := hid (show (#[.int .u64 0, .int .u64 0, .int .u64 0, .int .u32 0, .int .i64 0, .int .i64 0, .int .i64 0] : Array Value).size = (#[.int .u64 o.id, .int .u64 0, .int .u64 o.pk, .int .u32 o.mb, .int .i64 s, .int .i64 o.ty, .int .i64 o.pr] : Array Value).size from rfl)
  have AAE2 := hid (show (#[.int .u64 o.id, .int .u64 0, .int .u64 o.pk, .int .u32 o.mb, .int .i64 s, .int .i64 o.ty, .int .i64 o.pr] : Array Value).all (·.oneCell') = true from by simp [Value.oneCell'])
  refine wpAnyH_ready (rs := [2]) (by kernel_rfl) (by simp) ?_
  refine AllReadyH.cons (o := _) rfl (fun K hK => ?_) AllReadyH.nil
  refine step_store_row (by rfl) 74 (.tmp 4) (.tmp 82) (by rfl) (R + 1 + 1) #[.int .i64 d6.cap, .int .i64 d6.meet, .slice d6.p1 d6.o1.length d6.c1, .slice d6.p2 d6.o2.length d6.c2, .int .u64 d6.high, .int .u64 d6.seq, .slice p6 ((n + 1) + 1) c6] (by rfl) (by rfl) 74 _ HSV.out.z1 AIE1.out ASE1.out AAE1.out ?_
  have k1 := setRow_kp V (R + 1 + 1) #[.int .i64 d6.cap, .int .i64 d6.meet, .slice d6.p1 d6.o1.length d6.c1, .slice d6.p2 d6.o2.length d6.c2, .int .u64 d6.high, .int .u64 d6.seq, .slice p6 ((n + 1) + 1) c6]
  have HZ1 := hid (setRow_heap V (R + 1 + 1) _ #[.int .i64 d6.cap, .int .i64 d6.meet, .slice d6.p1 d6.o1.length d6.c1, .slice d6.p2 d6.o2.length d6.c2, .int .u64 d6.high, .int .u64 d6.seq, .slice p6 ((n + 1) + 1) c6] 74 (0, 0) HSV.out.z1)
  have HZ2 := hid (k1.row HSV.out.z2 (by omega))
  have HZT := hid (k1.row HSV.out.t (by omega))
  have HZC := hid (k1.row HSV.out.c (by omega))
  have HZB := hid (HSV.out.be.trans (k1.below HSV.out.be.size (fun j hj e => by have := HSV.out.r; omega)))
  have HK1 := hid k1
  refine hK.out _ _ ?_ (fun hHeld => ?_)
  ·(try dsimp only); exact ⟨row7 HZT.out, row7 HZC.out⟩
  clear hK K k1
  try simp only [List.getElem_toArray, List.getElem_cons_succ, List.getElem_cons_zero, Act.put, List.setIfInBounds_toArray, List.set_cons_zero, List.set_cons_succ]
  obtain ⟨X1, hX1⟩ : ∃ X, V.setRow (R + 1 + 1) #[.int .i64 d6.cap, .int .i64 d6.meet, .slice d6.p1 d6.o1.length d6.c1, .slice d6.p2 d6.o2.length d6.c2, .int .u64 d6.high, .int .u64 d6.seq, .slice p6 ((n + 1) + 1) c6] = X := ⟨_, rfl⟩
  rw [hX1] at HZ1 HZ2 HZT HZC HZB HK1 hHeld ⊢
  clear hX1
  refine wpAnyH_ready (rs := [3]) (by kernel_rfl) (by simp) ?_
  refine AllReadyH.cons (o := _) rfl (fun K hK => ?_) AllReadyH.nil
  refine step_store_row (by rfl) 78 (.tmp 5) (.tmp 83) (by rfl) (R + 1 + 1 + 1) #[.int .u64 o.id, .int .u64 0, .int .u64 o.pk, .int .u32 o.mb, .int .i64 s, .int .i64 o.ty, .int .i64 o.pr] (by rfl) (by rfl) 78 _ HZ2.out AIE2.out ASE2.out AAE2.out ?_
  have k2 := setRow_kp X1 (R + 1 + 1 + 1) #[.int .u64 o.id, .int .u64 0, .int .u64 o.pk, .int .u32 o.mb, .int .i64 s, .int .i64 o.ty, .int .i64 o.pr]
  have HY1 := hid (k2.row HZ1.out (by omega))
  have HY2 := hid (setRow_heap X1 (R + 1 + 1 + 1) _ #[.int .u64 o.id, .int .u64 0, .int .u64 o.pk, .int .u32 o.mb, .int .i64 s, .int .i64 o.ty, .int .i64 o.pr] 78 (0, 0) HZ2.out)
  have HYB := hid (HZB.out.trans (k2.below HZB.out.size (fun j hj e => by have := HSV.out.r; omega)))
  have HK2 := hid k2
  refine hK.out _ _ ?_ (fun hHeld => ?_)
  ·(try dsimp only); exact ⟨row7 (k2.row HZT.out (by omega)), row7 (k2.row HZC.out (by omega))⟩
  clear hK K k2
  try simp only [List.getElem_toArray, List.getElem_cons_succ, List.getElem_cons_zero, Act.put, List.setIfInBounds_toArray, List.set_cons_zero, List.set_cons_succ]
  refine wpAnyH_done (by kernel_rfl) ?_ _
  obtain ⟨X2, hX2⟩ : ∃ X, X1.setRow (R + 1 + 1 + 1) #[.int .u64 o.id, .int .u64 0, .int .u64 o.pk, .int .u32 o.mb, .int .i64 s, .int .i64 o.ty, .int .i64 o.pr] = X := ⟨_, rfl⟩
  rw [hX2] at HY1 HY2 HYB HK2 ⊢
  clear hX2 hHeld
  go_wp2
  refine bodyPost_ret (res_cc Try.results68 _ _ (R + 1 + 1) (R + 1 + 1 + 1) 74 78 #[.int .i64 d6.cap, .int .i64 d6.meet, .slice d6.p1 d6.o1.length d6.c1, .slice d6.p2 d6.o2.length d6.c2, .int .u64 d6.high, .int .u64 d6.seq, .slice p6 ((n + 1) + 1) c6] #[.int .u64 o.id, .int .u64 0, .int .u64 o.pk, .int .u32 o.mb, .int .i64 s, .int .i64 o.ty, .int .i64 o.pr] (0, 0) (0, 0) _ _ (by rfl) (by rfl) HY1.out HY2.out Try.underlying74 rfl info74 Try.underlying78 rfl info78) rfl ?_
  have HKE := hid (show ∀ (base : Nat) (e : TypeId) (size m : Nat) (v : Value) (xs : List Value), W8.ownsRow base e size v m xs → e ≠ 74 → e ≠ 78 → X2.ownsRow base e size v m xs from fun base e size m v xs hh n1 n2 => by
  have h1 := own_on hh HKV.out
  have h2 := own_same (w' := X1) h1 (fun j hj => by obtain ⟨cc, hc⟩ := own_ty h1 hj; exact HK1.out.obj j (row_lt hc) (row_ne hc HSV.out.z1 n1))
  exact own_same h2 (fun j hj => by obtain ⟨cc, hc⟩ := own_ty h2 hj; exact HK2.out.obj j (row_lt hc) (row_ne hc HZ2.out n2)))
  have HZ : stD d.seq d.meet o s q x r = (r, [(evC x.id (x.vi + x.hi) 5).num (nx d.seq), (evC o.id q 5).num (nx (nx d.seq))], 0, nx (nx d.seq)) := by unfold stD; rw [if_pos (by unfold prtO; rw [f1, f2, g0]; rfl), if_neg (by rw [H3.out]; decide), if_neg (by rw [H3.out]; decide)]
  rw [HZ]
  have hd := HD2.out
  subst hd
  have hd4 := HD4.out
  rw [← HT.out, wo_self HRN.out] at hd4
  have hr4 := HR4.out
  have hl5 := HL5.out
  rw [wo_self HRN.out] at hr4 hl5
  subst hl5
  obtain ⟨j1, j2, j3, j4, j5, j6⟩ := put_os d.told HSS.out q5 c5 r
  rw [← hd4] at j1 j2 j3 j4 j5 j6
  have hd6 := HD6.out
  subst hd6
  have h9 := HKE.out _ _ _ _ _ _ HV8.out (by decide) (by decide)
  rw [j6] at h9
  refine ⟨d4.told, p6, n + 1 + 1, c6, rfl, ?_, ?_, ?_, j1, j2, j3, j4, j5, by show nx d4.seq = _; rw [j6]; rfl, HYB.out⟩
  ·rw [hd4]; exact ⟨(fun hh : Dm X2 (d.told.put (oth s) q5 c5 r) => (⟨hh.r1, hh.r2, hh.l1, hh.l2⟩ : Dm X2 (d.told.put (oth s) q5 c5 r).told)) (Dm.put (d := d.told) ⟨(HDM.out.on HYB.out).r1, (HDM.out.on HYB.out).r2, HDM.out.l1, HDM.out.l2⟩ (HKE.out _ _ _ _ _ _ (HOX.out _ _ _ _ _ _ hr4 (by decide) (by decide)) (by decide) (by decide)) (by have := HLB.out; simp at this; omega)), Nwl.put (d := d.told) ⟨fun _ h => .inl h, fun _ h => .inl h⟩ (fun j hj => Nat.le_trans HQ0.out.be.size (HJ5.out j (ofp_own hj)))⟩
  ·rw [List.length_append, HEN.out]; rfl
  ·unfold Rv; rw [List.append_assoc] at h9; rw [List.length_append, HEN.out]; rw [List.length_append, HEN.out] at h9; exact h9
end Go.Proofs.Ytalgndgoedlpoaa
