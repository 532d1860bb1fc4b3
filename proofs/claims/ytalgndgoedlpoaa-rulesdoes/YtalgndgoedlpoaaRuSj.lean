/-
  RuSj
-/
import Derived.Test.YtalgndgoedlpoaaRuSf
import Derived.Test.YtalgndgoedlpoaaRuSg
import Derived.Test.YtalgndgoedlpoaaRuSi
namespace Go.Proofs.Ytalgndgoedlpoaa
open Go.RowKit Go.Deep Go.Shelf
set_option linter.unusedVariables false
set_option linter.unusedSimpArgs false
set_option maxHeartbeats 8000000
set_option maxRecDepth 100000
attribute [local go_sem ↓] Go.wp_at_zero Go.wp_at_succ
theorem ddo_rep (d : Db) (b : Bs) (c : Cm) (w : World) (hd : Dof d b) (h : Dm w d) (hgb : Gb b) (hpk : Pq b) (hm : 0 ≤ b.meet ∧ b.meet ≤ 3) (hc : CmOk c)  (hy0 : rfs b c = 0) (hkd : c.kd = 3) {o : Or} {s : Int} {k i : Nat} (hf : Fd b c.tg o s k i) :
  Calls Try.prog 11 #[.agg #[.int .i64 d.cap, .int .i64 d.meet, .slice d.p1 d.o1.length d.c1, .slice d.p2 d.o2.length d.c2, .int .u64 d.high, .int .u64 d.seq], .agg #[.int .i64 c.kd, .int .u64 c.id, .int .u64 c.tg, .int .u32 c.mb, .int .i64 c.sd, .int .i64 c.ty, .int .i64 c.pr, .int .u64 c.qt, .int .u64 c.pk]] w fun e w' => ∃ d2 p2 n2 c2 es2, e = .returned (.tuple #[.agg #[.int .i64 d2.cap, .int .i64 d2.meet, .slice d2.p1 d2.o1.length d2.c1, .slice d2.p2 d2.o2.length d2.c2, .int .u64 d2.high, .int .u64 d2.seq], .slice p2 n2 c2]) ∧ (Dm w' d2 ∧ Al w.heap.size d2) ∧ es2.length = n2 ∧ Rv w' (.slice p2 n2 c2) es2 ∧ Below w.heap.size w w' ∧ ∀ b' es', Did b c b' es' → Dof d2 b' ∧ es2 = es' := by
 have CCP := hid (fun (U : World) (hU : Below w.heap.size w U) => wcopy d b U hd (h.on hU))
 have CRF := hid (fun (U : World) (hU : Below w.heap.size w U) => drefused_any d b c U hd (h.on hU) hc)
 unfold Db.row cmr at CRF
 have HDM := hid h
 have HDF := hid hd
 have HGB := hid hgb
 have HPK := hid hpk
 have HMT := hid hm
 have HCK := hid hc
 have CF := hid (fun (U : World) (hU : Below w.heap.size w U) => dfind_any d c.tg U (h.on hU))
 rw [hd.fo, hf.ff] at CF
 unfold Db.row orow at CF
 simp only at CF
 have HF := hid hf
 have HSS := hid hf.side
 have HYZ := hid hy0
 have HKD := hid hkd
 have HOK := hid (show OrOk o from by obtain ⟨j, hj⟩ := hf.mem; exact hgb.vb.ok s (j, o) hj)
 have HVT := hid (show Vb b.told from ⟨hgb.vb.ok, hgb.vb.srt, hgb.vb.ids, hgb.vb.len⟩)
 have HFT := hid (show Fd b.told c.tg o s k i from ⟨hf.ff, hf.fs, hf.fk, hf.fi, hf.lt, hf.mem⟩)
 obtain ⟨y, hy⟩ : ∃ y, rfs b c = y := ⟨_, rfl⟩
 have HY := hid hy
 rw [hy] at CRF
 obtain ⟨R, hR⟩ : ∃ R, w.heap.size = R := ⟨_, rfl⟩
 obtain ⟨U0, hU0⟩ : ∃ U, w.alloc (.cells #[.int .i64 d.cap, .int .i64 d.meet, .slice d.p1 d.o1.length d.c1, .slice d.p2 d.o2.length d.c2, .int .u64 d.high, .int .u64 d.seq] 32) = U := ⟨_, rfl⟩
 obtain ⟨U1, hU1⟩ : ∃ U, U0.alloc (.cells #[.int .i64 c.kd, .int .u64 c.id, .int .u64 c.tg, .int .u32 c.mb, .int .i64 c.sd, .int .i64 c.ty, .int .i64 c.pr, .int .u64 c.qt, .int .u64 c.pk] 39) = U := ⟨_, rfl⟩
 obtain ⟨W, hW⟩ : ∃ U, U1.alloc (.cells #[.int .i64 0, .int .i64 0, .slice none 0 0, .slice none 0 0, .int .u64 0, .int .u64 0] 32) = U := ⟨_, rfl⟩
 have s0 : U0.heap.size = R + 1 := by rw [← hU0, ← hR]; simp
 have s1 : U1.heap.size = R + 1 + 1 := by rw [← hU1]; simp [s0]
 have b0 : Below w.heap.size w U0 := by rw [← hU0]; exact ball _ _
 have b1 : Below U0.heap.size U0 U1 := by rw [← hU1]; exact ball _ _
 have b2 : Below U1.heap.size U1 W := by rw [← hW]; exact ball _ _
 have HBW := hid (btr (btr b0 b1) b2)
 have HA := hid (show W.heap[R]? = some (.cells #[.int .i64 d.cap, .int .i64 d.meet, .slice d.p1 d.o1.length d.c1, .slice d.p2 d.o2.length d.c2, .int .u64 d.high, .int .u64 d.seq] 32 (0, 0)) from row_on (row_on (by rw [← hU0, ← hR]; exact World.alloc_heap_new _ _) b1) b2)
 have HB := hid (show W.heap[R + 1]? = some (.cells #[.int .i64 c.kd, .int .u64 c.id, .int .u64 c.tg, .int .u32 c.mb, .int .i64 c.sd, .int .i64 c.ty, .int .i64 c.pr, .int .u64 c.qt, .int .u64 c.pk] 39 (0, 0)) from row_on (by rw [← hU1, ← s0]; exact World.alloc_heap_new _ _) b2)
 have HZ := hid (show W.heap[R + 1 + 1]? = some (.cells #[.int .i64 0, .int .i64 0, .slice none 0 0, .slice none 0 0, .int .u64 0, .int .u64 0] 32 (0, 0)) from by rw [← hW, ← s1]; exact World.alloc_heap_new _ _)
 have HU0 := hid hU0
 have HU1 := hid hU1
 have HW := hid hW
 have HRR := hid hR
 clear hR hU0 hU1 hW s0 s1 b0 b1 b2 h hd hgb hpk hm hc hy hf hy0 hkd
 go_enter Try.func11, Try.ntmps11
 go_upto_region 1 with fail
 rw [HU0.out, HU1.out, HW.out, HRR.out]
 obtain ⟨a0, a1, a2, a3, a4, a5⟩ := row6 HA.out
 go_upto_region 2 with (go_at_call 28; with_reducible refine (CCP.out _ HBW.out).mono ?_; rintro e w1 ⟨d1, rfl, HD1, HM1, HB1, HL1⟩)
 clear a0 a1 a2 a3 a4 a5
 obtain ⟨g, hg⟩ : ∃ g, w1.heap.size = g := ⟨_, rfl⟩
 obtain ⟨M, hM⟩ : ∃ X, w1.alloc (.cells #[.int .i64 d1.cap, .int .i64 d1.meet, .slice d1.p1 d1.o1.length d1.c1, .slice d1.p2 d1.o2.length d1.c2, .int .u64 d1.high, .int .u64 d1.seq, .slice none 0 0] 74) = X := ⟨_, rfl⟩
 have bM : Below w1.heap.size w1 M := by rw [← hM]; exact ball _ _
 have HS := hid (show D5 w M R g #[.int .i64 d.cap, .int .i64 d.meet, .slice d.p1 d.o1.length d.c1, .slice d.p2 d.o2.length d.c2, .int .u64 d.high, .int .u64 d.seq] #[.int .i64 c.kd, .int .u64 c.id, .int .u64 c.tg, .int .u32 c.mb, .int .i64 c.sd, .int .i64 c.ty, .int .i64 c.pr, .int .u64 c.qt, .int .u64 c.pk] #[.int .i64 0, .int .i64 0, .slice none 0 0, .slice none 0 0, .int .u64 0, .int .u64 0] #[.int .i64 d1.cap, .int .i64 d1.meet, .slice d1.p1 d1.o1.length d1.c1, .slice d1.p2 d1.o2.length d1.c2, .int .u64 d1.high, .int .u64 d1.seq, .slice none 0 0] from ⟨btr (btr HBW.out HB1.out) bM, row_on (row_on HA.out HB1.out) bM, row_on (row_on HB.out HB1.out) bM, row_on (row_on HZ.out HB1.out) bM, by rw [← hM, ← hg]; exact World.alloc_heap_new _ _, HRR.out, by rw [← hg]; exact row_lt (row_on HZ.out HB1.out)⟩)
 have HM := hid (HM1.out.on bM)
 rw [hM, hg]
 clear hM hg bM
 obtain ⟨a0, a1, a2, a3, a4, a5⟩ := row6 HS.out.b
 obtain ⟨c0, c1, c2, c3, c4, c5, c6, c7, c8⟩ := cmr_at HS.out.c
 go_upto_region 3 with (go_at_call 29; with_reducible refine (CRF.out _ HS.out.be).mono ?_; rintro e w2 ⟨rfl, hb2⟩; have HB2 := hid hb2; clear hb2)
 clear a0 a1 a2 a3 a4 a5 c0 c1 c2 c3 c4 c5 c6 c7 c8
 have HS2 := hid (HS.out.on HB2.out)
 have HM2 := hid (HM.out.on HB2.out)
 have HAL := hid (HL1.out.mono HBW.out.size)
 have y0 : (y != 0) = false := by have := HYZ.out; rw [HY.out] at this; simp [this]
 have HCY := hid (cy_rep HGB.out HPK.out HMT.out HYZ.out HKD.out HF.out o.ty)
 have kn1 : (c.kd != 1) = true := by simp [HKD.out]
 have k3 : (c.kd == 3) = true := by simp [HKD.out]
 obtain ⟨c0, c1, c2, c3, c4, c5, c6, c7, c8⟩ := cmr_at HS2.out.c
 have gN : g < w2.heap.size := row_lt HS2.out.t
 go_upto_region 12 with fail
 clear c0 c1 c2 c3 c4 c5 c6 c7 c8
 obtain ⟨gn, hgn⟩ : ∃ g, w2.heap.size = g := ⟨_, rfl⟩
 obtain ⟨N, hN⟩ : ∃ X, w2.alloc (.cells #[.int .u64 c.id, .int .u64 c.qt, .int .u64 c.pk, .int .u32 c.mb, .int .i64 c.sd, .int .i64 c.ty, .int .i64 c.pr] 78) = X := ⟨_, rfl⟩
 have bN : Below w2.heap.size w2 N := by rw [← hN]; exact ball _ _
 have HSN := hid (HS2.out.on bN)
 have HMN := hid (HM2.out.on bN)
 have HNN := hid (show N.heap[gn]? = some (.cells #[.int .u64 c.id, .int .u64 c.qt, .int .u64 c.pk, .int .u32 c.mb, .int .i64 c.sd, .int .i64 c.ty, .int .i64 c.pr] 78 (0, 0)) from by rw [← hN, ← hgn]; exact World.alloc_heap_new _ _)
 rw [hgn] at gN
 rw [hN, hgn]
 clear hN hgn bN
 obtain ⟨a0, a1, a2, a3, a4, a5⟩ := row6 HSN.out.b
 obtain ⟨c0, c1, c2, c3, c4, c5, c6, c7, c8⟩ := cmr_at HSN.out.c
 go_upto_region 14 with (go_at_call 31; with_reducible refine (CF.out _ HSN.out.be).mono ?_; rintro e w4 ⟨rfl, hb4⟩; have HB4 := hid hb4; clear hb4)
 clear a0 a1 a2 a3 a4 a5
 clear c0 c1 c2 c3 c4 c5 c6 c7 c8
 have gM : g < w4.heap.size := row_lt (row_on HSN.out.t HB4.out)
 have gMn : gn < w4.heap.size := row_lt (row_on HNN.out HB4.out)
 obtain ⟨gm, hgm⟩ : ∃ g, w4.heap.size = g := ⟨_, rfl⟩
 obtain ⟨M4, hM4⟩ : ∃ X, w4.alloc (.cells #[.int .u64 o.id, .int .u32 o.mb, .int .i64 o.ty, .int .i64 o.pr, .int .u64 o.vi, .int .u64 o.hi, .int .u64 o.pk] 50) = X := ⟨_, rfl⟩
 have bM : Below w4.heap.size w4 M4 := by rw [← hM4]; exact ball _ _
 have HS4 := hid ((HSN.out.on HB4.out).on bM)
 have HM4 := hid ((HMN.out.on HB4.out).on bM)
 have HN4 := hid (row_on (row_on HNN.out HB4.out) bM)
 have HG4 := hid (show M4.heap[gm]? = some (.cells #[.int .u64 o.id, .int .u32 o.mb, .int .i64 o.ty, .int .i64 o.pr, .int .u64 o.vi, .int .u64 o.hi, .int .u64 o.pk] 50 (0, 0)) from by rw [← hM4, ← hgm]; exact World.alloc_heap_new _ _)
 rw [hgm] at gM gMn
 rw [hM4, hgm]
 clear hM4 hgm bM
 obtain ⟨c0, c1, c2, c3, c4, c5, c6, c7, c8⟩ := cmr_at HS4.out.c
 go_upto_region 17 with fail
 clear c0 c1 c2 c3 c4 c5 c6 c7 c8
 have w1 : IntKind.u64.wrap (o.vi + o.hi) = o.vi + o.hi := by have h0 := HOK.out; unfold OrOk at h0; rw [IntKind.wrap_u64]; omega
 have CT5 := hid (wtell d1 none 0 0 [] (evC o.id (o.vi + o.hi) 2) rfl (by omega) M4 (rv_none M4))
 unfold ecs evC at CT5
 simp only at CT5
 obtain ⟨a0, a1, a2, a3, a4, a5, a6⟩ := row7 HS4.out.t
 obtain ⟨m0, m1, m2, m3, m4, m5, m6⟩ := row7 HG4.out
 go_upto_region 18 with (first | (go_at_call 30; with_reducible refine (CT5.out).mono ?_; rintro e w5 ⟨p5, c5, d5, rfl, HD5, HV5, HB5⟩; have AI5 := hid (i74 (.int .i64 d5.cap) (.int .i64 d5.meet) (.slice d5.p1 d5.o1.length d5.c1) (.slice d5.p2 d5.o2.length d5.c2) (.int .u64 d5.high) (.int .u64 d5.seq) (.slice p5 (0 + 1) c5)); have AS5 := hid (s7 (.int .i64 d1.cap) (.int .i64 d1.meet) (.slice d1.p1 d1.o1.length d1.c1) (.slice d1.p2 d1.o2.length d1.c2) (.int .u64 d1.high) (.int .u64 d1.seq) (.slice none 0 0) (.int .i64 d5.cap) (.int .i64 d5.meet) (.slice d5.p1 d5.o1.length d5.c1) (.slice d5.p2 d5.o2.length d5.c2) (.int .u64 d5.high) (.int .u64 d5.seq) (.slice p5 (0 + 1) c5)); have AA5 := hid (show (#[.int .i64 d5.cap, .int .i64 d5.meet, .slice d5.p1 d5.o1.length d5.c1, .slice d5.p2 d5.o2.length d5.c2, .int .u64 d5.high, .int .u64 d5.seq, .slice p5 (0 + 1) c5] : Array Value).all (·.oneCell') = true from allT _ _ _ _); have HS5 := hid (HS4.out.on HB5.out)) | (refine wpList_store_row (by rfl) 74 (.tmp 6) (.tmp 82) (by rfl) g #[.int .i64 d5.cap, .int .i64 d5.meet, .slice d5.p1 d5.o1.length d5.c1, .slice d5.p2 d5.o2.length d5.c2, .int .u64 d5.high, .int .u64 d5.seq, .slice p5 (0 + 1) c5] (by rfl) (by rfl) 74 _ HS5.out.t AI5.out AS5.out AA5.out ?_))
 clear a0 a1 a2 a3 a4 a5 a6 m0 m1 m2 m3 m4 m5 m6 w1
 have HS5T := hid (HS5.out.setT #[.int .i64 d5.cap, .int .i64 d5.meet, .slice d5.p1 d5.o1.length d5.c1, .slice d5.p2 d5.o2.length d5.c2, .int .u64 d5.high, .int .u64 d5.seq, .slice p5 (0 + 1) c5])
 have HD5T := hid ((HM4.out.on HB5.out).setRow' (cs' := #[.int .i64 d5.cap, .int .i64 d5.meet, .slice d5.p1 d5.o1.length d5.c1, .slice d5.p2 d5.o2.length d5.c2, .int .u64 d5.high, .int .u64 d5.seq, .slice p5 (0 + 1) c5]) HS5.out.t (by decide))
 have HV5T := hid (own_setRow (cs' := #[.int .i64 d5.cap, .int .i64 d5.meet, .slice d5.p1 d5.o1.length d5.c1, .slice d5.p2 d5.o2.length d5.c2, .int .u64 d5.high, .int .u64 d5.seq, .slice p5 (0 + 1) c5]) HV5.out HS5.out.t (by decide))
 have HG5 := hid ((setRow_kp w5 g #[.int .i64 d5.cap, .int .i64 d5.meet, .slice d5.p1 d5.o1.length d5.c1, .slice d5.p2 d5.o2.length d5.c2, .int .u64 d5.high, .int .u64 d5.seq, .slice p5 (0 + 1) c5]).row (row_on HG4.out HB5.out) (by omega))
 have HN5 := hid ((setRow_kp w5 g #[.int .i64 d5.cap, .int .i64 d5.meet, .slice d5.p1 d5.o1.length d5.c1, .slice d5.p2 d5.o2.length d5.c2, .int .u64 d5.high, .int .u64 d5.seq, .slice p5 (0 + 1) c5]).row (row_on HN4.out HB5.out) (by omega))
 obtain ⟨W5, hW5⟩ : ∃ X, w5.setRow g #[.int .i64 d5.cap, .int .i64 d5.meet, .slice d5.p1 d5.o1.length d5.c1, .slice d5.p2 d5.o2.length d5.c2, .int .u64 d5.high, .int .u64 d5.seq, .slice p5 (0 + 1) c5] = X := ⟨_, rfl⟩
 rw [hW5] at HS5T HD5T HV5T HG5 HN5 ⊢
 clear hW5
 have HDW := hid (show Dm W5 d5 from by have := HD5.out; subst this; exact HD5T.out.told')
 have HLN := hid (show (d5.os s).length ≤ 1048576 from (HDW.out.at' s).2)
 obtain ⟨Y0, hY0⟩ : ∃ X, W5.drew = X := ⟨_, rfl⟩
 have HE0 := hid (show Below W5.heap.size W5 Y0 from by rw [← hY0]; exact bdrew1 _)
 have HQ0 := hid (HS5T.out.on HE0.out)
 have HG0 := hid (row_on HG5.out HE0.out)
 have HN0 := hid (row_on HN5.out HE0.out)
 have HDY := hid (HDW.out.on HE0.out)
 have HRY := hid (own_on HV5T.out HE0.out)
 have BE0 := hid (Below.refl Y0.heap.size Y0)
 refine wp_region_held_drew (S := (fun U => U.cell? ⟨gm, 0, none⟩ = some (.int .u64 o.id) ∧ U.cell? ⟨gm, 1, none⟩ = some (.int .u32 o.mb) ∧ U.cell? ⟨gm, 2, none⟩ = some (.int .i64 o.ty) ∧ U.cell? ⟨gm, 3, none⟩ = some (.int .i64 o.pr) ∧ U.cell? ⟨gm, 4, none⟩ = some (.int .u64 o.vi) ∧ U.cell? ⟨gm, 5, none⟩ = some (.int .u64 o.hi) ∧ U.cell? ⟨gm, 6, none⟩ = some (.int .u64 o.pk))) (by kernel_rfl) ?_ (fun hHeld => ?_)
 ·(try dsimp only); ((rw [hY0]; exact row7 HG0.out))
 rw [hY0] at hHeld ⊢
 clear hY0
 refine' wpAnyH_take (i := 0) (oi := _) (v := _) rfl (by kernel_rfl) (by kernel_rfl) (by kernel_rfl) (fun _ _ _ h => h) (Or.inl ⟨by kernel_rfl, ?_⟩) (by assumption) ?_
 rotate_left
 ·(intro w hSw; (try dsimp only at hSw); go_simp; try (with_reducible rfl))
 try simp only [List.getElem_toArray, List.getElem_cons_succ, List.getElem_cons_zero, Act.put, List.setIfInBounds_toArray, List.set_cons_zero, List.set_cons_succ]
 refine' wpAnyH_take (i := 2) (oi := _) (v := _) rfl (by kernel_rfl) (by kernel_rfl) (by kernel_rfl) (fun _ _ _ h => h) (Or.inl ⟨by kernel_rfl, ?_⟩) (by assumption) ?_
 rotate_left
 ·(intro w hSw; (try dsimp only at hSw); go_simp; try (with_reducible rfl))
 try simp only [List.getElem_toArray, List.getElem_cons_succ, List.getElem_cons_zero, Act.put, List.setIfInBounds_toArray, List.set_cons_zero, List.set_cons_succ]
 refine' wpAnyH_take (i := 3) (oi := _) (v := _) rfl (by kernel_rfl) (by kernel_rfl) (by kernel_rfl) (fun _ _ _ h => h) (Or.inl ⟨by kernel_rfl, ?_⟩) (by assumption) ?_
 rotate_left
 ·(intro w hSw; (try dsimp only at hSw); go_simp; try (with_reducible rfl))
 try simp only [List.getElem_toArray, List.getElem_cons_succ, List.getElem_cons_zero, Act.put, List.setIfInBounds_toArray, List.set_cons_zero, List.set_cons_succ]
 refine' wpAnyH_take (i := 5) (oi := _) (v := _) rfl (by kernel_rfl) (by kernel_rfl) (by kernel_rfl) (fun _ _ _ h => h) (Or.inl ⟨by kernel_rfl, ?_⟩) (by assumption) ?_
 rotate_left
 ·(intro w hSw; (try dsimp only at hSw); go_simp; try (with_reducible rfl))
 try simp only [List.getElem_toArray, List.getElem_cons_succ, List.getElem_cons_zero, Act.put, List.setIfInBounds_toArray, List.set_cons_zero, List.set_cons_succ]
 refine' wpAnyH_take (i := 7) (oi := _) (v := _) rfl (by kernel_rfl) (by kernel_rfl) (by kernel_rfl) (fun _ _ _ h => h) (Or.inl ⟨by kernel_rfl, ?_⟩) (by assumption) ?_
 rotate_left
 ·(intro w hSw; (try dsimp only at hSw); go_simp; try (with_reducible rfl))
 try simp only [List.getElem_toArray, List.getElem_cons_succ, List.getElem_cons_zero, Act.put, List.setIfInBounds_toArray, List.set_cons_zero, List.set_cons_succ]
 refine' wpAnyH_take (i := 8) (oi := _) (v := _) rfl (by kernel_rfl) (by kernel_rfl) (by kernel_rfl) (fun _ _ _ h => h) (Or.inl ⟨by kernel_rfl, ?_⟩) (by assumption) ?_
 rotate_left
 ·(intro w hSw; (try dsimp only at hSw); go_simp; try (with_reducible rfl))
 try simp only [List.getElem_toArray, List.getElem_cons_succ, List.getElem_cons_zero, Act.put, List.setIfInBounds_toArray, List.set_cons_zero, List.set_cons_succ]
 refine wpAnyH_ready (rs := [1, 4]) (by kernel_rfl) (by simp) ?_
 refine (AllReadyH.cons (o := _) rfl (fun K hK => ?_) (AllReadyH.cons (o := _) rfl (fun K hK => ?_) AllReadyH.nil))
 focus
  obtain ⟨a0, a1, a2, a3, a4, a5, a6⟩ := row7 (HQ0.out.on BE0.out).t
  go_simp
  refine hK.out _ _ ?_ (fun hHeld => ?_)
  ·(try dsimp only); exact row7 (row_on HG0.out (BE0.out))
  clear hK K a0 a1 a2 a3 a4 a5 a6
  try simp only [List.getElem_toArray, List.getElem_cons_succ, List.getElem_cons_zero, Act.put, List.setIfInBounds_toArray, List.set_cons_zero, List.set_cons_succ]
  refine wpAnyH_ready (rs := [4]) (by kernel_rfl) (by simp) ?_
  refine (AllReadyH.cons (o := _) rfl (fun K hK => ?_) AllReadyH.nil)
  obtain ⟨a0, a1, a2, a3, a4, a5, a6⟩ := row7 (HQ0.out.on BE0.out).t
  go_simp
  refine hK.out _ _ ?_ (fun hHeld => ?_)
  ·(try dsimp only); exact row7 (row_on HG0.out (BE0.out))
  clear hK K a0 a1 a2 a3 a4 a5 a6
  try simp only [List.getElem_toArray, List.getElem_cons_succ, List.getElem_cons_zero, Act.put, List.setIfInBounds_toArray, List.set_cons_zero, List.set_cons_succ]
  refine wpAnyH_ready (rs := [6]) (by kernel_rfl) (by simp) ?_
  refine (AllReadyH.cons (o := _) rfl (fun K hK => ?_) AllReadyH.nil)
  go_simp
  go_at_call 34; with_reducible refine (wsideT d5 s HSS.out Y0 (HDY.out.on BE0.out)).mono ?_; rintro e X1 ⟨p3, n3, c3, rfl, HN3, HR3, HB3⟩
  (try go_wp2_with fail)
  have BX1 := hid (btr BE0.out HB3.out)
  refine hK.out _ _ ?_ (fun hHeld => ?_)
  ·(try dsimp only); exact row7 (row_on HG0.out (BX1.out))
  clear hK K
  try simp only [List.getElem_toArray, List.getElem_cons_succ, List.getElem_cons_zero, Act.put, List.setIfInBounds_toArray, List.set_cons_zero, List.set_cons_succ]
  refine wpAnyH_ready (rs := [9]) (by kernel_rfl) (by simp) ?_
  refine (AllReadyH.cons (o := _) rfl (fun K hK => ?_) AllReadyH.nil)
  have CE := hid (wwithout2 p3 n3 c3 (d5.os s) o.id HN3.out (by have := HLN.out; have := HN3.out; omega) X1 HR3.out)
  go_simp
  go_at_call 33; with_reducible refine (CE.out).mono ?_; rintro e X2 ⟨p9, n9, c9, rfl, HL9, HR9, HB9, HJ9⟩
  (try go_wp2_with fail)
  have BX2 := hid (btr BX1.out HB9.out)
  refine hK.out _ _ ?_ (fun hHeld => ?_)
  ·(try dsimp only); exact row7 (row_on HG0.out (BX2.out))
  clear hK K
  try simp only [List.getElem_toArray, List.getElem_cons_succ, List.getElem_cons_zero, Act.put, List.setIfInBounds_toArray, List.set_cons_zero, List.set_cons_succ]
  refine wpAnyH_ready (rs := [10]) (by kernel_rfl) (by simp) ?_
  refine (AllReadyH.cons (o := _) rfl (fun K hK => ?_) AllReadyH.nil)
  go_simp
  go_at_call 32; with_reducible refine (wwith d5 s p9 n9 c9 (wo o.id (d5.os s)) HL9.out X2).mono ?_; rintro e X3 ⟨d7, rfl, HD7, HB7⟩
  (try go_wp2_with fail)
  have BX3 := hid (btr BX2.out HB7.out)
  refine hK.out _ _ ?_ (fun hHeld => ?_)
  ·(try dsimp only); exact row7 (row_on HG0.out (BX3.out))
  clear hK K
  try simp only [List.getElem_toArray, List.getElem_cons_succ, List.getElem_cons_zero, Act.put, List.setIfInBounds_toArray, List.set_cons_zero, List.set_cons_succ]
 rotate_left 1
 focus
  obtain ⟨a0, a1, a2, a3, a4, a5, a6⟩ := row7 (HQ0.out.on BE0.out).t
  go_simp
  refine hK.out _ _ ?_ (fun hHeld => ?_)
  ·(try dsimp only); exact row7 (row_on HG0.out (BE0.out))
  clear hK K a0 a1 a2 a3 a4 a5 a6
  try simp only [List.getElem_toArray, List.getElem_cons_succ, List.getElem_cons_zero, Act.put, List.setIfInBounds_toArray, List.set_cons_zero, List.set_cons_succ]
  refine wpAnyH_ready (rs := [1, 6]) (by kernel_rfl) (by simp) ?_
  refine (AllReadyH.cons (o := _) rfl (fun K hK => ?_) (AllReadyH.cons (o := _) rfl (fun K hK => ?_) AllReadyH.nil))
  focus
   obtain ⟨a0, a1, a2, a3, a4, a5, a6⟩ := row7 (HQ0.out.on BE0.out).t
   go_simp
   refine hK.out _ _ ?_ (fun hHeld => ?_)
   ·(try dsimp only); exact row7 (row_on HG0.out (BE0.out))
   clear hK K a0 a1 a2 a3 a4 a5 a6
   try simp only [List.getElem_toArray, List.getElem_cons_succ, List.getElem_cons_zero, Act.put, List.setIfInBounds_toArray, List.set_cons_zero, List.set_cons_succ]
   refine wpAnyH_ready (rs := [6]) (by kernel_rfl) (by simp) ?_
   refine (AllReadyH.cons (o := _) rfl (fun K hK => ?_) AllReadyH.nil)
   go_simp
   go_at_call 34; with_reducible refine (wsideT d5 s HSS.out Y0 (HDY.out.on BE0.out)).mono ?_; rintro e X1 ⟨p3, n3, c3, rfl, HN3, HR3, HB3⟩
   (try go_wp2_with fail)
   have BX1 := hid (btr BE0.out HB3.out)
   refine hK.out _ _ ?_ (fun hHeld => ?_)
   ·(try dsimp only); exact row7 (row_on HG0.out (BX1.out))
   clear hK K
   try simp only [List.getElem_toArray, List.getElem_cons_succ, List.getElem_cons_zero, Act.put, List.setIfInBounds_toArray, List.set_cons_zero, List.set_cons_succ]
   refine wpAnyH_ready (rs := [9]) (by kernel_rfl) (by simp) ?_
   refine (AllReadyH.cons (o := _) rfl (fun K hK => ?_) AllReadyH.nil)
   have CE := hid (wwithout2 p3 n3 c3 (d5.os s) o.id HN3.out (by have := HLN.out; have := HN3.out; omega) X1 HR3.out)
   go_simp
   go_at_call 33; with_reducible refine (CE.out).mono ?_; rintro e X2 ⟨p9, n9, c9, rfl, HL9, HR9, HB9, HJ9⟩
   (try go_wp2_with fail)
   have BX2 := hid (btr BX1.out HB9.out)
   refine hK.out _ _ ?_ (fun hHeld => ?_)
   ·(try dsimp only); exact row7 (row_on HG0.out (BX2.out))
   clear hK K
   try simp only [List.getElem_toArray, List.getElem_cons_succ, List.getElem_cons_zero, Act.put, List.setIfInBounds_toArray, List.set_cons_zero, List.set_cons_succ]
   refine wpAnyH_ready (rs := [10]) (by kernel_rfl) (by simp) ?_
   refine (AllReadyH.cons (o := _) rfl (fun K hK => ?_) AllReadyH.nil)
   go_simp
   go_at_call 32; with_reducible refine (wwith d5 s p9 n9 c9 (wo o.id (d5.os s)) HL9.out X2).mono ?_; rintro e X3 ⟨d7, rfl, HD7, HB7⟩
   (try go_wp2_with fail)
   have BX3 := hid (btr BX2.out HB7.out)
   refine hK.out _ _ ?_ (fun hHeld => ?_)
   ·(try dsimp only); exact row7 (row_on HG0.out (BX3.out))
   clear hK K
   try simp only [List.getElem_toArray, List.getElem_cons_succ, List.getElem_cons_zero, Act.put, List.setIfInBounds_toArray, List.set_cons_zero, List.set_cons_succ]
  rotate_left 1
  focus
   go_simp
   go_at_call 34; with_reducible refine (wsideT d5 s HSS.out Y0 (HDY.out.on BE0.out)).mono ?_; rintro e X1 ⟨p3, n3, c3, rfl, HN3, HR3, HB3⟩
   (try go_wp2_with fail)
   have BX1 := hid (btr BE0.out HB3.out)
   refine hK.out _ _ ?_ (fun hHeld => ?_)
   ·(try dsimp only); exact row7 (row_on HG0.out (BX1.out))
   clear hK K
   try simp only [List.getElem_toArray, List.getElem_cons_succ, List.getElem_cons_zero, Act.put, List.setIfInBounds_toArray, List.set_cons_zero, List.set_cons_succ]
   refine wpAnyH_ready (rs := [1, 9]) (by kernel_rfl) (by simp) ?_
   refine (AllReadyH.cons (o := _) rfl (fun K hK => ?_) (AllReadyH.cons (o := _) rfl (fun K hK => ?_) AllReadyH.nil))
   focus
    obtain ⟨a0, a1, a2, a3, a4, a5, a6⟩ := row7 (HQ0.out.on BX1.out).t
    go_simp
    refine hK.out _ _ ?_ (fun hHeld => ?_)
    ·(try dsimp only); exact row7 (row_on HG0.out (BX1.out))
    clear hK K a0 a1 a2 a3 a4 a5 a6
    try simp only [List.getElem_toArray, List.getElem_cons_succ, List.getElem_cons_zero, Act.put, List.setIfInBounds_toArray, List.set_cons_zero, List.set_cons_succ]
    refine wpAnyH_ready (rs := [9]) (by kernel_rfl) (by simp) ?_
    refine (AllReadyH.cons (o := _) rfl (fun K hK => ?_) AllReadyH.nil)
    have CE := hid (wwithout2 p3 n3 c3 (d5.os s) o.id HN3.out (by have := HLN.out; have := HN3.out; omega) X1 HR3.out)
    go_simp
    go_at_call 33; with_reducible refine (CE.out).mono ?_; rintro e X2 ⟨p9, n9, c9, rfl, HL9, HR9, HB9, HJ9⟩
    (try go_wp2_with fail)
    have BX2 := hid (btr BX1.out HB9.out)
    refine hK.out _ _ ?_ (fun hHeld => ?_)
    ·(try dsimp only); exact row7 (row_on HG0.out (BX2.out))
    clear hK K
    try simp only [List.getElem_toArray, List.getElem_cons_succ, List.getElem_cons_zero, Act.put, List.setIfInBounds_toArray, List.set_cons_zero, List.set_cons_succ]
    refine wpAnyH_ready (rs := [10]) (by kernel_rfl) (by simp) ?_
    refine (AllReadyH.cons (o := _) rfl (fun K hK => ?_) AllReadyH.nil)
    go_simp
    go_at_call 32; with_reducible refine (wwith d5 s p9 n9 c9 (wo o.id (d5.os s)) HL9.out X2).mono ?_; rintro e X3 ⟨d7, rfl, HD7, HB7⟩
    (try go_wp2_with fail)
    have BX3 := hid (btr BX2.out HB7.out)
    refine hK.out _ _ ?_ (fun hHeld => ?_)
    ·(try dsimp only); exact row7 (row_on HG0.out (BX3.out))
    clear hK K
    try simp only [List.getElem_toArray, List.getElem_cons_succ, List.getElem_cons_zero, Act.put, List.setIfInBounds_toArray, List.set_cons_zero, List.set_cons_succ]
   rotate_left 1
   focus
    have CE := hid (wwithout2 p3 n3 c3 (d5.os s) o.id HN3.out (by have := HLN.out; have := HN3.out; omega) X1 HR3.out)
    go_simp
    go_at_call 33; with_reducible refine (CE.out).mono ?_; rintro e X2 ⟨p9, n9, c9, rfl, HL9, HR9, HB9, HJ9⟩
    (try go_wp2_with fail)
    have BX2 := hid (btr BX1.out HB9.out)
    refine hK.out _ _ ?_ (fun hHeld => ?_)
    ·(try dsimp only); exact row7 (row_on HG0.out (BX2.out))
    clear hK K
    try simp only [List.getElem_toArray, List.getElem_cons_succ, List.getElem_cons_zero, Act.put, List.setIfInBounds_toArray, List.set_cons_zero, List.set_cons_succ]
    refine wpAnyH_ready (rs := [1]) (by kernel_rfl) (by simp) ?_
    refine (AllReadyH.cons (o := _) rfl (fun K hK => ?_) AllReadyH.nil)
    obtain ⟨a0, a1, a2, a3, a4, a5, a6⟩ := row7 (HQ0.out.on BX2.out).t
    go_simp
    refine hK.out _ _ ?_ (fun hHeld => ?_)
    ·(try dsimp only); exact row7 (row_on HG0.out (BX2.out))
    clear hK K a0 a1 a2 a3 a4 a5 a6
    try simp only [List.getElem_toArray, List.getElem_cons_succ, List.getElem_cons_zero, Act.put, List.setIfInBounds_toArray, List.set_cons_zero, List.set_cons_succ]
    refine wpAnyH_ready (rs := [10]) (by kernel_rfl) (by simp) ?_
    refine (AllReadyH.cons (o := _) rfl (fun K hK => ?_) AllReadyH.nil)
    go_simp
    go_at_call 32; with_reducible refine (wwith d5 s p9 n9 c9 (wo o.id (d5.os s)) HL9.out X2).mono ?_; rintro e X3 ⟨d7, rfl, HD7, HB7⟩
    (try go_wp2_with fail)
    have BX3 := hid (btr BX2.out HB7.out)
    refine hK.out _ _ ?_ (fun hHeld => ?_)
    ·(try dsimp only); exact row7 (row_on HG0.out (BX3.out))
    clear hK K
    try simp only [List.getElem_toArray, List.getElem_cons_succ, List.getElem_cons_zero, Act.put, List.setIfInBounds_toArray, List.set_cons_zero, List.set_cons_succ]
   rotate_left 1
  rotate_left 2
 rotate_left 3
 all_goals
  refine' wpAnyH_take (i := 11) (oi := _) (v := _) rfl (by kernel_rfl) (by kernel_rfl) (by kernel_rfl) (fun _ _ _ h => h) (Or.inl ⟨by kernel_rfl, ?_⟩) (by assumption) ?_
  rotate_left
  ·(intro w hSw; (try dsimp only at hSw); go_simp; try (with_reducible rfl))
  try simp only [List.getElem_toArray, List.getElem_cons_succ, List.getElem_cons_zero, Act.put, List.setIfInBounds_toArray, List.set_cons_zero, List.set_cons_succ]
  refine wpAnyH_ready (rs := [12]) (by kernel_rfl) (by simp) ?_
  refine AllReadyH.cons (o := _) rfl (fun K hK => ?_) AllReadyH.nil
  have HQ7 := hid (HQ0.out.on BX3.out)
  have HG7 := hid (row_on HG0.out BX3.out)
  have HN7 := hid (row_on HN0.out BX3.out)
  obtain ⟨a0, a1, a2, a3, a4, a5, a6⟩ := row7 HQ7.out.t
  have z0 := row_frz HQ7.out.t 0
  have z1 := row_frz HQ7.out.t 1
  have z2 := row_frz HQ7.out.t 2
  have z3 := row_frz HQ7.out.t 3
  have z4 := row_frz HQ7.out.t 4
  have z5 := row_frz HQ7.out.t 5
  have h6 := set6 (.int .i64 d7.cap) (.int .i64 d7.meet) (.slice d7.p1 d7.o1.length d7.c1) (.slice d7.p2 d7.o2.length d7.c2) (.int .u64 d7.high) (.int .u64 d7.seq) HQ7.out.t
  have HS8 := hid (HQ7.out.kp h6.2 h6.1)
  have HG8 := hid (h6.2.row HG7.out (by omega))
  have HN8 := hid (h6.2.row HN7.out (by omega))
  have HK8 := hid h6.2
  clear h6
  go_simp
  refine hK.out _ _ ?_ (fun hHeld => ?_)
  ·(try dsimp only); exact row7 HG8.out
  clear hK K a0 a1 a2 a3 a4 a5 a6 z0 z1 z2 z3 z4 z5
  try simp only [List.getElem_toArray, List.getElem_cons_succ, List.getElem_cons_zero, Act.put, List.setIfInBounds_toArray, List.set_cons_zero, List.set_cons_succ]
  refine wpAnyH_done (by kernel_rfl) ?_ _
  obtain ⟨W8, hW8⟩ : ∃ X, ((((((X3.setCell ⟨g, 0, none⟩ (.int .i64 d7.cap)).setCell ⟨g, 1, none⟩ (.int .i64 d7.meet)).setCell ⟨g, 2, none⟩ (.slice d7.p1 d7.o1.length d7.c1)).setCell ⟨g, 3, none⟩ (.slice d7.p2 d7.o2.length d7.c2)).setCell ⟨g, 4, none⟩ (.int .u64 d7.high)).setCell ⟨g, 5, none⟩ (.int .u64 d7.seq)) = X := ⟨_, rfl⟩
  rw [hW8] at HS8 HK8 HG8 HN8 ⊢
  clear hW8 hHeld
  have HO8 := hid (show ∀ (base : Nat) (e : TypeId) (size m : Nat) (v : Value) (xs : List Value), X3.ownsRow base e size v m xs → e ≠ 74 → W8.ownsRow base e size v m xs from fun base e size m v xs hh n1 => own_same hh (fun j hj => by obtain ⟨cc, hc⟩ := own_ty hh hj; exact HK8.out.obj j (row_lt hc) (row_ne hc HQ7.out.t n1)))
  have HDX8 := hid (show Dm W8 d7 from by
   have hd7 := HD7.out
   subst hd7
   have hl9 := HL9.out
   have hr9 := own_on HR9.out HB7.out
   rw [← hl9] at hr9
   have hx := HDY.out.on BX3.out
   exact Dm.put (d := d5) ⟨HO8.out _ _ _ _ _ _ hx.r1 (by decide), HO8.out _ _ _ _ _ _ hx.r2 (by decide), hx.l1, hx.l2⟩ (HO8.out _ _ _ _ _ _ hr9 (by decide)) (Nat.le_trans (wo_len _ _) HLN.out))
  have HAL8 := hid (show Al w.heap.size d7 from by
   have hd7 := HD7.out
   have hd5 := HD5.out
   subst hd7
   subst hd5
   exact Al.put (d := d1.told) HAL.out (fun j hj => Nat.le_trans (HQ0.out.on BX1.out).be.size (HJ9.out j (ofp_own hj))))
  have HVX8 := hid (HO8.out _ _ _ _ _ _ (own_on HRY.out BX3.out) (by decide))
  have HDF8 := hid (show Dof d7 (b.del s i).told from by
   have hd7 := HD7.out
   have hd5 := HD5.out
   subst hd7
   subst hd5
   rw [HF.out.oid]
   have hx := dof_del (b := b.told) HD1.out.told' HVT.out HFT.out p9 c9
   rw [del_told] at hx
   exact hx)
  have HEQ8 := hid (show d5.seq = nx b.seq from by have hd5 := HD5.out; subst hd5; show nx d1.seq = _; rw [HD1.out.seq])
  have k2 : (c.kd == 2) = false := by simp [HKD.out]
  obtain ⟨c0, c1, c2, c3, c4, c5, c6, c7, c8⟩ := cmr_at HS8.out.c
  go_upto_region 21 with fail
  clear c0 c1 c2 c3 c4 c5 c6 c7 c8
  obtain ⟨V0, hV0⟩ : ∃ X, W8.drew = X := ⟨_, rfl⟩
  have HEV := hid (show Below W8.heap.size W8 V0 from by rw [← hV0]; exact bdrew1 _)
  have HSA := hid (HS8.out.on HEV.out)
  have HGA := hid (row_on HG8.out HEV.out)
  have HNA := hid (row_on HN8.out HEV.out)
  have HDA := hid (HDX8.out.on HEV.out)
  have HVA := hid (own_on HVX8.out HEV.out)
  refine wp_region_held_drew (S := (fun U => U.cell? ⟨gm, 0, none⟩ = some (.int .u64 o.id) ∧ U.cell? ⟨gm, 1, none⟩ = some (.int .u32 o.mb) ∧ U.cell? ⟨gm, 2, none⟩ = some (.int .i64 o.ty) ∧ U.cell? ⟨gm, 3, none⟩ = some (.int .i64 o.pr) ∧ U.cell? ⟨gm, 4, none⟩ = some (.int .u64 o.vi) ∧ U.cell? ⟨gm, 5, none⟩ = some (.int .u64 o.hi) ∧ U.cell? ⟨gm, 6, none⟩ = some (.int .u64 o.pk))) (by kernel_rfl) ?_ (fun hHeld => ?_)
  ·(try dsimp only); ((rw [hV0]; exact row7 HGA.out))
  rw [hV0] at hHeld ⊢
  clear hV0
  refine' wpAnyH_take (i := 0) (oi := _) (v := _) rfl (by kernel_rfl) (by kernel_rfl) (by kernel_rfl) (fun _ _ _ h => h) (Or.inl ⟨by kernel_rfl, ?_⟩) (by assumption) ?_
  rotate_left
  ·(intro w hSw; (try dsimp only at hSw); go_simp; try (with_reducible rfl))
  try simp only [List.getElem_toArray, List.getElem_cons_succ, List.getElem_cons_zero, Act.put, List.setIfInBounds_toArray, List.set_cons_zero, List.set_cons_succ]
  refine' wpAnyH_take (i := 1) (oi := _) (v := _) rfl (by kernel_rfl) (by kernel_rfl) (by kernel_rfl) (fun _ _ _ h => h) (Or.inl ⟨by kernel_rfl, ?_⟩) (by assumption) ?_
  rotate_left
  ·(intro w hSw; (try dsimp only at hSw); go_simp; try (with_reducible rfl))
  try simp only [List.getElem_toArray, List.getElem_cons_succ, List.getElem_cons_zero, Act.put, List.setIfInBounds_toArray, List.set_cons_zero, List.set_cons_succ]
  refine' wpAnyH_take (i := 2) (oi := _) (v := _) rfl (by kernel_rfl) (by kernel_rfl) (by kernel_rfl) (fun _ _ _ h => h) (Or.inl ⟨by kernel_rfl, ?_⟩) (by assumption) ?_
  rotate_left
  ·(intro w hSw; (try dsimp only at hSw); go_simp; try (with_reducible rfl))
  try simp only [List.getElem_toArray, List.getElem_cons_succ, List.getElem_cons_zero, Act.put, List.setIfInBounds_toArray, List.set_cons_zero, List.set_cons_succ]
  refine' wpAnyH_take (i := 3) (oi := _) (v := _) rfl (by kernel_rfl) (by kernel_rfl) (by kernel_rfl) (fun _ _ _ h => h) (Or.inl ⟨by kernel_rfl, ?_⟩) (by assumption) ?_
  rotate_left
  ·(intro w hSw; (try dsimp only at hSw); go_simp; try (with_reducible rfl))
  try simp only [List.getElem_toArray, List.getElem_cons_succ, List.getElem_cons_zero, Act.put, List.setIfInBounds_toArray, List.set_cons_zero, List.set_cons_succ]
  refine' wpAnyH_take (i := 4) (oi := _) (v := _) rfl (by kernel_rfl) (by kernel_rfl) (by kernel_rfl) (fun _ _ _ h => h) (Or.inl ⟨by kernel_rfl, ?_⟩) (by assumption) ?_
  rotate_left
  ·(intro w hSw; (try dsimp only at hSw); go_simp; try (with_reducible rfl))
  try simp only [List.getElem_toArray, List.getElem_cons_succ, List.getElem_cons_zero, Act.put, List.setIfInBounds_toArray, List.set_cons_zero, List.set_cons_succ]
  refine' wpAnyH_take (i := 5) (oi := _) (v := _) rfl (by kernel_rfl) (by kernel_rfl) (by kernel_rfl) (fun _ _ _ h => h) (Or.inl ⟨by kernel_rfl, ?_⟩) (by assumption) ?_
  rotate_left
  ·(intro w hSw; (try dsimp only at hSw); go_simp; try (with_reducible rfl))
  try simp only [List.getElem_toArray, List.getElem_cons_succ, List.getElem_cons_zero, Act.put, List.setIfInBounds_toArray, List.set_cons_zero, List.set_cons_succ]
  refine wpAnyH_ready (rs := [6]) (by kernel_rfl) (by simp) ?_
  refine AllReadyH.cons (o := _) rfl (fun K hK => ?_) AllReadyH.nil
  have fz := row_frz HNA.out 3
  obtain ⟨n0, n1, n2, n3, n4, n5, n6⟩ := row7 HNA.out
  have k9 := Kp.set V0 gn 3 (.int .u32 o.mb)
  have HSB := hid (HSA.out.far k9 (by omega))
  have HGB := hid (k9.row HGA.out (by omega))
  have HNB := hid (show (V0.setCell ⟨gn, 3, none⟩ (.int .u32 o.mb)).heap[gn]? = some (.cells #[.int .u64 c.id, .int .u64 c.qt, .int .u64 c.pk, .int .u32 o.mb, .int .i64 c.sd, .int .i64 c.ty, .int .i64 c.pr] 78 (0, 0)) from set_row (k := 3) (.int .u32 o.mb) HNA.out)
  have HDBx := hid (HDA.out.set' (k := 3) (v := .int .u32 o.mb) HNA.out (by decide))
  have HVB := hid (own_set (k := 3) (v := .int .u32 o.mb) HVA.out HNA.out (by decide))
  go_simp
  refine hK.out _ _ ?_ (fun hHeld => ?_)
  ·(try dsimp only); exact row7 HGB.out
  clear hK K k9 fz n0 n1 n2 n3 n4 n5 n6
  try simp only [List.getElem_toArray, List.getElem_cons_succ, List.getElem_cons_zero, Act.put, List.setIfInBounds_toArray, List.set_cons_zero, List.set_cons_succ]
  obtain ⟨V1, hV1⟩ : ∃ X, V0.setCell ⟨gn, 3, none⟩ (.int .u32 o.mb) = X := ⟨_, rfl⟩
  rw [hV1] at HSB HGB HNB HDBx HVB hHeld ⊢
  clear hV1
  refine' wpAnyH_take (i := 7) (oi := _) (v := _) rfl (by kernel_rfl) (by kernel_rfl) (by kernel_rfl) (fun _ _ _ h => h) (Or.inl ⟨by kernel_rfl, ?_⟩) (by assumption) ?_
  rotate_left
  ·(intro w hSw; (try dsimp only at hSw); go_simp; try (with_reducible rfl))
  try simp only [List.getElem_toArray, List.getElem_cons_succ, List.getElem_cons_zero, Act.put, List.setIfInBounds_toArray, List.set_cons_zero, List.set_cons_succ]
  refine wpAnyH_ready (rs := [8]) (by kernel_rfl) (by simp) ?_
  refine AllReadyH.cons (o := _) rfl (fun K hK => ?_) AllReadyH.nil
  have fz := row_frz HNB.out 4
  obtain ⟨n0, n1, n2, n3, n4, n5, n6⟩ := row7 HNB.out
  have k9 := Kp.set V1 gn 4 (.int .i64 s)
  have HSC := hid (HSB.out.far k9 (by omega))
  have HGC := hid (k9.row HGB.out (by omega))
  have HNC := hid (show (V1.setCell ⟨gn, 4, none⟩ (.int .i64 s)).heap[gn]? = some (.cells #[.int .u64 c.id, .int .u64 c.qt, .int .u64 c.pk, .int .u32 o.mb, .int .i64 s, .int .i64 c.ty, .int .i64 c.pr] 78 (0, 0)) from set_row (k := 4) (.int .i64 s) HNB.out)
  have HDCx := hid (HDBx.out.set' (k := 4) (v := .int .i64 s) HNB.out (by decide))
  have HVC := hid (own_set (k := 4) (v := .int .i64 s) HVB.out HNB.out (by decide))
  go_simp
  refine hK.out _ _ ?_ (fun hHeld => ?_)
  ·(try dsimp only); exact row7 HGC.out
  clear hK K k9 fz n0 n1 n2 n3 n4 n5 n6
  try simp only [List.getElem_toArray, List.getElem_cons_succ, List.getElem_cons_zero, Act.put, List.setIfInBounds_toArray, List.set_cons_zero, List.set_cons_succ]
  obtain ⟨V2, hV2⟩ : ∃ X, V1.setCell ⟨gn, 4, none⟩ (.int .i64 s) = X := ⟨_, rfl⟩
  rw [hV2] at HSC HGC HNC HDCx HVC hHeld ⊢
  clear hV2
  refine' wpAnyH_take (i := 9) (oi := _) (v := _) rfl (by kernel_rfl) (by kernel_rfl) (by kernel_rfl) (fun _ _ _ h => h) (Or.inl ⟨by kernel_rfl, ?_⟩) (by assumption) ?_
  rotate_left
  ·(intro w hSw; (try dsimp only at hSw); go_simp; try (with_reducible rfl))
  try simp only [List.getElem_toArray, List.getElem_cons_succ, List.getElem_cons_zero, Act.put, List.setIfInBounds_toArray, List.set_cons_zero, List.set_cons_succ]
  refine wpAnyH_ready (rs := [10]) (by kernel_rfl) (by simp) ?_
  refine AllReadyH.cons (o := _) rfl (fun K hK => ?_) AllReadyH.nil
  have fz := row_frz HNC.out 5
  obtain ⟨n0, n1, n2, n3, n4, n5, n6⟩ := row7 HNC.out
  have k9 := Kp.set V2 gn 5 (.int .i64 o.ty)
  have HSD := hid (HSC.out.far k9 (by omega))
  have HGD := hid (k9.row HGC.out (by omega))
  have HND := hid (show (V2.setCell ⟨gn, 5, none⟩ (.int .i64 o.ty)).heap[gn]? = some (.cells #[.int .u64 c.id, .int .u64 c.qt, .int .u64 c.pk, .int .u32 o.mb, .int .i64 s, .int .i64 o.ty, .int .i64 c.pr] 78 (0, 0)) from set_row (k := 5) (.int .i64 o.ty) HNC.out)
  have HDDx := hid (HDCx.out.set' (k := 5) (v := .int .i64 o.ty) HNC.out (by decide))
  have HVD := hid (own_set (k := 5) (v := .int .i64 o.ty) HVC.out HNC.out (by decide))
  go_simp
  refine hK.out _ _ ?_ (fun hHeld => ?_)
  ·(try dsimp only); exact row7 HGD.out
  clear hK K k9 fz n0 n1 n2 n3 n4 n5 n6
  try simp only [List.getElem_toArray, List.getElem_cons_succ, List.getElem_cons_zero, Act.put, List.setIfInBounds_toArray, List.set_cons_zero, List.set_cons_succ]
  refine wpAnyH_done (by kernel_rfl) ?_ _
  obtain ⟨V3, hV3⟩ : ∃ X, V2.setCell ⟨gn, 5, none⟩ (.int .i64 o.ty) = X := ⟨_, rfl⟩
  rw [hV3] at HSD HGD HND HDDx HVD ⊢
  clear hV3 hHeld
  go_upto_region 22 with fail
  have CT6 := hid (wtell d7 p5 (0 + 1) c5 ([] ++ [(evC o.id (o.vi + o.hi) 2).num (nx d1.seq)]) (evA (⟨c.id, o.mb, o.ty, c.pr, 0, 0, c.pk⟩ : Or) s c.qt) (by rfl) (by omega) V3 HVD.out)
  unfold ecs evA at CT6
  simp only at CT6
  obtain ⟨a0, a1, a2, a3, a4, a5, a6⟩ := row7 HSD.out.t
  obtain ⟨n0, n1, n2, n3, n4, n5, n6⟩ := row7 HND.out
  go_upto_region 23 with (first | (go_at_call 30; with_reducible refine (CT6.out).mono ?_; rintro e w6 ⟨p6, c6, d6, rfl, HD6, HV6, HB6⟩; have AI6 := hid (i74 (.int .i64 d6.cap) (.int .i64 d6.meet) (.slice d6.p1 d6.o1.length d6.c1) (.slice d6.p2 d6.o2.length d6.c2) (.int .u64 d6.high) (.int .u64 d6.seq) (.slice p6 ((0 + 1) + 1) c6)); have AS6 := hid (s7 (.int .i64 d7.cap) (.int .i64 d7.meet) (.slice d7.p1 d7.o1.length d7.c1) (.slice d7.p2 d7.o2.length d7.c2) (.int .u64 d7.high) (.int .u64 d7.seq) (.slice p5 (0 + 1) c5) (.int .i64 d6.cap) (.int .i64 d6.meet) (.slice d6.p1 d6.o1.length d6.c1) (.slice d6.p2 d6.o2.length d6.c2) (.int .u64 d6.high) (.int .u64 d6.seq) (.slice p6 ((0 + 1) + 1) c6)); have AA6 := hid (show (#[.int .i64 d6.cap, .int .i64 d6.meet, .slice d6.p1 d6.o1.length d6.c1, .slice d6.p2 d6.o2.length d6.c2, .int .u64 d6.high, .int .u64 d6.seq, .slice p6 ((0 + 1) + 1) c6] : Array Value).all (·.oneCell') = true from allT _ _ _ _); have HS6 := hid (HSD.out.on HB6.out)) | (refine wpList_store_row (by rfl) 74 (.tmp 6) (.tmp 126) (by rfl) g #[.int .i64 d6.cap, .int .i64 d6.meet, .slice d6.p1 d6.o1.length d6.c1, .slice d6.p2 d6.o2.length d6.c2, .int .u64 d6.high, .int .u64 d6.seq, .slice p6 ((0 + 1) + 1) c6] (by rfl) (by rfl) 74 _ HS6.out.t AI6.out AS6.out AA6.out ?_))
  clear a0 a1 a2 a3 a4 a5 a6 n0 n1 n2 n3 n4 n5 n6
  have HS6T := hid (HS6.out.setT #[.int .i64 d6.cap, .int .i64 d6.meet, .slice d6.p1 d6.o1.length d6.c1, .slice d6.p2 d6.o2.length d6.c2, .int .u64 d6.high, .int .u64 d6.seq, .slice p6 ((0 + 1) + 1) c6])
  have HD6T := hid ((HDDx.out.on HB6.out).setRow' (cs' := #[.int .i64 d6.cap, .int .i64 d6.meet, .slice d6.p1 d6.o1.length d6.c1, .slice d6.p2 d6.o2.length d6.c2, .int .u64 d6.high, .int .u64 d6.seq, .slice p6 ((0 + 1) + 1) c6]) HS6.out.t (by decide))
  have HV6T := hid (own_setRow (cs' := #[.int .i64 d6.cap, .int .i64 d6.meet, .slice d6.p1 d6.o1.length d6.c1, .slice d6.p2 d6.o2.length d6.c2, .int .u64 d6.high, .int .u64 d6.seq, .slice p6 ((0 + 1) + 1) c6]) HV6.out HS6.out.t (by decide))
  have HN6 := hid ((setRow_kp w6 g #[.int .i64 d6.cap, .int .i64 d6.meet, .slice d6.p1 d6.o1.length d6.c1, .slice d6.p2 d6.o2.length d6.c2, .int .u64 d6.high, .int .u64 d6.seq, .slice p6 ((0 + 1) + 1) c6]).row (row_on HND.out HB6.out) (by omega))
  obtain ⟨W6, hW6⟩ : ∃ X, w6.setRow g #[.int .i64 d6.cap, .int .i64 d6.meet, .slice d6.p1 d6.o1.length d6.c1, .slice d6.p2 d6.o2.length d6.c2, .int .u64 d6.high, .int .u64 d6.seq, .slice p6 ((0 + 1) + 1) c6] = X := ⟨_, rfl⟩
  rw [hW6] at HS6T HD6T HV6T HN6 ⊢
  clear hW6
  obtain ⟨n0, n1, n2, n3, n4, n5, n6⟩ := row7 HN6.out
  have fz := row_frz HS6T.out.t 4
  obtain ⟨a0, a1, a2, a3, a4, a5, a6⟩ := row7 HS6T.out.t
  go_upto_region 24 with fail
  clear a0 a1 a2 a3 a4 a5 a6 n0 n1 n2 n3 n4 n5 n6 fz
  obtain ⟨d9, HD9⟩ : ∃ d9, Hid (d9 = d6.hgh c.id) := ⟨_, hid rfl⟩
  have HS9 := hid (show D5 w (W6.setCell ⟨g, 4, none⟩ (.int .u64 c.id)) R g #[.int .i64 d.cap, .int .i64 d.meet, .slice d.p1 d.o1.length d.c1, .slice d.p2 d.o2.length d.c2, .int .u64 d.high, .int .u64 d.seq] #[.int .i64 c.kd, .int .u64 c.id, .int .u64 c.tg, .int .u32 c.mb, .int .i64 c.sd, .int .i64 c.ty, .int .i64 c.pr, .int .u64 c.qt, .int .u64 c.pk] #[.int .i64 0, .int .i64 0, .slice none 0 0, .slice none 0 0, .int .u64 0, .int .u64 0] #[.int .i64 d9.cap, .int .i64 d9.meet, .slice d9.p1 d9.o1.length d9.c1, .slice d9.p2 d9.o2.length d9.c2, .int .u64 d9.high, .int .u64 d9.seq, .slice p6 ((0 + 1) + 1) c6] from by have := HD9.out; subst this; exact HS6T.out.putT 4 (.int .u64 c.id))
  have HD9T := hid (show Dm (W6.setCell ⟨g, 4, none⟩ (.int .u64 c.id)) d9 from by have h6 := HD6.out; have := HD9.out; subst this; subst h6; have hx := HD6T.out.set' (k := 4) (v := .int .u64 c.id) HS6T.out.t (by decide); exact ⟨hx.r1, hx.r2, hx.l1, hx.l2⟩)
  have HV9T := hid (own_set (k := 4) (v := .int .u64 c.id) HV6T.out HS6T.out.t (by decide))
  have HN9 := hid ((Kp.set W6 g 4 (.int .u64 c.id)).row HN6.out (by omega))
  obtain ⟨W9, hW9⟩ : ∃ X, W6.setCell ⟨g, 4, none⟩ (.int .u64 c.id) = X := ⟨_, rfl⟩
  rw [hW9] at HS9 HD9T HV9T HN9 ⊢
  clear hW9
  have HDF9 := hid (show Dof d9 ((b.del s i).told.hgh c.id).told from by have h6 := HD6.out; have := HD9.out; subst this; subst h6; exact ⟨HDF8.out.cap, HDF8.out.meet, HDF8.out.o1, HDF8.out.o2, rfl, by show nx d7.seq = _; rw [HDF8.out.seq]; rfl⟩)
  have HAL9 := hid (show Al w.heap.size d9 from by have h6 := HD6.out; have := HD9.out; subst this; subst h6; exact HAL8.out)
  have HLE := hid (show (([] ++ [(evC o.id (o.vi + o.hi) 2).num (nx d1.seq)]) ++ [(evA (⟨c.id, o.mb, o.ty, c.pr, 0, 0, c.pk⟩ : Or) s c.qt).num (nx d7.seq)]).length + 2 * mes ((b.del s i).told.hgh c.id).told s c.qt ≤ 17179869180 from by have h1 := HCY.out.le; have h2 : (([] ++ [(evC o.id (o.vi + o.hi) 2).num (nx d1.seq)]) ++ [(evA (⟨c.id, o.mb, o.ty, c.pr, 0, 0, c.pk⟩ : Or) s c.qt).num (nx d7.seq)]).length ≤ 2 := (by simp); omega)
  have HAL9 := hid (show Al w.heap.size d9 from by have h6 := HD6.out; have := HD9.out; subst this; subst h6; exact HAL8.out)
  have CCM := hid (dcomes_any ((b.del s i).told.hgh c.id).told d9 (⟨c.id, o.mb, o.ty, c.pr, 0, 0, c.pk⟩ : Or) s c.qt p6 ((0 + 1) + 1) c6 (([] ++ [(evC o.id (o.vi + o.hi) 2).num (nx d1.seq)]) ++ [(evA (⟨c.id, o.mb, o.ty, c.pr, 0, 0, c.pk⟩ : Or) s c.qt).num (nx d7.seq)]) W9 HCY.out.hs HDF9.out HD9T.out HCY.out.vb HCY.out.pk HCY.out.q0 HCY.out.q1 HCY.out.mt (by rfl) HV9T.out HLE.out HCY.out.ln HCK.out.pk0)
  simp only at CCM
  obtain ⟨a0, a1, a2, a3, a4, a5, a6⟩ := row7 HS9.out.t
  obtain ⟨n0, n1, n2, n3, n4, n5, n6⟩ := row7 HN9.out
  go_upto_region 25 with (first | (go_at_call 35; with_reducible refine (CCM.out).mono ?_; rintro e w8 ⟨d8, p8, n8, c8, es8, rfl, ⟨hd8, hn8⟩, hl8, hv8, hb8, hk8⟩; have HN8w := hid hn8; have HD8 := hid hd8; have HL8 := hid hl8; have HV8 := hid hv8; have HB8 := hid hb8; have HK8 := hid hk8; clear hd8 hn8 hl8 hv8 hb8 hk8; have AI8 := hid (i74 (.int .i64 d8.cap) (.int .i64 d8.meet) (.slice d8.p1 d8.o1.length d8.c1) (.slice d8.p2 d8.o2.length d8.c2) (.int .u64 d8.high) (.int .u64 d8.seq) (.slice p8 n8 c8)); have AS8 := hid (s7 (.int .i64 d9.cap) (.int .i64 d9.meet) (.slice d9.p1 d9.o1.length d9.c1) (.slice d9.p2 d9.o2.length d9.c2) (.int .u64 d9.high) (.int .u64 d9.seq) (.slice p6 ((0 + 1) + 1) c6) (.int .i64 d8.cap) (.int .i64 d8.meet) (.slice d8.p1 d8.o1.length d8.c1) (.slice d8.p2 d8.o2.length d8.c2) (.int .u64 d8.high) (.int .u64 d8.seq) (.slice p8 n8 c8)); have AA8 := hid (show (#[.int .i64 d8.cap, .int .i64 d8.meet, .slice d8.p1 d8.o1.length d8.c1, .slice d8.p2 d8.o2.length d8.c2, .int .u64 d8.high, .int .u64 d8.seq, .slice p8 n8 c8] : Array Value).all (·.oneCell') = true from allT _ _ _ _); have HS8 := hid (HS9.out.on HB8.out)) | (refine wpList_store_row (by rfl) 74 (.tmp 6) (.tmp 133) (by rfl) g #[.int .i64 d8.cap, .int .i64 d8.meet, .slice d8.p1 d8.o1.length d8.c1, .slice d8.p2 d8.o2.length d8.c2, .int .u64 d8.high, .int .u64 d8.seq, .slice p8 n8 c8] (by rfl) (by rfl) 74 _ HS8.out.t AI8.out AS8.out AA8.out ?_))
  clear a0 a1 a2 a3 a4 a5 a6 n0 n1 n2 n3 n4 n5 n6
  have HS8T := hid (HS8.out.setT #[.int .i64 d8.cap, .int .i64 d8.meet, .slice d8.p1 d8.o1.length d8.c1, .slice d8.p2 d8.o2.length d8.c2, .int .u64 d8.high, .int .u64 d8.seq, .slice p8 n8 c8])
  have HD8T := hid (HD8.out.setRow' (cs' := #[.int .i64 d8.cap, .int .i64 d8.meet, .slice d8.p1 d8.o1.length d8.c1, .slice d8.p2 d8.o2.length d8.c2, .int .u64 d8.high, .int .u64 d8.seq, .slice p8 n8 c8]) HS8.out.t (by decide))
  have HV8T := hid (own_setRow (cs' := #[.int .i64 d8.cap, .int .i64 d8.meet, .slice d8.p1 d8.o1.length d8.c1, .slice d8.p2 d8.o2.length d8.c2, .int .u64 d8.high, .int .u64 d8.seq, .slice p8 n8 c8]) HV8.out HS8.out.t (by decide))
  obtain ⟨W10, hW10⟩ : ∃ X, w8.setRow g #[.int .i64 d8.cap, .int .i64 d8.meet, .slice d8.p1 d8.o1.length d8.c1, .slice d8.p2 d8.o2.length d8.c2, .int .u64 d8.high, .int .u64 d8.seq, .slice p8 n8 c8] = X := ⟨_, rfl⟩
  rw [hW10] at HS8T HD8T HV8T ⊢
  clear hW10
  obtain ⟨V, hV⟩ : ∃ X, W10.drew = X := ⟨_, rfl⟩
  have HKV := hid (show Below W10.heap.size W10 V from by rw [← hV]; exact bdrew1 _)
  have HSV := hid (HS8T.out.on HKV.out)
  refine wp_region_held_drew (S := (fun U => U.cell? ⟨g, 0, none⟩ = some (.int .i64 d8.cap) ∧ U.cell? ⟨g, 1, none⟩ = some (.int .i64 d8.meet) ∧ U.cell? ⟨g, 2, none⟩ = some (.slice d8.p1 d8.o1.length d8.c1) ∧ U.cell? ⟨g, 3, none⟩ = some (.slice d8.p2 d8.o2.length d8.c2) ∧ U.cell? ⟨g, 4, none⟩ = some (.int .u64 d8.high) ∧ U.cell? ⟨g, 5, none⟩ = some (.int .u64 d8.seq) ∧ U.cell? ⟨g, 6, none⟩ = some (.slice p8 n8 c8))) (by kernel_rfl) ?_ (fun hHeld => ?_)
  ·(try dsimp only); ((rw [hV]; exact row7 HSV.out.t))
  rw [hV] at hHeld ⊢
  clear hV
  refine' wpAnyH_take (i := 0) (oi := _) (v := _) rfl (by kernel_rfl) (by kernel_rfl) (by kernel_rfl) (fun _ _ _ h => h) (Or.inl ⟨by kernel_rfl, ?_⟩) (by assumption) ?_
  rotate_left
  ·(intro w hSw; (try dsimp only at hSw); go_simp; try (with_reducible rfl))
  try simp only [List.getElem_toArray, List.getElem_cons_succ, List.getElem_cons_zero, Act.put, List.setIfInBounds_toArray, List.set_cons_zero, List.set_cons_succ]
  refine' wpAnyH_take (i := 1) (oi := _) (v := _) rfl (by kernel_rfl) (by kernel_rfl) (by kernel_rfl) (fun _ _ _ h => h) (Or.inl ⟨by kernel_rfl, ?_⟩) (by assumption) ?_
  rotate_left
  ·(intro w hSw; (try dsimp only at hSw); go_simp; try (with_reducible rfl))
  try simp only [List.getElem_toArray, List.getElem_cons_succ, List.getElem_cons_zero, Act.put, List.setIfInBounds_toArray, List.set_cons_zero, List.set_cons_succ]
  refine' wpAnyH_take (i := 2) (oi := _) (v := _) rfl (by kernel_rfl) (by kernel_rfl) (by kernel_rfl) (fun _ _ _ h => h) (Or.inl ⟨by kernel_rfl, ?_⟩) (by assumption) ?_
  rotate_left
  ·(intro w hSw; (try dsimp only at hSw); go_simp; try (with_reducible rfl))
  try simp only [List.getElem_toArray, List.getElem_cons_succ, List.getElem_cons_zero, Act.put, List.setIfInBounds_toArray, List.set_cons_zero, List.set_cons_succ]
  refine' wpAnyH_take (i := 3) (oi := _) (v := _) rfl (by kernel_rfl) (by kernel_rfl) (by kernel_rfl) (fun _ _ _ h => h) (Or.inl ⟨by kernel_rfl, ?_⟩) (by assumption) ?_
  rotate_left
  ·(intro w hSw; (try dsimp only at hSw); go_simp; try (with_reducible rfl))
  try simp only [List.getElem_toArray, List.getElem_cons_succ, List.getElem_cons_zero, Act.put, List.setIfInBounds_toArray, List.set_cons_zero, List.set_cons_succ]
  have AIE := hid (i32 (.int .i64 d8.cap) (.int .i64 d8.meet) (.slice d8.p1 d8.o1.length d8.c1) (.slice d8.p2 d8.o2.length d8.c2) (.int .u64 d8.high) (.int .u64 d8.seq))
  have ASE := hid (s6 (.int .i64 0) (.int .i64 0) (.slice none 0 0) (.slice none 0 0) (.int .u64 0) (.int .u64 0) (.int .i64 d8.cap) (.int .i64 d8.meet) (.slice d8.p1 d8.o1.length d8.c1) (.slice d8.p2 d8.o2.length d8.c2) (.int .u64 d8.high) (.int .u64 d8.seq))
  have AAE := hid (allB d8)
  refine wpAnyH_ready (rs := [4]) (by kernel_rfl) (by simp) ?_
  refine AllReadyH.cons (o := _) rfl (fun K hK => ?_) AllReadyH.nil
  refine step_store_row (by rfl) 32 (.tmp 4) (.tmp 135) (by rfl) (R + 1 + 1) #[.int .i64 d8.cap, .int .i64 d8.meet, .slice d8.p1 d8.o1.length d8.c1, .slice d8.p2 d8.o2.length d8.c2, .int .u64 d8.high, .int .u64 d8.seq] (by rfl) (by rfl) 32 _ HSV.out.z AIE.out ASE.out AAE.out ?_
  have HSX := hid (HSV.out.setZ #[.int .i64 d8.cap, .int .i64 d8.meet, .slice d8.p1 d8.o1.length d8.c1, .slice d8.p2 d8.o2.length d8.c2, .int .u64 d8.high, .int .u64 d8.seq])
  have HDX := hid ((HD8T.out.on HKV.out).setRow' (cs' := #[.int .i64 d8.cap, .int .i64 d8.meet, .slice d8.p1 d8.o1.length d8.c1, .slice d8.p2 d8.o2.length d8.c2, .int .u64 d8.high, .int .u64 d8.seq]) HSV.out.z (by decide))
  have HVX := hid (own_setRow (cs' := #[.int .i64 d8.cap, .int .i64 d8.meet, .slice d8.p1 d8.o1.length d8.c1, .slice d8.p2 d8.o2.length d8.c2, .int .u64 d8.high, .int .u64 d8.seq]) (own_on HV8T.out HKV.out) HSV.out.z (by decide))
  refine hK.out _ _ ?_ (fun hHeld => ?_)
  ·(try dsimp only); exact row7 HSX.out.t
  clear hK K
  try simp only [List.getElem_toArray, List.getElem_cons_succ, List.getElem_cons_zero, Act.put, List.setIfInBounds_toArray, List.set_cons_zero, List.set_cons_succ]
  obtain ⟨X1, hX1⟩ : ∃ X, V.setRow (R + 1 + 1) #[.int .i64 d8.cap, .int .i64 d8.meet, .slice d8.p1 d8.o1.length d8.c1, .slice d8.p2 d8.o2.length d8.c2, .int .u64 d8.high, .int .u64 d8.seq] = X := ⟨_, rfl⟩
  rw [hX1] at HSX HDX HVX hHeld ⊢
  clear hX1
  refine' wpAnyH_take (i := 5) (oi := _) (v := _) rfl (by kernel_rfl) (by kernel_rfl) (by kernel_rfl) (fun _ _ _ h => h) (Or.inl ⟨by kernel_rfl, ?_⟩) (by assumption) ?_
  rotate_left
  ·(intro w hSw; (try dsimp only at hSw); go_simp; try (with_reducible rfl))
  try simp only [List.getElem_toArray, List.getElem_cons_succ, List.getElem_cons_zero, Act.put, List.setIfInBounds_toArray, List.set_cons_zero, List.set_cons_succ]
  refine wpAnyH_done (by kernel_rfl) ?_ _
  clear hHeld
  go_wp2
  refine bodyPost_ret (res_ct Try.results11 _ _ (R + 1 + 1) 32 #[.int .i64 d8.cap, .int .i64 d8.meet, .slice d8.p1 d8.o1.length d8.c1, .slice d8.p2 d8.o2.length d8.c2, .int .u64 d8.high, .int .u64 d8.seq] (0, 0) _ _ (by rfl) (by rfl) HSX.out.z Try.underlying32 rfl info32) rfl ?_
  refine ⟨d8, p8, n8, c8, es8, rfl, ⟨HDX.out, HAL9.out.nw HN8w.out HS9.out.be.size⟩, HL8.out, HVX.out, HSX.out.be, fun b' es' hh => HK8.out b' es' ?_⟩
  have ht := took_tk (did_rep hh HYZ.out HKD.out HF.out)
  rw [← HDF8.out.seq, ← HD1.out.seq] at ht
  exact ht
end Go.Proofs.Ytalgndgoedlpoaa
