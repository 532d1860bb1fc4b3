/-
  RuSg
-/
import Derived.Test.YtalgndgoedlpoaaRuSf
namespace Go.Proofs.Ytalgndgoedlpoaa
open Go.RowKit Go.Deep Go.Shelf
set_option linter.unusedVariables false
set_option linter.unusedSimpArgs false
set_option maxHeartbeats 8000000
set_option maxRecDepth 100000
attribute [local go_sem ↓] Go.wp_at_zero Go.wp_at_succ
/-- no order without a peak hides anything. -/
def Pq (b : Bs) : Prop := ∀ S, S = 1 ∨ S = 2 → ∀ y ∈ b.sl S, y.2.pk = 0 → y.2.hi = 0
theorem row13 {w : World} {g : Nat} {t : TypeId} {a0 a1 a2 a3 a4 a5 a6 a7 a8 a9 a10 a11 a12 : Value} (h : w.heap[g]? = some (.cells #[a0, a1, a2, a3, a4, a5, a6, a7, a8, a9, a10, a11, a12] t (0, 0))) : w.cell? ⟨g, 0, none⟩ = some a0 ∧ w.cell? ⟨g, 1, none⟩ = some a1 ∧ w.cell? ⟨g, 2, none⟩ = some a2 ∧ w.cell? ⟨g, 3, none⟩ = some a3 ∧ w.cell? ⟨g, 4, none⟩ = some a4 ∧ w.cell? ⟨g, 5, none⟩ = some a5 ∧ w.cell? ⟨g, 6, none⟩ = some a6 ∧ w.cell? ⟨g, 7, none⟩ = some a7 ∧ w.cell? ⟨g, 8, none⟩ = some a8 ∧ w.cell? ⟨g, 9, none⟩ = some a9 ∧ w.cell? ⟨g, 10, none⟩ = some a10 ∧ w.cell? ⟨g, 11, none⟩ = some a11 ∧ w.cell? ⟨g, 12, none⟩ = some a12 :=
 ⟨row_cell h 0, row_cell h 1, row_cell h 2, row_cell h 3, row_cell h 4, row_cell h 5, row_cell h 6, row_cell h 7, row_cell h 8, row_cell h 9, row_cell h 10, row_cell h 11, row_cell h 12⟩
theorem ddo_ref (d : Db) (b : Bs) (c : Cm) (w : World) (hd : Dof d b) (h : Dm w d) (hgb : Gb b) (hpk : Pq b) (hm : 0 ≤ b.meet ∧ b.meet ≤ 3) (hc : CmOk c) (hyn : rfs b c ≠ 0) :
  Calls Try.prog 11 #[.agg #[.int .i64 d.cap, .int .i64 d.meet, .slice d.p1 d.o1.length d.c1, .slice d.p2 d.o2.length d.c2, .int .u64 d.high, .int .u64 d.seq], .agg #[.int .i64 c.kd, .int .u64 c.id, .int .u64 c.tg, .int .u32 c.mb, .int .i64 c.sd, .int .i64 c.ty, .int .i64 c.pr, .int .u64 c.qt, .int .u64 c.pk]] w fun e w' => ∃ d2 p2 n2 c2 es2, e = .returned (.tuple #[.agg #[.int .i64 d2.cap, .int .i64 d2.meet, .slice d2.p1 d2.o1.length d2.c1, .slice d2.p2 d2.o2.length d2.c2, .int .u64 d2.high, .int .u64 d2.seq], .slice p2 n2 c2]) ∧ (Dm w' d2 ∧ Al w.heap.size d2) ∧ es2.length = n2 ∧ Rv w' (.slice p2 n2 c2) es2 ∧ Below w.heap.size w w' ∧ ∀ b' es', Did b c b' es' → Dof d2 b' ∧ es2 = es' := by
 have CCP := hid (fun (U : World) (hU : Below w.heap.size w U) => wcopy d b U hd (h.on hU))
 have CRF := hid (fun (U : World) (hU : Below w.heap.size w U) => drefused_any d b c U hd (h.on hU) hc)
 unfold Db.row cmr at CRF
 have HDM := hid h
 have HDF := hid hd
 have HGB := hid hgb
 have HPK := hid hpk
 have HMT := hid hm
 have HCK := hid hc
 have HYN := hid hyn
 obtain ⟨y, hy⟩ : ∃ y, rfs b c = y := ⟨_, rfl⟩
 have HY := hid hy
 rw [hy] at CRF
 obtain ⟨R, hR⟩ : ∃ R, w.heap.size = R := ⟨_, rfl⟩
 obtain ⟨U0, hU0⟩ : ∃ U, w.alloc (.cells #[.int .i64 d.cap, .int .i64 d.meet, .slice d.p1 d.o1.length d.c1, .slice d.p2 d.o2.length d.c2, .int .u64 d.high, .int .u64 d.seq] 32) = U := ⟨_, rfl⟩
 obtain ⟨U1, hU1⟩ : ∃ U, U0.alloc (.cells #[.int .i64 c.kd, .int .u64 c.id, .int .u64 c.tg, .int .u32 c.mb, .int .i64 c.sd, .int .i64 c.ty, .int .i64 c.pr, .int .u64 c.qt, .int .u64 c.pk] 39) = U := ⟨_, rfl⟩
 obtain ⟨W, hW⟩ : ∃ U, U1.alloc (.cells #[.int .i64 0, .int .i64 0, .slice none 0 0, .slice none 0 0, .int .u64 0, .int .u64 0] 32) = U := ⟨_, rfl⟩
 have s0 : U0.heap.size = R + 1 := by rw [← hU0, ← hR]; simp
 have s1 : U1.heap.size = R + 1 + 1 := by rw [← hU1]; simp [s0]
 have b0 : Below w.heap.size w U0 := by rw [← hU0]; exact ball _ _
 have b1 : Below U0.heap.size U0 U1 := by rw [← hU1]; exact ball _ _
 have b2 : Below U1.heap.size U1 W := by rw [← hW]; exact ball _ _
 have HBW := hid (btr (btr b0 b1) b2)
 have HA := hid (show W.heap[R]? = some (.cells #[.int .i64 d.cap, .int .i64 d.meet, .slice d.p1 d.o1.length d.c1, .slice d.p2 d.o2.length d.c2, .int .u64 d.high, .int .u64 d.seq] 32 (0, 0)) from row_on (row_on (by rw [← hU0, ← hR]; exact World.alloc_heap_new _ _) b1) b2)
 have HB := hid (show W.heap[R + 1]? = some (.cells #[.int .i64 c.kd, .int .u64 c.id, .int .u64 c.tg, .int .u32 c.mb, .int .i64 c.sd, .int .i64 c.ty, .int .i64 c.pr, .int .u64 c.qt, .int .u64 c.pk] 39 (0, 0)) from row_on (by rw [← hU1, ← s0]; exact World.alloc_heap_new _ _) b2)
 have HZ := hid (show W.heap[R + 1 + 1]? = some (.cells #[.int .i64 0, .int .i64 0, .slice none 0 0, .slice none 0 0, .int .u64 0, .int .u64 0] 32 (0, 0)) from by rw [← hW, ← s1]; exact World.alloc_heap_new _ _)
 have HU0 := hid hU0
 have HU1 := hid hU1
 have HW := hid hW
 have HRR := hid hR
 clear hR hU0 hU1 hW s0 s1 b0 b1 b2 h hd hgb hpk hm hc hy hyn
 go_enter Try.func11, Try.ntmps11
 go_upto_region 1 with fail
 rw [HU0.out, HU1.out, HW.out, HRR.out]
 obtain ⟨a0, a1, a2, a3, a4, a5⟩ := row6 HA.out
 go_upto_region 2 with (go_at_call 28; with_reducible refine (CCP.out _ HBW.out).mono ?_; rintro e w1 ⟨d1, rfl, HD1, HM1, HB1, HL1⟩)
 clear a0 a1 a2 a3 a4 a5
 obtain ⟨g, hg⟩ : ∃ g, w1.heap.size = g := ⟨_, rfl⟩
 obtain ⟨M, hM⟩ : ∃ X, w1.alloc (.cells #[.int .i64 d1.cap, .int .i64 d1.meet, .slice d1.p1 d1.o1.length d1.c1, .slice d1.p2 d1.o2.length d1.c2, .int .u64 d1.high, .int .u64 d1.seq, .slice none 0 0] 74) = X := ⟨_, rfl⟩
 have bM : Below w1.heap.size w1 M := by rw [← hM]; exact ball _ _
 have HS := hid (show D5 w M R g #[.int .i64 d.cap, .int .i64 d.meet, .slice d.p1 d.o1.length d.c1, .slice d.p2 d.o2.length d.c2, .int .u64 d.high, .int .u64 d.seq] #[.int .i64 c.kd, .int .u64 c.id, .int .u64 c.tg, .int .u32 c.mb, .int .i64 c.sd, .int .i64 c.ty, .int .i64 c.pr, .int .u64 c.qt, .int .u64 c.pk] #[.int .i64 0, .int .i64 0, .slice none 0 0, .slice none 0 0, .int .u64 0, .int .u64 0] #[.int .i64 d1.cap, .int .i64 d1.meet, .slice d1.p1 d1.o1.length d1.c1, .slice d1.p2 d1.o2.length d1.c2, .int .u64 d1.high, .int .u64 d1.seq, .slice none 0 0] from ⟨btr (btr HBW.out HB1.out) bM, row_on (row_on HA.out HB1.out) bM, row_on (row_on HB.out HB1.out) bM, row_on (row_on HZ.out HB1.out) bM, by rw [← hM, ← hg]; exact World.alloc_heap_new _ _, HRR.out, by rw [← hg]; exact row_lt (row_on HZ.out HB1.out)⟩)
 have HM := hid (HM1.out.on bM)
 rw [hM, hg]
 clear hM hg bM
 obtain ⟨a0, a1, a2, a3, a4, a5⟩ := row6 HS.out.b
 obtain ⟨c0, c1, c2, c3, c4, c5, c6, c7, c8⟩ := cmr_at HS.out.c
 go_upto_region 3 with (go_at_call 29; with_reducible refine (CRF.out _ HS.out.be).mono ?_; rintro e w2 ⟨rfl, hb2⟩; have HB2 := hid hb2; clear hb2)
 clear a0 a1 a2 a3 a4 a5 c0 c1 c2 c3 c4 c5 c6 c7 c8
 have HS2 := hid (HS.out.on HB2.out)
 have HM2 := hid (HM.out.on HB2.out)
 have HAL := hid (HL1.out.mono HBW.out.size)
 have y0 : (y != 0) = true := by have := HYN.out; rw [HY.out] at this; simpa using this
 rcases (show c.kd = 2 ∨ c.kd = 1 ∨ (c.kd ≠ 2 ∧ c.kd ≠ 1) from by omega) with hk | hk | hk
 focus
  have k2 : (c.kd == 2) = true := by simp [hk]
  have k1 : (c.kd == 1) = false := by simp [hk]
  have HKD := hid hk
  clear hk
  obtain ⟨c0, c1, c2, c3, c4, c5, c6, c7, c8⟩ := cmr_at HS2.out.c
  have hgl : R + 1 < w2.heap.size := row_lt HS2.out.c
  have HN0 := hid (World.alloc_heap_new w2 (.cells #[.int .u64 0, .int .i64 2, .int .u64 c.id, .int .u64 0, .int .u64 c.tg, .int .u32 0, .int .i64 0, .int .i64 0, .int .i64 0, .int .u64 0, .int .u64 0, .int .i64 0, .int .i64 y] 58))
  have fz := row_frz HN0.out 2
  go_upto_region 9 with fail
  have hb : Below w2.heap.size w2 (w2.alloc (.cells #[.int .u64 0, .int .i64 2, .int .u64 0, .int .u64 0, .int .u64 c.tg, .int .u32 0, .int .i64 0, .int .i64 0, .int .i64 0, .int .u64 0, .int .u64 0, .int .i64 0, .int .i64 y] 58)) := ball _ _
  obtain ⟨iv, tw, HEV, HG⟩ : ∃ iv tw, Hid (evR c y = ⟨0, 2, iv, 0, tw, 0, 0, 0, 0, 0, 0, 0, y⟩) ∧ Hid ((w2.alloc (.cells #[.int .u64 0, .int .i64 2, .int .u64 0, .int .u64 0, .int .u64 c.tg, .int .u32 0, .int .i64 0, .int .i64 0, .int .i64 0, .int .u64 0, .int .u64 0, .int .i64 0, .int .i64 y] 58)).heap[w2.heap.size]? = some (.cells #[.int .u64 0, .int .i64 2, .int .u64 iv, .int .u64 0, .int .u64 tw, .int .u32 0, .int .i64 0, .int .i64 0, .int .i64 0, .int .u64 0, .int .u64 0, .int .i64 0, .int .i64 y] 58 (0, 0))) := ⟨0, c.tg, hid (by unfold evR; simp [HKD.out]), hid (World.alloc_heap_new _ _)⟩
  obtain ⟨E, hE⟩ : ∃ X, (w2.alloc (.cells #[.int .u64 0, .int .i64 2, .int .u64 0, .int .u64 0, .int .u64 c.tg, .int .u32 0, .int .i64 0, .int .i64 0, .int .i64 0, .int .u64 0, .int .u64 0, .int .i64 0, .int .i64 y] 58)) = X := ⟨_, rfl⟩
  rw [hE] at hb HG ⊢
  clear hE fz c0 c1 c2 c3 c4 c5 c6 c7 c8 k1 k2 hgl HKD HN0
 rotate_left
 focus
  have k2 : (c.kd == 2) = false := by simp [hk]
  have k1 : (c.kd == 1) = true := by simp [hk]
  have HKD := hid hk
  clear hk
  obtain ⟨c0, c1, c2, c3, c4, c5, c6, c7, c8⟩ := cmr_at HS2.out.c
  have hgl : R + 1 < w2.heap.size := row_lt HS2.out.c
  have HN0 := hid (World.alloc_heap_new w2 (.cells #[.int .u64 0, .int .i64 2, .int .u64 c.id, .int .u64 0, .int .u64 c.tg, .int .u32 0, .int .i64 0, .int .i64 0, .int .i64 0, .int .u64 0, .int .u64 0, .int .i64 0, .int .i64 y] 58))
  have fz := row_frz HN0.out 4
  go_upto_region 9 with fail
  have hb : Below w2.heap.size w2 (w2.alloc (.cells #[.int .u64 0, .int .i64 2, .int .u64 c.id, .int .u64 0, .int .u64 0, .int .u32 0, .int .i64 0, .int .i64 0, .int .i64 0, .int .u64 0, .int .u64 0, .int .i64 0, .int .i64 y] 58)) := ball _ _
  obtain ⟨iv, tw, HEV, HG⟩ : ∃ iv tw, Hid (evR c y = ⟨0, 2, iv, 0, tw, 0, 0, 0, 0, 0, 0, 0, y⟩) ∧ Hid ((w2.alloc (.cells #[.int .u64 0, .int .i64 2, .int .u64 c.id, .int .u64 0, .int .u64 0, .int .u32 0, .int .i64 0, .int .i64 0, .int .i64 0, .int .u64 0, .int .u64 0, .int .i64 0, .int .i64 y] 58)).heap[w2.heap.size]? = some (.cells #[.int .u64 0, .int .i64 2, .int .u64 iv, .int .u64 0, .int .u64 tw, .int .u32 0, .int .i64 0, .int .i64 0, .int .i64 0, .int .u64 0, .int .u64 0, .int .i64 0, .int .i64 y] 58 (0, 0))) := ⟨c.id, 0, hid (by unfold evR; simp [HKD.out]), hid (World.alloc_heap_new _ _)⟩
  obtain ⟨E, hE⟩ : ∃ X, (w2.alloc (.cells #[.int .u64 0, .int .i64 2, .int .u64 c.id, .int .u64 0, .int .u64 0, .int .u32 0, .int .i64 0, .int .i64 0, .int .i64 0, .int .u64 0, .int .u64 0, .int .i64 0, .int .i64 y] 58)) = X := ⟨_, rfl⟩
  rw [hE] at hb HG ⊢
  clear hE fz c0 c1 c2 c3 c4 c5 c6 c7 c8 k1 k2 hgl HKD HN0
 rotate_left
 focus
  have k2 : (c.kd == 2) = false := by simp [hk.1, hk.2]
  have k1 : (c.kd == 1) = false := by simp [hk.1, hk.2]
  have HKD := hid hk
  clear hk
  obtain ⟨c0, c1, c2, c3, c4, c5, c6, c7, c8⟩ := cmr_at HS2.out.c
  have hgl : R + 1 < w2.heap.size := row_lt HS2.out.c
  have HN0 := hid (World.alloc_heap_new w2 (.cells #[.int .u64 0, .int .i64 2, .int .u64 c.id, .int .u64 0, .int .u64 c.tg, .int .u32 0, .int .i64 0, .int .i64 0, .int .i64 0, .int .u64 0, .int .u64 0, .int .i64 0, .int .i64 y] 58))
  have fz := row_frz HN0.out 0
  go_upto_region 9 with fail
  have hb : Below w2.heap.size w2 (w2.alloc (.cells #[.int .u64 0, .int .i64 2, .int .u64 c.id, .int .u64 0, .int .u64 c.tg, .int .u32 0, .int .i64 0, .int .i64 0, .int .i64 0, .int .u64 0, .int .u64 0, .int .i64 0, .int .i64 y] 58)) := ball _ _
  obtain ⟨iv, tw, HEV, HG⟩ : ∃ iv tw, Hid (evR c y = ⟨0, 2, iv, 0, tw, 0, 0, 0, 0, 0, 0, 0, y⟩) ∧ Hid ((w2.alloc (.cells #[.int .u64 0, .int .i64 2, .int .u64 c.id, .int .u64 0, .int .u64 c.tg, .int .u32 0, .int .i64 0, .int .i64 0, .int .i64 0, .int .u64 0, .int .u64 0, .int .i64 0, .int .i64 y] 58)).heap[w2.heap.size]? = some (.cells #[.int .u64 0, .int .i64 2, .int .u64 iv, .int .u64 0, .int .u64 tw, .int .u32 0, .int .i64 0, .int .i64 0, .int .i64 0, .int .u64 0, .int .u64 0, .int .i64 0, .int .i64 y] 58 (0, 0))) := ⟨c.id, c.tg, hid (by unfold evR; simp [HKD.out]), hid (World.alloc_heap_new _ _)⟩
  obtain ⟨E, hE⟩ : ∃ X, (w2.alloc (.cells #[.int .u64 0, .int .i64 2, .int .u64 c.id, .int .u64 0, .int .u64 c.tg, .int .u32 0, .int .i64 0, .int .i64 0, .int .i64 0, .int .u64 0, .int .u64 0, .int .i64 0, .int .i64 y] 58)) = X := ⟨_, rfl⟩
  rw [hE] at hb HG ⊢
  clear hE fz c0 c1 c2 c3 c4 c5 c6 c7 c8 k1 k2 hgl HKD HN0
 rotate_left
 all_goals
  have HSE := hid (HS2.out.on hb)
  have HME := hid (HM2.out.on hb)
  clear hb
  obtain ⟨ge, hge⟩ : ∃ g, w2.heap.size = g := ⟨_, rfl⟩
  rw [hge] at HG ⊢
  clear hge
  have CT3 := hid (wtell d1 none 0 0 [] (evR c y) rfl (by omega) E (rv_none E))
  rw [HEV.out] at CT3
  unfold ecs at CT3
  simp only at CT3
  obtain ⟨a0, a1, a2, a3, a4, a5, a6⟩ := row7 HSE.out.t
  obtain ⟨e0, e1, e2, e3, e4, e5, e6, e7, e8, e9, e10, e11, e12⟩ := row13 HG.out
  go_upto_region 10 with (first | (go_at_call 30; with_reducible refine (CT3.out).mono ?_; rintro e w3 ⟨p3, c3, d3, rfl, HD3, HV3, HB3⟩; have AI3 := hid (i74 (.int .i64 d3.cap) (.int .i64 d3.meet) (.slice d3.p1 d3.o1.length d3.c1) (.slice d3.p2 d3.o2.length d3.c2) (.int .u64 d3.high) (.int .u64 d3.seq) (.slice p3 (0 + 1) c3)); have AS3 := hid (s7 (.int .i64 d1.cap) (.int .i64 d1.meet) (.slice d1.p1 d1.o1.length d1.c1) (.slice d1.p2 d1.o2.length d1.c2) (.int .u64 d1.high) (.int .u64 d1.seq) (.slice none 0 0) (.int .i64 d3.cap) (.int .i64 d3.meet) (.slice d3.p1 d3.o1.length d3.c1) (.slice d3.p2 d3.o2.length d3.c2) (.int .u64 d3.high) (.int .u64 d3.seq) (.slice p3 (0 + 1) c3)); have AA3 := hid (show (#[.int .i64 d3.cap, .int .i64 d3.meet, .slice d3.p1 d3.o1.length d3.c1, .slice d3.p2 d3.o2.length d3.c2, .int .u64 d3.high, .int .u64 d3.seq, .slice p3 (0 + 1) c3] : Array Value).all (·.oneCell') = true from allT _ _ _ _); have HS3 := hid (HSE.out.on HB3.out)) | (refine wpList_store_row (by rfl) 74 (.tmp 6) (.tmp 38) (by rfl) g #[.int .i64 d3.cap, .int .i64 d3.meet, .slice d3.p1 d3.o1.length d3.c1, .slice d3.p2 d3.o2.length d3.c2, .int .u64 d3.high, .int .u64 d3.seq, .slice p3 (0 + 1) c3] (by rfl) (by rfl) 74 _ HS3.out.t AI3.out AS3.out AA3.out ?_))
  clear a0 a1 a2 a3 a4 a5 a6 e0 e1 e2 e3 e4 e5 e6 e7 e8 e9 e10 e11 e12
  have HS3T := hid (HS3.out.setT #[.int .i64 d3.cap, .int .i64 d3.meet, .slice d3.p1 d3.o1.length d3.c1, .slice d3.p2 d3.o2.length d3.c2, .int .u64 d3.high, .int .u64 d3.seq, .slice p3 (0 + 1) c3])
  have HD3T := hid ((HME.out.on HB3.out).setRow' (cs' := #[.int .i64 d3.cap, .int .i64 d3.meet, .slice d3.p1 d3.o1.length d3.c1, .slice d3.p2 d3.o2.length d3.c2, .int .u64 d3.high, .int .u64 d3.seq, .slice p3 (0 + 1) c3]) HS3.out.t (by decide))
  have HV3T := hid (own_setRow (cs' := #[.int .i64 d3.cap, .int .i64 d3.meet, .slice d3.p1 d3.o1.length d3.c1, .slice d3.p2 d3.o2.length d3.c2, .int .u64 d3.high, .int .u64 d3.seq, .slice p3 (0 + 1) c3]) HV3.out HS3.out.t (by decide))
  obtain ⟨W3, hW3⟩ : ∃ X, w3.setRow g #[.int .i64 d3.cap, .int .i64 d3.meet, .slice d3.p1 d3.o1.length d3.c1, .slice d3.p2 d3.o2.length d3.c2, .int .u64 d3.high, .int .u64 d3.seq, .slice p3 (0 + 1) c3] = X := ⟨_, rfl⟩
  rw [hW3] at HS3T HD3T HV3T ⊢
  clear hW3
  obtain ⟨V, hV⟩ : ∃ X, W3.drew = X := ⟨_, rfl⟩
  have HKV := hid (show Below W3.heap.size W3 V from by rw [← hV]; exact bdrew1 _)
  have HSV := hid (HS3T.out.on HKV.out)
  refine wp_region_held_drew (S := (fun U => U.cell? ⟨g, 0, none⟩ = some (.int .i64 d3.cap) ∧ U.cell? ⟨g, 1, none⟩ = some (.int .i64 d3.meet) ∧ U.cell? ⟨g, 2, none⟩ = some (.slice d3.p1 d3.o1.length d3.c1) ∧ U.cell? ⟨g, 3, none⟩ = some (.slice d3.p2 d3.o2.length d3.c2) ∧ U.cell? ⟨g, 4, none⟩ = some (.int .u64 d3.high) ∧ U.cell? ⟨g, 5, none⟩ = some (.int .u64 d3.seq) ∧ U.cell? ⟨g, 6, none⟩ = some (.slice p3 (0 + 1) c3))) (by kernel_rfl) ?_ (fun hHeld => ?_)
  ·(try dsimp only); ((rw [hV]; exact row7 HSV.out.t))
  rw [hV] at hHeld ⊢
  clear hV
  refine' wpAnyH_take (i := 0) (oi := _) (v := _) rfl (by kernel_rfl) (by kernel_rfl) (by kernel_rfl) (fun _ _ _ h => h) (Or.inl ⟨by kernel_rfl, ?_⟩) (by assumption) ?_
  rotate_left
  ·(intro w hSw; (try dsimp only at hSw); go_simp; try (with_reducible rfl))
  try simp only [List.getElem_toArray, List.getElem_cons_succ, List.getElem_cons_zero, Act.put, List.setIfInBounds_toArray, List.set_cons_zero, List.set_cons_succ]
  refine' wpAnyH_take (i := 1) (oi := _) (v := _) rfl (by kernel_rfl) (by kernel_rfl) (by kernel_rfl) (fun _ _ _ h => h) (Or.inl ⟨by kernel_rfl, ?_⟩) (by assumption) ?_
  rotate_left
  ·(intro w hSw; (try dsimp only at hSw); go_simp; try (with_reducible rfl))
  try simp only [List.getElem_toArray, List.getElem_cons_succ, List.getElem_cons_zero, Act.put, List.setIfInBounds_toArray, List.set_cons_zero, List.set_cons_succ]
  refine' wpAnyH_take (i := 2) (oi := _) (v := _) rfl (by kernel_rfl) (by kernel_rfl) (by kernel_rfl) (fun _ _ _ h => h) (Or.inl ⟨by kernel_rfl, ?_⟩) (by assumption) ?_
  rotate_left
  ·(intro w hSw; (try dsimp only at hSw); go_simp; try (with_reducible rfl))
  try simp only [List.getElem_toArray, List.getElem_cons_succ, List.getElem_cons_zero, Act.put, List.setIfInBounds_toArray, List.set_cons_zero, List.set_cons_succ]
  refine' wpAnyH_take (i := 3) (oi := _) (v := _) rfl (by kernel_rfl) (by kernel_rfl) (by kernel_rfl) (fun _ _ _ h => h) (Or.inl ⟨by kernel_rfl, ?_⟩) (by assumption) ?_
  rotate_left
  ·(intro w hSw; (try dsimp only at hSw); go_simp; try (with_reducible rfl))
  try simp only [List.getElem_toArray, List.getElem_cons_succ, List.getElem_cons_zero, Act.put, List.setIfInBounds_toArray, List.set_cons_zero, List.set_cons_succ]
  have AIE := hid (i32 (.int .i64 d3.cap) (.int .i64 d3.meet) (.slice d3.p1 d3.o1.length d3.c1) (.slice d3.p2 d3.o2.length d3.c2) (.int .u64 d3.high) (.int .u64 d3.seq))
  have ASE := hid (s6 (.int .i64 0) (.int .i64 0) (.slice none 0 0) (.slice none 0 0) (.int .u64 0) (.int .u64 0) (.int .i64 d3.cap) (.int .i64 d3.meet) (.slice d3.p1 d3.o1.length d3.c1) (.slice d3.p2 d3.o2.length d3.c2) (.int .u64 d3.high) (.int .u64 d3.seq))
  have AAE := hid (allB d3)
  refine wpAnyH_ready (rs := [4]) (by kernel_rfl) (by simp) ?_
  refine AllReadyH.cons (o := _) rfl (fun K hK => ?_) AllReadyH.nil
  refine step_store_row (by rfl) 32 (.tmp 4) (.tmp 40) (by rfl) (R + 1 + 1) #[.int .i64 d3.cap, .int .i64 d3.meet, .slice d3.p1 d3.o1.length d3.c1, .slice d3.p2 d3.o2.length d3.c2, .int .u64 d3.high, .int .u64 d3.seq] (by rfl) (by rfl) 32 _ HSV.out.z AIE.out ASE.out AAE.out ?_
  have HSX := hid (HSV.out.setZ #[.int .i64 d3.cap, .int .i64 d3.meet, .slice d3.p1 d3.o1.length d3.c1, .slice d3.p2 d3.o2.length d3.c2, .int .u64 d3.high, .int .u64 d3.seq])
  have HDX := hid (((show Dm W3 d3 from by have := HD3.out; subst this; exact HD3T.out.told').on HKV.out).setRow' (cs' := #[.int .i64 d3.cap, .int .i64 d3.meet, .slice d3.p1 d3.o1.length d3.c1, .slice d3.p2 d3.o2.length d3.c2, .int .u64 d3.high, .int .u64 d3.seq]) HSV.out.z (by decide))
  have HVX := hid (own_setRow (cs' := #[.int .i64 d3.cap, .int .i64 d3.meet, .slice d3.p1 d3.o1.length d3.c1, .slice d3.p2 d3.o2.length d3.c2, .int .u64 d3.high, .int .u64 d3.seq]) (own_on HV3T.out HKV.out) HSV.out.z (by decide))
  refine hK.out _ _ ?_ (fun hHeld => ?_)
  ·(try dsimp only); exact row7 HSX.out.t
  clear hK K
  try simp only [List.getElem_toArray, List.getElem_cons_succ, List.getElem_cons_zero, Act.put, List.setIfInBounds_toArray, List.set_cons_zero, List.set_cons_succ]
  obtain ⟨X1, hX1⟩ : ∃ X, V.setRow (R + 1 + 1) #[.int .i64 d3.cap, .int .i64 d3.meet, .slice d3.p1 d3.o1.length d3.c1, .slice d3.p2 d3.o2.length d3.c2, .int .u64 d3.high, .int .u64 d3.seq] = X := ⟨_, rfl⟩
  rw [hX1] at HSX HDX HVX hHeld ⊢
  clear hX1
  refine' wpAnyH_take (i := 5) (oi := _) (v := _) rfl (by kernel_rfl) (by kernel_rfl) (by kernel_rfl) (fun _ _ _ h => h) (Or.inl ⟨by kernel_rfl, ?_⟩) (by assumption) ?_
  rotate_left
  ·(intro w hSw; (try dsimp only at hSw); go_simp; try (with_reducible rfl))
  try simp only [List.getElem_toArray, List.getElem_cons_succ, List.getElem_cons_zero, Act.put, List.setIfInBounds_toArray, List.set_cons_zero, List.set_cons_succ]
  refine wpAnyH_done (by kernel_rfl) ?_ _
  clear hHeld
  go_wp2
  refine bodyPost_ret (res_ct Try.results11 _ _ (R + 1 + 1) 32 #[.int .i64 d3.cap, .int .i64 d3.meet, .slice d3.p1 d3.o1.length d3.c1, .slice d3.p2 d3.o2.length d3.c2, .int .u64 d3.high, .int .u64 d3.seq] (0, 0) _ _ (by rfl) (by rfl) HSX.out.z Try.underlying32 rfl info32) rfl ?_
  have hd3 := HD3.out
  subst hd3
  refine ⟨d1.told, p3, 0 + 1, c3, ([] ++ [(⟨0, 2, iv, 0, tw, 0, 0, 0, 0, 0, 0, 0, y⟩ : Ev).num (nx d1.seq)]), rfl, ⟨HDX.out, HAL.out⟩, ?_, ?_, HSX.out.be, fun b' es' hh => ?_⟩
  ·rfl
  ·exact HVX.out
  ·obtain ⟨e1, e2⟩ := did_ref hh HYN.out
   subst e1
   rw [HY.out, HEV.out, ← HD1.out.seq] at e2
   exact ⟨HD1.out.told', e2.symm⟩
end Go.Proofs.Ytalgndgoedlpoaa
