/-
  RuSe RuSi
-/
import Derived.Test.YtalgndgoedlpoaaRuSc
import Derived.Test.YtalgndgoedlpoaaRuSf
import Derived.Test.YtalgndgoedlpoaaRuSg
namespace Go.Proofs.Ytalgndgoedlpoaa
section
open Go.RowKit Go.Deep Go.Shelf
set_option linter.unusedVariables false
set_option linter.unusedSimpArgs false
set_option maxHeartbeats 8000000
set_option maxRecDepth 100000
attribute [local go_sem ↓] Go.wp_at_zero Go.wp_at_succ
theorem dcomes_any (b : Bs) (d : Db) (o : Or) (s q : Int) (p : Option Addr) (n c : Nat) (es : List Ev) (w : World) (hs : s = 1 ∨ s = 2) (hd : Dof d b) (h : Dm w d) (hvb : Vb b) (hpk : Pk b) (hq0 : 0 ≤ q) (hq1 : q < 4294967296) (hm : 0 ≤ b.meet ∧ b.meet ≤ 3) (he : es.length = n) (hv : Rv w (.slice p n c) es) (hle : es.length + 2 * mes b s q ≤ 17179869180) (hln : rst o.ty = true → lns b + 1 ≤ 1048576) (hop : 0 ≤ o.pk) :
  Calls Try.prog 35 #[.agg #[.int .i64 d.cap, .int .i64 d.meet, .slice d.p1 d.o1.length d.c1, .slice d.p2 d.o2.length d.c2, .int .u64 d.high, .int .u64 d.seq, .slice p n c], .agg #[.int .u64 o.id, .int .u64 q, .int .u64 o.pk, .int .u32 o.mb, .int .i64 s, .int .i64 o.ty, .int .i64 o.pr]] w fun e w' => ∃ d2 p2 n2 c2 es2, e = .returned (.agg #[.int .i64 d2.cap, .int .i64 d2.meet, .slice d2.p1 d2.o1.length d2.c1, .slice d2.p2 d2.o2.length d2.c2, .int .u64 d2.high, .int .u64 d2.seq, .slice p2 n2 c2]) ∧ (Dm w' d2 ∧ Nwl w.heap.size d d2) ∧ es2.length = n2 ∧ Rv w' (.slice p2 n2 c2) es2 ∧ Below w.heap.size w w' ∧ ∀ b' es', Tk b es o s q b' es' → Dof d2 b' ∧ es2 = es' := by
 by_cases h4 : o.ty = 4
 ·exact dcomes_4 b d o s q p n c es w hs hd h hvb hpk hq0 hq1 hm he hv hle hln hop h4
 by_cases h1 : o.ty = 1
 ·exact dcomes_15 b d o s q p n c es w hs hd h hvb hpk hq0 hq1 hm he hv hle hln hop (.inl h1)
 by_cases h5 : o.ty = 5
 ·exact dcomes_15 b d o s q p n c es w hs hd h hvb hpk hq0 hq1 hm he hv hle hln hop (.inr h5)
 exact dcomes_o b d o s q p n c es w hs hd h hvb hpk hq0 hq1 hm he hv hle hln hop h4 h1 h5
end
section
open Go.RowKit Go.Deep Go.Shelf
set_option linter.unusedVariables false
set_option linter.unusedSimpArgs false
set_option maxHeartbeats 8000000
set_option maxRecDepth 100000
attribute [local go_sem ↓] Go.wp_at_zero Go.wp_at_succ
/-- what an order that comes asks of a book. -/
structure Cy (b : Bs) (ty s q : Int) : Prop where
 hs : s = 1 ∨ s = 2
 vb : Vb b
 pk : Pk b
 mt : 0 ≤ b.meet ∧ b.meet ≤ 3
 q0 : 0 ≤ q
 q1 : q < 4294967296
 ln : rst ty = true → lns b + 1 ≤ 1048576
 le : 2 + 2 * mes b s q ≤ 17179869180
theorem cy_of {b : Bs} {ty s q : Int} (hs : s = 1 ∨ s = 2) (vb : Vb b) (pk : Pk b) (mt : 0 ≤ b.meet ∧ b.meet ≤ 3) (q0 : 1 ≤ q) (q1 : q ≤ 4294967295) (ln : lns b ≤ 4096) : Cy b ty s q := by
 refine ⟨hs, vb, pk, mt, by omega, by omega, fun _ => by omega, ?_⟩
 have h1 : (b.sl (oth s)).length ≤ lns b := by unfold Bs.sl lns; split <;> omega
 unfold mes
 omega
theorem gb_lns {b : Bs} (g : Gb b) : lns b ≤ 4096 := by
 have h1 := g.len
 have h2 := g.cap
 omega
theorem cy_new {b : Bs} {c : Cm} (g : Gb b) (pk : Pk b) (mt : 0 ≤ b.meet ∧ b.meet ≤ 3) (hy : rfs b c = 0) (hk : c.kd = 1) : Cy (b.hgh c.id).told c.ty c.sd c.qt := by
 have h4 := gb_lns g
 rcases rfs_zero hy with ⟨k, _⟩ | ⟨_, hs, h1, h2⟩ | ⟨k, _⟩
 ·omega
 ·exact cy_of hs (g.vb.hgh c.id).told pk mt h1 h2 h4
 ·omega
theorem del_sl {b : Bs} {s : Int} (hs : s = 1 ∨ s = 2) (i : Nat) {S : Int} (hS : S = 1 ∨ S = 2) {y : Nat × Or} (hy : y ∈ (b.del s i).sl S) : y ∈ b.sl S := by
 unfold Bs.del at hy
 rcases hs with rfl | rfl <;> rcases hS with rfl | rfl
 ·exact List.mem_of_mem_eraseIdx hy
 ·exact hy
 ·exact hy
 ·exact List.mem_of_mem_eraseIdx hy
theorem del_lns {b : Bs} {s : Int} (hs : s = 1 ∨ s = 2) (i : Nat) : lns (b.del s i) ≤ lns b := by
 unfold lns Bs.del
 rcases hs with rfl | rfl
 ·have : (b.l1.eraseIdx i).length ≤ b.l1.length := List.length_eraseIdx_le _ _
  show (b.l1.eraseIdx i).length + b.l2.length ≤ _
  omega
 ·have : (b.l2.eraseIdx i).length ≤ b.l2.length := List.length_eraseIdx_le _ _
  show b.l1.length + (b.l2.eraseIdx i).length ≤ _
  omega
theorem del_meet {b : Bs} {s : Int} (i : Nat) : (b.del s i).meet = b.meet := by
 unfold Bs.del Bs.put
 split <;> rfl
theorem cy_rep {b : Bs} {c : Cm} (g : Gb b) (pk : Pk b) (mt : 0 ≤ b.meet ∧ b.meet ≤ 3) (hy : rfs b c = 0) (hk : c.kd = 3) {o : Or} {s : Int} {k i : Nat} (f : Fd b c.tg o s k i) (ty : Int) : Cy ((b.del s i).told.hgh c.id).told ty s c.qt := by
 have h4 := gb_lns g
 have h5 := del_lns (b := b) f.side i
 rcases rfs_zero hy with ⟨k, _⟩ | ⟨k, _⟩ | ⟨_, _, h1, h2⟩
 ·omega
 ·omega
 ·refine cy_of f.side ((g.vb.del f.side i).told.hgh c.id).told (fun S hS y hm hp => pk S hS y (del_sl f.side i hS hm) hp) ?_ h1 h2 (Nat.le_trans h5 h4)
  show 0 ≤ (b.del s i).meet ∧ (b.del s i).meet ≤ 3
  rw [del_meet]
  exact mt
theorem ddo_new (d : Db) (b : Bs) (c : Cm) (w : World) (hd : Dof d b) (h : Dm w d) (hgb : Gb b) (hpk : Pq b) (hm : 0 ≤ b.meet ∧ b.meet ≤ 3) (hc : CmOk c)  (hy0 : rfs b c = 0) (hkd : c.kd = 1) :
  Calls Try.prog 11 #[.agg #[.int .i64 d.cap, .int .i64 d.meet, .slice d.p1 d.o1.length d.c1, .slice d.p2 d.o2.length d.c2, .int .u64 d.high, .int .u64 d.seq], .agg #[.int .i64 c.kd, .int .u64 c.id, .int .u64 c.tg, .int .u32 c.mb, .int .i64 c.sd, .int .i64 c.ty, .int .i64 c.pr, .int .u64 c.qt, .int .u64 c.pk]] w fun e w' => ∃ d2 p2 n2 c2 es2, e = .returned (.tuple #[.agg #[.int .i64 d2.cap, .int .i64 d2.meet, .slice d2.p1 d2.o1.length d2.c1, .slice d2.p2 d2.o2.length d2.c2, .int .u64 d2.high, .int .u64 d2.seq], .slice p2 n2 c2]) ∧ (Dm w' d2 ∧ Al w.heap.size d2) ∧ es2.length = n2 ∧ Rv w' (.slice p2 n2 c2) es2 ∧ Below w.heap.size w w' ∧ ∀ b' es', Did b c b' es' → Dof d2 b' ∧ es2 = es' := by
 have CCP := hid (fun (U : World) (hU : Below w.heap.size w U) => wcopy d b U hd (h.on hU))
 have CRF := hid (fun (U : World) (hU : Below w.heap.size w U) => drefused_any d b c U hd (h.on hU) hc)
 unfold Db.row cmr at CRF
 have HDM := hid h
 have HDF := hid hd
 have HGB := hid hgb
 have HPK := hid hpk
 have HMT := hid hm
 have HCK := hid hc
 have HYZ := hid hy0
 have HKD := hid hkd
 obtain ⟨y, hy⟩ : ∃ y, rfs b c = y := ⟨_, rfl⟩
 have HY := hid hy
 rw [hy] at CRF
 obtain ⟨R, hR⟩ : ∃ R, w.heap.size = R := ⟨_, rfl⟩
 obtain ⟨U0, hU0⟩ : ∃ U, w.alloc (.cells #[.int .i64 d.cap, .int .i64 d.meet, .slice d.p1 d.o1.length d.c1, .slice d.p2 d.o2.length d.c2, .int .u64 d.high, .int .u64 d.seq] 32) = U := ⟨_, rfl⟩
 obtain ⟨U1, hU1⟩ : ∃ U, U0.alloc (.cells #[.int .i64 c.kd, .int .u64 c.id, .int .u64 c.tg, .int .u32 c.mb, .int .i64 c.sd, .int .i64 c.ty, .int .i64 c.pr, .int .u64 c.qt, .int .u64 c.pk] 39) = U := ⟨_, rfl⟩
 obtain ⟨W, hW⟩ : ∃ U, U1.alloc (.cells #[.int .i64 0, .int .i64 0, .slice none 0 0, .slice none 0 0, .int .u64 0, .int .u64 0] 32) = U := ⟨_, rfl⟩
 have s0 : U0.heap.size = R + 1 := by rw [← hU0, ← hR]; simp
 have s1 : U1.heap.size = R + 1 + 1 := by rw [← hU1]; simp [s0]
 have b0 : Below w.heap.size w U0 := by rw [← hU0]; exact ball _ _
 have b1 : Below U0.heap.size U0 U1 := by rw [← hU1]; exact ball _ _
 have b2 : Below U1.heap.size U1 W := by rw [← hW]; exact ball _ _
 have HBW := hid (btr (btr b0 b1) b2)
 have HA := hid (show W.heap[R]? = some (.cells #[.int .i64 d.cap, .int .i64 d.meet, .slice d.p1 d.o1.length d.c1, .slice d.p2 d.o2.length d.c2, .int .u64 d.high, .int .u64 d.seq] 32 (0, 0)) from row_on (row_on (by rw [← hU0, ← hR]; exact World.alloc_heap_new _ _) b1) b2)
 have HB := hid (show W.heap[R + 1]? = some (.cells #[.int .i64 c.kd, .int .u64 c.id, .int .u64 c.tg, .int .u32 c.mb, .int .i64 c.sd, .int .i64 c.ty, .int .i64 c.pr, .int .u64 c.qt, .int .u64 c.pk] 39 (0, 0)) from row_on (by rw [← hU1, ← s0]; exact World.alloc_heap_new _ _) b2)
 have HZ := hid (show W.heap[R + 1 + 1]? = some (.cells #[.int .i64 0, .int .i64 0, .slice none 0 0, .slice none 0 0, .int .u64 0, .int .u64 0] 32 (0, 0)) from by rw [← hW, ← s1]; exact World.alloc_heap_new _ _)
 have HU0 := hid hU0
 have HU1 := hid hU1
 have HW := hid hW
 have HRR := hid hR
 clear hR hU0 hU1 hW s0 s1 b0 b1 b2 h hd hgb hpk hm hc hy hy0 hkd
 go_enter Try.func11, Try.ntmps11
 go_upto_region 1 with fail
 rw [HU0.out, HU1.out, HW.out, HRR.out]
 obtain ⟨a0, a1, a2, a3, a4, a5⟩ := row6 HA.out
 go_upto_region 2 with (go_at_call 28; with_reducible refine (CCP.out _ HBW.out).mono ?_; rintro e w1 ⟨d1, rfl, HD1, HM1, HB1, HL1⟩)
 clear a0 a1 a2 a3 a4 a5
 obtain ⟨g, hg⟩ : ∃ g, w1.heap.size = g := ⟨_, rfl⟩
 obtain ⟨M, hM⟩ : ∃ X, w1.alloc (.cells #[.int .i64 d1.cap, .int .i64 d1.meet, .slice d1.p1 d1.o1.length d1.c1, .slice d1.p2 d1.o2.length d1.c2, .int .u64 d1.high, .int .u64 d1.seq, .slice none 0 0] 74) = X := ⟨_, rfl⟩
 have bM : Below w1.heap.size w1 M := by rw [← hM]; exact ball _ _
 have HS := hid (show D5 w M R g #[.int .i64 d.cap, .int .i64 d.meet, .slice d.p1 d.o1.length d.c1, .slice d.p2 d.o2.length d.c2, .int .u64 d.high, .int .u64 d.seq] #[.int .i64 c.kd, .int .u64 c.id, .int .u64 c.tg, .int .u32 c.mb, .int .i64 c.sd, .int .i64 c.ty, .int .i64 c.pr, .int .u64 c.qt, .int .u64 c.pk] #[.int .i64 0, .int .i64 0, .slice none 0 0, .slice none 0 0, .int .u64 0, .int .u64 0] #[.int .i64 d1.cap, .int .i64 d1.meet, .slice d1.p1 d1.o1.length d1.c1, .slice d1.p2 d1.o2.length d1.c2, .int .u64 d1.high, .int .u64 d1.seq, .slice none 0 0] from ⟨btr (btr HBW.out HB1.out) bM, row_on (row_on HA.out HB1.out) bM, row_on (row_on HB.out HB1.out) bM, row_on (row_on HZ.out HB1.out) bM, by rw [← hM, ← hg]; exact World.alloc_heap_new _ _, HRR.out, by rw [← hg]; exact row_lt (row_on HZ.out HB1.out)⟩)
 have HM := hid (HM1.out.on bM)
 rw [hM, hg]
 clear hM hg bM
 obtain ⟨a0, a1, a2, a3, a4, a5⟩ := row6 HS.out.b
 obtain ⟨c0, c1, c2, c3, c4, c5, c6, c7, c8⟩ := cmr_at HS.out.c
 go_upto_region 3 with (go_at_call 29; with_reducible refine (CRF.out _ HS.out.be).mono ?_; rintro e w2 ⟨rfl, hb2⟩; have HB2 := hid hb2; clear hb2)
 clear a0 a1 a2 a3 a4 a5 c0 c1 c2 c3 c4 c5 c6 c7 c8
 have HS2 := hid (HS.out.on HB2.out)
 have HM2 := hid (HM.out.on HB2.out)
 have HAL := hid (HL1.out.mono HBW.out.size)
 have y0 : (y != 0) = false := by have := HYZ.out; rw [HY.out] at this; simp [this]
 have kn1 : (c.kd != 1) = false := by simp [HKD.out]
 have HCY := hid (cy_new HGB.out HPK.out HMT.out HYZ.out HKD.out)
 obtain ⟨c0, c1, c2, c3, c4, c5, c6, c7, c8⟩ := cmr_at HS2.out.c
 have gN : g < w2.heap.size := row_lt HS2.out.t
 go_upto_region 12 with fail
 clear c0 c1 c2 c3 c4 c5 c6 c7 c8
 obtain ⟨gn, hgn⟩ : ∃ g, w2.heap.size = g := ⟨_, rfl⟩
 obtain ⟨N, hN⟩ : ∃ X, w2.alloc (.cells #[.int .u64 c.id, .int .u64 c.qt, .int .u64 c.pk, .int .u32 c.mb, .int .i64 c.sd, .int .i64 c.ty, .int .i64 c.pr] 78) = X := ⟨_, rfl⟩
 have bN : Below w2.heap.size w2 N := by rw [← hN]; exact ball _ _
 have HSN := hid (HS2.out.on bN)
 have HMN := hid (HM2.out.on bN)
 have HNN := hid (show N.heap[gn]? = some (.cells #[.int .u64 c.id, .int .u64 c.qt, .int .u64 c.pk, .int .u32 c.mb, .int .i64 c.sd, .int .i64 c.ty, .int .i64 c.pr] 78 (0, 0)) from by rw [← hN, ← hgn]; exact World.alloc_heap_new _ _)
 rw [hgn] at gN
 rw [hN, hgn]
 clear hN hgn bN
 obtain ⟨c0, c1, c2, c3, c4, c5, c6, c7, c8⟩ := cmr_at HSN.out.c
 go_upto_region 22 with fail
 clear c0 c1 c2 c3 c4 c5 c6 c7 c8
 have CT6 := hid (wtell d1 none 0 0 [] (evA (⟨c.id, c.mb, c.ty, c.pr, 0, 0, c.pk⟩ : Or) c.sd c.qt) (by rfl) (by omega) N (rv_none N))
 unfold ecs evA at CT6
 simp only at CT6
 obtain ⟨a0, a1, a2, a3, a4, a5, a6⟩ := row7 HSN.out.t
 obtain ⟨n0, n1, n2, n3, n4, n5, n6⟩ := row7 HNN.out
 go_upto_region 23 with (first | (go_at_call 30; with_reducible refine (CT6.out).mono ?_; rintro e w6 ⟨p6, c6, d6, rfl, HD6, HV6, HB6⟩; have AI6 := hid (i74 (.int .i64 d6.cap) (.int .i64 d6.meet) (.slice d6.p1 d6.o1.length d6.c1) (.slice d6.p2 d6.o2.length d6.c2) (.int .u64 d6.high) (.int .u64 d6.seq) (.slice p6 (0 + 1) c6)); have AS6 := hid (s7 (.int .i64 d1.cap) (.int .i64 d1.meet) (.slice d1.p1 d1.o1.length d1.c1) (.slice d1.p2 d1.o2.length d1.c2) (.int .u64 d1.high) (.int .u64 d1.seq) (.slice none 0 0) (.int .i64 d6.cap) (.int .i64 d6.meet) (.slice d6.p1 d6.o1.length d6.c1) (.slice d6.p2 d6.o2.length d6.c2) (.int .u64 d6.high) (.int .u64 d6.seq) (.slice p6 (0 + 1) c6)); have AA6 := hid (show (#[.int .i64 d6.cap, .int .i64 d6.meet, .slice d6.p1 d6.o1.length d6.c1, .slice d6.p2 d6.o2.length d6.c2, .int .u64 d6.high, .int .u64 d6.seq, .slice p6 (0 + 1) c6] : Array Value).all (·.oneCell') = true from allT _ _ _ _); have HS6 := hid (HSN.out.on HB6.out)) | (refine wpList_store_row (by rfl) 74 (.tmp 6) (.tmp 126) (by rfl) g #[.int .i64 d6.cap, .int .i64 d6.meet, .slice d6.p1 d6.o1.length d6.c1, .slice d6.p2 d6.o2.length d6.c2, .int .u64 d6.high, .int .u64 d6.seq, .slice p6 (0 + 1) c6] (by rfl) (by rfl) 74 _ HS6.out.t AI6.out AS6.out AA6.out ?_))
 clear a0 a1 a2 a3 a4 a5 a6 n0 n1 n2 n3 n4 n5 n6
 have HS6T := hid (HS6.out.setT #[.int .i64 d6.cap, .int .i64 d6.meet, .slice d6.p1 d6.o1.length d6.c1, .slice d6.p2 d6.o2.length d6.c2, .int .u64 d6.high, .int .u64 d6.seq, .slice p6 (0 + 1) c6])
 have HD6T := hid ((HMN.out.on HB6.out).setRow' (cs' := #[.int .i64 d6.cap, .int .i64 d6.meet, .slice d6.p1 d6.o1.length d6.c1, .slice d6.p2 d6.o2.length d6.c2, .int .u64 d6.high, .int .u64 d6.seq, .slice p6 (0 + 1) c6]) HS6.out.t (by decide))
 have HV6T := hid (own_setRow (cs' := #[.int .i64 d6.cap, .int .i64 d6.meet, .slice d6.p1 d6.o1.length d6.c1, .slice d6.p2 d6.o2.length d6.c2, .int .u64 d6.high, .int .u64 d6.seq, .slice p6 (0 + 1) c6]) HV6.out HS6.out.t (by decide))
 have HN6 := hid ((setRow_kp w6 g #[.int .i64 d6.cap, .int .i64 d6.meet, .slice d6.p1 d6.o1.length d6.c1, .slice d6.p2 d6.o2.length d6.c2, .int .u64 d6.high, .int .u64 d6.seq, .slice p6 (0 + 1) c6]).row (row_on HNN.out HB6.out) (by omega))
 obtain ⟨W6, hW6⟩ : ∃ X, w6.setRow g #[.int .i64 d6.cap, .int .i64 d6.meet, .slice d6.p1 d6.o1.length d6.c1, .slice d6.p2 d6.o2.length d6.c2, .int .u64 d6.high, .int .u64 d6.seq, .slice p6 (0 + 1) c6] = X := ⟨_, rfl⟩
 rw [hW6] at HS6T HD6T HV6T HN6 ⊢
 clear hW6
 obtain ⟨n0, n1, n2, n3, n4, n5, n6⟩ := row7 HN6.out
 have fz := row_frz HS6T.out.t 4
 obtain ⟨a0, a1, a2, a3, a4, a5, a6⟩ := row7 HS6T.out.t
 go_upto_region 24 with fail
 clear a0 a1 a2 a3 a4 a5 a6 n0 n1 n2 n3 n4 n5 n6 fz
 obtain ⟨d9, HD9⟩ : ∃ d9, Hid (d9 = d6.hgh c.id) := ⟨_, hid rfl⟩
 have HS9 := hid (show D5 w (W6.setCell ⟨g, 4, none⟩ (.int .u64 c.id)) R g #[.int .i64 d.cap, .int .i64 d.meet, .slice d.p1 d.o1.length d.c1, .slice d.p2 d.o2.length d.c2, .int .u64 d.high, .int .u64 d.seq] #[.int .i64 c.kd, .int .u64 c.id, .int .u64 c.tg, .int .u32 c.mb, .int .i64 c.sd, .int .i64 c.ty, .int .i64 c.pr, .int .u64 c.qt, .int .u64 c.pk] #[.int .i64 0, .int .i64 0, .slice none 0 0, .slice none 0 0, .int .u64 0, .int .u64 0] #[.int .i64 d9.cap, .int .i64 d9.meet, .slice d9.p1 d9.o1.length d9.c1, .slice d9.p2 d9.o2.length d9.c2, .int .u64 d9.high, .int .u64 d9.seq, .slice p6 (0 + 1) c6] from by have := HD9.out; subst this; exact HS6T.out.putT 4 (.int .u64 c.id))
 have HD9T := hid (show Dm (W6.setCell ⟨g, 4, none⟩ (.int .u64 c.id)) d9 from by have h6 := HD6.out; have := HD9.out; subst this; subst h6; have hx := HD6T.out.set' (k := 4) (v := .int .u64 c.id) HS6T.out.t (by decide); exact ⟨hx.r1, hx.r2, hx.l1, hx.l2⟩)
 have HV9T := hid (own_set (k := 4) (v := .int .u64 c.id) HV6T.out HS6T.out.t (by decide))
 have HN9 := hid ((Kp.set W6 g 4 (.int .u64 c.id)).row HN6.out (by omega))
 obtain ⟨W9, hW9⟩ : ∃ X, W6.setCell ⟨g, 4, none⟩ (.int .u64 c.id) = X := ⟨_, rfl⟩
 rw [hW9] at HS9 HD9T HV9T HN9 ⊢
 clear hW9
 have HDF9 := hid (show Dof d9 (b.hgh c.id).told from by have h6 := HD6.out; have := HD9.out; subst this; subst h6; exact ⟨HD1.out.cap, HD1.out.meet, HD1.out.o1, HD1.out.o2, rfl, by show nx d1.seq = _; rw [HD1.out.seq]; rfl⟩)
 have HAL9 := hid (show Al w.heap.size d9 from by have h6 := HD6.out; have := HD9.out; subst this; subst h6; exact HAL.out)
 have HLE := hid (show ([] ++ [(evA (⟨c.id, c.mb, c.ty, c.pr, 0, 0, c.pk⟩ : Or) c.sd c.qt).num (nx d1.seq)]).length + 2 * mes (b.hgh c.id).told c.sd c.qt ≤ 17179869180 from by have h1 := HCY.out.le; have h2 : ([] ++ [(evA (⟨c.id, c.mb, c.ty, c.pr, 0, 0, c.pk⟩ : Or) c.sd c.qt).num (nx d1.seq)]).length ≤ 2 := (by simp); omega)
 have HAL9 := hid (show Al w.heap.size d9 from by have h6 := HD6.out; have := HD9.out; subst this; subst h6; exact HAL.out)
 have CCM := hid (dcomes_any (b.hgh c.id).told d9 (⟨c.id, c.mb, c.ty, c.pr, 0, 0, c.pk⟩ : Or) c.sd c.qt p6 (0 + 1) c6 ([] ++ [(evA (⟨c.id, c.mb, c.ty, c.pr, 0, 0, c.pk⟩ : Or) c.sd c.qt).num (nx d1.seq)]) W9 HCY.out.hs HDF9.out HD9T.out HCY.out.vb HCY.out.pk HCY.out.q0 HCY.out.q1 HCY.out.mt (by rfl) HV9T.out HLE.out HCY.out.ln HCK.out.pk0)
 simp only at CCM
 obtain ⟨a0, a1, a2, a3, a4, a5, a6⟩ := row7 HS9.out.t
 obtain ⟨n0, n1, n2, n3, n4, n5, n6⟩ := row7 HN9.out
 go_upto_region 25 with (first | (go_at_call 35; with_reducible refine (CCM.out).mono ?_; rintro e w8 ⟨d8, p8, n8, c8, es8, rfl, ⟨hd8, hn8⟩, hl8, hv8, hb8, hk8⟩; have HN8w := hid hn8; have HD8 := hid hd8; have HL8 := hid hl8; have HV8 := hid hv8; have HB8 := hid hb8; have HK8 := hid hk8; clear hd8 hn8 hl8 hv8 hb8 hk8; have AI8 := hid (i74 (.int .i64 d8.cap) (.int .i64 d8.meet) (.slice d8.p1 d8.o1.length d8.c1) (.slice d8.p2 d8.o2.length d8.c2) (.int .u64 d8.high) (.int .u64 d8.seq) (.slice p8 n8 c8)); have AS8 := hid (s7 (.int .i64 d9.cap) (.int .i64 d9.meet) (.slice d9.p1 d9.o1.length d9.c1) (.slice d9.p2 d9.o2.length d9.c2) (.int .u64 d9.high) (.int .u64 d9.seq) (.slice p6 (0 + 1) c6) (.int .i64 d8.cap) (.int .i64 d8.meet) (.slice d8.p1 d8.o1.length d8.c1) (.slice d8.p2 d8.o2.length d8.c2) (.int .u64 d8.high) (.int .u64 d8.seq) (.slice p8 n8 c8)); have AA8 := hid (show (#[.int .i64 d8.cap, .int .i64 d8.meet, .slice d8.p1 d8.o1.length d8.c1, .slice d8.p2 d8.o2.length d8.c2, .int .u64 d8.high, .int .u64 d8.seq, .slice p8 n8 c8] : Array Value).all (·.oneCell') = true from allT _ _ _ _); have HS8 := hid (HS9.out.on HB8.out)) | (refine wpList_store_row (by rfl) 74 (.tmp 6) (.tmp 133) (by rfl) g #[.int .i64 d8.cap, .int .i64 d8.meet, .slice d8.p1 d8.o1.length d8.c1, .slice d8.p2 d8.o2.length d8.c2, .int .u64 d8.high, .int .u64 d8.seq, .slice p8 n8 c8] (by rfl) (by rfl) 74 _ HS8.out.t AI8.out AS8.out AA8.out ?_))
 clear a0 a1 a2 a3 a4 a5 a6 n0 n1 n2 n3 n4 n5 n6
 have HS8T := hid (HS8.out.setT #[.int .i64 d8.cap, .int .i64 d8.meet, .slice d8.p1 d8.o1.length d8.c1, .slice d8.p2 d8.o2.length d8.c2, .int .u64 d8.high, .int .u64 d8.seq, .slice p8 n8 c8])
 have HD8T := hid (HD8.out.setRow' (cs' := #[.int .i64 d8.cap, .int .i64 d8.meet, .slice d8.p1 d8.o1.length d8.c1, .slice d8.p2 d8.o2.length d8.c2, .int .u64 d8.high, .int .u64 d8.seq, .slice p8 n8 c8]) HS8.out.t (by decide))
 have HV8T := hid (own_setRow (cs' := #[.int .i64 d8.cap, .int .i64 d8.meet, .slice d8.p1 d8.o1.length d8.c1, .slice d8.p2 d8.o2.length d8.c2, .int .u64 d8.high, .int .u64 d8.seq, .slice p8 n8 c8]) HV8.out HS8.out.t (by decide))
 obtain ⟨W10, hW10⟩ : ∃ X, w8.setRow g #[.int .i64 d8.cap, .int .i64 d8.meet, .slice d8.p1 d8.o1.length d8.c1, .slice d8.p2 d8.o2.length d8.c2, .int .u64 d8.high, .int .u64 d8.seq, .slice p8 n8 c8] = X := ⟨_, rfl⟩
 rw [hW10] at HS8T HD8T HV8T ⊢
 clear hW10
 obtain ⟨V, hV⟩ : ∃ X, W10.drew = X := ⟨_, rfl⟩
 have HKV := hid (show Below W10.heap.size W10 V from by rw [← hV]; exact bdrew1 _)
 have HSV := hid (HS8T.out.on HKV.out)
 refine wp_region_held_drew (S := (fun U => U.cell? ⟨g, 0, none⟩ = some (.int .i64 d8.cap) ∧ U.cell? ⟨g, 1, none⟩ = some (.int .i64 d8.meet) ∧ U.cell? ⟨g, 2, none⟩ = some (.slice d8.p1 d8.o1.length d8.c1) ∧ U.cell? ⟨g, 3, none⟩ = some (.slice d8.p2 d8.o2.length d8.c2) ∧ U.cell? ⟨g, 4, none⟩ = some (.int .u64 d8.high) ∧ U.cell? ⟨g, 5, none⟩ = some (.int .u64 d8.seq) ∧ U.cell? ⟨g, 6, none⟩ = some (.slice p8 n8 c8))) (by kernel_rfl) ?_ (fun hHeld => ?_)
 ·(try dsimp only); ((rw [hV]; exact row7 HSV.out.t))
 rw [hV] at hHeld ⊢
 clear hV
 refine' wpAnyH_take (i := 0) (oi := _) (v := _) rfl (by kernel_rfl) (by kernel_rfl) (by kernel_rfl) (fun _ _ _ h => h) (Or.inl ⟨by kernel_rfl, ?_⟩) (by assumption) ?_
 rotate_left
 ·(intro w hSw; (try dsimp only at hSw); go_simp; try (with_reducible rfl))
 try simp only [List.getElem_toArray, List.getElem_cons_succ, List.getElem_cons_zero, Act.put, List.setIfInBounds_toArray, List.set_cons_zero, List.set_cons_succ]
 refine' wpAnyH_take (i := 1) (oi := _) (v := _) rfl (by kernel_rfl) (by kernel_rfl) (by kernel_rfl) (fun _ _ _ h => h) (Or.inl ⟨by kernel_rfl, ?_⟩) (by assumption) ?_
 rotate_left
 ·(intro w hSw; (try dsimp only at hSw); go_simp; try (with_reducible rfl))
 try simp only [List.getElem_toArray, List.getElem_cons_succ, List.getElem_cons_zero, Act.put, List.setIfInBounds_toArray, List.set_cons_zero, List.set_cons_succ]
 refine' wpAnyH_take (i := 2) (oi := _) (v := _) rfl (by kernel_rfl) (by kernel_rfl) (by kernel_rfl) (fun _ _ _ h => h) (Or.inl ⟨by kernel_rfl, ?_⟩) (by assumption) ?_
 rotate_left
 ·(intro w hSw; (try dsimp only at hSw); go_simp; try (with_reducible rfl))
 try simp only [List.getElem_toArray, List.getElem_cons_succ, List.getElem_cons_zero, Act.put, List.setIfInBounds_toArray, List.set_cons_zero, List.set_cons_succ]
 refine' wpAnyH_take (i := 3) (oi := _) (v := _) rfl (by kernel_rfl) (by kernel_rfl) (by kernel_rfl) (fun _ _ _ h => h) (Or.inl ⟨by kernel_rfl, ?_⟩) (by assumption) ?_
 rotate_left
 ·(intro w hSw; (try dsimp only at hSw); go_simp; try (with_reducible rfl))
 try simp only [List.getElem_toArray, List.getElem_cons_succ, List.getElem_cons_zero, Act.put, List.setIfInBounds_toArray, List.set_cons_zero, List.set_cons_succ]
 have AIE := hid (i32 (.int .i64 d8.cap) (.int .i64 d8.meet) (.slice d8.p1 d8.o1.length d8.c1) (.slice d8.p2 d8.o2.length d8.c2) (.int .u64 d8.high) (.int .u64 d8.seq))
 have ASE := hid (s6 (.int .i64 0) (.int .i64 0) (.slice none 0 0) (.slice none 0 0) (.int .u64 0) (.int .u64 0) (.int .i64 d8.cap) (.int .i64 d8.meet) (.slice d8.p1 d8.o1.length d8.c1) (.slice d8.p2 d8.o2.length d8.c2) (.int .u64 d8.high) (.int .u64 d8.seq))
 have AAE := hid (allB d8)
 refine wpAnyH_ready (rs := [4]) (by kernel_rfl) (by simp) ?_
 refine AllReadyH.cons (o := _) rfl (fun K hK => ?_) AllReadyH.nil
 refine step_store_row (by rfl) 32 (.tmp 4) (.tmp 135) (by rfl) (R + 1 + 1) #[.int .i64 d8.cap, .int .i64 d8.meet, .slice d8.p1 d8.o1.length d8.c1, .slice d8.p2 d8.o2.length d8.c2, .int .u64 d8.high, .int .u64 d8.seq] (by rfl) (by rfl) 32 _ HSV.out.z AIE.out ASE.out AAE.out ?_
 have HSX := hid (HSV.out.setZ #[.int .i64 d8.cap, .int .i64 d8.meet, .slice d8.p1 d8.o1.length d8.c1, .slice d8.p2 d8.o2.length d8.c2, .int .u64 d8.high, .int .u64 d8.seq])
 have HDX := hid ((HD8T.out.on HKV.out).setRow' (cs' := #[.int .i64 d8.cap, .int .i64 d8.meet, .slice d8.p1 d8.o1.length d8.c1, .slice d8.p2 d8.o2.length d8.c2, .int .u64 d8.high, .int .u64 d8.seq]) HSV.out.z (by decide))
 have HVX := hid (own_setRow (cs' := #[.int .i64 d8.cap, .int .i64 d8.meet, .slice d8.p1 d8.o1.length d8.c1, .slice d8.p2 d8.o2.length d8.c2, .int .u64 d8.high, .int .u64 d8.seq]) (own_on HV8T.out HKV.out) HSV.out.z (by decide))
 refine hK.out _ _ ?_ (fun hHeld => ?_)
 ·(try dsimp only); exact row7 HSX.out.t
 clear hK K
 try simp only [List.getElem_toArray, List.getElem_cons_succ, List.getElem_cons_zero, Act.put, List.setIfInBounds_toArray, List.set_cons_zero, List.set_cons_succ]
 obtain ⟨X1, hX1⟩ : ∃ X, V.setRow (R + 1 + 1) #[.int .i64 d8.cap, .int .i64 d8.meet, .slice d8.p1 d8.o1.length d8.c1, .slice d8.p2 d8.o2.length d8.c2, .int .u64 d8.high, .int .u64 d8.seq] = X := ⟨_, rfl⟩
 rw [hX1] at HSX HDX HVX hHeld ⊢
 clear hX1
 refine' wpAnyH_take (i := 5) (oi := _) (v := _) rfl (by kernel_rfl) (by kernel_rfl) (by kernel_rfl) (fun _ _ _ h => h) (Or.inl ⟨by kernel_rfl, ?_⟩) (by assumption) ?_
 rotate_left
 ·(intro w hSw; (try dsimp only at hSw); go_simp; try (with_reducible rfl))
 try simp only [List.getElem_toArray, List.getElem_cons_succ, List.getElem_cons_zero, Act.put, List.setIfInBounds_toArray, List.set_cons_zero, List.set_cons_succ]
 refine wpAnyH_done (by kernel_rfl) ?_ _
 clear hHeld
 go_wp2
 refine bodyPost_ret (res_ct Try.results11 _ _ (R + 1 + 1) 32 #[.int .i64 d8.cap, .int .i64 d8.meet, .slice d8.p1 d8.o1.length d8.c1, .slice d8.p2 d8.o2.length d8.c2, .int .u64 d8.high, .int .u64 d8.seq] (0, 0) _ _ (by rfl) (by rfl) HSX.out.z Try.underlying32 rfl info32) rfl ?_
 refine ⟨d8, p8, n8, c8, es8, rfl, ⟨HDX.out, HAL9.out.nw HN8w.out HS9.out.be.size⟩, HL8.out, HVX.out, HSX.out.be, fun b' es' hh => HK8.out b' es' ?_⟩
 have ht := took_tk (did_new hh HYZ.out HKD.out)
 rw [← HD1.out.seq] at ht
 exact ht
end
end Go.Proofs.Ytalgndgoedlpoaa
