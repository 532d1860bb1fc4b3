/-
  RuSc
-/
import Derived.Test.YtalgndgoedlpoaaRuSb
namespace Go.Proofs.Ytalgndgoedlpoaa
open Go.RowKit Go.Deep Go.Shelf
set_option linter.unusedVariables false
set_option linter.unusedSimpArgs false
set_option maxHeartbeats 8000000
set_option maxRecDepth 100000
attribute [local go_sem ↓] Go.wp_at_zero Go.wp_at_succ
theorem dcomes_15 (b : Bs) (d : Db) (o : Or) (s q : Int) (p : Option Addr) (n c : Nat) (es : List Ev) (w : World) (hs : s = 1 ∨ s = 2) (hd : Dof d b) (h : Dm w d) (hvb : Vb b) (hpk : Pk b) (hq0 : 0 ≤ q) (hq1 : q < 4294967296) (hm : 0 ≤ b.meet ∧ b.meet ≤ 3) (he : es.length = n) (hv : Rv w (.slice p n c) es) (hle : es.length + 2 * mes b s q ≤ 17179869180) (hln : rst o.ty = true → lns b + 1 ≤ 1048576) (hop : 0 ≤ o.pk) (hty : o.ty = 1 ∨ o.ty = 5) :
  Calls Try.prog 35 #[.agg #[.int .i64 d.cap, .int .i64 d.meet, .slice d.p1 d.o1.length d.c1, .slice d.p2 d.o2.length d.c2, .int .u64 d.high, .int .u64 d.seq, .slice p n c], .agg #[.int .u64 o.id, .int .u64 q, .int .u64 o.pk, .int .u32 o.mb, .int .i64 s, .int .i64 o.ty, .int .i64 o.pr]] w fun e w' => ∃ d2 p2 n2 c2 es2, e = .returned (.agg #[.int .i64 d2.cap, .int .i64 d2.meet, .slice d2.p1 d2.o1.length d2.c1, .slice d2.p2 d2.o2.length d2.c2, .int .u64 d2.high, .int .u64 d2.seq, .slice p2 n2 c2]) ∧ (Dm w' d2 ∧ Nwl w.heap.size d d2) ∧ es2.length = n2 ∧ Rv w' (.slice p2 n2 c2) es2 ∧ Below w.heap.size w w' ∧ ∀ b' es', Tk b es o s q b' es' → Dof d2 b' ∧ es2 = es' := by
 have CW := hid (fun (U : World) (hU : Below w.heap.size w U) => dwhole_any b d o s q U hs hd (h.on hU) hvb hpk hq0 hq1 hm (by omega))
 have CTR := hid (fun (U : World) (hU : Below w.heap.size w U) => tc_any (o := o) hs hd hvb hpk hq0 hq1 hm he hle hln U (h.on hU) (hv.on hU))
 have CTE := hid (fun (U : World) (hU : Below w.heap.size w U) => wtell d p n c es (evC o.id q 4) he (by omega) U (hv.on hU))
 unfold ecs evC at CTE
 simp only at CTE
 have HNO := hid (fun (k : o.ty = 4) (hw : (trd (cms o s (mes b s q + 1) (b, [], q)).2.1 == q) = false) (b' : Bs) (es' : List Ev) (hh : Tk b es o s q b' es') => tk_no hs hvb hq0 hq1 k hw hh)
 have HYES := hid (fun (hw : o.ty = 4 → (trd (cms o s (mes b s q + 1) (b, [], q)).2.1 == q) = true) (b' : Bs) (es' : List Ev) (hh : Tk b es o s q b' es') => tk_yes hs hvb hq0 hq1 hw hh)
 have HTY := hid hty
 have HDM := hid h
 have HDF := hid hd
 have HEN := hid he
 have HVV := hid hv
 have HSS := hid hs
 have HQ1 := hid hq1
 have HOP := hid hop
 obtain ⟨wv, hwv⟩ : ∃ v, (trd (cms o s (mes b s q + 1) (b, [], q)).2.1 == q) = v := ⟨_, rfl⟩
 have HWV := hid hwv
 rw [hwv] at CW
 clear hwv
 obtain ⟨R, hR⟩ : ∃ R, w.heap.size = R := ⟨_, rfl⟩
 obtain ⟨U0, hU0⟩ : ∃ U, w.alloc (.cells #[.int .i64 d.cap, .int .i64 d.meet, .slice d.p1 d.o1.length d.c1, .slice d.p2 d.o2.length d.c2, .int .u64 d.high, .int .u64 d.seq, .slice p n c] 74) = U := ⟨_, rfl⟩
 obtain ⟨U1, hU1⟩ : ∃ U, U0.alloc (.cells #[.int .u64 o.id, .int .u64 q, .int .u64 o.pk, .int .u32 o.mb, .int .i64 s, .int .i64 o.ty, .int .i64 o.pr] 78) = U := ⟨_, rfl⟩
 obtain ⟨W, hW⟩ : ∃ U, U1.alloc (.cells #[.int .i64 0, .int .i64 0, .slice none 0 0, .slice none 0 0, .int .u64 0, .int .u64 0, .slice none 0 0] 74) = U := ⟨_, rfl⟩
 have s0 : U0.heap.size = R + 1 := by rw [← hU0, ← hR]; simp
 have s1 : U1.heap.size = R + 1 + 1 := by rw [← hU1]; simp [s0]
 have b0 : Below w.heap.size w U0 := by rw [← hU0]; exact ball _ _
 have b1 : Below U0.heap.size U0 U1 := by rw [← hU1]; exact ball _ _
 have b2 : Below U1.heap.size U1 W := by rw [← hW]; exact ball _ _
 have HT := hid (show T3 w W R #[.int .i64 d.cap, .int .i64 d.meet, .slice d.p1 d.o1.length d.c1, .slice d.p2 d.o2.length d.c2, .int .u64 d.high, .int .u64 d.seq, .slice p n c] #[.int .u64 o.id, .int .u64 q, .int .u64 o.pk, .int .u32 o.mb, .int .i64 s, .int .i64 o.ty, .int .i64 o.pr] #[.int .i64 0, .int .i64 0, .slice none 0 0, .slice none 0 0, .int .u64 0, .int .u64 0, .slice none 0 0] from ⟨btr (btr b0 b1) b2, row_on (row_on (by rw [← hU0, ← hR]; exact World.alloc_heap_new _ _) b1) b2, row_on (by rw [← hU1, ← s0]; exact World.alloc_heap_new _ _) b2, by rw [← hW, ← s1]; exact World.alloc_heap_new _ _, hR⟩)
 have HU0 := hid hU0
 have HU1 := hid hU1
 have HW := hid hW
 have HRR := hid hR
 clear hR hU0 hU1 hW s0 s1 b0 b1 b2 h hd hvb hpk hq0 hq1 hm he hv hle hln hop hs hty
 go_enter Try.func35, Try.ntmps35
 go_upto_region 1 with fail
 rw [HU0.out, HU1.out, HW.out, HRR.out]
 obtain ⟨a0, a1, a2, a3, a4, a5, a6⟩ := row7 HT.out.t
 obtain ⟨b0, b1, b2, b3, b4, b5, b6⟩ := row7 HT.out.c
 have k4b : (o.ty == 4) = false := by rcases HTY.out with h | h <;> rw [h] <;> rfl
 go_upto_region 3 with fail
 go_upto_region 4 with (first | (go_at_call 56; with_reducible refine (CTR.out _ HT.out.be).mono ?_; rintro e w3 ⟨d2, p2, n2, c2, q2, rfl, HC⟩; have AI1 := hid (show (Try.prog.info? 74).map (·.size) = some (#[.int .i64 d2.cap, .int .i64 d2.meet, .slice d2.p1 d2.o1.length d2.c1, .slice d2.p2 d2.o2.length d2.c2, .int .u64 d2.high, .int .u64 d2.seq, .slice p2 n2 c2] : Array Value).size from i74 _ _ _ _ _ _ _); have AS1 := hid (show (#[.int .i64 d.cap, .int .i64 d.meet, .slice d.p1 d.o1.length d.c1, .slice d.p2 d.o2.length d.c2, .int .u64 d.high, .int .u64 d.seq, .slice p n c] : Array Value).size = (#[.int .i64 d2.cap, .int .i64 d2.meet, .slice d2.p1 d2.o1.length d2.c1, .slice d2.p2 d2.o2.length d2.c2, .int .u64 d2.high, .int .u64 d2.seq, .slice p2 n2 c2] : Array Value).size from s7 _ _ _ _ _ _ _ _ _ _ _ _ _ _); have AA1 := hid (show (#[.int .i64 d2.cap, .int .i64 d2.meet, .slice d2.p1 d2.o1.length d2.c1, .slice d2.p2 d2.o2.length d2.c2, .int .u64 d2.high, .int .u64 d2.seq, .slice p2 n2 c2] : Array Value).all (·.oneCell') = true from allT _ _ _ _); have AI2 := hid (show (Try.prog.info? 78).map (·.size) = some (#[.int .u64 o.id, .int .u64 q2, .int .u64 o.pk, .int .u32 o.mb, .int .i64 s, .int .i64 o.ty, .int .i64 o.pr] : Array Value).size from i78 _ _ _ _ _ _ _); have AS2 := hid (show (#[.int .u64 o.id, .int .u64 q, .int .u64 o.pk, .int .u32 o.mb, .int .i64 s, .int .i64 o.ty, .int .i64 o.pr] : Array Value).size = (#[.int .u64 o.id, .int .u64 q2, .int .u64 o.pk, .int .u32 o.mb, .int .i64 s, .int .i64 o.ty, .int .i64 o.pr] : Array Value).size from s7 _ _ _ _ _ _ _ _ _ _ _ _ _ _); have AA2 := hid (show (#[.int .u64 o.id, .int .u64 q2, .int .u64 o.pk, .int .u32 o.mb, .int .i64 s, .int .i64 o.ty, .int .i64 o.pr] : Array Value).all (·.oneCell') = true from allC _ _ _); have HS3 := hid (HT.out.on HC.out.be)) | ((refine wpList_store_row (by rfl) 74 (.tmp 2) (.tmp 27) (by rfl) (R) #[.int .i64 d2.cap, .int .i64 d2.meet, .slice d2.p1 d2.o1.length d2.c1, .slice d2.p2 d2.o2.length d2.c2, .int .u64 d2.high, .int .u64 d2.seq, .slice p2 n2 c2] (by rfl) (by rfl) 74 _ HS3.out.t AI1.out AS1.out AA1.out ?_); have HS4 := hid (HS3.out.setT #[.int .i64 d2.cap, .int .i64 d2.meet, .slice d2.p1 d2.o1.length d2.c1, .slice d2.p2 d2.o2.length d2.c2, .int .u64 d2.high, .int .u64 d2.seq, .slice p2 n2 c2])) | ((refine wpList_store_row (by rfl) 78 (.tmp 3) (.tmp 28) (by rfl) (R + 1) #[.int .u64 o.id, .int .u64 q2, .int .u64 o.pk, .int .u32 o.mb, .int .i64 s, .int .i64 o.ty, .int .i64 o.pr] (by rfl) (by rfl) 78 _ HS4.out.c AI2.out AS2.out AA2.out ?_); have HS5 := hid (HS4.out.setC #[.int .u64 o.id, .int .u64 q2, .int .u64 o.pk, .int .u32 o.mb, .int .i64 s, .int .i64 o.ty, .int .i64 o.pr])))
 clear a0 a1 a2 a3 a4 a5 a6 b0 b1 b2 b3 b4 b5 b6
 have HD5 := hid (show Dm ((w3.setRow R #[.int .i64 d2.cap, .int .i64 d2.meet, .slice d2.p1 d2.o1.length d2.c1, .slice d2.p2 d2.o2.length d2.c2, .int .u64 d2.high, .int .u64 d2.seq, .slice p2 n2 c2]).setRow (R + 1) #[.int .u64 o.id, .int .u64 q2, .int .u64 o.pk, .int .u32 o.mb, .int .i64 s, .int .i64 o.ty, .int .i64 o.pr]) d2 from (HC.out.dm.setRow HS3.out.t (by decide)).setRow HS4.out.c (by decide))
 have HR5 := hid (show Rv ((w3.setRow R #[.int .i64 d2.cap, .int .i64 d2.meet, .slice d2.p1 d2.o1.length d2.c1, .slice d2.p2 d2.o2.length d2.c2, .int .u64 d2.high, .int .u64 d2.seq, .slice p2 n2 c2]).setRow (R + 1) #[.int .u64 o.id, .int .u64 q2, .int .u64 o.pk, .int .u32 o.mb, .int .i64 s, .int .i64 o.ty, .int .i64 o.pr]) (.slice p2 n2 c2) (cms o s (mes b s q + 1) (b, es, q)).2.1 from own_setRow (own_setRow (show w3.ownsRow 0 58 13 _ _ _ from HC.out.rv) HS3.out.t (by decide)) HS4.out.c (by decide))
 have HNW := hid ((Nwl.refl _ _).trans HC.out.nw (HT.out.be).size)
 obtain ⟨W5, hW5⟩ : ∃ X, (w3.setRow R #[.int .i64 d2.cap, .int .i64 d2.meet, .slice d2.p1 d2.o1.length d2.c1, .slice d2.p2 d2.o2.length d2.c2, .int .u64 d2.high, .int .u64 d2.seq, .slice p2 n2 c2]).setRow (R + 1) #[.int .u64 o.id, .int .u64 q2, .int .u64 o.pk, .int .u32 o.mb, .int .i64 s, .int .i64 o.ty, .int .i64 o.pr] = X := ⟨_, rfl⟩
 rw [hW5] at HS5 HD5 HR5 ⊢
 clear hW5
 have HCM := hid (fun (b' : Bs) (es' : List Ev) (hh : Tk b es o s q b' es') => HYES.out (fun k => absurd k (by have := HTY.out; omega)) b' es' hh)
 obtain ⟨a0, a1, a2, a3, a4, a5, a6⟩ := row7 HS5.out.t
 obtain ⟨b0, b1, b2, b3, b4, b5, b6⟩ := row7 HS5.out.c
 by_cases z0 : q2 = 0
 ·have AI3 := hid (show (Try.prog.info? 74).map (·.size) = some (#[.int .i64 d2.cap, .int .i64 d2.meet, .slice d2.p1 d2.o1.length d2.c1, .slice d2.p2 d2.o2.length d2.c2, .int .u64 d2.high, .int .u64 d2.seq, .slice p2 n2 c2] : Array Value).size from i74 _ _ _ _ _ _ _)
  have AS3 := hid (show (#[.int .i64 0, .int .i64 0, .slice none 0 0, .slice none 0 0, .int .u64 0, .int .u64 0, .slice none 0 0] : Array Value).size = (#[.int .i64 d2.cap, .int .i64 d2.meet, .slice d2.p1 d2.o1.length d2.c1, .slice d2.p2 d2.o2.length d2.c2, .int .u64 d2.high, .int .u64 d2.seq, .slice p2 n2 c2] : Array Value).size from s7 _ _ _ _ _ _ _ _ _ _ _ _ _ _)
  have AA3 := hid (show (#[.int .i64 d2.cap, .int .i64 d2.meet, .slice d2.p1 d2.o1.length d2.c1, .slice d2.p2 d2.o2.length d2.c2, .int .u64 d2.high, .int .u64 d2.seq, .slice p2 n2 c2] : Array Value).all (·.oneCell') = true from allT _ _ _ _)
  subst z0
  have HS6 := hid (HS5.out.setZ #[.int .i64 d2.cap, .int .i64 d2.meet, .slice d2.p1 d2.o1.length d2.c1, .slice d2.p2 d2.o2.length d2.c2, .int .u64 d2.high, .int .u64 d2.seq, .slice p2 n2 c2])
  go_wp2_with (refine wpList_store_row (by rfl) 74 (.tmp 4) (.tmp 32) (by rfl) (R + 1 + 1) #[.int .i64 d2.cap, .int .i64 d2.meet, .slice d2.p1 d2.o1.length d2.c1, .slice d2.p2 d2.o2.length d2.c2, .int .u64 d2.high, .int .u64 d2.seq, .slice p2 n2 c2] (by rfl) (by rfl) 74 _ HS5.out.z AI3.out AS3.out AA3.out ?_)
  refine bodyPost_ret (results_cell_row (fn := Try.f35) Try.results35 _ _ (R + 1 + 1) 74 #[.int .i64 d2.cap, .int .i64 d2.meet, .slice d2.p1 d2.o1.length d2.c1, .slice d2.p2 d2.o2.length d2.c2, .int .u64 d2.high, .int .u64 d2.seq, .slice p2 n2 c2] (0, 0) _ (by rfl) HS6.out.z Try.underlying74 rfl info74) rfl ?_
  exact ⟨d2, p2, n2, c2, _, rfl, ⟨HD5.out.setRow HS5.out.z (by decide), HNW.out⟩, HC.out.en, own_setRow (show W5.ownsRow 0 58 13 _ _ _ from HR5.out) HS5.out.z (by decide), HS6.out.be, fun b' es' hh => by obtain ⟨nn, hc⟩ := HCM.out b' es' hh; exact came_all hc HC.out.df HC.out.eq⟩
 ·have z0' : (q2 == 0) = false := by simpa using z0
  have HZP := hid (show 0 < q2 from by have := HC.out.q0; omega)
  have HRS := hid (show rst o.ty = true from by rcases HTY.out with h | h <;> rw [h] <;> rfl)
  rcases HTY.out with h15 | h15
  focus
   have f1 : (o.ty != 1) = false := by rw [h15]; rfl
   clear h15
  rotate_left
  focus
   have f1 : (o.ty != 1) = true := by rw [h15]; rfl
   have f5 : (o.ty != 5) = false := by rw [h15]; rfl
   clear h15
  rotate_left
  all_goals
   by_cases hf : 0 < o.pk ∧ o.pk < q2
   ·have u1 : decide (0 < o.pk) = true := by simpa using hf.1
    have u2 : decide (o.pk < q2) = true := by simpa using hf.2
    have HSH := hid (show shw o.pk q2 = (o.pk, q2 - o.pk) from by unfold shw; rw [if_neg (by omega)])
    clear a0 a1 a2 a3 a4 a5 a6 b0 b1 b2 b3 b4 b5 b6
    obtain ⟨a0, a1, a2, a3, a4, a5, a6⟩ := row7 HS5.out.t
    obtain ⟨b0, b1, b2, b3, b4, b5, b6⟩ := row7 HS5.out.c
    have HAL := hid (World.alloc_heap_new W5 (.cells #[.int .u64 0, .int .u32 0, .int .i64 0, .int .i64 0, .int .u64 0, .int .u64 0, .int .u64 0] 50))
    have AI9 := hid (show (Try.prog.info? 50).map (·.size) = some (#[.int .u64 o.id, .int .u32 o.mb, .int .i64 o.ty, .int .i64 o.pr, .int .u64 q2, .int .u64 0, .int .u64 o.pk] : Array Value).size from info50)
    have AS9 := hid (show (#[.int .u64 0, .int .u32 0, .int .i64 0, .int .i64 0, .int .u64 0, .int .u64 0, .int .u64 0] : Array Value).size = (#[.int .u64 o.id, .int .u32 o.mb, .int .i64 o.ty, .int .i64 o.pr, .int .u64 q2, .int .u64 0, .int .u64 o.pk] : Array Value).size from rfl)
    have AA9 := hid (show (#[.int .u64 o.id, .int .u32 o.mb, .int .i64 o.ty, .int .i64 o.pr, .int .u64 q2, .int .u64 0, .int .u64 o.pk] : Array Value).all (·.oneCell') = true from by simp [Value.oneCell'])
    go_upto_region 9 with (refine wpList_store_row (by rfl) 50 (.tmp 5) (.tmp 60) (by rfl) (W5.heap.size) #[.int .u64 o.id, .int .u32 o.mb, .int .i64 o.ty, .int .i64 o.pr, .int .u64 q2, .int .u64 0, .int .u64 o.pk] (by rfl) (by rfl) 50 _ HAL.out AI9.out AS9.out AA9.out ?_)
    have HB9 := hid (show Below W5.heap.size W5 ((W5.alloc (.cells #[.int .u64 0, .int .u32 0, .int .i64 0, .int .i64 0, .int .u64 0, .int .u64 0, .int .u64 0] 50)).setRow W5.heap.size #[.int .u64 o.id, .int .u32 o.mb, .int .i64 o.ty, .int .i64 o.pr, .int .u64 q2, .int .u64 0, .int .u64 o.pk]) from setRow_below (ball _ _) (Nat.le_refl _))
    have HG9 := hid (setRow_heap (W5.alloc (.cells #[.int .u64 0, .int .u32 0, .int .i64 0, .int .i64 0, .int .u64 0, .int .u64 0, .int .u64 0] 50)) W5.heap.size _ #[.int .u64 o.id, .int .u32 o.mb, .int .i64 o.ty, .int .i64 o.pr, .int .u64 q2, .int .u64 0, .int .u64 o.pk] 50 (0, 0) HAL.out)
    obtain ⟨M, hM⟩ : ∃ X, (W5.alloc (.cells #[.int .u64 0, .int .u32 0, .int .i64 0, .int .i64 0, .int .u64 0, .int .u64 0, .int .u64 0] 50)).setRow W5.heap.size #[.int .u64 o.id, .int .u32 o.mb, .int .i64 o.ty, .int .i64 o.pr, .int .u64 q2, .int .u64 0, .int .u64 o.pk] = X := ⟨_, rfl⟩
    have gR : R + 1 + 1 < W5.heap.size := row_lt HS5.out.z
    obtain ⟨g, hg⟩ : ∃ g, W5.heap.size = g := ⟨_, rfl⟩
    rw [hM] at HB9 HG9 ⊢
    rw [hg] at HG9 gR ⊢
    have HSM := hid (HS5.out.on HB9.out)
    have HDM9 := hid (HD5.out.on HB9.out)
    have HRM := hid (HR5.out.on HB9.out)
    have HNG := hid (show ∀ (j : Nat), j < W5.heap.size → j ≠ g from fun j hj => by omega)
    clear hM hg HAL
    clear a0 a1 a2 a3 a4 a5 a6 b0 b1 b2 b3 b4 b5 b6
    obtain ⟨b0, b1, b2, b3, b4, b5, b6⟩ := row7 HSM.out.c
    have w1 : IntKind.u64.wrap (q2 - o.pk) = q2 - o.pk := by have h1 := HQ1.out; have h2 := HC.out.q1; have h3 := hf.1; have h4 := hf.2; rw [IntKind.wrap_u64]; omega
    go_upto_region 10 with fail
    clear b0 b1 b2 b3 b4 b5 b6
    obtain ⟨V0, hV0⟩ : ∃ X, M.drew = X := ⟨_, rfl⟩
    have HEV := hid (show Below M.heap.size M V0 from by rw [← hV0]; exact bdrew1 _)
    have HGV := hid (row_on HG9.out HEV.out)
    have HBV := hid (btr HB9.out HEV.out)
    refine wp_region_held_drew (S := (fun U => U.cell? ⟨R + 1, 0, none⟩ = some (.int .u64 o.id) ∧ U.cell? ⟨R + 1, 1, none⟩ = some (.int .u64 q2) ∧ U.cell? ⟨R + 1, 2, none⟩ = some (.int .u64 o.pk) ∧ U.cell? ⟨R + 1, 3, none⟩ = some (.int .u32 o.mb) ∧ U.cell? ⟨R + 1, 4, none⟩ = some (.int .i64 s) ∧ U.cell? ⟨R + 1, 5, none⟩ = some (.int .i64 o.ty) ∧ U.cell? ⟨R + 1, 6, none⟩ = some (.int .i64 o.pr))) (by kernel_rfl) ?_ (fun hHeld => ?_)
    ·(try dsimp only); ((rw [hV0]; exact row7 (HSM.out.on HEV.out).c))
    rw [hV0] at hHeld ⊢
    clear hV0
    refine' wpAnyH_take (i := 0) (oi := _) (v := _) rfl (by kernel_rfl) (by kernel_rfl) (by kernel_rfl) (fun _ _ _ h => h) (Or.inl ⟨by kernel_rfl, ?_⟩) (by assumption) ?_
    rotate_left
    ·(intro w hSw; (try dsimp only at hSw); go_simp; try (with_reducible rfl))
    try simp only [List.getElem_toArray, List.getElem_cons_succ, List.getElem_cons_zero, Act.put, List.setIfInBounds_toArray, List.set_cons_zero, List.set_cons_succ]
    refine' wpAnyH_take (i := 1) (oi := _) (v := _) rfl (by kernel_rfl) (by kernel_rfl) (by kernel_rfl) (fun _ _ _ h => h) (Or.inl ⟨by kernel_rfl, ?_⟩) (by assumption) ?_
    rotate_left
    ·(intro w hSw; (try dsimp only at hSw); go_simp; try (with_reducible rfl))
    try simp only [List.getElem_toArray, List.getElem_cons_succ, List.getElem_cons_zero, Act.put, List.setIfInBounds_toArray, List.set_cons_zero, List.set_cons_succ]
    refine' wpAnyH_take (i := 2) (oi := _) (v := _) rfl (by kernel_rfl) (by kernel_rfl) (by kernel_rfl) (fun _ _ _ h => h) (Or.inl ⟨by kernel_rfl, ?_⟩) (by assumption) ?_
    rotate_left
    ·(intro w hSw; (try dsimp only at hSw); go_simp; try (with_reducible rfl))
    try simp only [List.getElem_toArray, List.getElem_cons_succ, List.getElem_cons_zero, Act.put, List.setIfInBounds_toArray, List.set_cons_zero, List.set_cons_succ]
    refine' wpAnyH_take (i := 3) (oi := _) (v := _) rfl (by kernel_rfl) (by kernel_rfl) (by kernel_rfl) (fun _ _ _ h => h) (Or.inl ⟨by kernel_rfl, ?_⟩) (by assumption) ?_
    rotate_left
    ·(intro w hSw; (try dsimp only at hSw); go_simp; try (with_reducible rfl))
    try simp only [List.getElem_toArray, List.getElem_cons_succ, List.getElem_cons_zero, Act.put, List.setIfInBounds_toArray, List.set_cons_zero, List.set_cons_succ]
    refine' wpAnyH_take (i := 4) (oi := _) (v := _) rfl (by kernel_rfl) (by kernel_rfl) (by kernel_rfl) (fun _ _ _ h => h) (Or.inl ⟨by kernel_rfl, ?_⟩) (by assumption) ?_
    rotate_left
    ·(intro w hSw; (try dsimp only at hSw); go_simp; try (with_reducible rfl))
    try simp only [List.getElem_toArray, List.getElem_cons_succ, List.getElem_cons_zero, Act.put, List.setIfInBounds_toArray, List.set_cons_zero, List.set_cons_succ]
    refine' wpAnyH_take (i := 5) (oi := _) (v := _) rfl (by kernel_rfl) (by kernel_rfl) (by kernel_rfl) (fun _ _ _ h => h) (Or.inl ⟨by kernel_rfl, ?_⟩) (by assumption) ?_
    rotate_left
    ·(intro w hSw; (try dsimp only at hSw); go_simp; try (with_reducible rfl))
    try simp only [List.getElem_toArray, List.getElem_cons_succ, List.getElem_cons_zero, Act.put, List.setIfInBounds_toArray, List.set_cons_zero, List.set_cons_succ]
    refine' wpAnyH_take (i := 6) (oi := _) (v := _) rfl (by kernel_rfl) (by kernel_rfl) (by kernel_rfl) (fun _ _ _ h => h) (Or.inl ⟨by kernel_rfl, ?_⟩) (by assumption) ?_
    rotate_left
    ·(intro w hSw; (try dsimp only at hSw); go_simp; try (with_reducible rfl))
    try simp only [List.getElem_toArray, List.getElem_cons_succ, List.getElem_cons_zero, Act.put, List.setIfInBounds_toArray, List.set_cons_zero, List.set_cons_succ]
    refine' wpAnyH_take (i := 7) (oi := _) (v := _) rfl (by kernel_rfl) (by kernel_rfl) (by kernel_rfl) (fun _ _ _ h => h) (Or.inl ⟨by kernel_rfl, ?_⟩) (by assumption) ?_
    rotate_left
    ·(intro w hSw; (try dsimp only at hSw); go_simp; try (with_reducible rfl))
    try simp only [List.getElem_toArray, List.getElem_cons_succ, List.getElem_cons_zero, Act.put, List.setIfInBounds_toArray, List.set_cons_zero, List.set_cons_succ]
    refine wpAnyH_ready (rs := [8]) (by kernel_rfl) (by simp) ?_
    refine AllReadyH.cons (o := _) rfl (fun K hK => ?_) AllReadyH.nil
    have fz := row_frz HGV.out 4
    obtain ⟨m0, m1, m2, m3, m4, m5, m6⟩ := row7 HGV.out
    have k1 := Kp.set V0 g 4 (.int .u64 o.pk)
    have HB10 := hid (HBV.out.trans (k1.below HBV.out.size (fun j hj e => HNG.out j hj e)))
    have HGW := hid (show (V0.setCell ⟨g, 4, none⟩ (.int .u64 o.pk)).heap[g]? = some (.cells #[.int .u64 o.id, .int .u32 o.mb, .int .i64 o.ty, .int .i64 o.pr, .int .u64 o.pk, .int .u64 0, .int .u64 o.pk] 50 (0, 0)) from set_row (k := 4) (.int .u64 o.pk) HGV.out)
    go_simp
    refine hK.out _ _ ?_ (fun hHeld => ?_)
    ·(try dsimp only); exact row7 (HS5.out.on HB10.out).c
    clear hK K k1 fz m0 m1 m2 m3 m4 m5 m6
    try simp only [List.getElem_toArray, List.getElem_cons_succ, List.getElem_cons_zero, Act.put, List.setIfInBounds_toArray, List.set_cons_zero, List.set_cons_succ]
    obtain ⟨V1, hV1⟩ : ∃ X, V0.setCell ⟨g, 4, none⟩ (.int .u64 o.pk) = X := ⟨_, rfl⟩
    rw [hV1] at HB10 HGW hHeld ⊢
    clear hV1
    refine' wpAnyH_take (i := 9) (oi := _) (v := _) rfl (by kernel_rfl) (by kernel_rfl) (by kernel_rfl) (fun _ _ _ h => h) (Or.inl ⟨by kernel_rfl, ?_⟩) (by assumption) ?_
    rotate_left
    ·(intro w hSw; (try dsimp only at hSw); go_simp; try (with_reducible rfl))
    try simp only [List.getElem_toArray, List.getElem_cons_succ, List.getElem_cons_zero, Act.put, List.setIfInBounds_toArray, List.set_cons_zero, List.set_cons_succ]
    refine wpAnyH_ready (rs := [10]) (by kernel_rfl) (by simp) ?_
    refine AllReadyH.cons (o := _) rfl (fun K hK => ?_) AllReadyH.nil
    have fz := row_frz HGW.out 5
    obtain ⟨m0, m1, m2, m3, m4, m5, m6⟩ := row7 HGW.out
    have k1 := Kp.set V1 g 5 (.int .u64 (q2 - o.pk))
    have HB11 := hid (HB10.out.trans (k1.below HB10.out.size (fun j hj e => HNG.out j hj e)))
    have HGX := hid (set_row (k := 5) (.int .u64 (q2 - o.pk)) HGW.out)
    go_simp
    refine hK.out _ _ ?_ (fun hHeld => ?_)
    ·(try dsimp only); exact row7 (HS5.out.on HB11.out).c
    clear hK K k1 fz m0 m1 m2 m3 m4 m5 m6
    try simp only [List.getElem_toArray, List.getElem_cons_succ, List.getElem_cons_zero, Act.put, List.setIfInBounds_toArray, List.set_cons_zero, List.set_cons_succ]
    refine wpAnyH_done (by kernel_rfl) ?_ _
    obtain ⟨V2, hV2⟩ : ∃ X, V1.setCell ⟨g, 5, none⟩ (.int .u64 (q2 - o.pk)) = X := ⟨_, rfl⟩
    rw [hV2] at HB11 HGX ⊢
    clear hV2 hHeld
    have HG10 := hid (show V2.heap[g]? = some (.cells #[.int .u64 o.id, .int .u32 o.mb, .int .i64 o.ty, .int .i64 o.pr, .int .u64 o.pk, .int .u64 (q2 - o.pk), .int .u64 o.pk] 50 (0, 0)) from HGX.out)
    have HS10 := hid (HS5.out.on HB11.out)
    have HD10 := hid (HD5.out.on HB11.out)
    have HR10 := hid (HR5.out.on HB11.out)
    go_upto_region 11 with fail
    have HLN := hid (HC.out.ln HRS.out)
    obtain ⟨Y0, hY0⟩ : ∃ X, V2.drew = X := ⟨_, rfl⟩
    have HE0 := hid (show Below V2.heap.size V2 Y0 from by rw [← hY0]; exact bdrew1 _)
    have HQ0 := hid (HS10.out.on HE0.out)
    have HG0 := hid (row_on HG10.out HE0.out)
    have HDY := hid (HD10.out.on HE0.out)
    have HRY := hid (HR10.out.on HE0.out)
    have BE0 := hid (Below.refl Y0.heap.size Y0)
    refine wp_region_held_drew (S := (fun U => (U.cell? ⟨R + 1, 0, none⟩ = some (.int .u64 o.id) ∧ U.cell? ⟨R + 1, 1, none⟩ = some (.int .u64 q2) ∧ U.cell? ⟨R + 1, 2, none⟩ = some (.int .u64 o.pk) ∧ U.cell? ⟨R + 1, 3, none⟩ = some (.int .u32 o.mb) ∧ U.cell? ⟨R + 1, 4, none⟩ = some (.int .i64 s) ∧ U.cell? ⟨R + 1, 5, none⟩ = some (.int .i64 o.ty) ∧ U.cell? ⟨R + 1, 6, none⟩ = some (.int .i64 o.pr)) ∧ (U.cell? ⟨g, 0, none⟩ = some (.int .u64 o.id) ∧ U.cell? ⟨g, 1, none⟩ = some (.int .u32 o.mb) ∧ U.cell? ⟨g, 2, none⟩ = some (.int .i64 o.ty) ∧ U.cell? ⟨g, 3, none⟩ = some (.int .i64 o.pr) ∧ U.cell? ⟨g, 4, none⟩ = some (.int .u64 o.pk) ∧ U.cell? ⟨g, 5, none⟩ = some (.int .u64 (q2 - o.pk)) ∧ U.cell? ⟨g, 6, none⟩ = some (.int .u64 o.pk)))) (by kernel_rfl) ?_ (fun hHeld => ?_)
    ·(try dsimp only); ((rw [hY0]; exact ⟨row7 HQ0.out.c, row7 HG0.out⟩))
    rw [hY0] at hHeld ⊢
    clear hY0
    refine' wpAnyH_take (i := 0) (oi := _) (v := _) rfl (by kernel_rfl) (by kernel_rfl) (by kernel_rfl) (fun _ _ _ h => h) (Or.inl ⟨by kernel_rfl, ?_⟩) (by assumption) ?_
    rotate_left
    ·(intro w hSw; (try dsimp only at hSw); go_simp; try (with_reducible rfl))
    try simp only [List.getElem_toArray, List.getElem_cons_succ, List.getElem_cons_zero, Act.put, List.setIfInBounds_toArray, List.set_cons_zero, List.set_cons_succ]
    refine' wpAnyH_take (i := 2) (oi := _) (v := _) rfl (by kernel_rfl) (by kernel_rfl) (by kernel_rfl) (fun _ _ _ h => h) (Or.inl ⟨by kernel_rfl, ?_⟩) (by assumption) ?_
    rotate_left
    ·(intro w hSw; (try dsimp only at hSw); go_simp; try (with_reducible rfl))
    try simp only [List.getElem_toArray, List.getElem_cons_succ, List.getElem_cons_zero, Act.put, List.setIfInBounds_toArray, List.set_cons_zero, List.set_cons_succ]
    refine' wpAnyH_take (i := 3) (oi := _) (v := _) rfl (by kernel_rfl) (by kernel_rfl) (by kernel_rfl) (fun _ _ _ h => h) (Or.inl ⟨by kernel_rfl, ?_⟩) (by assumption) ?_
    rotate_left
    ·(intro w hSw; (try dsimp only at hSw); go_simp; try (with_reducible rfl))
    try simp only [List.getElem_toArray, List.getElem_cons_succ, List.getElem_cons_zero, Act.put, List.setIfInBounds_toArray, List.set_cons_zero, List.set_cons_succ]
    refine' wpAnyH_take (i := 4) (oi := _) (v := _) rfl (by kernel_rfl) (by kernel_rfl) (by kernel_rfl) (fun _ _ _ h => h) (Or.inl ⟨by kernel_rfl, ?_⟩) (by assumption) ?_
    rotate_left
    ·(intro w hSw; (try dsimp only at hSw); go_simp; try (with_reducible rfl))
    try simp only [List.getElem_toArray, List.getElem_cons_succ, List.getElem_cons_zero, Act.put, List.setIfInBounds_toArray, List.set_cons_zero, List.set_cons_succ]
    refine' wpAnyH_take (i := 5) (oi := _) (v := _) rfl (by kernel_rfl) (by kernel_rfl) (by kernel_rfl) (fun _ _ _ h => h) (Or.inl ⟨by kernel_rfl, ?_⟩) (by assumption) ?_
    rotate_left
    ·(intro w hSw; (try dsimp only at hSw); go_simp; try (with_reducible rfl))
    try simp only [List.getElem_toArray, List.getElem_cons_succ, List.getElem_cons_zero, Act.put, List.setIfInBounds_toArray, List.set_cons_zero, List.set_cons_succ]
    refine' wpAnyH_take (i := 6) (oi := _) (v := _) rfl (by kernel_rfl) (by kernel_rfl) (by kernel_rfl) (fun _ _ _ h => h) (Or.inl ⟨by kernel_rfl, ?_⟩) (by assumption) ?_
    rotate_left
    ·(intro w hSw; (try dsimp only at hSw); go_simp; try (with_reducible rfl))
    try simp only [List.getElem_toArray, List.getElem_cons_succ, List.getElem_cons_zero, Act.put, List.setIfInBounds_toArray, List.set_cons_zero, List.set_cons_succ]
    refine' wpAnyH_take (i := 8) (oi := _) (v := _) rfl (by kernel_rfl) (by kernel_rfl) (by kernel_rfl) (fun _ _ _ h => h) (Or.inl ⟨by kernel_rfl, ?_⟩) (by assumption) ?_
    rotate_left
    ·(intro w hSw; (try dsimp only at hSw); go_simp; try (with_reducible rfl))
    try simp only [List.getElem_toArray, List.getElem_cons_succ, List.getElem_cons_zero, Act.put, List.setIfInBounds_toArray, List.set_cons_zero, List.set_cons_succ]
    refine' wpAnyH_take (i := 9) (oi := _) (v := _) rfl (by kernel_rfl) (by kernel_rfl) (by kernel_rfl) (fun _ _ _ h => h) (Or.inl ⟨by kernel_rfl, ?_⟩) (by assumption) ?_
    rotate_left
    ·(intro w hSw; (try dsimp only at hSw); go_simp; try (with_reducible rfl))
    try simp only [List.getElem_toArray, List.getElem_cons_succ, List.getElem_cons_zero, Act.put, List.setIfInBounds_toArray, List.set_cons_zero, List.set_cons_succ]
    refine' wpAnyH_take (i := 11) (oi := _) (v := _) rfl (by kernel_rfl) (by kernel_rfl) (by kernel_rfl) (fun _ _ _ h => h) (Or.inl ⟨by kernel_rfl, ?_⟩) (by assumption) ?_
    rotate_left
    ·(intro w hSw; (try dsimp only at hSw); go_simp; try (with_reducible rfl))
    try simp only [List.getElem_toArray, List.getElem_cons_succ, List.getElem_cons_zero, Act.put, List.setIfInBounds_toArray, List.set_cons_zero, List.set_cons_succ]
    refine wpAnyH_ready (rs := [1, 7]) (by kernel_rfl) (by simp) ?_
    refine (AllReadyH.cons (o := _) rfl (fun K hK => ?_) (AllReadyH.cons (o := _) rfl (fun K hK => ?_) AllReadyH.nil))
    focus
     obtain ⟨a0, a1, a2, a3, a4, a5, a6⟩ := row7 (HQ0.out.on BE0.out).t
     go_simp
     refine hK.out _ _ ?_ (fun hHeld => ?_)
     ·(try dsimp only); exact ⟨row7 (HQ0.out.on (BE0.out)).c, row7 (row_on HG0.out (BE0.out))⟩
     clear hK K a0 a1 a2 a3 a4 a5 a6
     try simp only [List.getElem_toArray, List.getElem_cons_succ, List.getElem_cons_zero, Act.put, List.setIfInBounds_toArray, List.set_cons_zero, List.set_cons_succ]
     refine wpAnyH_ready (rs := [7]) (by kernel_rfl) (by simp) ?_
     refine (AllReadyH.cons (o := _) rfl (fun K hK => ?_) AllReadyH.nil)
     obtain ⟨a0, a1, a2, a3, a4, a5, a6⟩ := row7 (HQ0.out.on BE0.out).t
     go_simp
     refine hK.out _ _ ?_ (fun hHeld => ?_)
     ·(try dsimp only); exact ⟨row7 (HQ0.out.on (BE0.out)).c, row7 (row_on HG0.out (BE0.out))⟩
     clear hK K a0 a1 a2 a3 a4 a5 a6
     try simp only [List.getElem_toArray, List.getElem_cons_succ, List.getElem_cons_zero, Act.put, List.setIfInBounds_toArray, List.set_cons_zero, List.set_cons_succ]
     refine wpAnyH_ready (rs := [10]) (by kernel_rfl) (by simp) ?_
     refine (AllReadyH.cons (o := _) rfl (fun K hK => ?_) AllReadyH.nil)
     go_simp
     go_at_call 34; with_reducible refine (wsideS d2 s HSS.out Y0 (HDY.out.on BE0.out)).mono ?_; rintro e X1 ⟨p3, n3, c3, rfl, HN3, HR3, HB3⟩
     (try go_wp2_with fail)
     have BX1 := hid (btr BE0.out HB3.out)
     refine hK.out _ _ ?_ (fun hHeld => ?_)
     ·(try dsimp only); exact ⟨row7 (HQ0.out.on (BX1.out)).c, row7 (row_on HG0.out (BX1.out))⟩
     clear hK K
     try simp only [List.getElem_toArray, List.getElem_cons_succ, List.getElem_cons_zero, Act.put, List.setIfInBounds_toArray, List.set_cons_zero, List.set_cons_succ]
     refine wpAnyH_ready (rs := [12]) (by kernel_rfl) (by simp) ?_
     refine (AllReadyH.cons (o := _) rfl (fun K hK => ?_) AllReadyH.nil)
     have CE := hid (wenqN s p3 n3 c3 (d2.os s) (⟨o.id, o.mb, o.ty, o.pr, o.pk, q2 - o.pk, o.pk⟩ : Or) HN3.out (by have := HLN.out; have := HN3.out; omega) X1 (HR3.out))
     simp only at CE
     go_simp
     go_at_call 57; with_reducible refine (CE.out).mono ?_; rintro e X2 ⟨p9, c9, rfl, HR9, HB9', HJ9⟩
     (try go_wp2_with fail)
     have BX2 := hid (btr BX1.out HB9'.out)
     refine hK.out _ _ ?_ (fun hHeld => ?_)
     ·(try dsimp only); exact ⟨row7 (HQ0.out.on (BX2.out)).c, row7 (row_on HG0.out (BX2.out))⟩
     clear hK K
     try simp only [List.getElem_toArray, List.getElem_cons_succ, List.getElem_cons_zero, Act.put, List.setIfInBounds_toArray, List.set_cons_zero, List.set_cons_succ]
     refine wpAnyH_ready (rs := [13]) (by kernel_rfl) (by simp) ?_
     refine (AllReadyH.cons (o := _) rfl (fun K hK => ?_) AllReadyH.nil)
     have HLI := hid (show (inO (bhO s o.pr (d2.os s)) (⟨o.id, o.mb, o.ty, o.pr, o.pk, q2 - o.pk, o.pk⟩ : Or) (d2.os s)).length = n3 + 1 from by have h1 := bhO_le s o.pr (d2.os s); rw [← HN3.out]; unfold inO; simp; omega)
     go_simp
     go_at_call 32; with_reducible refine (wwith d2 s p9 (n3 + 1) c9 (inO (bhO s o.pr (d2.os s)) (⟨o.id, o.mb, o.ty, o.pr, o.pk, q2 - o.pk, o.pk⟩ : Or) (d2.os s)) HLI.out X2).mono ?_; rintro e X3 ⟨d7, rfl, HD7, HB7⟩
     (try go_wp2_with fail)
     have BX3 := hid (btr BX2.out HB7.out)
     refine hK.out _ _ ?_ (fun hHeld => ?_)
     ·(try dsimp only); exact ⟨row7 (HQ0.out.on (BX3.out)).c, row7 (row_on HG0.out (BX3.out))⟩
     clear hK K
     try simp only [List.getElem_toArray, List.getElem_cons_succ, List.getElem_cons_zero, Act.put, List.setIfInBounds_toArray, List.set_cons_zero, List.set_cons_succ]
    rotate_left 1
    focus
     obtain ⟨a0, a1, a2, a3, a4, a5, a6⟩ := row7 (HQ0.out.on BE0.out).t
     go_simp
     refine hK.out _ _ ?_ (fun hHeld => ?_)
     ·(try dsimp only); exact ⟨row7 (HQ0.out.on (BE0.out)).c, row7 (row_on HG0.out (BE0.out))⟩
     clear hK K a0 a1 a2 a3 a4 a5 a6
     try simp only [List.getElem_toArray, List.getElem_cons_succ, List.getElem_cons_zero, Act.put, List.setIfInBounds_toArray, List.set_cons_zero, List.set_cons_succ]
     refine wpAnyH_ready (rs := [1, 10]) (by kernel_rfl) (by simp) ?_
     refine (AllReadyH.cons (o := _) rfl (fun K hK => ?_) (AllReadyH.cons (o := _) rfl (fun K hK => ?_) AllReadyH.nil))
     focus
      obtain ⟨a0, a1, a2, a3, a4, a5, a6⟩ := row7 (HQ0.out.on BE0.out).t
      go_simp
      refine hK.out _ _ ?_ (fun hHeld => ?_)
      ·(try dsimp only); exact ⟨row7 (HQ0.out.on (BE0.out)).c, row7 (row_on HG0.out (BE0.out))⟩
      clear hK K a0 a1 a2 a3 a4 a5 a6
      try simp only [List.getElem_toArray, List.getElem_cons_succ, List.getElem_cons_zero, Act.put, List.setIfInBounds_toArray, List.set_cons_zero, List.set_cons_succ]
      refine wpAnyH_ready (rs := [10]) (by kernel_rfl) (by simp) ?_
      refine (AllReadyH.cons (o := _) rfl (fun K hK => ?_) AllReadyH.nil)
      go_simp
      go_at_call 34; with_reducible refine (wsideS d2 s HSS.out Y0 (HDY.out.on BE0.out)).mono ?_; rintro e X1 ⟨p3, n3, c3, rfl, HN3, HR3, HB3⟩
      (try go_wp2_with fail)
      have BX1 := hid (btr BE0.out HB3.out)
      refine hK.out _ _ ?_ (fun hHeld => ?_)
      ·(try dsimp only); exact ⟨row7 (HQ0.out.on (BX1.out)).c, row7 (row_on HG0.out (BX1.out))⟩
      clear hK K
      try simp only [List.getElem_toArray, List.getElem_cons_succ, List.getElem_cons_zero, Act.put, List.setIfInBounds_toArray, List.set_cons_zero, List.set_cons_succ]
      refine wpAnyH_ready (rs := [12]) (by kernel_rfl) (by simp) ?_
      refine (AllReadyH.cons (o := _) rfl (fun K hK => ?_) AllReadyH.nil)
      have CE := hid (wenqN s p3 n3 c3 (d2.os s) (⟨o.id, o.mb, o.ty, o.pr, o.pk, q2 - o.pk, o.pk⟩ : Or) HN3.out (by have := HLN.out; have := HN3.out; omega) X1 (HR3.out))
      simp only at CE
      go_simp
      go_at_call 57; with_reducible refine (CE.out).mono ?_; rintro e X2 ⟨p9, c9, rfl, HR9, HB9', HJ9⟩
      (try go_wp2_with fail)
      have BX2 := hid (btr BX1.out HB9'.out)
      refine hK.out _ _ ?_ (fun hHeld => ?_)
      ·(try dsimp only); exact ⟨row7 (HQ0.out.on (BX2.out)).c, row7 (row_on HG0.out (BX2.out))⟩
      clear hK K
      try simp only [List.getElem_toArray, List.getElem_cons_succ, List.getElem_cons_zero, Act.put, List.setIfInBounds_toArray, List.set_cons_zero, List.set_cons_succ]
      refine wpAnyH_ready (rs := [13]) (by kernel_rfl) (by simp) ?_
      refine (AllReadyH.cons (o := _) rfl (fun K hK => ?_) AllReadyH.nil)
      have HLI := hid (show (inO (bhO s o.pr (d2.os s)) (⟨o.id, o.mb, o.ty, o.pr, o.pk, q2 - o.pk, o.pk⟩ : Or) (d2.os s)).length = n3 + 1 from by have h1 := bhO_le s o.pr (d2.os s); rw [← HN3.out]; unfold inO; simp; omega)
      go_simp
      go_at_call 32; with_reducible refine (wwith d2 s p9 (n3 + 1) c9 (inO (bhO s o.pr (d2.os s)) (⟨o.id, o.mb, o.ty, o.pr, o.pk, q2 - o.pk, o.pk⟩ : Or) (d2.os s)) HLI.out X2).mono ?_; rintro e X3 ⟨d7, rfl, HD7, HB7⟩
      (try go_wp2_with fail)
      have BX3 := hid (btr BX2.out HB7.out)
      refine hK.out _ _ ?_ (fun hHeld => ?_)
      ·(try dsimp only); exact ⟨row7 (HQ0.out.on (BX3.out)).c, row7 (row_on HG0.out (BX3.out))⟩
      clear hK K
      try simp only [List.getElem_toArray, List.getElem_cons_succ, List.getElem_cons_zero, Act.put, List.setIfInBounds_toArray, List.set_cons_zero, List.set_cons_succ]
     rotate_left 1
     focus
      go_simp
      go_at_call 34; with_reducible refine (wsideS d2 s HSS.out Y0 (HDY.out.on BE0.out)).mono ?_; rintro e X1 ⟨p3, n3, c3, rfl, HN3, HR3, HB3⟩
      (try go_wp2_with fail)
      have BX1 := hid (btr BE0.out HB3.out)
      refine hK.out _ _ ?_ (fun hHeld => ?_)
      ·(try dsimp only); exact ⟨row7 (HQ0.out.on (BX1.out)).c, row7 (row_on HG0.out (BX1.out))⟩
      clear hK K
      try simp only [List.getElem_toArray, List.getElem_cons_succ, List.getElem_cons_zero, Act.put, List.setIfInBounds_toArray, List.set_cons_zero, List.set_cons_succ]
      refine wpAnyH_ready (rs := [1, 12]) (by kernel_rfl) (by simp) ?_
      refine (AllReadyH.cons (o := _) rfl (fun K hK => ?_) (AllReadyH.cons (o := _) rfl (fun K hK => ?_) AllReadyH.nil))
      focus
       obtain ⟨a0, a1, a2, a3, a4, a5, a6⟩ := row7 (HQ0.out.on BX1.out).t
       go_simp
       refine hK.out _ _ ?_ (fun hHeld => ?_)
       ·(try dsimp only); exact ⟨row7 (HQ0.out.on (BX1.out)).c, row7 (row_on HG0.out (BX1.out))⟩
       clear hK K a0 a1 a2 a3 a4 a5 a6
       try simp only [List.getElem_toArray, List.getElem_cons_succ, List.getElem_cons_zero, Act.put, List.setIfInBounds_toArray, List.set_cons_zero, List.set_cons_succ]
       refine wpAnyH_ready (rs := [12]) (by kernel_rfl) (by simp) ?_
       refine (AllReadyH.cons (o := _) rfl (fun K hK => ?_) AllReadyH.nil)
       have CE := hid (wenqN s p3 n3 c3 (d2.os s) (⟨o.id, o.mb, o.ty, o.pr, o.pk, q2 - o.pk, o.pk⟩ : Or) HN3.out (by have := HLN.out; have := HN3.out; omega) X1 (HR3.out))
       simp only at CE
       go_simp
       go_at_call 57; with_reducible refine (CE.out).mono ?_; rintro e X2 ⟨p9, c9, rfl, HR9, HB9', HJ9⟩
       (try go_wp2_with fail)
       have BX2 := hid (btr BX1.out HB9'.out)
       refine hK.out _ _ ?_ (fun hHeld => ?_)
       ·(try dsimp only); exact ⟨row7 (HQ0.out.on (BX2.out)).c, row7 (row_on HG0.out (BX2.out))⟩
       clear hK K
       try simp only [List.getElem_toArray, List.getElem_cons_succ, List.getElem_cons_zero, Act.put, List.setIfInBounds_toArray, List.set_cons_zero, List.set_cons_succ]
       refine wpAnyH_ready (rs := [13]) (by kernel_rfl) (by simp) ?_
       refine (AllReadyH.cons (o := _) rfl (fun K hK => ?_) AllReadyH.nil)
       have HLI := hid (show (inO (bhO s o.pr (d2.os s)) (⟨o.id, o.mb, o.ty, o.pr, o.pk, q2 - o.pk, o.pk⟩ : Or) (d2.os s)).length = n3 + 1 from by have h1 := bhO_le s o.pr (d2.os s); rw [← HN3.out]; unfold inO; simp; omega)
       go_simp
       go_at_call 32; with_reducible refine (wwith d2 s p9 (n3 + 1) c9 (inO (bhO s o.pr (d2.os s)) (⟨o.id, o.mb, o.ty, o.pr, o.pk, q2 - o.pk, o.pk⟩ : Or) (d2.os s)) HLI.out X2).mono ?_; rintro e X3 ⟨d7, rfl, HD7, HB7⟩
       (try go_wp2_with fail)
       have BX3 := hid (btr BX2.out HB7.out)
       refine hK.out _ _ ?_ (fun hHeld => ?_)
       ·(try dsimp only); exact ⟨row7 (HQ0.out.on (BX3.out)).c, row7 (row_on HG0.out (BX3.out))⟩
       clear hK K
       try simp only [List.getElem_toArray, List.getElem_cons_succ, List.getElem_cons_zero, Act.put, List.setIfInBounds_toArray, List.set_cons_zero, List.set_cons_succ]
      rotate_left 1
      focus
       have CE := hid (wenqN s p3 n3 c3 (d2.os s) (⟨o.id, o.mb, o.ty, o.pr, o.pk, q2 - o.pk, o.pk⟩ : Or) HN3.out (by have := HLN.out; have := HN3.out; omega) X1 (HR3.out))
       simp only at CE
       go_simp
       go_at_call 57; with_reducible refine (CE.out).mono ?_; rintro e X2 ⟨p9, c9, rfl, HR9, HB9', HJ9⟩
       (try go_wp2_with fail)
       have BX2 := hid (btr BX1.out HB9'.out)
       refine hK.out _ _ ?_ (fun hHeld => ?_)
       ·(try dsimp only); exact ⟨row7 (HQ0.out.on (BX2.out)).c, row7 (row_on HG0.out (BX2.out))⟩
       clear hK K
       try simp only [List.getElem_toArray, List.getElem_cons_succ, List.getElem_cons_zero, Act.put, List.setIfInBounds_toArray, List.set_cons_zero, List.set_cons_succ]
       refine wpAnyH_ready (rs := [1]) (by kernel_rfl) (by simp) ?_
       refine (AllReadyH.cons (o := _) rfl (fun K hK => ?_) AllReadyH.nil)
       obtain ⟨a0, a1, a2, a3, a4, a5, a6⟩ := row7 (HQ0.out.on BX2.out).t
       go_simp
       refine hK.out _ _ ?_ (fun hHeld => ?_)
       ·(try dsimp only); exact ⟨row7 (HQ0.out.on (BX2.out)).c, row7 (row_on HG0.out (BX2.out))⟩
       clear hK K a0 a1 a2 a3 a4 a5 a6
       try simp only [List.getElem_toArray, List.getElem_cons_succ, List.getElem_cons_zero, Act.put, List.setIfInBounds_toArray, List.set_cons_zero, List.set_cons_succ]
       refine wpAnyH_ready (rs := [13]) (by kernel_rfl) (by simp) ?_
       refine (AllReadyH.cons (o := _) rfl (fun K hK => ?_) AllReadyH.nil)
       have HLI := hid (show (inO (bhO s o.pr (d2.os s)) (⟨o.id, o.mb, o.ty, o.pr, o.pk, q2 - o.pk, o.pk⟩ : Or) (d2.os s)).length = n3 + 1 from by have h1 := bhO_le s o.pr (d2.os s); rw [← HN3.out]; unfold inO; simp; omega)
       go_simp
       go_at_call 32; with_reducible refine (wwith d2 s p9 (n3 + 1) c9 (inO (bhO s o.pr (d2.os s)) (⟨o.id, o.mb, o.ty, o.pr, o.pk, q2 - o.pk, o.pk⟩ : Or) (d2.os s)) HLI.out X2).mono ?_; rintro e X3 ⟨d7, rfl, HD7, HB7⟩
       (try go_wp2_with fail)
       have BX3 := hid (btr BX2.out HB7.out)
       refine hK.out _ _ ?_ (fun hHeld => ?_)
       ·(try dsimp only); exact ⟨row7 (HQ0.out.on (BX3.out)).c, row7 (row_on HG0.out (BX3.out))⟩
       clear hK K
       try simp only [List.getElem_toArray, List.getElem_cons_succ, List.getElem_cons_zero, Act.put, List.setIfInBounds_toArray, List.set_cons_zero, List.set_cons_succ]
      rotate_left 1
     rotate_left 2
    rotate_left 3
    all_goals
     refine' wpAnyH_take (i := 14) (oi := _) (v := _) rfl (by kernel_rfl) (by kernel_rfl) (by kernel_rfl) (fun _ _ _ h => h) (Or.inl ⟨by kernel_rfl, ?_⟩) (by assumption) ?_
     rotate_left
     ·(intro w hSw; (try dsimp only at hSw); go_simp; try (with_reducible rfl))
     try simp only [List.getElem_toArray, List.getElem_cons_succ, List.getElem_cons_zero, Act.put, List.setIfInBounds_toArray, List.set_cons_zero, List.set_cons_succ]
     refine wpAnyH_ready (rs := [15]) (by kernel_rfl) (by simp) ?_
     refine AllReadyH.cons (o := _) rfl (fun K hK => ?_) AllReadyH.nil
     have HQ7 := hid (HQ0.out.on BX3.out)
     have HG7 := hid (row_on HG0.out BX3.out)
     obtain ⟨a0, a1, a2, a3, a4, a5, a6⟩ := row7 HQ7.out.t
     have z0 := row_frz HQ7.out.t 0
     have z1 := row_frz HQ7.out.t 1
     have z2 := row_frz HQ7.out.t 2
     have z3 := row_frz HQ7.out.t 3
     have z4 := row_frz HQ7.out.t 4
     have z5 := row_frz HQ7.out.t 5
     have h6 := set6 (.int .i64 d7.cap) (.int .i64 d7.meet) (.slice d7.p1 d7.o1.length d7.c1) (.slice d7.p2 d7.o2.length d7.c2) (.int .u64 d7.high) (.int .u64 d7.seq) HQ7.out.t
     have HS8 := hid (HQ7.out.kp h6.2 h6.1)
     have HG8 := hid (h6.2.row HG7.out (by omega))
     have HK8 := hid h6.2
     clear h6
     go_simp
     refine hK.out _ _ ?_ (fun hHeld => ?_)
     ·(try dsimp only); exact ⟨row7 HS8.out.c, row7 HG8.out⟩
     clear hK K a0 a1 a2 a3 a4 a5 a6 z0 z1 z2 z3 z4 z5
     try simp only [List.getElem_toArray, List.getElem_cons_succ, List.getElem_cons_zero, Act.put, List.setIfInBounds_toArray, List.set_cons_zero, List.set_cons_succ]
     refine wpAnyH_done (by kernel_rfl) ?_ _
     obtain ⟨W8, hW8⟩ : ∃ X, ((((((X3.setCell ⟨R, 0, none⟩ (.int .i64 d7.cap)).setCell ⟨R, 1, none⟩ (.int .i64 d7.meet)).setCell ⟨R, 2, none⟩ (.slice d7.p1 d7.o1.length d7.c1)).setCell ⟨R, 3, none⟩ (.slice d7.p2 d7.o2.length d7.c2)).setCell ⟨R, 4, none⟩ (.int .u64 d7.high)).setCell ⟨R, 5, none⟩ (.int .u64 d7.seq)) = X := ⟨_, rfl⟩
     rw [hW8] at HS8 HK8 HG8 ⊢
     clear hW8 hHeld
     have HO8 := hid (show ∀ (base : Nat) (e : TypeId) (size m : Nat) (v : Value) (xs : List Value), X3.ownsRow base e size v m xs → e ≠ 74 → W8.ownsRow base e size v m xs from fun base e size m v xs hh n1 => own_same hh (fun j hj => by obtain ⟨cc, hc⟩ := own_ty hh hj; exact HK8.out.obj j (row_lt hc) (row_ne hc HQ7.out.t n1)))
     have AI8 := hid (show (Try.prog.info? 74).map (·.size) = some (#[.int .i64 d7.cap, .int .i64 d7.meet, .slice d7.p1 d7.o1.length d7.c1, .slice d7.p2 d7.o2.length d7.c2, .int .u64 d7.high, .int .u64 d7.seq, .slice p2 n2 c2] : Array Value).size from i74 _ _ _ _ _ _ _)
     have AS8 := hid (show (#[.int .i64 0, .int .i64 0, .slice none 0 0, .slice none 0 0, .int .u64 0, .int .u64 0, .slice none 0 0] : Array Value).size = (#[.int .i64 d7.cap, .int .i64 d7.meet, .slice d7.p1 d7.o1.length d7.c1, .slice d7.p2 d7.o2.length d7.c2, .int .u64 d7.high, .int .u64 d7.seq, .slice p2 n2 c2] : Array Value).size from s7 _ _ _ _ _ _ _ _ _ _ _ _ _ _)
     have AA8 := hid (show (#[.int .i64 d7.cap, .int .i64 d7.meet, .slice d7.p1 d7.o1.length d7.c1, .slice d7.p2 d7.o2.length d7.c2, .int .u64 d7.high, .int .u64 d7.seq, .slice p2 n2 c2] : Array Value).all (·.oneCell') = true from allT _ _ _ _)
     obtain ⟨a0, a1, a2, a3, a4, a5, a6⟩ := row7 HS8.out.t
     have HS9 := hid (HS8.out.setZ #[.int .i64 d7.cap, .int .i64 d7.meet, .slice d7.p1 d7.o1.length d7.c1, .slice d7.p2 d7.o2.length d7.c2, .int .u64 d7.high, .int .u64 d7.seq, .slice p2 n2 c2])
     go_wp2_with (refine wpList_store_row (by rfl) 74 (.tmp 4) (.tmp 95) (by rfl) (R + 1 + 1) #[.int .i64 d7.cap, .int .i64 d7.meet, .slice d7.p1 d7.o1.length d7.c1, .slice d7.p2 d7.o2.length d7.c2, .int .u64 d7.high, .int .u64 d7.seq, .slice p2 n2 c2] (by rfl) (by rfl) 74 _ HS8.out.z AI8.out AS8.out AA8.out ?_)
     refine bodyPost_ret (results_cell_row (fn := Try.f35) Try.results35 _ _ (R + 1 + 1) 74 #[.int .i64 d7.cap, .int .i64 d7.meet, .slice d7.p1 d7.o1.length d7.c1, .slice d7.p2 d7.o2.length d7.c2, .int .u64 d7.high, .int .u64 d7.seq, .slice p2 n2 c2] (0, 0) _ (by rfl) HS9.out.z Try.underlying74 rfl info74) rfl ?_
     have hd7 := HD7.out
     subst hd7
     have hli := HLI.out
     have hr9 := own_on HR9.out HB7.out
     rw [← hli] at hr9
     have HDX := hid (show Dm X3 d2 from HDY.out.on BX3.out)
     have HRX := hid (HRY.out.on BX3.out)
     refine ⟨_, p2, n2, c2, (cms o s (mes b s q + 1) (b, es, q)).2.1, rfl, ?_, HC.out.en, ?_, HS9.out.be, fun b' es' hh => ?_⟩
     ·exact ⟨Dm.put (d := d2) ⟨own_setRow (HO8.out _ _ _ _ _ _ HDX.out.r1 (by decide)) HS8.out.z (by decide), own_setRow (HO8.out _ _ _ _ _ _ HDX.out.r2 (by decide)) HS8.out.z (by decide), HDX.out.l1, HDX.out.l2⟩ (own_setRow (HO8.out _ _ _ _ _ _ hr9 (by decide)) HS8.out.z (by decide)) (by rw [hli]; have := HLN.out; have := HN3.out; omega), Nwl.put HNW.out (fun j hj => Nat.le_trans (HQ0.out.on BX1.out).be.size (HJ9.out j hj))⟩
     ·exact own_setRow (HO8.out _ _ _ _ _ _ HRX.out (by decide)) HS8.out.z (by decide)
     ·obtain ⟨nn, hc⟩ := HCM.out b' es' hh
      have h9 := came_rest HSS.out hc HC.out.df (by rw [HC.out.eq]; exact HZP.out) HRS.out p9 c9
      rw [HC.out.eq, HSH.out] at h9
      exact h9
   ·have HSH := hid (show shw o.pk q2 = (q2, 0) from by
     have h1 := HOP.out
     have h2 := HZP.out
     unfold shw
     by_cases hq : o.pk = 0 ∨ q2 < o.pk
     ·rw [if_pos hq]
     ·rw [if_neg hq]
      have h3 : o.pk = q2 := by omega
      rw [h3, Int.sub_self])
    by_cases hf1 : 0 < o.pk
    focus
     have u1 : decide (0 < o.pk) = true := by simpa using hf1
     have u2 : decide (o.pk < q2) = false := by simp; omega
    rotate_left
    focus
     have u1 : decide (0 < o.pk) = false := by simpa using hf1
    rotate_left
    all_goals
     clear a0 a1 a2 a3 a4 a5 a6 b0 b1 b2 b3 b4 b5 b6
     obtain ⟨a0, a1, a2, a3, a4, a5, a6⟩ := row7 HS5.out.t
     obtain ⟨b0, b1, b2, b3, b4, b5, b6⟩ := row7 HS5.out.c
     have HAL := hid (World.alloc_heap_new W5 (.cells #[.int .u64 0, .int .u32 0, .int .i64 0, .int .i64 0, .int .u64 0, .int .u64 0, .int .u64 0] 50))
     have AI9 := hid (show (Try.prog.info? 50).map (·.size) = some (#[.int .u64 o.id, .int .u32 o.mb, .int .i64 o.ty, .int .i64 o.pr, .int .u64 q2, .int .u64 0, .int .u64 o.pk] : Array Value).size from info50)
     have AS9 := hid (show (#[.int .u64 0, .int .u32 0, .int .i64 0, .int .i64 0, .int .u64 0, .int .u64 0, .int .u64 0] : Array Value).size = (#[.int .u64 o.id, .int .u32 o.mb, .int .i64 o.ty, .int .i64 o.pr, .int .u64 q2, .int .u64 0, .int .u64 o.pk] : Array Value).size from rfl)
     have AA9 := hid (show (#[.int .u64 o.id, .int .u32 o.mb, .int .i64 o.ty, .int .i64 o.pr, .int .u64 q2, .int .u64 0, .int .u64 o.pk] : Array Value).all (·.oneCell') = true from by simp [Value.oneCell'])
     go_upto_region 9 with (refine wpList_store_row (by rfl) 50 (.tmp 5) (.tmp 60) (by rfl) (W5.heap.size) #[.int .u64 o.id, .int .u32 o.mb, .int .i64 o.ty, .int .i64 o.pr, .int .u64 q2, .int .u64 0, .int .u64 o.pk] (by rfl) (by rfl) 50 _ HAL.out AI9.out AS9.out AA9.out ?_)
     have HB9 := hid (show Below W5.heap.size W5 ((W5.alloc (.cells #[.int .u64 0, .int .u32 0, .int .i64 0, .int .i64 0, .int .u64 0, .int .u64 0, .int .u64 0] 50)).setRow W5.heap.size #[.int .u64 o.id, .int .u32 o.mb, .int .i64 o.ty, .int .i64 o.pr, .int .u64 q2, .int .u64 0, .int .u64 o.pk]) from setRow_below (ball _ _) (Nat.le_refl _))
     have HG9 := hid (setRow_heap (W5.alloc (.cells #[.int .u64 0, .int .u32 0, .int .i64 0, .int .i64 0, .int .u64 0, .int .u64 0, .int .u64 0] 50)) W5.heap.size _ #[.int .u64 o.id, .int .u32 o.mb, .int .i64 o.ty, .int .i64 o.pr, .int .u64 q2, .int .u64 0, .int .u64 o.pk] 50 (0, 0) HAL.out)
     obtain ⟨M, hM⟩ : ∃ X, (W5.alloc (.cells #[.int .u64 0, .int .u32 0, .int .i64 0, .int .i64 0, .int .u64 0, .int .u64 0, .int .u64 0] 50)).setRow W5.heap.size #[.int .u64 o.id, .int .u32 o.mb, .int .i64 o.ty, .int .i64 o.pr, .int .u64 q2, .int .u64 0, .int .u64 o.pk] = X := ⟨_, rfl⟩
     have gR : R + 1 + 1 < W5.heap.size := row_lt HS5.out.z
     obtain ⟨g, hg⟩ : ∃ g, W5.heap.size = g := ⟨_, rfl⟩
     rw [hM] at HB9 HG9 ⊢
     rw [hg] at HG9 gR ⊢
     have HSM := hid (HS5.out.on HB9.out)
     have HDM9 := hid (HD5.out.on HB9.out)
     have HRM := hid (HR5.out.on HB9.out)
     have HNG := hid (show ∀ (j : Nat), j < W5.heap.size → j ≠ g from fun j hj => by omega)
     clear hM hg HAL
     clear a0 a1 a2 a3 a4 a5 a6 b0 b1 b2 b3 b4 b5 b6
     obtain ⟨b0, b1, b2, b3, b4, b5, b6⟩ := row7 HSM.out.c
     go_upto_region 11 with fail
     clear b0 b1 b2 b3 b4 b5 b6
     have HLN := hid (HC.out.ln HRS.out)
     obtain ⟨Y0, hY0⟩ : ∃ X, M.drew = X := ⟨_, rfl⟩
     have HE0 := hid (show Below M.heap.size M Y0 from by rw [← hY0]; exact bdrew1 _)
     have HQ0 := hid (HSM.out.on HE0.out)
     have HG0 := hid (row_on HG9.out HE0.out)
     have HDY := hid (HDM9.out.on HE0.out)
     have HRY := hid (HRM.out.on HE0.out)
     have BE0 := hid (Below.refl Y0.heap.size Y0)
     refine wp_region_held_drew (S := (fun U => (U.cell? ⟨R + 1, 0, none⟩ = some (.int .u64 o.id) ∧ U.cell? ⟨R + 1, 1, none⟩ = some (.int .u64 q2) ∧ U.cell? ⟨R + 1, 2, none⟩ = some (.int .u64 o.pk) ∧ U.cell? ⟨R + 1, 3, none⟩ = some (.int .u32 o.mb) ∧ U.cell? ⟨R + 1, 4, none⟩ = some (.int .i64 s) ∧ U.cell? ⟨R + 1, 5, none⟩ = some (.int .i64 o.ty) ∧ U.cell? ⟨R + 1, 6, none⟩ = some (.int .i64 o.pr)) ∧ (U.cell? ⟨g, 0, none⟩ = some (.int .u64 o.id) ∧ U.cell? ⟨g, 1, none⟩ = some (.int .u32 o.mb) ∧ U.cell? ⟨g, 2, none⟩ = some (.int .i64 o.ty) ∧ U.cell? ⟨g, 3, none⟩ = some (.int .i64 o.pr) ∧ U.cell? ⟨g, 4, none⟩ = some (.int .u64 q2) ∧ U.cell? ⟨g, 5, none⟩ = some (.int .u64 0) ∧ U.cell? ⟨g, 6, none⟩ = some (.int .u64 o.pk)))) (by kernel_rfl) ?_ (fun hHeld => ?_)
     ·(try dsimp only); ((rw [hY0]; exact ⟨row7 HQ0.out.c, row7 HG0.out⟩))
     rw [hY0] at hHeld ⊢
     clear hY0
     refine' wpAnyH_take (i := 0) (oi := _) (v := _) rfl (by kernel_rfl) (by kernel_rfl) (by kernel_rfl) (fun _ _ _ h => h) (Or.inl ⟨by kernel_rfl, ?_⟩) (by assumption) ?_
     rotate_left
     ·(intro w hSw; (try dsimp only at hSw); go_simp; try (with_reducible rfl))
     try simp only [List.getElem_toArray, List.getElem_cons_succ, List.getElem_cons_zero, Act.put, List.setIfInBounds_toArray, List.set_cons_zero, List.set_cons_succ]
     refine' wpAnyH_take (i := 2) (oi := _) (v := _) rfl (by kernel_rfl) (by kernel_rfl) (by kernel_rfl) (fun _ _ _ h => h) (Or.inl ⟨by kernel_rfl, ?_⟩) (by assumption) ?_
     rotate_left
     ·(intro w hSw; (try dsimp only at hSw); go_simp; try (with_reducible rfl))
     try simp only [List.getElem_toArray, List.getElem_cons_succ, List.getElem_cons_zero, Act.put, List.setIfInBounds_toArray, List.set_cons_zero, List.set_cons_succ]
     refine' wpAnyH_take (i := 3) (oi := _) (v := _) rfl (by kernel_rfl) (by kernel_rfl) (by kernel_rfl) (fun _ _ _ h => h) (Or.inl ⟨by kernel_rfl, ?_⟩) (by assumption) ?_
     rotate_left
     ·(intro w hSw; (try dsimp only at hSw); go_simp; try (with_reducible rfl))
     try simp only [List.getElem_toArray, List.getElem_cons_succ, List.getElem_cons_zero, Act.put, List.setIfInBounds_toArray, List.set_cons_zero, List.set_cons_succ]
     refine' wpAnyH_take (i := 4) (oi := _) (v := _) rfl (by kernel_rfl) (by kernel_rfl) (by kernel_rfl) (fun _ _ _ h => h) (Or.inl ⟨by kernel_rfl, ?_⟩) (by assumption) ?_
     rotate_left
     ·(intro w hSw; (try dsimp only at hSw); go_simp; try (with_reducible rfl))
     try simp only [List.getElem_toArray, List.getElem_cons_succ, List.getElem_cons_zero, Act.put, List.setIfInBounds_toArray, List.set_cons_zero, List.set_cons_succ]
     refine' wpAnyH_take (i := 5) (oi := _) (v := _) rfl (by kernel_rfl) (by kernel_rfl) (by kernel_rfl) (fun _ _ _ h => h) (Or.inl ⟨by kernel_rfl, ?_⟩) (by assumption) ?_
     rotate_left
     ·(intro w hSw; (try dsimp only at hSw); go_simp; try (with_reducible rfl))
     try simp only [List.getElem_toArray, List.getElem_cons_succ, List.getElem_cons_zero, Act.put, List.setIfInBounds_toArray, List.set_cons_zero, List.set_cons_succ]
     refine' wpAnyH_take (i := 6) (oi := _) (v := _) rfl (by kernel_rfl) (by kernel_rfl) (by kernel_rfl) (fun _ _ _ h => h) (Or.inl ⟨by kernel_rfl, ?_⟩) (by assumption) ?_
     rotate_left
     ·(intro w hSw; (try dsimp only at hSw); go_simp; try (with_reducible rfl))
     try simp only [List.getElem_toArray, List.getElem_cons_succ, List.getElem_cons_zero, Act.put, List.setIfInBounds_toArray, List.set_cons_zero, List.set_cons_succ]
     refine' wpAnyH_take (i := 8) (oi := _) (v := _) rfl (by kernel_rfl) (by kernel_rfl) (by kernel_rfl) (fun _ _ _ h => h) (Or.inl ⟨by kernel_rfl, ?_⟩) (by assumption) ?_
     rotate_left
     ·(intro w hSw; (try dsimp only at hSw); go_simp; try (with_reducible rfl))
     try simp only [List.getElem_toArray, List.getElem_cons_succ, List.getElem_cons_zero, Act.put, List.setIfInBounds_toArray, List.set_cons_zero, List.set_cons_succ]
     refine' wpAnyH_take (i := 9) (oi := _) (v := _) rfl (by kernel_rfl) (by kernel_rfl) (by kernel_rfl) (fun _ _ _ h => h) (Or.inl ⟨by kernel_rfl, ?_⟩) (by assumption) ?_
     rotate_left
     ·(intro w hSw; (try dsimp only at hSw); go_simp; try (with_reducible rfl))
     try simp only [List.getElem_toArray, List.getElem_cons_succ, List.getElem_cons_zero, Act.put, List.setIfInBounds_toArray, List.set_cons_zero, List.set_cons_succ]
     refine' wpAnyH_take (i := 11) (oi := _) (v := _) rfl (by kernel_rfl) (by kernel_rfl) (by kernel_rfl) (fun _ _ _ h => h) (Or.inl ⟨by kernel_rfl, ?_⟩) (by assumption) ?_
     rotate_left
     ·(intro w hSw; (try dsimp only at hSw); go_simp; try (with_reducible rfl))
     try simp only [List.getElem_toArray, List.getElem_cons_succ, List.getElem_cons_zero, Act.put, List.setIfInBounds_toArray, List.set_cons_zero, List.set_cons_succ]
     refine wpAnyH_ready (rs := [1, 7]) (by kernel_rfl) (by simp) ?_
     refine (AllReadyH.cons (o := _) rfl (fun K hK => ?_) (AllReadyH.cons (o := _) rfl (fun K hK => ?_) AllReadyH.nil))
     focus
      obtain ⟨a0, a1, a2, a3, a4, a5, a6⟩ := row7 (HQ0.out.on BE0.out).t
      go_simp
      refine hK.out _ _ ?_ (fun hHeld => ?_)
      ·(try dsimp only); exact ⟨row7 (HQ0.out.on (BE0.out)).c, row7 (row_on HG0.out (BE0.out))⟩
      clear hK K a0 a1 a2 a3 a4 a5 a6
      try simp only [List.getElem_toArray, List.getElem_cons_succ, List.getElem_cons_zero, Act.put, List.setIfInBounds_toArray, List.set_cons_zero, List.set_cons_succ]
      refine wpAnyH_ready (rs := [7]) (by kernel_rfl) (by simp) ?_
      refine (AllReadyH.cons (o := _) rfl (fun K hK => ?_) AllReadyH.nil)
      obtain ⟨a0, a1, a2, a3, a4, a5, a6⟩ := row7 (HQ0.out.on BE0.out).t
      go_simp
      refine hK.out _ _ ?_ (fun hHeld => ?_)
      ·(try dsimp only); exact ⟨row7 (HQ0.out.on (BE0.out)).c, row7 (row_on HG0.out (BE0.out))⟩
      clear hK K a0 a1 a2 a3 a4 a5 a6
      try simp only [List.getElem_toArray, List.getElem_cons_succ, List.getElem_cons_zero, Act.put, List.setIfInBounds_toArray, List.set_cons_zero, List.set_cons_succ]
      refine wpAnyH_ready (rs := [10]) (by kernel_rfl) (by simp) ?_
      refine (AllReadyH.cons (o := _) rfl (fun K hK => ?_) AllReadyH.nil)
      go_simp
      go_at_call 34; with_reducible refine (wsideS d2 s HSS.out Y0 (HDY.out.on BE0.out)).mono ?_; rintro e X1 ⟨p3, n3, c3, rfl, HN3, HR3, HB3⟩
      (try go_wp2_with fail)
      have BX1 := hid (btr BE0.out HB3.out)
      refine hK.out _ _ ?_ (fun hHeld => ?_)
      ·(try dsimp only); exact ⟨row7 (HQ0.out.on (BX1.out)).c, row7 (row_on HG0.out (BX1.out))⟩
      clear hK K
      try simp only [List.getElem_toArray, List.getElem_cons_succ, List.getElem_cons_zero, Act.put, List.setIfInBounds_toArray, List.set_cons_zero, List.set_cons_succ]
      refine wpAnyH_ready (rs := [12]) (by kernel_rfl) (by simp) ?_
      refine (AllReadyH.cons (o := _) rfl (fun K hK => ?_) AllReadyH.nil)
      have CE := hid (wenqN s p3 n3 c3 (d2.os s) (⟨o.id, o.mb, o.ty, o.pr, q2, 0, o.pk⟩ : Or) HN3.out (by have := HLN.out; have := HN3.out; omega) X1 (HR3.out))
      simp only at CE
      go_simp
      go_at_call 57; with_reducible refine (CE.out).mono ?_; rintro e X2 ⟨p9, c9, rfl, HR9, HB9', HJ9⟩
      (try go_wp2_with fail)
      have BX2 := hid (btr BX1.out HB9'.out)
      refine hK.out _ _ ?_ (fun hHeld => ?_)
      ·(try dsimp only); exact ⟨row7 (HQ0.out.on (BX2.out)).c, row7 (row_on HG0.out (BX2.out))⟩
      clear hK K
      try simp only [List.getElem_toArray, List.getElem_cons_succ, List.getElem_cons_zero, Act.put, List.setIfInBounds_toArray, List.set_cons_zero, List.set_cons_succ]
      refine wpAnyH_ready (rs := [13]) (by kernel_rfl) (by simp) ?_
      refine (AllReadyH.cons (o := _) rfl (fun K hK => ?_) AllReadyH.nil)
      have HLI := hid (show (inO (bhO s o.pr (d2.os s)) (⟨o.id, o.mb, o.ty, o.pr, q2, 0, o.pk⟩ : Or) (d2.os s)).length = n3 + 1 from by have h1 := bhO_le s o.pr (d2.os s); rw [← HN3.out]; unfold inO; simp; omega)
      go_simp
      go_at_call 32; with_reducible refine (wwith d2 s p9 (n3 + 1) c9 (inO (bhO s o.pr (d2.os s)) (⟨o.id, o.mb, o.ty, o.pr, q2, 0, o.pk⟩ : Or) (d2.os s)) HLI.out X2).mono ?_; rintro e X3 ⟨d7, rfl, HD7, HB7⟩
      (try go_wp2_with fail)
      have BX3 := hid (btr BX2.out HB7.out)
      refine hK.out _ _ ?_ (fun hHeld => ?_)
      ·(try dsimp only); exact ⟨row7 (HQ0.out.on (BX3.out)).c, row7 (row_on HG0.out (BX3.out))⟩
      clear hK K
      try simp only [List.getElem_toArray, List.getElem_cons_succ, List.getElem_cons_zero, Act.put, List.setIfInBounds_toArray, List.set_cons_zero, List.set_cons_succ]
     rotate_left 1
     focus
      obtain ⟨a0, a1, a2, a3, a4, a5, a6⟩ := row7 (HQ0.out.on BE0.out).t
      go_simp
      refine hK.out _ _ ?_ (fun hHeld => ?_)
      ·(try dsimp only); exact ⟨row7 (HQ0.out.on (BE0.out)).c, row7 (row_on HG0.out (BE0.out))⟩
      clear hK K a0 a1 a2 a3 a4 a5 a6
      try simp only [List.getElem_toArray, List.getElem_cons_succ, List.getElem_cons_zero, Act.put, List.setIfInBounds_toArray, List.set_cons_zero, List.set_cons_succ]
      refine wpAnyH_ready (rs := [1, 10]) (by kernel_rfl) (by simp) ?_
      refine (AllReadyH.cons (o := _) rfl (fun K hK => ?_) (AllReadyH.cons (o := _) rfl (fun K hK => ?_) AllReadyH.nil))
      focus
       obtain ⟨a0, a1, a2, a3, a4, a5, a6⟩ := row7 (HQ0.out.on BE0.out).t
       go_simp
       refine hK.out _ _ ?_ (fun hHeld => ?_)
       ·(try dsimp only); exact ⟨row7 (HQ0.out.on (BE0.out)).c, row7 (row_on HG0.out (BE0.out))⟩
       clear hK K a0 a1 a2 a3 a4 a5 a6
       try simp only [List.getElem_toArray, List.getElem_cons_succ, List.getElem_cons_zero, Act.put, List.setIfInBounds_toArray, List.set_cons_zero, List.set_cons_succ]
       refine wpAnyH_ready (rs := [10]) (by kernel_rfl) (by simp) ?_
       refine (AllReadyH.cons (o := _) rfl (fun K hK => ?_) AllReadyH.nil)
       go_simp
       go_at_call 34; with_reducible refine (wsideS d2 s HSS.out Y0 (HDY.out.on BE0.out)).mono ?_; rintro e X1 ⟨p3, n3, c3, rfl, HN3, HR3, HB3⟩
       (try go_wp2_with fail)
       have BX1 := hid (btr BE0.out HB3.out)
       refine hK.out _ _ ?_ (fun hHeld => ?_)
       ·(try dsimp only); exact ⟨row7 (HQ0.out.on (BX1.out)).c, row7 (row_on HG0.out (BX1.out))⟩
       clear hK K
       try simp only [List.getElem_toArray, List.getElem_cons_succ, List.getElem_cons_zero, Act.put, List.setIfInBounds_toArray, List.set_cons_zero, List.set_cons_succ]
       refine wpAnyH_ready (rs := [12]) (by kernel_rfl) (by simp) ?_
       refine (AllReadyH.cons (o := _) rfl (fun K hK => ?_) AllReadyH.nil)
       have CE := hid (wenqN s p3 n3 c3 (d2.os s) (⟨o.id, o.mb, o.ty, o.pr, q2, 0, o.pk⟩ : Or) HN3.out (by have := HLN.out; have := HN3.out; omega) X1 (HR3.out))
       simp only at CE
       go_simp
       go_at_call 57; with_reducible refine (CE.out).mono ?_; rintro e X2 ⟨p9, c9, rfl, HR9, HB9', HJ9⟩
       (try go_wp2_with fail)
       have BX2 := hid (btr BX1.out HB9'.out)
       refine hK.out _ _ ?_ (fun hHeld => ?_)
       ·(try dsimp only); exact ⟨row7 (HQ0.out.on (BX2.out)).c, row7 (row_on HG0.out (BX2.out))⟩
       clear hK K
       try simp only [List.getElem_toArray, List.getElem_cons_succ, List.getElem_cons_zero, Act.put, List.setIfInBounds_toArray, List.set_cons_zero, List.set_cons_succ]
       refine wpAnyH_ready (rs := [13]) (by kernel_rfl) (by simp) ?_
       refine (AllReadyH.cons (o := _) rfl (fun K hK => ?_) AllReadyH.nil)
       have HLI := hid (show (inO (bhO s o.pr (d2.os s)) (⟨o.id, o.mb, o.ty, o.pr, q2, 0, o.pk⟩ : Or) (d2.os s)).length = n3 + 1 from by have h1 := bhO_le s o.pr (d2.os s); rw [← HN3.out]; unfold inO; simp; omega)
       go_simp
       go_at_call 32; with_reducible refine (wwith d2 s p9 (n3 + 1) c9 (inO (bhO s o.pr (d2.os s)) (⟨o.id, o.mb, o.ty, o.pr, q2, 0, o.pk⟩ : Or) (d2.os s)) HLI.out X2).mono ?_; rintro e X3 ⟨d7, rfl, HD7, HB7⟩
       (try go_wp2_with fail)
       have BX3 := hid (btr BX2.out HB7.out)
       refine hK.out _ _ ?_ (fun hHeld => ?_)
       ·(try dsimp only); exact ⟨row7 (HQ0.out.on (BX3.out)).c, row7 (row_on HG0.out (BX3.out))⟩
       clear hK K
       try simp only [List.getElem_toArray, List.getElem_cons_succ, List.getElem_cons_zero, Act.put, List.setIfInBounds_toArray, List.set_cons_zero, List.set_cons_succ]
      rotate_left 1
      focus
       go_simp
       go_at_call 34; with_reducible refine (wsideS d2 s HSS.out Y0 (HDY.out.on BE0.out)).mono ?_; rintro e X1 ⟨p3, n3, c3, rfl, HN3, HR3, HB3⟩
       (try go_wp2_with fail)
       have BX1 := hid (btr BE0.out HB3.out)
       refine hK.out _ _ ?_ (fun hHeld => ?_)
       ·(try dsimp only); exact ⟨row7 (HQ0.out.on (BX1.out)).c, row7 (row_on HG0.out (BX1.out))⟩
       clear hK K
       try simp only [List.getElem_toArray, List.getElem_cons_succ, List.getElem_cons_zero, Act.put, List.setIfInBounds_toArray, List.set_cons_zero, List.set_cons_succ]
       refine wpAnyH_ready (rs := [1, 12]) (by kernel_rfl) (by simp) ?_
       refine (AllReadyH.cons (o := _) rfl (fun K hK => ?_) (AllReadyH.cons (o := _) rfl (fun K hK => ?_) AllReadyH.nil))
       focus
        obtain ⟨a0, a1, a2, a3, a4, a5, a6⟩ := row7 (HQ0.out.on BX1.out).t
        go_simp
        refine hK.out _ _ ?_ (fun hHeld => ?_)
        ·(try dsimp only); exact ⟨row7 (HQ0.out.on (BX1.out)).c, row7 (row_on HG0.out (BX1.out))⟩
        clear hK K a0 a1 a2 a3 a4 a5 a6
        try simp only [List.getElem_toArray, List.getElem_cons_succ, List.getElem_cons_zero, Act.put, List.setIfInBounds_toArray, List.set_cons_zero, List.set_cons_succ]
        refine wpAnyH_ready (rs := [12]) (by kernel_rfl) (by simp) ?_
        refine (AllReadyH.cons (o := _) rfl (fun K hK => ?_) AllReadyH.nil)
        have CE := hid (wenqN s p3 n3 c3 (d2.os s) (⟨o.id, o.mb, o.ty, o.pr, q2, 0, o.pk⟩ : Or) HN3.out (by have := HLN.out; have := HN3.out; omega) X1 (HR3.out))
        simp only at CE
        go_simp
        go_at_call 57; with_reducible refine (CE.out).mono ?_; rintro e X2 ⟨p9, c9, rfl, HR9, HB9', HJ9⟩
        (try go_wp2_with fail)
        have BX2 := hid (btr BX1.out HB9'.out)
        refine hK.out _ _ ?_ (fun hHeld => ?_)
        ·(try dsimp only); exact ⟨row7 (HQ0.out.on (BX2.out)).c, row7 (row_on HG0.out (BX2.out))⟩
        clear hK K
        try simp only [List.getElem_toArray, List.getElem_cons_succ, List.getElem_cons_zero, Act.put, List.setIfInBounds_toArray, List.set_cons_zero, List.set_cons_succ]
        refine wpAnyH_ready (rs := [13]) (by kernel_rfl) (by simp) ?_
        refine (AllReadyH.cons (o := _) rfl (fun K hK => ?_) AllReadyH.nil)
        have HLI := hid (show (inO (bhO s o.pr (d2.os s)) (⟨o.id, o.mb, o.ty, o.pr, q2, 0, o.pk⟩ : Or) (d2.os s)).length = n3 + 1 from by have h1 := bhO_le s o.pr (d2.os s); rw [← HN3.out]; unfold inO; simp; omega)
        go_simp
        go_at_call 32; with_reducible refine (wwith d2 s p9 (n3 + 1) c9 (inO (bhO s o.pr (d2.os s)) (⟨o.id, o.mb, o.ty, o.pr, q2, 0, o.pk⟩ : Or) (d2.os s)) HLI.out X2).mono ?_; rintro e X3 ⟨d7, rfl, HD7, HB7⟩
        (try go_wp2_with fail)
        have BX3 := hid (btr BX2.out HB7.out)
        refine hK.out _ _ ?_ (fun hHeld => ?_)
        ·(try dsimp only); exact ⟨row7 (HQ0.out.on (BX3.out)).c, row7 (row_on HG0.out (BX3.out))⟩
        clear hK K
        try simp only [List.getElem_toArray, List.getElem_cons_succ, List.getElem_cons_zero, Act.put, List.setIfInBounds_toArray, List.set_cons_zero, List.set_cons_succ]
       rotate_left 1
       focus
        have CE := hid (wenqN s p3 n3 c3 (d2.os s) (⟨o.id, o.mb, o.ty, o.pr, q2, 0, o.pk⟩ : Or) HN3.out (by have := HLN.out; have := HN3.out; omega) X1 (HR3.out))
        simp only at CE
        go_simp
        go_at_call 57; with_reducible refine (CE.out).mono ?_; rintro e X2 ⟨p9, c9, rfl, HR9, HB9', HJ9⟩
        (try go_wp2_with fail)
        have BX2 := hid (btr BX1.out HB9'.out)
        refine hK.out _ _ ?_ (fun hHeld => ?_)
        ·(try dsimp only); exact ⟨row7 (HQ0.out.on (BX2.out)).c, row7 (row_on HG0.out (BX2.out))⟩
        clear hK K
        try simp only [List.getElem_toArray, List.getElem_cons_succ, List.getElem_cons_zero, Act.put, List.setIfInBounds_toArray, List.set_cons_zero, List.set_cons_succ]
        refine wpAnyH_ready (rs := [1]) (by kernel_rfl) (by simp) ?_
        refine (AllReadyH.cons (o := _) rfl (fun K hK => ?_) AllReadyH.nil)
        obtain ⟨a0, a1, a2, a3, a4, a5, a6⟩ := row7 (HQ0.out.on BX2.out).t
        go_simp
        refine hK.out _ _ ?_ (fun hHeld => ?_)
        ·(try dsimp only); exact ⟨row7 (HQ0.out.on (BX2.out)).c, row7 (row_on HG0.out (BX2.out))⟩
        clear hK K a0 a1 a2 a3 a4 a5 a6
        try simp only [List.getElem_toArray, List.getElem_cons_succ, List.getElem_cons_zero, Act.put, List.setIfInBounds_toArray, List.set_cons_zero, List.set_cons_succ]
        refine wpAnyH_ready (rs := [13]) (by kernel_rfl) (by simp) ?_
        refine (AllReadyH.cons (o := _) rfl (fun K hK => ?_) AllReadyH.nil)
        have HLI := hid (show (inO (bhO s o.pr (d2.os s)) (⟨o.id, o.mb, o.ty, o.pr, q2, 0, o.pk⟩ : Or) (d2.os s)).length = n3 + 1 from by have h1 := bhO_le s o.pr (d2.os s); rw [← HN3.out]; unfold inO; simp; omega)
        go_simp
        go_at_call 32; with_reducible refine (wwith d2 s p9 (n3 + 1) c9 (inO (bhO s o.pr (d2.os s)) (⟨o.id, o.mb, o.ty, o.pr, q2, 0, o.pk⟩ : Or) (d2.os s)) HLI.out X2).mono ?_; rintro e X3 ⟨d7, rfl, HD7, HB7⟩
        (try go_wp2_with fail)
        have BX3 := hid (btr BX2.out HB7.out)
        refine hK.out _ _ ?_ (fun hHeld => ?_)
        ·(try dsimp only); exact ⟨row7 (HQ0.out.on (BX3.out)).c, row7 (row_on HG0.out (BX3.out))⟩
        clear hK K
        try simp only [List.getElem_toArray, List.getElem_cons_succ, List.getElem_cons_zero, Act.put, List.setIfInBounds_toArray, List.set_cons_zero, List.set_cons_succ]
       rotate_left 1
      rotate_left 2
     rotate_left 3
     all_goals
      refine' wpAnyH_take (i := 14) (oi := _) (v := _) rfl (by kernel_rfl) (by kernel_rfl) (by kernel_rfl) (fun _ _ _ h => h) (Or.inl ⟨by kernel_rfl, ?_⟩) (by assumption) ?_
      rotate_left
      ·(intro w hSw; (try dsimp only at hSw); go_simp; try (with_reducible rfl))
      try simp only [List.getElem_toArray, List.getElem_cons_succ, List.getElem_cons_zero, Act.put, List.setIfInBounds_toArray, List.set_cons_zero, List.set_cons_succ]
      refine wpAnyH_ready (rs := [15]) (by kernel_rfl) (by simp) ?_
      refine AllReadyH.cons (o := _) rfl (fun K hK => ?_) AllReadyH.nil
      have HQ7 := hid (HQ0.out.on BX3.out)
      have HG7 := hid (row_on HG0.out BX3.out)
      obtain ⟨a0, a1, a2, a3, a4, a5, a6⟩ := row7 HQ7.out.t
      have z0 := row_frz HQ7.out.t 0
      have z1 := row_frz HQ7.out.t 1
      have z2 := row_frz HQ7.out.t 2
      have z3 := row_frz HQ7.out.t 3
      have z4 := row_frz HQ7.out.t 4
      have z5 := row_frz HQ7.out.t 5
      have h6 := set6 (.int .i64 d7.cap) (.int .i64 d7.meet) (.slice d7.p1 d7.o1.length d7.c1) (.slice d7.p2 d7.o2.length d7.c2) (.int .u64 d7.high) (.int .u64 d7.seq) HQ7.out.t
      have HS8 := hid (HQ7.out.kp h6.2 h6.1)
      have HG8 := hid (h6.2.row HG7.out (by omega))
      have HK8 := hid h6.2
      clear h6
      go_simp
      refine hK.out _ _ ?_ (fun hHeld => ?_)
      ·(try dsimp only); exact ⟨row7 HS8.out.c, row7 HG8.out⟩
      clear hK K a0 a1 a2 a3 a4 a5 a6 z0 z1 z2 z3 z4 z5
      try simp only [List.getElem_toArray, List.getElem_cons_succ, List.getElem_cons_zero, Act.put, List.setIfInBounds_toArray, List.set_cons_zero, List.set_cons_succ]
      refine wpAnyH_done (by kernel_rfl) ?_ _
      obtain ⟨W8, hW8⟩ : ∃ X, ((((((X3.setCell ⟨R, 0, none⟩ (.int .i64 d7.cap)).setCell ⟨R, 1, none⟩ (.int .i64 d7.meet)).setCell ⟨R, 2, none⟩ (.slice d7.p1 d7.o1.length d7.c1)).setCell ⟨R, 3, none⟩ (.slice d7.p2 d7.o2.length d7.c2)).setCell ⟨R, 4, none⟩ (.int .u64 d7.high)).setCell ⟨R, 5, none⟩ (.int .u64 d7.seq)) = X := ⟨_, rfl⟩
      rw [hW8] at HS8 HK8 HG8 ⊢
      clear hW8 hHeld
      have HO8 := hid (show ∀ (base : Nat) (e : TypeId) (size m : Nat) (v : Value) (xs : List Value), X3.ownsRow base e size v m xs → e ≠ 74 → W8.ownsRow base e size v m xs from fun base e size m v xs hh n1 => own_same hh (fun j hj => by obtain ⟨cc, hc⟩ := own_ty hh hj; exact HK8.out.obj j (row_lt hc) (row_ne hc HQ7.out.t n1)))
      have AI8 := hid (show (Try.prog.info? 74).map (·.size) = some (#[.int .i64 d7.cap, .int .i64 d7.meet, .slice d7.p1 d7.o1.length d7.c1, .slice d7.p2 d7.o2.length d7.c2, .int .u64 d7.high, .int .u64 d7.seq, .slice p2 n2 c2] : Array Value).size from i74 _ _ _ _ _ _ _)
      have AS8 := hid (show (#[.int .i64 0, .int .i64 0, .slice none 0 0, .slice none 0 0, .int .u64 0, .int .u64 0, .slice none 0 0] : Array Value).size = (#[.int .i64 d7.cap, .int .i64 d7.meet, .slice d7.p1 d7.o1.length d7.c1, .slice d7.p2 d7.o2.length d7.c2, .int .u64 d7.high, .int .u64 d7.seq, .slice p2 n2 c2] : Array Value).size from s7 _ _ _ _ _ _ _ _ _ _ _ _ _ _)
      have AA8 := hid (show (#[.int .i64 d7.cap, .int .i64 d7.meet, .slice d7.p1 d7.o1.length d7.c1, .slice d7.p2 d7.o2.length d7.c2, .int .u64 d7.high, .int .u64 d7.seq, .slice p2 n2 c2] : Array Value).all (·.oneCell') = true from allT _ _ _ _)
      obtain ⟨a0, a1, a2, a3, a4, a5, a6⟩ := row7 HS8.out.t
      have HS9 := hid (HS8.out.setZ #[.int .i64 d7.cap, .int .i64 d7.meet, .slice d7.p1 d7.o1.length d7.c1, .slice d7.p2 d7.o2.length d7.c2, .int .u64 d7.high, .int .u64 d7.seq, .slice p2 n2 c2])
      go_wp2_with (refine wpList_store_row (by rfl) 74 (.tmp 4) (.tmp 95) (by rfl) (R + 1 + 1) #[.int .i64 d7.cap, .int .i64 d7.meet, .slice d7.p1 d7.o1.length d7.c1, .slice d7.p2 d7.o2.length d7.c2, .int .u64 d7.high, .int .u64 d7.seq, .slice p2 n2 c2] (by rfl) (by rfl) 74 _ HS8.out.z AI8.out AS8.out AA8.out ?_)
      refine bodyPost_ret (results_cell_row (fn := Try.f35) Try.results35 _ _ (R + 1 + 1) 74 #[.int .i64 d7.cap, .int .i64 d7.meet, .slice d7.p1 d7.o1.length d7.c1, .slice d7.p2 d7.o2.length d7.c2, .int .u64 d7.high, .int .u64 d7.seq, .slice p2 n2 c2] (0, 0) _ (by rfl) HS9.out.z Try.underlying74 rfl info74) rfl ?_
      have hd7 := HD7.out
      subst hd7
      have hli := HLI.out
      have hr9 := own_on HR9.out HB7.out
      rw [← hli] at hr9
      have HDX := hid (show Dm X3 d2 from HDY.out.on BX3.out)
      have HRX := hid (HRY.out.on BX3.out)
      refine ⟨_, p2, n2, c2, (cms o s (mes b s q + 1) (b, es, q)).2.1, rfl, ?_, HC.out.en, ?_, HS9.out.be, fun b' es' hh => ?_⟩
      ·exact ⟨Dm.put (d := d2) ⟨own_setRow (HO8.out _ _ _ _ _ _ HDX.out.r1 (by decide)) HS8.out.z (by decide), own_setRow (HO8.out _ _ _ _ _ _ HDX.out.r2 (by decide)) HS8.out.z (by decide), HDX.out.l1, HDX.out.l2⟩ (own_setRow (HO8.out _ _ _ _ _ _ hr9 (by decide)) HS8.out.z (by decide)) (by rw [hli]; have := HLN.out; have := HN3.out; omega), Nwl.put HNW.out (fun j hj => Nat.le_trans (HQ0.out.on BX1.out).be.size (HJ9.out j hj))⟩
      ·exact own_setRow (HO8.out _ _ _ _ _ _ HRX.out (by decide)) HS8.out.z (by decide)
      ·obtain ⟨nn, hc⟩ := HCM.out b' es' hh
       have h9 := came_rest HSS.out hc HC.out.df (by rw [HC.out.eq]; exact HZP.out) HRS.out p9 c9
       rw [HC.out.eq, HSH.out] at h9
       exact h9
end Go.Proofs.Ytalgndgoedlpoaa
