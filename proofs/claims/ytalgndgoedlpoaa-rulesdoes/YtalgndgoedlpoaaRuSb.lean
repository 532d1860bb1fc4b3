/-
  RuSb
-/
import Derived.Test.YtalgndgoedlpoaaRuSa
namespace Go.Proofs.Ytalgndgoedlpoaa
open Go.RowKit Go.Deep Go.Shelf
set_option linter.unusedVariables false
set_option linter.unusedSimpArgs false
set_option maxHeartbeats 8000000
set_option maxRecDepth 100000
attribute [local go_sem ↓] Go.wp_at_zero Go.wp_at_succ
/-- the told, what comes, the result. -/
structure T3 (w W : World) (R : Nat) (tv cv zv : Array Value) : Prop where
 be : Below w.heap.size w W
 t : W.heap[R]? = some (.cells tv 74 (0, 0))
 c : W.heap[R + 1]? = some (.cells cv 78 (0, 0))
 z : W.heap[R + 1 + 1]? = some (.cells zv 74 (0, 0))
 r : w.heap.size = R
theorem T3.on {w W U : World} {R : Nat} {tv cv zv : Array Value} (h : T3 w W R tv cv zv) (hb : Below W.heap.size W U) : T3 w U R tv cv zv :=
 ⟨btr h.be hb, row_on h.t hb, row_on h.c hb, row_on h.z hb, h.r⟩
theorem T3.setT {w W : World} {R : Nat} {tv cv zv : Array Value} (h : T3 w W R tv cv zv) (tv' : Array Value) : T3 w (W.setRow R tv') R tv' cv zv := by
 have hk := setRow_kp W R tv'
 exact ⟨h.be.trans (hk.below h.be.size (fun j hj e => by have := h.r; omega)), setRow_heap _ _ _ _ 74 (0, 0) h.t, hk.row h.c (by omega), hk.row h.z (by omega), h.r⟩
theorem T3.setC {w W : World} {R : Nat} {tv cv zv : Array Value} (h : T3 w W R tv cv zv) (cv' : Array Value) : T3 w (W.setRow (R + 1) cv') R tv cv' zv := by
 have hk := setRow_kp W (R + 1) cv'
 exact ⟨h.be.trans (hk.below h.be.size (fun j hj e => by have := h.r; omega)), hk.row h.t (by omega), setRow_heap _ _ _ _ 78 (0, 0) h.c, hk.row h.z (by omega), h.r⟩
theorem T3.setZ {w W : World} {R : Nat} {tv cv zv : Array Value} (h : T3 w W R tv cv zv) (zv' : Array Value) : T3 w (W.setRow (R + 1 + 1) zv') R tv cv zv' := by
 have hk := setRow_kp W (R + 1 + 1) zv'
 exact ⟨h.be.trans (hk.below h.be.size (fun j hj e => by have := h.r; omega)), hk.row h.t (by omega), hk.row h.c (by omega), setRow_heap _ _ _ _ 74 (0, 0) h.z, h.r⟩
theorem T3.kp {w W U : World} {R : Nat} {tv cv zv tv' : Array Value} (h : T3 w W R tv cv zv) (hk : Kp (fun j => j = R) W U) (ht : U.heap[R]? = some (.cells tv' 74 (0, 0))) : T3 w U R tv' cv zv :=
 ⟨h.be.trans (hk.below h.be.size (fun j hj e => by have := h.r; omega)), ht, hk.row h.c (by omega), hk.row h.z (by omega), h.r⟩
theorem Dm.setRow {W : World} {g : Nat} {d : Db} {t : TypeId} {cs cs' : Array Value} (h : Dm W d) (hg : W.heap[g]? = some (.cells cs t (0, 0))) (ne : (50 : TypeId) ≠ t) : Dm (W.setRow g cs') d := ⟨own_setRow h.r1 hg ne, own_setRow h.r2 hg ne, h.l1, h.l2⟩
theorem Dm.same {W : World} {d d2 : Db} (h : Dm W d) (e1 : d2.p1 = d.p1) (e2 : d2.c1 = d.c1) (e3 : d2.o1 = d.o1) (e4 : d2.p2 = d.p2) (e5 : d2.c2 = d.c2) (e6 : d2.o2 = d.o2) : Dm W d2 := by
 refine ⟨?_, ?_, ?_, ?_⟩
 ·rw [e1, e2, e3]; exact h.r1
 ·rw [e4, e5, e6]; exact h.r2
 ·rw [e3]; exact h.l1
 ·rw [e6]; exact h.l2
/-- the trades of what comes. -/
structure Tc (d : Db) (o : Or) (s q : Int) (b : Bs) (es : List Ev) (U w : World) (d2 : Db) (p2 : Option Addr) (n2 c2 : Nat) (q2 : Int) : Prop where
 df : Dof d2 (cms o s (mes b s q + 1) (b, es, q)).1
 dm : Dm w d2
 en : (cms o s (mes b s q + 1) (b, es, q)).2.1.length = n2
 rv : Rv w (.slice p2 n2 c2) (cms o s (mes b s q + 1) (b, es, q)).2.1
 be : Below U.heap.size U w
 eq : (cms o s (mes b s q + 1) (b, es, q)).2.2 = q2
 q0 : 0 ≤ q2
 q1 : q2 ≤ q
 ln : rst o.ty = true → (d2.os s).length + 1 ≤ 1048576
 le : n2 ≤ 17179869180
 nw : Nwl U.heap.size d d2
theorem tc_any {b : Bs} {d : Db} {o : Or} {s q : Int} {p : Option Addr} {n c : Nat} {es : List Ev} (hs : s = 1 ∨ s = 2) (hd : Dof d b) (hvb : Vb b) (hpk : Pk b) (hq0 : 0 ≤ q) (hq1 : q < 4294967296) (hm : 0 ≤ b.meet ∧ b.meet ≤ 3) (he : es.length = n) (hle : es.length + 2 * mes b s q ≤ 17179869180) (hln : rst o.ty = true → lns b + 1 ≤ 1048576) (U : World) (h : Dm U d) (hv : Rv U (.slice p n c) es) :
  Calls Try.prog 56 #[.agg #[.int .i64 d.cap, .int .i64 d.meet, .slice d.p1 d.o1.length d.c1, .slice d.p2 d.o2.length d.c2, .int .u64 d.high, .int .u64 d.seq, .slice p n c], .agg #[.int .u64 o.id, .int .u64 q, .int .u64 o.pk, .int .u32 o.mb, .int .i64 s, .int .i64 o.ty, .int .i64 o.pr]] U fun e w' => ∃ d2 p2 n2 c2 q2, e = .returned (.tuple #[.agg #[.int .i64 d2.cap, .int .i64 d2.meet, .slice d2.p1 d2.o1.length d2.c1, .slice d2.p2 d2.o2.length d2.c2, .int .u64 d2.high, .int .u64 d2.seq, .slice p2 n2 c2], .agg #[.int .u64 o.id, .int .u64 q2, .int .u64 o.pk, .int .u32 o.mb, .int .i64 s, .int .i64 o.ty, .int .i64 o.pr]]) ∧ Hid (Tc d o s q b es U w' d2 p2 n2 c2 q2) := by
 refine (dtrades_any b d o s q p n c es U hs hd h hvb hpk hq0 hq1 hm he hv hle).mono ?_
 rintro e w' ⟨d2, p2, n2, c2, rfl, j1, ⟨j2, jn⟩, j3, j4, j5, j7, j6⟩
 obtain ⟨_, _, k3, k4, k5⟩ := cms_good (o := o) hs (mes b s q + 1) b es q hvb hq0
 refine ⟨d2, p2, n2, c2, _, rfl, hid ⟨j1, j2, j3, j4, j6, rfl, k4, k5, fun hr => ?_, j7, jn⟩⟩
 have h1 := hln hr
 have h2 := k3.len s
 have h3 : (b.sl s).length ≤ lns b := by unfold Bs.sl lns; split <;> omega
 rw [j1.os s]
 simp only [osl, List.length_map]
 omega
theorem wsideS (d : Db) (s : Int) (hs : s = 1 ∨ s = 2) (U : World) (h : Dm U d) :
  Calls Try.prog 34 #[.agg #[.int .i64 d.cap, .int .i64 d.meet, .slice d.p1 d.o1.length d.c1, .slice d.p2 d.o2.length d.c2, .int .u64 d.high, .int .u64 d.seq], .int .i64 s] U fun e w' => ∃ p n c, e = .returned (.slice p n c) ∧ Hid ((d.os s).length = n) ∧ Hid (Rw w' (.slice p n c) (d.os s)) ∧ Hid (Below U.heap.size U w') := by
 rcases hs with rfl | rfl
 ·exact wside d 2 1 (by decide) (.inr rfl) U h
 ·exact wside d 1 2 (by decide) (.inl rfl) U h
theorem dcomes_4 (b : Bs) (d : Db) (o : Or) (s q : Int) (p : Option Addr) (n c : Nat) (es : List Ev) (w : World) (hs : s = 1 ∨ s = 2) (hd : Dof d b) (h : Dm w d) (hvb : Vb b) (hpk : Pk b) (hq0 : 0 ≤ q) (hq1 : q < 4294967296) (hm : 0 ≤ b.meet ∧ b.meet ≤ 3) (he : es.length = n) (hv : Rv w (.slice p n c) es) (hle : es.length + 2 * mes b s q ≤ 17179869180) (hln : rst o.ty = true → lns b + 1 ≤ 1048576) (hop : 0 ≤ o.pk) (hty : o.ty = 4) :
  Calls Try.prog 35 #[.agg #[.int .i64 d.cap, .int .i64 d.meet, .slice d.p1 d.o1.length d.c1, .slice d.p2 d.o2.length d.c2, .int .u64 d.high, .int .u64 d.seq, .slice p n c], .agg #[.int .u64 o.id, .int .u64 q, .int .u64 o.pk, .int .u32 o.mb, .int .i64 s, .int .i64 o.ty, .int .i64 o.pr]] w fun e w' => ∃ d2 p2 n2 c2 es2, e = .returned (.agg #[.int .i64 d2.cap, .int .i64 d2.meet, .slice d2.p1 d2.o1.length d2.c1, .slice d2.p2 d2.o2.length d2.c2, .int .u64 d2.high, .int .u64 d2.seq, .slice p2 n2 c2]) ∧ (Dm w' d2 ∧ Nwl w.heap.size d d2) ∧ es2.length = n2 ∧ Rv w' (.slice p2 n2 c2) es2 ∧ Below w.heap.size w w' ∧ ∀ b' es', Tk b es o s q b' es' → Dof d2 b' ∧ es2 = es' := by
 have CW := hid (fun (U : World) (hU : Below w.heap.size w U) => dwhole_any b d o s q U hs hd (h.on hU) hvb hpk hq0 hq1 hm (by omega))
 have CTR := hid (fun (U : World) (hU : Below w.heap.size w U) => tc_any (o := o) hs hd hvb hpk hq0 hq1 hm he hle hln U (h.on hU) (hv.on hU))
 have CTE := hid (fun (U : World) (hU : Below w.heap.size w U) => wtell d p n c es (evC o.id q 4) he (by omega) U (hv.on hU))
 unfold ecs evC at CTE
 simp only at CTE
 have HNO := hid (fun (k : o.ty = 4) (hw : (trd (cms o s (mes b s q + 1) (b, [], q)).2.1 == q) = false) (b' : Bs) (es' : List Ev) (hh : Tk b es o s q b' es') => tk_no hs hvb hq0 hq1 k hw hh)
 have HYES := hid (fun (hw : o.ty = 4 → (trd (cms o s (mes b s q + 1) (b, [], q)).2.1 == q) = true) (b' : Bs) (es' : List Ev) (hh : Tk b es o s q b' es') => tk_yes hs hvb hq0 hq1 hw hh)
 have HK4 := hid hty
 have HDM := hid h
 have HDF := hid hd
 have HEN := hid he
 have HVV := hid hv
 have HSS := hid hs
 have HQ1 := hid hq1
 have HOP := hid hop
 obtain ⟨wv, hwv⟩ : ∃ v, (trd (cms o s (mes b s q + 1) (b, [], q)).2.1 == q) = v := ⟨_, rfl⟩
 have HWV := hid hwv
 rw [hwv] at CW
 clear hwv
 obtain ⟨R, hR⟩ : ∃ R, w.heap.size = R := ⟨_, rfl⟩
 obtain ⟨U0, hU0⟩ : ∃ U, w.alloc (.cells #[.int .i64 d.cap, .int .i64 d.meet, .slice d.p1 d.o1.length d.c1, .slice d.p2 d.o2.length d.c2, .int .u64 d.high, .int .u64 d.seq, .slice p n c] 74) = U := ⟨_, rfl⟩
 obtain ⟨U1, hU1⟩ : ∃ U, U0.alloc (.cells #[.int .u64 o.id, .int .u64 q, .int .u64 o.pk, .int .u32 o.mb, .int .i64 s, .int .i64 o.ty, .int .i64 o.pr] 78) = U := ⟨_, rfl⟩
 obtain ⟨W, hW⟩ : ∃ U, U1.alloc (.cells #[.int .i64 0, .int .i64 0, .slice none 0 0, .slice none 0 0, .int .u64 0, .int .u64 0, .slice none 0 0] 74) = U := ⟨_, rfl⟩
 have s0 : U0.heap.size = R + 1 := by rw [← hU0, ← hR]; simp
 have s1 : U1.heap.size = R + 1 + 1 := by rw [← hU1]; simp [s0]
 have b0 : Below w.heap.size w U0 := by rw [← hU0]; exact ball _ _
 have b1 : Below U0.heap.size U0 U1 := by rw [← hU1]; exact ball _ _
 have b2 : Below U1.heap.size U1 W := by rw [← hW]; exact ball _ _
 have HT := hid (show T3 w W R #[.int .i64 d.cap, .int .i64 d.meet, .slice d.p1 d.o1.length d.c1, .slice d.p2 d.o2.length d.c2, .int .u64 d.high, .int .u64 d.seq, .slice p n c] #[.int .u64 o.id, .int .u64 q, .int .u64 o.pk, .int .u32 o.mb, .int .i64 s, .int .i64 o.ty, .int .i64 o.pr] #[.int .i64 0, .int .i64 0, .slice none 0 0, .slice none 0 0, .int .u64 0, .int .u64 0, .slice none 0 0] from ⟨btr (btr b0 b1) b2, row_on (row_on (by rw [← hU0, ← hR]; exact World.alloc_heap_new _ _) b1) b2, row_on (by rw [← hU1, ← s0]; exact World.alloc_heap_new _ _) b2, by rw [← hW, ← s1]; exact World.alloc_heap_new _ _, hR⟩)
 have HU0 := hid hU0
 have HU1 := hid hU1
 have HW := hid hW
 have HRR := hid hR
 clear hR hU0 hU1 hW s0 s1 b0 b1 b2 h hd hvb hpk hq0 hq1 hm he hv hle hln hop hs hty
 go_enter Try.func35, Try.ntmps35
 go_upto_region 1 with fail
 rw [HU0.out, HU1.out, HW.out, HRR.out]
 obtain ⟨a0, a1, a2, a3, a4, a5, a6⟩ := row7 HT.out.t
 obtain ⟨b0, b1, b2, b3, b4, b5, b6⟩ := row7 HT.out.c
 have k4b : (o.ty == 4) = true := by rw [HK4.out]; rfl
 cases wv with
 | false =>
  go_wp2_with (first | (go_at_call 55; with_reducible refine (CW.out _ HT.out.be).mono ?_; rintro e w2 ⟨rfl, hb2⟩; have HB2 := hid hb2; have HS2 := hid (HT.out.on hb2); clear hb2; obtain ⟨a0, a1, a2, a3, a4, a5, a6⟩ := row7 HS2.out.t; obtain ⟨b0, b1, b2, b3, b4, b5, b6⟩ := row7 HS2.out.c) | (first | (go_at_call 30; with_reducible refine (CTE.out _ (btr HT.out.be HB2.out)).mono ?_; rintro e w8 ⟨p8, c8, d8, rfl, HD8, HV8, HB8⟩; have AI8 := hid (show (Try.prog.info? 74).map (·.size) = some (#[.int .i64 d8.cap, .int .i64 d8.meet, .slice d8.p1 d8.o1.length d8.c1, .slice d8.p2 d8.o2.length d8.c2, .int .u64 d8.high, .int .u64 d8.seq, .slice p8 (n + 1) c8] : Array Value).size from i74 _ _ _ _ _ _ _); have AS8 := hid (show (#[.int .i64 0, .int .i64 0, .slice none 0 0, .slice none 0 0, .int .u64 0, .int .u64 0, .slice none 0 0] : Array Value).size = (#[.int .i64 d8.cap, .int .i64 d8.meet, .slice d8.p1 d8.o1.length d8.c1, .slice d8.p2 d8.o2.length d8.c2, .int .u64 d8.high, .int .u64 d8.seq, .slice p8 (n + 1) c8] : Array Value).size from s7 _ _ _ _ _ _ _ _ _ _ _ _ _ _); have AA8 := hid (show (#[.int .i64 d8.cap, .int .i64 d8.meet, .slice d8.p1 d8.o1.length d8.c1, .slice d8.p2 d8.o2.length d8.c2, .int .u64 d8.high, .int .u64 d8.seq, .slice p8 (n + 1) c8] : Array Value).all (·.oneCell') = true from allT _ _ _ _); have HS8 := hid (HS2.out.on HB8.out)) | (refine wpList_store_row (by rfl) 74 (.tmp 4) (.tmp 22) (by rfl) (R + 1 + 1) #[.int .i64 d8.cap, .int .i64 d8.meet, .slice d8.p1 d8.o1.length d8.c1, .slice d8.p2 d8.o2.length d8.c2, .int .u64 d8.high, .int .u64 d8.seq, .slice p8 (n + 1) c8] (by rfl) (by rfl) 74 _ HS8.out.z AI8.out AS8.out AA8.out ?_)))
  have HS9 := hid (HS8.out.setZ #[.int .i64 d8.cap, .int .i64 d8.meet, .slice d8.p1 d8.o1.length d8.c1, .slice d8.p2 d8.o2.length d8.c2, .int .u64 d8.high, .int .u64 d8.seq, .slice p8 (n + 1) c8])
  refine bodyPost_ret (results_cell_row (fn := Try.f35) Try.results35 _ _ (R + 1 + 1) 74 #[.int .i64 d8.cap, .int .i64 d8.meet, .slice d8.p1 d8.o1.length d8.c1, .slice d8.p2 d8.o2.length d8.c2, .int .u64 d8.high, .int .u64 d8.seq, .slice p8 (n + 1) c8] (0, 0) _ (by rfl) HS9.out.z Try.underlying74 rfl info74) rfl ?_
  have hd8 := HD8.out
  subst hd8
  refine ⟨d.told, p8, n + 1, c8, es ++ [(evC o.id q 4).num (nx d.seq)], rfl, ?_, ?_, ?_, HS9.out.be, fun b' es' hh => ?_⟩
  ·exact ⟨(((HDM.out.on HT.out.be).on (btr HB2.out HB8.out)).setRow HS8.out.z (by decide)).same rfl rfl rfl rfl rfl rfl, ⟨fun _ h => .inl h, fun _ h => .inl h⟩⟩
  ·rw [List.length_append, HEN.out]; rfl
  ·exact own_setRow (show w8.ownsRow 0 58 13 _ _ _ from HV8.out) HS8.out.z (by decide)
  ·obtain ⟨e1, e2⟩ := HNO.out HK4.out HWV.out b' es' hh
   subst e1
   exact ⟨HDF.out.told, by rw [e2, HDF.out.seq]⟩
 | true =>
  go_upto_region 3 with (go_at_call 55; with_reducible refine (CW.out _ HT.out.be).mono ?_; rintro e w2 ⟨rfl, hb2⟩; have HB2 := hid hb2; have HS2 := hid (HT.out.on hb2); clear hb2; obtain ⟨a0, a1, a2, a3, a4, a5, a6⟩ := row7 HS2.out.t; obtain ⟨b0, b1, b2, b3, b4, b5, b6⟩ := row7 HS2.out.c)
  clear a0 a1 a2 a3 a4 a5 a6 b0 b1 b2 b3 b4 b5 b6
  obtain ⟨a0, a1, a2, a3, a4, a5, a6⟩ := row7 HS2.out.t
  obtain ⟨b0, b1, b2, b3, b4, b5, b6⟩ := row7 HS2.out.c
  go_upto_region 4 with (first | (go_at_call 56; with_reducible refine (CTR.out _ (btr HT.out.be HB2.out)).mono ?_; rintro e w3 ⟨d2, p2, n2, c2, q2, rfl, HC⟩; have AI1 := hid (show (Try.prog.info? 74).map (·.size) = some (#[.int .i64 d2.cap, .int .i64 d2.meet, .slice d2.p1 d2.o1.length d2.c1, .slice d2.p2 d2.o2.length d2.c2, .int .u64 d2.high, .int .u64 d2.seq, .slice p2 n2 c2] : Array Value).size from i74 _ _ _ _ _ _ _); have AS1 := hid (show (#[.int .i64 d.cap, .int .i64 d.meet, .slice d.p1 d.o1.length d.c1, .slice d.p2 d.o2.length d.c2, .int .u64 d.high, .int .u64 d.seq, .slice p n c] : Array Value).size = (#[.int .i64 d2.cap, .int .i64 d2.meet, .slice d2.p1 d2.o1.length d2.c1, .slice d2.p2 d2.o2.length d2.c2, .int .u64 d2.high, .int .u64 d2.seq, .slice p2 n2 c2] : Array Value).size from s7 _ _ _ _ _ _ _ _ _ _ _ _ _ _); have AA1 := hid (show (#[.int .i64 d2.cap, .int .i64 d2.meet, .slice d2.p1 d2.o1.length d2.c1, .slice d2.p2 d2.o2.length d2.c2, .int .u64 d2.high, .int .u64 d2.seq, .slice p2 n2 c2] : Array Value).all (·.oneCell') = true from allT _ _ _ _); have AI2 := hid (show (Try.prog.info? 78).map (·.size) = some (#[.int .u64 o.id, .int .u64 q2, .int .u64 o.pk, .int .u32 o.mb, .int .i64 s, .int .i64 o.ty, .int .i64 o.pr] : Array Value).size from i78 _ _ _ _ _ _ _); have AS2 := hid (show (#[.int .u64 o.id, .int .u64 q, .int .u64 o.pk, .int .u32 o.mb, .int .i64 s, .int .i64 o.ty, .int .i64 o.pr] : Array Value).size = (#[.int .u64 o.id, .int .u64 q2, .int .u64 o.pk, .int .u32 o.mb, .int .i64 s, .int .i64 o.ty, .int .i64 o.pr] : Array Value).size from s7 _ _ _ _ _ _ _ _ _ _ _ _ _ _); have AA2 := hid (show (#[.int .u64 o.id, .int .u64 q2, .int .u64 o.pk, .int .u32 o.mb, .int .i64 s, .int .i64 o.ty, .int .i64 o.pr] : Array Value).all (·.oneCell') = true from allC _ _ _); have HS3 := hid (HS2.out.on HC.out.be)) | ((refine wpList_store_row (by rfl) 74 (.tmp 2) (.tmp 27) (by rfl) (R) #[.int .i64 d2.cap, .int .i64 d2.meet, .slice d2.p1 d2.o1.length d2.c1, .slice d2.p2 d2.o2.length d2.c2, .int .u64 d2.high, .int .u64 d2.seq, .slice p2 n2 c2] (by rfl) (by rfl) 74 _ HS3.out.t AI1.out AS1.out AA1.out ?_); have HS4 := hid (HS3.out.setT #[.int .i64 d2.cap, .int .i64 d2.meet, .slice d2.p1 d2.o1.length d2.c1, .slice d2.p2 d2.o2.length d2.c2, .int .u64 d2.high, .int .u64 d2.seq, .slice p2 n2 c2])) | ((refine wpList_store_row (by rfl) 78 (.tmp 3) (.tmp 28) (by rfl) (R + 1) #[.int .u64 o.id, .int .u64 q2, .int .u64 o.pk, .int .u32 o.mb, .int .i64 s, .int .i64 o.ty, .int .i64 o.pr] (by rfl) (by rfl) 78 _ HS4.out.c AI2.out AS2.out AA2.out ?_); have HS5 := hid (HS4.out.setC #[.int .u64 o.id, .int .u64 q2, .int .u64 o.pk, .int .u32 o.mb, .int .i64 s, .int .i64 o.ty, .int .i64 o.pr])))
  clear a0 a1 a2 a3 a4 a5 a6 b0 b1 b2 b3 b4 b5 b6
  have HD5 := hid (show Dm ((w3.setRow R #[.int .i64 d2.cap, .int .i64 d2.meet, .slice d2.p1 d2.o1.length d2.c1, .slice d2.p2 d2.o2.length d2.c2, .int .u64 d2.high, .int .u64 d2.seq, .slice p2 n2 c2]).setRow (R + 1) #[.int .u64 o.id, .int .u64 q2, .int .u64 o.pk, .int .u32 o.mb, .int .i64 s, .int .i64 o.ty, .int .i64 o.pr]) d2 from (HC.out.dm.setRow HS3.out.t (by decide)).setRow HS4.out.c (by decide))
  have HR5 := hid (show Rv ((w3.setRow R #[.int .i64 d2.cap, .int .i64 d2.meet, .slice d2.p1 d2.o1.length d2.c1, .slice d2.p2 d2.o2.length d2.c2, .int .u64 d2.high, .int .u64 d2.seq, .slice p2 n2 c2]).setRow (R + 1) #[.int .u64 o.id, .int .u64 q2, .int .u64 o.pk, .int .u32 o.mb, .int .i64 s, .int .i64 o.ty, .int .i64 o.pr]) (.slice p2 n2 c2) (cms o s (mes b s q + 1) (b, es, q)).2.1 from own_setRow (own_setRow (show w3.ownsRow 0 58 13 _ _ _ from HC.out.rv) HS3.out.t (by decide)) HS4.out.c (by decide))
  have HNW := hid ((Nwl.refl _ _).trans HC.out.nw ((btr HT.out.be HB2.out)).size)
  obtain ⟨W5, hW5⟩ : ∃ X, (w3.setRow R #[.int .i64 d2.cap, .int .i64 d2.meet, .slice d2.p1 d2.o1.length d2.c1, .slice d2.p2 d2.o2.length d2.c2, .int .u64 d2.high, .int .u64 d2.seq, .slice p2 n2 c2]).setRow (R + 1) #[.int .u64 o.id, .int .u64 q2, .int .u64 o.pk, .int .u32 o.mb, .int .i64 s, .int .i64 o.ty, .int .i64 o.pr] = X := ⟨_, rfl⟩
  rw [hW5] at HS5 HD5 HR5 ⊢
  clear hW5
  have HCM := hid (fun (b' : Bs) (es' : List Ev) (hh : Tk b es o s q b' es') => HYES.out (fun _ => HWV.out) b' es' hh)
  obtain ⟨a0, a1, a2, a3, a4, a5, a6⟩ := row7 HS5.out.t
  obtain ⟨b0, b1, b2, b3, b4, b5, b6⟩ := row7 HS5.out.c
  by_cases z0 : q2 = 0
  ·have AI3 := hid (show (Try.prog.info? 74).map (·.size) = some (#[.int .i64 d2.cap, .int .i64 d2.meet, .slice d2.p1 d2.o1.length d2.c1, .slice d2.p2 d2.o2.length d2.c2, .int .u64 d2.high, .int .u64 d2.seq, .slice p2 n2 c2] : Array Value).size from i74 _ _ _ _ _ _ _)
   have AS3 := hid (show (#[.int .i64 0, .int .i64 0, .slice none 0 0, .slice none 0 0, .int .u64 0, .int .u64 0, .slice none 0 0] : Array Value).size = (#[.int .i64 d2.cap, .int .i64 d2.meet, .slice d2.p1 d2.o1.length d2.c1, .slice d2.p2 d2.o2.length d2.c2, .int .u64 d2.high, .int .u64 d2.seq, .slice p2 n2 c2] : Array Value).size from s7 _ _ _ _ _ _ _ _ _ _ _ _ _ _)
   have AA3 := hid (show (#[.int .i64 d2.cap, .int .i64 d2.meet, .slice d2.p1 d2.o1.length d2.c1, .slice d2.p2 d2.o2.length d2.c2, .int .u64 d2.high, .int .u64 d2.seq, .slice p2 n2 c2] : Array Value).all (·.oneCell') = true from allT _ _ _ _)
   subst z0
   have HS6 := hid (HS5.out.setZ #[.int .i64 d2.cap, .int .i64 d2.meet, .slice d2.p1 d2.o1.length d2.c1, .slice d2.p2 d2.o2.length d2.c2, .int .u64 d2.high, .int .u64 d2.seq, .slice p2 n2 c2])
   go_wp2_with (refine wpList_store_row (by rfl) 74 (.tmp 4) (.tmp 32) (by rfl) (R + 1 + 1) #[.int .i64 d2.cap, .int .i64 d2.meet, .slice d2.p1 d2.o1.length d2.c1, .slice d2.p2 d2.o2.length d2.c2, .int .u64 d2.high, .int .u64 d2.seq, .slice p2 n2 c2] (by rfl) (by rfl) 74 _ HS5.out.z AI3.out AS3.out AA3.out ?_)
   refine bodyPost_ret (results_cell_row (fn := Try.f35) Try.results35 _ _ (R + 1 + 1) 74 #[.int .i64 d2.cap, .int .i64 d2.meet, .slice d2.p1 d2.o1.length d2.c1, .slice d2.p2 d2.o2.length d2.c2, .int .u64 d2.high, .int .u64 d2.seq, .slice p2 n2 c2] (0, 0) _ (by rfl) HS6.out.z Try.underlying74 rfl info74) rfl ?_
   exact ⟨d2, p2, n2, c2, _, rfl, ⟨HD5.out.setRow HS5.out.z (by decide), HNW.out⟩, HC.out.en, own_setRow (show W5.ownsRow 0 58 13 _ _ _ from HR5.out) HS5.out.z (by decide), HS6.out.be, fun b' es' hh => by obtain ⟨nn, hc⟩ := HCM.out b' es' hh; exact came_all hc HC.out.df HC.out.eq⟩
  ·have z0' : (q2 == 0) = false := by simpa using z0
   have HZP := hid (show 0 < q2 from by have := HC.out.q0; omega)
   have f1 : (o.ty != 1) = true := by rw [HK4.out]; rfl
   have f5 : (o.ty != 5) = true := by rw [HK4.out]; rfl
   have CT6 := hid (wtell d2 p2 n2 c2 _ (evC o.id q2 3) HC.out.en (by have := HC.out.le; omega) W5 HR5.out)
   unfold ecs evC at CT6
   simp only at CT6
   go_wp2_with (first | (go_at_call 30; with_reducible refine (CT6.out).mono ?_; rintro e w6 ⟨p6, c6, d6, rfl, HD6, HV6, HB6⟩; have AI6 := hid (show (Try.prog.info? 74).map (·.size) = some (#[.int .i64 d6.cap, .int .i64 d6.meet, .slice d6.p1 d6.o1.length d6.c1, .slice d6.p2 d6.o2.length d6.c2, .int .u64 d6.high, .int .u64 d6.seq, .slice p6 (n2 + 1) c6] : Array Value).size from i74 _ _ _ _ _ _ _); have AS6 := hid (show (#[.int .i64 0, .int .i64 0, .slice none 0 0, .slice none 0 0, .int .u64 0, .int .u64 0, .slice none 0 0] : Array Value).size = (#[.int .i64 d6.cap, .int .i64 d6.meet, .slice d6.p1 d6.o1.length d6.c1, .slice d6.p2 d6.o2.length d6.c2, .int .u64 d6.high, .int .u64 d6.seq, .slice p6 (n2 + 1) c6] : Array Value).size from s7 _ _ _ _ _ _ _ _ _ _ _ _ _ _); have AA6 := hid (show (#[.int .i64 d6.cap, .int .i64 d6.meet, .slice d6.p1 d6.o1.length d6.c1, .slice d6.p2 d6.o2.length d6.c2, .int .u64 d6.high, .int .u64 d6.seq, .slice p6 (n2 + 1) c6] : Array Value).all (·.oneCell') = true from allT _ _ _ _); have HS6 := hid (HS5.out.on HB6.out)) | (refine wpList_store_row (by rfl) 74 (.tmp 4) (.tmp 47) (by rfl) (R + 1 + 1) #[.int .i64 d6.cap, .int .i64 d6.meet, .slice d6.p1 d6.o1.length d6.c1, .slice d6.p2 d6.o2.length d6.c2, .int .u64 d6.high, .int .u64 d6.seq, .slice p6 (n2 + 1) c6] (by rfl) (by rfl) 74 _ HS6.out.z AI6.out AS6.out AA6.out ?_))
   have HS7 := hid (HS6.out.setZ #[.int .i64 d6.cap, .int .i64 d6.meet, .slice d6.p1 d6.o1.length d6.c1, .slice d6.p2 d6.o2.length d6.c2, .int .u64 d6.high, .int .u64 d6.seq, .slice p6 (n2 + 1) c6])
   refine bodyPost_ret (results_cell_row (fn := Try.f35) Try.results35 _ _ (R + 1 + 1) 74 #[.int .i64 d6.cap, .int .i64 d6.meet, .slice d6.p1 d6.o1.length d6.c1, .slice d6.p2 d6.o2.length d6.c2, .int .u64 d6.high, .int .u64 d6.seq, .slice p6 (n2 + 1) c6] (0, 0) _ (by rfl) HS7.out.z Try.underlying74 rfl info74) rfl ?_
   have hd6 := HD6.out
   subst hd6
   refine ⟨d2.told, p6, n2 + 1, c6, (cms o s (mes b s q + 1) (b, es, q)).2.1 ++ [(evC o.id q2 3).num (nx d2.seq)], rfl, ?_, ?_, ?_, HS7.out.be, fun b' es' hh => by obtain ⟨nn, hc⟩ := HCM.out b' es' hh; have h9 := came_not hc HC.out.df (by rw [HC.out.eq]; exact HZP.out) (by rw [HK4.out]; rfl); rw [HC.out.eq] at h9; exact h9⟩
   ·exact ⟨((HD5.out.on HB6.out).setRow HS6.out.z (by decide)).same rfl rfl rfl rfl rfl rfl, HNW.out⟩
   ·rw [List.length_append, HC.out.en]; rfl
   ·exact own_setRow (show w6.ownsRow 0 58 13 _ _ _ from HV6.out) HS6.out.z (by decide)
theorem dcomes_o (b : Bs) (d : Db) (o : Or) (s q : Int) (p : Option Addr) (n c : Nat) (es : List Ev) (w : World) (hs : s = 1 ∨ s = 2) (hd : Dof d b) (h : Dm w d) (hvb : Vb b) (hpk : Pk b) (hq0 : 0 ≤ q) (hq1 : q < 4294967296) (hm : 0 ≤ b.meet ∧ b.meet ≤ 3) (he : es.length = n) (hv : Rv w (.slice p n c) es) (hle : es.length + 2 * mes b s q ≤ 17179869180) (hln : rst o.ty = true → lns b + 1 ≤ 1048576) (hop : 0 ≤ o.pk) (h4 : ¬ o.ty = 4) (h1 : ¬ o.ty = 1) (h5 : ¬ o.ty = 5) :
  Calls Try.prog 35 #[.agg #[.int .i64 d.cap, .int .i64 d.meet, .slice d.p1 d.o1.length d.c1, .slice d.p2 d.o2.length d.c2, .int .u64 d.high, .int .u64 d.seq, .slice p n c], .agg #[.int .u64 o.id, .int .u64 q, .int .u64 o.pk, .int .u32 o.mb, .int .i64 s, .int .i64 o.ty, .int .i64 o.pr]] w fun e w' => ∃ d2 p2 n2 c2 es2, e = .returned (.agg #[.int .i64 d2.cap, .int .i64 d2.meet, .slice d2.p1 d2.o1.length d2.c1, .slice d2.p2 d2.o2.length d2.c2, .int .u64 d2.high, .int .u64 d2.seq, .slice p2 n2 c2]) ∧ (Dm w' d2 ∧ Nwl w.heap.size d d2) ∧ es2.length = n2 ∧ Rv w' (.slice p2 n2 c2) es2 ∧ Below w.heap.size w w' ∧ ∀ b' es', Tk b es o s q b' es' → Dof d2 b' ∧ es2 = es' := by
 have CW := hid (fun (U : World) (hU : Below w.heap.size w U) => dwhole_any b d o s q U hs hd (h.on hU) hvb hpk hq0 hq1 hm (by omega))
 have CTR := hid (fun (U : World) (hU : Below w.heap.size w U) => tc_any (o := o) hs hd hvb hpk hq0 hq1 hm he hle hln U (h.on hU) (hv.on hU))
 have CTE := hid (fun (U : World) (hU : Below w.heap.size w U) => wtell d p n c es (evC o.id q 4) he (by omega) U (hv.on hU))
 unfold ecs evC at CTE
 simp only at CTE
 have HNO := hid (fun (k : o.ty = 4) (hw : (trd (cms o s (mes b s q + 1) (b, [], q)).2.1 == q) = false) (b' : Bs) (es' : List Ev) (hh : Tk b es o s q b' es') => tk_no hs hvb hq0 hq1 k hw hh)
 have HYES := hid (fun (hw : o.ty = 4 → (trd (cms o s (mes b s q + 1) (b, [], q)).2.1 == q) = true) (b' : Bs) (es' : List Ev) (hh : Tk b es o s q b' es') => tk_yes hs hvb hq0 hq1 hw hh)
 have H4 := hid h4
 have H1 := hid h1
 have H5 := hid h5
 have HDM := hid h
 have HDF := hid hd
 have HEN := hid he
 have HVV := hid hv
 have HSS := hid hs
 have HQ1 := hid hq1
 have HOP := hid hop
 obtain ⟨wv, hwv⟩ : ∃ v, (trd (cms o s (mes b s q + 1) (b, [], q)).2.1 == q) = v := ⟨_, rfl⟩
 have HWV := hid hwv
 rw [hwv] at CW
 clear hwv
 obtain ⟨R, hR⟩ : ∃ R, w.heap.size = R := ⟨_, rfl⟩
 obtain ⟨U0, hU0⟩ : ∃ U, w.alloc (.cells #[.int .i64 d.cap, .int .i64 d.meet, .slice d.p1 d.o1.length d.c1, .slice d.p2 d.o2.length d.c2, .int .u64 d.high, .int .u64 d.seq, .slice p n c] 74) = U := ⟨_, rfl⟩
 obtain ⟨U1, hU1⟩ : ∃ U, U0.alloc (.cells #[.int .u64 o.id, .int .u64 q, .int .u64 o.pk, .int .u32 o.mb, .int .i64 s, .int .i64 o.ty, .int .i64 o.pr] 78) = U := ⟨_, rfl⟩
 obtain ⟨W, hW⟩ : ∃ U, U1.alloc (.cells #[.int .i64 0, .int .i64 0, .slice none 0 0, .slice none 0 0, .int .u64 0, .int .u64 0, .slice none 0 0] 74) = U := ⟨_, rfl⟩
 have s0 : U0.heap.size = R + 1 := by rw [← hU0, ← hR]; simp
 have s1 : U1.heap.size = R + 1 + 1 := by rw [← hU1]; simp [s0]
 have b0 : Below w.heap.size w U0 := by rw [← hU0]; exact ball _ _
 have b1 : Below U0.heap.size U0 U1 := by rw [← hU1]; exact ball _ _
 have b2 : Below U1.heap.size U1 W := by rw [← hW]; exact ball _ _
 have HT := hid (show T3 w W R #[.int .i64 d.cap, .int .i64 d.meet, .slice d.p1 d.o1.length d.c1, .slice d.p2 d.o2.length d.c2, .int .u64 d.high, .int .u64 d.seq, .slice p n c] #[.int .u64 o.id, .int .u64 q, .int .u64 o.pk, .int .u32 o.mb, .int .i64 s, .int .i64 o.ty, .int .i64 o.pr] #[.int .i64 0, .int .i64 0, .slice none 0 0, .slice none 0 0, .int .u64 0, .int .u64 0, .slice none 0 0] from ⟨btr (btr b0 b1) b2, row_on (row_on (by rw [← hU0, ← hR]; exact World.alloc_heap_new _ _) b1) b2, row_on (by rw [← hU1, ← s0]; exact World.alloc_heap_new _ _) b2, by rw [← hW, ← s1]; exact World.alloc_heap_new _ _, hR⟩)
 have HU0 := hid hU0
 have HU1 := hid hU1
 have HW := hid hW
 have HRR := hid hR
 clear hR hU0 hU1 hW s0 s1 b0 b1 b2 h hd hvb hpk hq0 hq1 hm he hv hle hln hop hs h4 h1 h5
 go_enter Try.func35, Try.ntmps35
 go_upto_region 1 with fail
 rw [HU0.out, HU1.out, HW.out, HRR.out]
 obtain ⟨a0, a1, a2, a3, a4, a5, a6⟩ := row7 HT.out.t
 obtain ⟨b0, b1, b2, b3, b4, b5, b6⟩ := row7 HT.out.c
 have k4b : (o.ty == 4) = false := by simpa using H4.out
 go_upto_region 3 with fail
 go_upto_region 4 with (first | (go_at_call 56; with_reducible refine (CTR.out _ HT.out.be).mono ?_; rintro e w3 ⟨d2, p2, n2, c2, q2, rfl, HC⟩; have AI1 := hid (show (Try.prog.info? 74).map (·.size) = some (#[.int .i64 d2.cap, .int .i64 d2.meet, .slice d2.p1 d2.o1.length d2.c1, .slice d2.p2 d2.o2.length d2.c2, .int .u64 d2.high, .int .u64 d2.seq, .slice p2 n2 c2] : Array Value).size from i74 _ _ _ _ _ _ _); have AS1 := hid (show (#[.int .i64 d.cap, .int .i64 d.meet, .slice d.p1 d.o1.length d.c1, .slice d.p2 d.o2.length d.c2, .int .u64 d.high, .int .u64 d.seq, .slice p n c] : Array Value).size = (#[.int .i64 d2.cap, .int .i64 d2.meet, .slice d2.p1 d2.o1.length d2.c1, .slice d2.p2 d2.o2.length d2.c2, .int .u64 d2.high, .int .u64 d2.seq, .slice p2 n2 c2] : Array Value).size from s7 _ _ _ _ _ _ _ _ _ _ _ _ _ _); have AA1 := hid (show (#[.int .i64 d2.cap, .int .i64 d2.meet, .slice d2.p1 d2.o1.length d2.c1, .slice d2.p2 d2.o2.length d2.c2, .int .u64 d2.high, .int .u64 d2.seq, .slice p2 n2 c2] : Array Value).all (·.oneCell') = true from allT _ _ _ _); have AI2 := hid (show (Try.prog.info? 78).map (·.size) = some (#[.int .u64 o.id, .int .u64 q2, .int .u64 o.pk, .int .u32 o.mb, .int .i64 s, .int .i64 o.ty, .int .i64 o.pr] : Array Value).size from i78 _ _ _ _ _ _ _); have AS2 := hid (show (#[.int .u64 o.id, .int .u64 q, .int .u64 o.pk, .int .u32 o.mb, .int .i64 s, .int .i64 o.ty, .int .i64 o.pr] : Array Value).size = (#[.int .u64 o.id, .int .u64 q2, .int .u64 o.pk, .int .u32 o.mb, .int .i64 s, .int .i64 o.ty, .int .i64 o.pr] : Array Value).size from s7 _ _ _ _ _ _ _ _ _ _ _ _ _ _); have AA2 := hid (show (#[.int .u64 o.id, .int .u64 q2, .int .u64 o.pk, .int .u32 o.mb, .int .i64 s, .int .i64 o.ty, .int .i64 o.pr] : Array Value).all (·.oneCell') = true from allC _ _ _); have HS3 := hid (HT.out.on HC.out.be)) | ((refine wpList_store_row (by rfl) 74 (.tmp 2) (.tmp 27) (by rfl) (R) #[.int .i64 d2.cap, .int .i64 d2.meet, .slice d2.p1 d2.o1.length d2.c1, .slice d2.p2 d2.o2.length d2.c2, .int .u64 d2.high, .int .u64 d2.seq, .slice p2 n2 c2] (by rfl) (by rfl) 74 _ HS3.out.t AI1.out AS1.out AA1.out ?_); have HS4 := hid (HS3.out.setT #[.int .i64 d2.cap, .int .i64 d2.meet, .slice d2.p1 d2.o1.length d2.c1, .slice d2.p2 d2.o2.length d2.c2, .int .u64 d2.high, .int .u64 d2.seq, .slice p2 n2 c2])) | ((refine wpList_store_row (by rfl) 78 (.tmp 3) (.tmp 28) (by rfl) (R + 1) #[.int .u64 o.id, .int .u64 q2, .int .u64 o.pk, .int .u32 o.mb, .int .i64 s, .int .i64 o.ty, .int .i64 o.pr] (by rfl) (by rfl) 78 _ HS4.out.c AI2.out AS2.out AA2.out ?_); have HS5 := hid (HS4.out.setC #[.int .u64 o.id, .int .u64 q2, .int .u64 o.pk, .int .u32 o.mb, .int .i64 s, .int .i64 o.ty, .int .i64 o.pr])))
 clear a0 a1 a2 a3 a4 a5 a6 b0 b1 b2 b3 b4 b5 b6
 have HD5 := hid (show Dm ((w3.setRow R #[.int .i64 d2.cap, .int .i64 d2.meet, .slice d2.p1 d2.o1.length d2.c1, .slice d2.p2 d2.o2.length d2.c2, .int .u64 d2.high, .int .u64 d2.seq, .slice p2 n2 c2]).setRow (R + 1) #[.int .u64 o.id, .int .u64 q2, .int .u64 o.pk, .int .u32 o.mb, .int .i64 s, .int .i64 o.ty, .int .i64 o.pr]) d2 from (HC.out.dm.setRow HS3.out.t (by decide)).setRow HS4.out.c (by decide))
 have HR5 := hid (show Rv ((w3.setRow R #[.int .i64 d2.cap, .int .i64 d2.meet, .slice d2.p1 d2.o1.length d2.c1, .slice d2.p2 d2.o2.length d2.c2, .int .u64 d2.high, .int .u64 d2.seq, .slice p2 n2 c2]).setRow (R + 1) #[.int .u64 o.id, .int .u64 q2, .int .u64 o.pk, .int .u32 o.mb, .int .i64 s, .int .i64 o.ty, .int .i64 o.pr]) (.slice p2 n2 c2) (cms o s (mes b s q + 1) (b, es, q)).2.1 from own_setRow (own_setRow (show w3.ownsRow 0 58 13 _ _ _ from HC.out.rv) HS3.out.t (by decide)) HS4.out.c (by decide))
 have HNW := hid ((Nwl.refl _ _).trans HC.out.nw (HT.out.be).size)
 obtain ⟨W5, hW5⟩ : ∃ X, (w3.setRow R #[.int .i64 d2.cap, .int .i64 d2.meet, .slice d2.p1 d2.o1.length d2.c1, .slice d2.p2 d2.o2.length d2.c2, .int .u64 d2.high, .int .u64 d2.seq, .slice p2 n2 c2]).setRow (R + 1) #[.int .u64 o.id, .int .u64 q2, .int .u64 o.pk, .int .u32 o.mb, .int .i64 s, .int .i64 o.ty, .int .i64 o.pr] = X := ⟨_, rfl⟩
 rw [hW5] at HS5 HD5 HR5 ⊢
 clear hW5
 have HCM := hid (fun (b' : Bs) (es' : List Ev) (hh : Tk b es o s q b' es') => HYES.out (fun k => absurd k H4.out) b' es' hh)
 obtain ⟨a0, a1, a2, a3, a4, a5, a6⟩ := row7 HS5.out.t
 obtain ⟨b0, b1, b2, b3, b4, b5, b6⟩ := row7 HS5.out.c
 by_cases z0 : q2 = 0
 ·have AI3 := hid (show (Try.prog.info? 74).map (·.size) = some (#[.int .i64 d2.cap, .int .i64 d2.meet, .slice d2.p1 d2.o1.length d2.c1, .slice d2.p2 d2.o2.length d2.c2, .int .u64 d2.high, .int .u64 d2.seq, .slice p2 n2 c2] : Array Value).size from i74 _ _ _ _ _ _ _)
  have AS3 := hid (show (#[.int .i64 0, .int .i64 0, .slice none 0 0, .slice none 0 0, .int .u64 0, .int .u64 0, .slice none 0 0] : Array Value).size = (#[.int .i64 d2.cap, .int .i64 d2.meet, .slice d2.p1 d2.o1.length d2.c1, .slice d2.p2 d2.o2.length d2.c2, .int .u64 d2.high, .int .u64 d2.seq, .slice p2 n2 c2] : Array Value).size from s7 _ _ _ _ _ _ _ _ _ _ _ _ _ _)
  have AA3 := hid (show (#[.int .i64 d2.cap, .int .i64 d2.meet, .slice d2.p1 d2.o1.length d2.c1, .slice d2.p2 d2.o2.length d2.c2, .int .u64 d2.high, .int .u64 d2.seq, .slice p2 n2 c2] : Array Value).all (·.oneCell') = true from allT _ _ _ _)
  subst z0
  have HS6 := hid (HS5.out.setZ #[.int .i64 d2.cap, .int .i64 d2.meet, .slice d2.p1 d2.o1.length d2.c1, .slice d2.p2 d2.o2.length d2.c2, .int .u64 d2.high, .int .u64 d2.seq, .slice p2 n2 c2])
  go_wp2_with (refine wpList_store_row (by rfl) 74 (.tmp 4) (.tmp 32) (by rfl) (R + 1 + 1) #[.int .i64 d2.cap, .int .i64 d2.meet, .slice d2.p1 d2.o1.length d2.c1, .slice d2.p2 d2.o2.length d2.c2, .int .u64 d2.high, .int .u64 d2.seq, .slice p2 n2 c2] (by rfl) (by rfl) 74 _ HS5.out.z AI3.out AS3.out AA3.out ?_)
  refine bodyPost_ret (results_cell_row (fn := Try.f35) Try.results35 _ _ (R + 1 + 1) 74 #[.int .i64 d2.cap, .int .i64 d2.meet, .slice d2.p1 d2.o1.length d2.c1, .slice d2.p2 d2.o2.length d2.c2, .int .u64 d2.high, .int .u64 d2.seq, .slice p2 n2 c2] (0, 0) _ (by rfl) HS6.out.z Try.underlying74 rfl info74) rfl ?_
  exact ⟨d2, p2, n2, c2, _, rfl, ⟨HD5.out.setRow HS5.out.z (by decide), HNW.out⟩, HC.out.en, own_setRow (show W5.ownsRow 0 58 13 _ _ _ from HR5.out) HS5.out.z (by decide), HS6.out.be, fun b' es' hh => by obtain ⟨nn, hc⟩ := HCM.out b' es' hh; exact came_all hc HC.out.df HC.out.eq⟩
 ·have z0' : (q2 == 0) = false := by simpa using z0
  have HZP := hid (show 0 < q2 from by have := HC.out.q0; omega)
  have f1 : (o.ty != 1) = true := by simpa using H1.out
  have f5 : (o.ty != 5) = true := by simpa using H5.out
  have CT6 := hid (wtell d2 p2 n2 c2 _ (evC o.id q2 3) HC.out.en (by have := HC.out.le; omega) W5 HR5.out)
  unfold ecs evC at CT6
  simp only at CT6
  go_wp2_with (first | (go_at_call 30; with_reducible refine (CT6.out).mono ?_; rintro e w6 ⟨p6, c6, d6, rfl, HD6, HV6, HB6⟩; have AI6 := hid (show (Try.prog.info? 74).map (·.size) = some (#[.int .i64 d6.cap, .int .i64 d6.meet, .slice d6.p1 d6.o1.length d6.c1, .slice d6.p2 d6.o2.length d6.c2, .int .u64 d6.high, .int .u64 d6.seq, .slice p6 (n2 + 1) c6] : Array Value).size from i74 _ _ _ _ _ _ _); have AS6 := hid (show (#[.int .i64 0, .int .i64 0, .slice none 0 0, .slice none 0 0, .int .u64 0, .int .u64 0, .slice none 0 0] : Array Value).size = (#[.int .i64 d6.cap, .int .i64 d6.meet, .slice d6.p1 d6.o1.length d6.c1, .slice d6.p2 d6.o2.length d6.c2, .int .u64 d6.high, .int .u64 d6.seq, .slice p6 (n2 + 1) c6] : Array Value).size from s7 _ _ _ _ _ _ _ _ _ _ _ _ _ _); have AA6 := hid (show (#[.int .i64 d6.cap, .int .i64 d6.meet, .slice d6.p1 d6.o1.length d6.c1, .slice d6.p2 d6.o2.length d6.c2, .int .u64 d6.high, .int .u64 d6.seq, .slice p6 (n2 + 1) c6] : Array Value).all (·.oneCell') = true from allT _ _ _ _); have HS6 := hid (HS5.out.on HB6.out)) | (refine wpList_store_row (by rfl) 74 (.tmp 4) (.tmp 47) (by rfl) (R + 1 + 1) #[.int .i64 d6.cap, .int .i64 d6.meet, .slice d6.p1 d6.o1.length d6.c1, .slice d6.p2 d6.o2.length d6.c2, .int .u64 d6.high, .int .u64 d6.seq, .slice p6 (n2 + 1) c6] (by rfl) (by rfl) 74 _ HS6.out.z AI6.out AS6.out AA6.out ?_))
  have HS7 := hid (HS6.out.setZ #[.int .i64 d6.cap, .int .i64 d6.meet, .slice d6.p1 d6.o1.length d6.c1, .slice d6.p2 d6.o2.length d6.c2, .int .u64 d6.high, .int .u64 d6.seq, .slice p6 (n2 + 1) c6])
  refine bodyPost_ret (results_cell_row (fn := Try.f35) Try.results35 _ _ (R + 1 + 1) 74 #[.int .i64 d6.cap, .int .i64 d6.meet, .slice d6.p1 d6.o1.length d6.c1, .slice d6.p2 d6.o2.length d6.c2, .int .u64 d6.high, .int .u64 d6.seq, .slice p6 (n2 + 1) c6] (0, 0) _ (by rfl) HS7.out.z Try.underlying74 rfl info74) rfl ?_
  have hd6 := HD6.out
  subst hd6
  refine ⟨d2.told, p6, n2 + 1, c6, (cms o s (mes b s q + 1) (b, es, q)).2.1 ++ [(evC o.id q2 3).num (nx d2.seq)], rfl, ?_, ?_, ?_, HS7.out.be, fun b' es' hh => by obtain ⟨nn, hc⟩ := HCM.out b' es' hh; have h9 := came_not hc HC.out.df (by rw [HC.out.eq]; exact HZP.out) (by have h1 := H1.out; have h5 := H5.out; unfold rst; simp [h1, h5]); rw [HC.out.eq] at h9; exact h9⟩
  ·exact ⟨((HD5.out.on HB6.out).setRow HS6.out.z (by decide)).same rfl rfl rfl rfl rfl rfl, HNW.out⟩
  ·rw [List.length_append, HC.out.en]; rfl
  ·exact own_setRow (show w6.ownsRow 0 58 13 _ _ _ from HV6.out) HS6.out.z (by decide)
end Go.Proofs.Ytalgndgoedlpoaa
