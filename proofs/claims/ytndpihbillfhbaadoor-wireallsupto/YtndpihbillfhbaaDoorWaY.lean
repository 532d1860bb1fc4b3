/-
  WireAlls: the body of its loop over All. Written by mkwy.py.
-/
import Derived.Test.YtndpihbillfhbaaDoorWaK
namespace Go.Proofs.YtndpihbillfhbaaDoor
open Go.RowKit Go.Deep Crc
set_option linter.unusedVariables false
set_option linter.unusedSimpArgs false
set_option maxRecDepth 100000
set_option maxHeartbeats 4000000
attribute [local go_sem] Oper.semAt_some
/-- compared, a frame is not another one. -/
theorem neF (k a0 a1 a2 a3 a4 a5 a6 : Nat) (w : World) : (binOp .neq 31 (.agg #[.int .u8 (k : Nat), .int .u64 (a0 : Nat), .int .u64 (a1 : Nat), .int .u64 (a2 : Nat), .int .u64 (a3 : Nat), .int .u64 (a4 : Nat), .int .u64 (a5 : Nat), .int .u64 (a6 : Nat)]) (.agg #[.int .u8 (k : Nat), .int .u64 (a0 : Nat), .int .u64 (a1 : Nat), .int .u64 (a2 : Nat), .int .u64 (a3 : Nat), .int .u64 (a4 : Nat), .int .u64 (a5 : Nat), .int .u64 (a6 : Nat)])).run Tryd.prog w = .ok (.bool false) w := by
  have := eqF k a0 a1 a2 a3 a4 a5 a6 w
  rw [show (10000 : Nat) = Op.maxDepth from rfl] at this
  simp [binOp, Op.equal, Sem.run_bind, this]
theorem waB_x (ST RD WT NB F gw cw nv n l m : Nat) (r stop : Int) (hm : 1 ≤ m) {c : Code} (hc : (Tryd.f6.body.bind rfOf) = some c) (u0 u1 u2 u3 u5 u6 u7 u8 u9 u11 u16 u17 u18 u19 u20 u21 u22 u23 u24 u25 u26 u27 u28 u29 u30 u31 u32 u33 u34 u35 u36 u37 u38 u39 u40 u41 u42 u43 u44 u45 u46 u47 u48 u49 u50 u51 u52 u53 u54 u55 u56 u57 u58 u59 u60 u61 u62 u63 u64 u65 u66 u67 u68 u69 u70 u71 u72 u73 u74 u75 u76 u77 u78 u79 u80 u81 u82 u83 u84 u85 u86 u87 u88 u89 u90 u91 u92 u93 u94 u95 u96 u97 u98 u99 u100 u101 u102 u103 u104 u105 u106 u107 u108 u109 : Value) (k a0 a1 a2 a3 a4 a5 a6 : Nat) (E : Int) {W : World}
    (hST : W.heap[ST]? = some (.cells #[.int .i64 stop] 3 (0, 0))) (hRD : W.heap[RD]? = some (.cells #[.int .i64 r] 3 (0, 0))) (hWT : W.heap[WT]? = some (.cells #[.slice (some ⟨gw, 0, none⟩) nv cw] 41 (0, 0))) (hNB : W.heap[NB]? = some (.cells #[.int .i64 (n : Int)] 3 (0, 0)))
    (hF : W.heap[F]? = some (.cells #[.int .u8 (k : Nat), .int .u64 (a0 : Nat), .int .u64 (a1 : Nat), .int .u64 (a2 : Nat), .int .u64 (a3 : Nat), .int .u64 (a4 : Nat), .int .u64 (a5 : Nat), .int .u64 (a6 : Nat)] 31 (0, 0)))
    (c0 : W.cell? ⟨gw, n * 9, none⟩ = some (.int .u8 (k : Nat))) (c1 : W.cell? ⟨gw, n * 9 + 1, none⟩ = some (.int .u64 (a0 : Nat))) (c2 : W.cell? ⟨gw, n * 9 + 2, none⟩ = some (.int .u64 (a1 : Nat))) (c3 : W.cell? ⟨gw, n * 9 + 3, none⟩ = some (.int .u64 (a2 : Nat))) (c4 : W.cell? ⟨gw, n * 9 + 4, none⟩ = some (.int .u64 (a3 : Nat))) (c5 : W.cell? ⟨gw, n * 9 + 5, none⟩ = some (.int .u64 (a4 : Nat))) (c6 : W.cell? ⟨gw, n * 9 + 6, none⟩ = some (.int .u64 (a5 : Nat))) (c7 : W.cell? ⟨gw, n * 9 + 7, none⟩ = some (.int .u64 (a6 : Nat))) (c8 : W.cell? ⟨gw, n * 9 + 8, none⟩ = some (.int .i64 E))
    (hn : n < nv) (hv : nv ≤ 1048577) (dS : ST ≠ NB) (dR : RD ≠ NB) (hr : r = 0) (hst : ((n + 1 : Nat) : Int) = stop)
    {Q : Exit → Act → World → Prop} (hQ : ∀ a' nq, Q (.exit 4) a' ((W.drewN nq).setCell ⟨NB, 0, none⟩ (.int .i64 ((n + 1 : Nat) : Int)))) :
    c.wpIn (Fence.wide.inRound l) m Tryd.prog Q { tmps := #[u0, u1, u2, u3, .pointer (some ⟨ST, 0, none⟩), u5, u6, u7, u8, u9, .pointer (some ⟨RD, 0, none⟩), u11, .pointer (some ⟨WT, 0, none⟩), .pointer (some ⟨NB, 0, none⟩), .pointer (some ⟨F, 0, none⟩), .int .i64 E, u16, u17, u18, u19, u20, u21, u22, u23, u24, u25, u26, u27, u28, u29, u30, u31, u32, u33, u34, u35, u36, u37, u38, u39, u40, u41, u42, u43, u44, u45, u46, u47, u48, u49, u50, u51, u52, u53, u54, u55, u56, u57, u58, u59, u60, u61, u62, u63, u64, u65, u66, u67, u68, u69, u70, u71, u72, u73, u74, u75, u76, u77, u78, u79, u80, u81, u82, u83, u84, u85, u86, u87, u88, u89, u90, u91, u92, u93, u94, u95, u96, u97, u98, u99, u100, u101, u102, u103, u104, u105, u106, u107, u108, u109], defers := [] } W := by
  simp only [Tryd.f6, rfOf, Option.bind, Option.or] at hc
  injection hc with hc
  subst hc
  have HQ := hid hQ
  have mS := row_cell hST 0
  have mR := row_cell hRD 0
  have mW := row_cell hWT 0
  have mN := row_cell hNB 0
  have f0 := row_cell hF 0
  have f1 := row_cell hF 1
  have f2 := row_cell hF 2
  have f3 := row_cell hF 3
  have f4 := row_cell hF 4
  have f5 := row_cell hF 5
  have f6 := row_cell hF 6
  have f7 := row_cell hF 7
  simp only [List.getElem?_toArray, List.getElem?_cons_zero, List.getElem?_cons_succ] at mS mR mW mN f0 f1 f2 f3 f4 f5 f6 f7
  have fN := frozen_of_row W NB 0 _ _ hNB
  have NE := neF k a0 a1 a2 a3 a4 a5 a6
  obtain ⟨j, hj⟩ : ∃ j, n + 1 = j := ⟨_, rfl⟩
  rw [hj] at HQ
  have wj : IntKind.i64.wrap ((n : Int) + 1) = (j : Int) := by simp [IntKind.wrap, IntKind.bits, IntKind.signed]; omega
  have hst' : ((j : Int) == stop) = true := by rw [← hj]; simpa using hst
  have pN : ∀ nq x, ((W.drewN nq).setCell ⟨NB, 0, none⟩ x).cell? ⟨NB, 0, none⟩ = some x := fun nq x => by rw [row_cell (heap_setCell_same (W.drewN nq) NB 0 _ 3 x (show (W.drewN nq).heap[NB]? = _ from hNB)) 0]; rfl
  have qN : ∀ nq, (W.drewN nq).cell? ⟨NB, 0, none⟩ = some (.int .i64 (n : Int)) := fun nq => mN
  have qF : ∀ nq, (W.drewN nq).frozen? ⟨NB, 0, none⟩ = false := fun nq => fN
  have pS : ∀ nq x, ((W.drewN nq).setCell ⟨NB, 0, none⟩ x).cell? ⟨ST, 0, none⟩ = some (.int .i64 stop) := fun nq x => by rw [row_cell ((heap_setCell_other _ _ _ _ (by show ST ≠ NB; exact dS)).trans (show (W.drewN nq).heap[ST]? = _ from hST)) 0]; rfl
  have pR : ∀ nq x, ((W.drewN nq).setCell ⟨NB, 0, none⟩ x).cell? ⟨RD, 0, none⟩ = some (.int .i64 r) := fun nq x => by rw [row_cell ((heap_setCell_other _ _ _ _ (by show RD ≠ NB; exact dR)).trans (show (W.drewN nq).heap[RD]? = _ from hRD)) 0]; rfl
  have d1 : decide (nv ≤ n) = false := by simp; omega
  have d2 : (n : Int) < (nv : Int) := by omega
  have d3 : (0 : Int) ≤ (n : Int) := by omega
  have d4 : ((n : Int)).toNat = n := by omega
  have e1 : (E != E) = false := by simp
  have nSN : ¬ ST = NB := dS
  have nRN : ¬ RD = NB := dR
  subst hr
  clear hST hRD hWT hNB hF hn hv hQ hj dS dR
  gi_wp2_with fail
  rename_i K5 A5 K4 A4
  have HK5 := hid A5
  have HK4 := hid A4
  clear A5 A4
  refine wpIn_region_quiet_round l rfl (by kernel_rfl) (by kernel_rfl) (by kernel_rfl) ?_
  repeat (gi_big_quiet_step (fail))
  refine wpQuietIn_nil ?_
  intro _ hw'
  obtain ⟨nq, hw''⟩ := hw'
  subst hw''
  refine HK4.out _ _ ?_
  clear HK4
  gi_wp2_with fail
  refine HK5.out _ _ ?_
  clear HK5
  gi_wp2_with fail
  all_goals exact HQ.out _ _
theorem waB_n (ST RD WT NB F gw cw nv n l m : Nat) (r stop : Int) (hm : 1 ≤ m) {c : Code} (hc : (Tryd.f6.body.bind rfOf) = some c) (u0 u1 u2 u3 u5 u6 u7 u8 u9 u11 u16 u17 u18 u19 u20 u21 u22 u23 u24 u25 u26 u27 u28 u29 u30 u31 u32 u33 u34 u35 u36 u37 u38 u39 u40 u41 u42 u43 u44 u45 u46 u47 u48 u49 u50 u51 u52 u53 u54 u55 u56 u57 u58 u59 u60 u61 u62 u63 u64 u65 u66 u67 u68 u69 u70 u71 u72 u73 u74 u75 u76 u77 u78 u79 u80 u81 u82 u83 u84 u85 u86 u87 u88 u89 u90 u91 u92 u93 u94 u95 u96 u97 u98 u99 u100 u101 u102 u103 u104 u105 u106 u107 u108 u109 : Value) (k a0 a1 a2 a3 a4 a5 a6 : Nat) (E : Int) {W : World}
    (hST : W.heap[ST]? = some (.cells #[.int .i64 stop] 3 (0, 0))) (hRD : W.heap[RD]? = some (.cells #[.int .i64 r] 3 (0, 0))) (hWT : W.heap[WT]? = some (.cells #[.slice (some ⟨gw, 0, none⟩) nv cw] 41 (0, 0))) (hNB : W.heap[NB]? = some (.cells #[.int .i64 (n : Int)] 3 (0, 0)))
    (hF : W.heap[F]? = some (.cells #[.int .u8 (k : Nat), .int .u64 (a0 : Nat), .int .u64 (a1 : Nat), .int .u64 (a2 : Nat), .int .u64 (a3 : Nat), .int .u64 (a4 : Nat), .int .u64 (a5 : Nat), .int .u64 (a6 : Nat)] 31 (0, 0)))
    (c0 : W.cell? ⟨gw, n * 9, none⟩ = some (.int .u8 (k : Nat))) (c1 : W.cell? ⟨gw, n * 9 + 1, none⟩ = some (.int .u64 (a0 : Nat))) (c2 : W.cell? ⟨gw, n * 9 + 2, none⟩ = some (.int .u64 (a1 : Nat))) (c3 : W.cell? ⟨gw, n * 9 + 3, none⟩ = some (.int .u64 (a2 : Nat))) (c4 : W.cell? ⟨gw, n * 9 + 4, none⟩ = some (.int .u64 (a3 : Nat))) (c5 : W.cell? ⟨gw, n * 9 + 5, none⟩ = some (.int .u64 (a4 : Nat))) (c6 : W.cell? ⟨gw, n * 9 + 6, none⟩ = some (.int .u64 (a5 : Nat))) (c7 : W.cell? ⟨gw, n * 9 + 7, none⟩ = some (.int .u64 (a6 : Nat))) (c8 : W.cell? ⟨gw, n * 9 + 8, none⟩ = some (.int .i64 E))
    (hn : n < nv) (hv : nv ≤ 1048577) (dS : ST ≠ NB) (dR : RD ≠ NB) (hr : r = 0) (hst : ¬ ((n + 1 : Nat) : Int) = stop)
    {Q : Exit → Act → World → Prop} (hQ : ∀ a' nq, Q .normal a' ((W.drewN nq).setCell ⟨NB, 0, none⟩ (.int .i64 ((n + 1 : Nat) : Int)))) :
    c.wpIn (Fence.wide.inRound l) m Tryd.prog Q { tmps := #[u0, u1, u2, u3, .pointer (some ⟨ST, 0, none⟩), u5, u6, u7, u8, u9, .pointer (some ⟨RD, 0, none⟩), u11, .pointer (some ⟨WT, 0, none⟩), .pointer (some ⟨NB, 0, none⟩), .pointer (some ⟨F, 0, none⟩), .int .i64 E, u16, u17, u18, u19, u20, u21, u22, u23, u24, u25, u26, u27, u28, u29, u30, u31, u32, u33, u34, u35, u36, u37, u38, u39, u40, u41, u42, u43, u44, u45, u46, u47, u48, u49, u50, u51, u52, u53, u54, u55, u56, u57, u58, u59, u60, u61, u62, u63, u64, u65, u66, u67, u68, u69, u70, u71, u72, u73, u74, u75, u76, u77, u78, u79, u80, u81, u82, u83, u84, u85, u86, u87, u88, u89, u90, u91, u92, u93, u94, u95, u96, u97, u98, u99, u100, u101, u102, u103, u104, u105, u106, u107, u108, u109], defers := [] } W := by
  simp only [Tryd.f6, rfOf, Option.bind, Option.or] at hc
  injection hc with hc
  subst hc
  have HQ := hid hQ
  have mS := row_cell hST 0
  have mR := row_cell hRD 0
  have mW := row_cell hWT 0
  have mN := row_cell hNB 0
  have f0 := row_cell hF 0
  have f1 := row_cell hF 1
  have f2 := row_cell hF 2
  have f3 := row_cell hF 3
  have f4 := row_cell hF 4
  have f5 := row_cell hF 5
  have f6 := row_cell hF 6
  have f7 := row_cell hF 7
  simp only [List.getElem?_toArray, List.getElem?_cons_zero, List.getElem?_cons_succ] at mS mR mW mN f0 f1 f2 f3 f4 f5 f6 f7
  have fN := frozen_of_row W NB 0 _ _ hNB
  have NE := neF k a0 a1 a2 a3 a4 a5 a6
  obtain ⟨j, hj⟩ : ∃ j, n + 1 = j := ⟨_, rfl⟩
  rw [hj] at HQ
  have wj : IntKind.i64.wrap ((n : Int) + 1) = (j : Int) := by simp [IntKind.wrap, IntKind.bits, IntKind.signed]; omega
  have hst' : ((j : Int) == stop) = false := by rw [← hj]; simpa using hst
  have pN : ∀ nq x, ((W.drewN nq).setCell ⟨NB, 0, none⟩ x).cell? ⟨NB, 0, none⟩ = some x := fun nq x => by rw [row_cell (heap_setCell_same (W.drewN nq) NB 0 _ 3 x (show (W.drewN nq).heap[NB]? = _ from hNB)) 0]; rfl
  have qN : ∀ nq, (W.drewN nq).cell? ⟨NB, 0, none⟩ = some (.int .i64 (n : Int)) := fun nq => mN
  have qF : ∀ nq, (W.drewN nq).frozen? ⟨NB, 0, none⟩ = false := fun nq => fN
  have pS : ∀ nq x, ((W.drewN nq).setCell ⟨NB, 0, none⟩ x).cell? ⟨ST, 0, none⟩ = some (.int .i64 stop) := fun nq x => by rw [row_cell ((heap_setCell_other _ _ _ _ (by show ST ≠ NB; exact dS)).trans (show (W.drewN nq).heap[ST]? = _ from hST)) 0]; rfl
  have pR : ∀ nq x, ((W.drewN nq).setCell ⟨NB, 0, none⟩ x).cell? ⟨RD, 0, none⟩ = some (.int .i64 r) := fun nq x => by rw [row_cell ((heap_setCell_other _ _ _ _ (by show RD ≠ NB; exact dR)).trans (show (W.drewN nq).heap[RD]? = _ from hRD)) 0]; rfl
  have d1 : decide (nv ≤ n) = false := by simp; omega
  have d2 : (n : Int) < (nv : Int) := by omega
  have d3 : (0 : Int) ≤ (n : Int) := by omega
  have d4 : ((n : Int)).toNat = n := by omega
  have e1 : (E != E) = false := by simp
  have nSN : ¬ ST = NB := dS
  have nRN : ¬ RD = NB := dR
  subst hr
  clear hST hRD hWT hNB hF hn hv hQ hj dS dR
  gi_wp2_with fail
  rename_i K5 A5 K4 A4
  have HK5 := hid A5
  have HK4 := hid A4
  clear A5 A4
  refine wpIn_region_quiet_round l rfl (by kernel_rfl) (by kernel_rfl) (by kernel_rfl) ?_
  repeat (gi_big_quiet_step (fail))
  refine wpQuietIn_nil ?_
  intro _ hw'
  obtain ⟨nq, hw''⟩ := hw'
  subst hw''
  refine HK4.out _ _ ?_
  clear HK4
  gi_wp2_with fail
  refine HK5.out _ _ ?_
  clear HK5
  gi_wp2_with fail
  all_goals exact HQ.out _ _
theorem waB_r (ST RD WT NB F gw cw nv n l m : Nat) (r stop : Int) (hm : 1 ≤ m) {c : Code} (hc : (Tryd.f6.body.bind rfOf) = some c) (u0 u1 u2 u3 u5 u6 u7 u8 u9 u11 u16 u17 u18 u19 u20 u21 u22 u23 u24 u25 u26 u27 u28 u29 u30 u31 u32 u33 u34 u35 u36 u37 u38 u39 u40 u41 u42 u43 u44 u45 u46 u47 u48 u49 u50 u51 u52 u53 u54 u55 u56 u57 u58 u59 u60 u61 u62 u63 u64 u65 u66 u67 u68 u69 u70 u71 u72 u73 u74 u75 u76 u77 u78 u79 u80 u81 u82 u83 u84 u85 u86 u87 u88 u89 u90 u91 u92 u93 u94 u95 u96 u97 u98 u99 u100 u101 u102 u103 u104 u105 u106 u107 u108 u109 : Value) (k a0 a1 a2 a3 a4 a5 a6 : Nat) (E : Int) {W : World}
    (hST : W.heap[ST]? = some (.cells #[.int .i64 stop] 3 (0, 0))) (hRD : W.heap[RD]? = some (.cells #[.int .i64 r] 3 (0, 0))) (hWT : W.heap[WT]? = some (.cells #[.slice (some ⟨gw, 0, none⟩) nv cw] 41 (0, 0))) (hNB : W.heap[NB]? = some (.cells #[.int .i64 (n : Int)] 3 (0, 0)))
    (hF : W.heap[F]? = some (.cells #[.int .u8 (k : Nat), .int .u64 (a0 : Nat), .int .u64 (a1 : Nat), .int .u64 (a2 : Nat), .int .u64 (a3 : Nat), .int .u64 (a4 : Nat), .int .u64 (a5 : Nat), .int .u64 (a6 : Nat)] 31 (0, 0)))
    (c0 : W.cell? ⟨gw, n * 9, none⟩ = some (.int .u8 (k : Nat))) (c1 : W.cell? ⟨gw, n * 9 + 1, none⟩ = some (.int .u64 (a0 : Nat))) (c2 : W.cell? ⟨gw, n * 9 + 2, none⟩ = some (.int .u64 (a1 : Nat))) (c3 : W.cell? ⟨gw, n * 9 + 3, none⟩ = some (.int .u64 (a2 : Nat))) (c4 : W.cell? ⟨gw, n * 9 + 4, none⟩ = some (.int .u64 (a3 : Nat))) (c5 : W.cell? ⟨gw, n * 9 + 5, none⟩ = some (.int .u64 (a4 : Nat))) (c6 : W.cell? ⟨gw, n * 9 + 6, none⟩ = some (.int .u64 (a5 : Nat))) (c7 : W.cell? ⟨gw, n * 9 + 7, none⟩ = some (.int .u64 (a6 : Nat))) (c8 : W.cell? ⟨gw, n * 9 + 8, none⟩ = some (.int .i64 E))
    (hn : n < nv) (hv : nv ≤ 1048577) (dS : ST ≠ NB) (dR : RD ≠ NB) (hr : ¬ r = 0)
    {Q : Exit → Act → World → Prop} (hQ : ∀ a' nq, Q .normal a' ((W.drewN nq).setCell ⟨NB, 0, none⟩ (.int .i64 ((n + 1 : Nat) : Int)))) :
    c.wpIn (Fence.wide.inRound l) m Tryd.prog Q { tmps := #[u0, u1, u2, u3, .pointer (some ⟨ST, 0, none⟩), u5, u6, u7, u8, u9, .pointer (some ⟨RD, 0, none⟩), u11, .pointer (some ⟨WT, 0, none⟩), .pointer (some ⟨NB, 0, none⟩), .pointer (some ⟨F, 0, none⟩), .int .i64 E, u16, u17, u18, u19, u20, u21, u22, u23, u24, u25, u26, u27, u28, u29, u30, u31, u32, u33, u34, u35, u36, u37, u38, u39, u40, u41, u42, u43, u44, u45, u46, u47, u48, u49, u50, u51, u52, u53, u54, u55, u56, u57, u58, u59, u60, u61, u62, u63, u64, u65, u66, u67, u68, u69, u70, u71, u72, u73, u74, u75, u76, u77, u78, u79, u80, u81, u82, u83, u84, u85, u86, u87, u88, u89, u90, u91, u92, u93, u94, u95, u96, u97, u98, u99, u100, u101, u102, u103, u104, u105, u106, u107, u108, u109], defers := [] } W := by
  simp only [Tryd.f6, rfOf, Option.bind, Option.or] at hc
  injection hc with hc
  subst hc
  have HQ := hid hQ
  have mS := row_cell hST 0
  have mR := row_cell hRD 0
  have mW := row_cell hWT 0
  have mN := row_cell hNB 0
  have f0 := row_cell hF 0
  have f1 := row_cell hF 1
  have f2 := row_cell hF 2
  have f3 := row_cell hF 3
  have f4 := row_cell hF 4
  have f5 := row_cell hF 5
  have f6 := row_cell hF 6
  have f7 := row_cell hF 7
  simp only [List.getElem?_toArray, List.getElem?_cons_zero, List.getElem?_cons_succ] at mS mR mW mN f0 f1 f2 f3 f4 f5 f6 f7
  have fN := frozen_of_row W NB 0 _ _ hNB
  have NE := neF k a0 a1 a2 a3 a4 a5 a6
  obtain ⟨j, hj⟩ : ∃ j, n + 1 = j := ⟨_, rfl⟩
  rw [hj] at HQ
  have wj : IntKind.i64.wrap ((n : Int) + 1) = (j : Int) := by simp [IntKind.wrap, IntKind.bits, IntKind.signed]; omega
  have hr' : (r == 0) = false := by simpa using hr
  have pN : ∀ nq x, ((W.drewN nq).setCell ⟨NB, 0, none⟩ x).cell? ⟨NB, 0, none⟩ = some x := fun nq x => by rw [row_cell (heap_setCell_same (W.drewN nq) NB 0 _ 3 x (show (W.drewN nq).heap[NB]? = _ from hNB)) 0]; rfl
  have qN : ∀ nq, (W.drewN nq).cell? ⟨NB, 0, none⟩ = some (.int .i64 (n : Int)) := fun nq => mN
  have qF : ∀ nq, (W.drewN nq).frozen? ⟨NB, 0, none⟩ = false := fun nq => fN
  have pS : ∀ nq x, ((W.drewN nq).setCell ⟨NB, 0, none⟩ x).cell? ⟨ST, 0, none⟩ = some (.int .i64 stop) := fun nq x => by rw [row_cell ((heap_setCell_other _ _ _ _ (by show ST ≠ NB; exact dS)).trans (show (W.drewN nq).heap[ST]? = _ from hST)) 0]; rfl
  have pR : ∀ nq x, ((W.drewN nq).setCell ⟨NB, 0, none⟩ x).cell? ⟨RD, 0, none⟩ = some (.int .i64 r) := fun nq x => by rw [row_cell ((heap_setCell_other _ _ _ _ (by show RD ≠ NB; exact dR)).trans (show (W.drewN nq).heap[RD]? = _ from hRD)) 0]; rfl
  have d1 : decide (nv ≤ n) = false := by simp; omega
  have d2 : (n : Int) < (nv : Int) := by omega
  have d3 : (0 : Int) ≤ (n : Int) := by omega
  have d4 : ((n : Int)).toNat = n := by omega
  have e1 : (E != E) = false := by simp
  have nSN : ¬ ST = NB := dS
  have nRN : ¬ RD = NB := dR
  clear hST hRD hWT hNB hF hn hv hQ hj dS dR
  gi_wp2_with fail
  rename_i K5 A5 K4 A4
  have HK5 := hid A5
  have HK4 := hid A4
  clear A5 A4
  refine wpIn_region_quiet_round l rfl (by kernel_rfl) (by kernel_rfl) (by kernel_rfl) ?_
  repeat (gi_big_quiet_step (fail))
  refine wpQuietIn_nil ?_
  intro _ hw'
  obtain ⟨nq, hw''⟩ := hw'
  subst hw''
  refine HK4.out _ _ ?_
  clear HK4
  gi_wp2_with fail
  refine HK5.out _ _ ?_
  clear HK5
  gi_wp2_with fail
  all_goals exact HQ.out _ _
end Go.Proofs.YtndpihbillfhbaaDoor
