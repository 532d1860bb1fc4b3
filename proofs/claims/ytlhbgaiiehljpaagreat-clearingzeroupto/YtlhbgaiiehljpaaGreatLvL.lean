/-
  LvL
-/
import Derived.Test.YtlhbgaiiehljpaaGreatGAa
import Derived.Test.YtlhbgaiiehljpaaGreatLvK
namespace Go.Proofs.YtlhbgaiiehljpaaGreat.Ac
open List renaming getElem?_toArray → lqA, getElem?_cons_succ → lqB, getElem?_cons_zero → lqC
open List renaming getElem_toArray → lgA, getElem_cons_succ → lgB, getElem_cons_zero → lgC, setIfInBounds_toArray → lsA, set_cons_zero → lsB, set_cons_succ → lsC
open Go.RowKit Go.Deep Go.Maps MonM Go.Proofs.YtlhbgaiiehljpaaGreat
set_option linter.unusedVariables false
set_option linter.unusedSimpArgs false
set_option maxHeartbeats 8000000
set_option maxRecDepth 100000
attribute [local go_sem ↓] Go.wp_at_zero Go.wp_at_succ
theorem madd_zero (v : Int) (h : Amt v) : maddV 0 v = v := by unfold Amt at h; unfold maddV; rw [Int.zero_add, if_pos h]
theorem infoH2 : (Tryz.prog.info? 79).map (·.size) = some 2 := by kernel_rfl
theorem take_first (d : Dl) {H : Nat} {o : Int} {p : Option Addr} {c : Nat} {l : List (Nat × Sv)} {n : Nat} (w : World) (h : Ho w H o p c l none n (fun _ => none)) {y z : Nat × Sv} (hy : y ∈ l) (hz : z ∈ l) (ey : y.2.m = d.buy) (ez : z.2.m = d.sel) (oy : y.2.ou = false) (oz : z.2.ou = false) (ht : terr d = 0) (hd : d.ok) (hne : d.buy ≠ d.sel) :
  Calls Tryz.prog 16 #[pb H, dv d] w fun e w' => e = .returned (.int .i64 0) ∧ ∃ b, w.heap.size ≤ b ∧ Ho w' H o p c l (some b) 2 (upd (upd (fun _ => none) (d.buy, d.ins) ⟨d.q, d.pr * d.q⟩) (d.sel, d.ins) ⟨-d.q, -(d.pr * d.q)⟩) ∧ Kp (fun j => j = H) w w' := by
 obtain ⟨⟨q0, q1⟩, q2, q3, hav⟩ := terr_ok ht
 have CV := hid (fun U => value_any d U q0 q1 ⟨by omega, by omega⟩)
 obtain ⟨W1, hW1⟩ : ∃ W, w.alloc (.cells (drow d) 59) = W := ⟨_, rfl⟩
 obtain ⟨g3, hg3⟩ : ∃ g, w.heap.size = g := ⟨_, rfl⟩
 have B1 := hid (show Below w.heap.size w W1 from by rw [← hW1]; exact ball _ _)
 have R1 := hid (show W1.heap[g3]? = some (.cells (drow d) 59 (0, 0)) from by rw [← hW1, ← hg3]; exact World.alloc_heap_new _ _)
 have CR := hid (refused_no d W1 (h.on B1.out) hy hz ey ez oy oz ht)
 obtain ⟨ii, bu, se, tk, pr, qq⟩ := d
 obtain ⟨hui, hub, hus, -⟩ := hd
 have HUI := hid (show U32 ii from hui)
 have HUB := hid (show U32 bu from hub)
 have HUS := hid (show U32 se from hus)
 have hav : Amt (pr * qq) := hav
 have q2 : 1 ≤ qq := q2
 have q3 : qq ≤ 4294967295 := q3
 have hne : bu ≠ se := hne
 show Calls Tryz.prog 16 #[pb H, .agg #[.int .u32 ii, .int .u32 bu, .int .u32 se, .int .i64 tk, .int .i64 pr, .int .u64 qq]] w fun e w' => e = .returned (.int .i64 0) ∧ ∃ b, w.heap.size ≤ b ∧ Ho w' H o p c l (some b) 2 (upd (upd (fun _ => none) (bu, ii) ⟨qq, pr * qq⟩) (se, ii) ⟨-qq, -(pr * qq)⟩) ∧ Kp (fun j => j = H) w w'
 have CV := hid (show ∀ U, Calls Tryz.prog 35 #[.agg #[.int .u32 ii, .int .u32 bu, .int .u32 se, .int .i64 tk, .int .i64 pr, .int .u64 qq]] U fun e w' => e = .returned (mv (pr * qq)) ∧ Below U.heap.size U w' from CV.out)
 have CR := hid (show Calls Tryz.prog 34 #[pb H, .agg #[.int .u32 ii, .int .u32 bu, .int .u32 se, .int .i64 tk, .int .i64 pr, .int .u64 qq]] W1 fun e w' => e = .returned (.int .i64 0) ∧ Below W1.heap.size W1 w' from CR.out)
 have R1 := hid (show W1.heap[g3]? = some (.cells #[.int .u32 ii, .int .u32 bu, .int .u32 se, .int .i64 tk, .int .i64 pr, .int .u64 qq] 59 (0, 0)) from R1.out)
 have hW1 : w.alloc (.cells #[.int .u32 ii, .int .u32 bu, .int .u32 se, .int .i64 tk, .int .i64 pr, .int .u64 qq] 59) = W1 := hW1
 obtain ⟨v, hv⟩ : ∃ v, pr * qq = v := ⟨_, rfl⟩
 rw [hv] at CV hav ⊢
 have CA1 := hid (show ∀ U, Calls Tryz.prog 36 #[.agg #[.int .i64 0, .int .u64 0, .int .u64 0], .agg #[.int .i64 qq, .int .u64 (hiW v), .int .u64 (loW v)]] U fun e w' => e = .returned (.agg #[.int .i64 qq, .int .u64 (hiW v), .int .u64 (loW v)]) ∧ Below U.heap.size U w' from fun U => by
  have h1 := and_any p0 ⟨qq, v⟩ U (show Amt 0 from ⟨by decide, by decide⟩) hav (by show -4611686018427387904 ≤ 0 + qq; omega) (by show 0 + qq ≤ 4611686018427387904; omega)
  simp only [pval, p0, words_zero.1, words_zero.2, Int.zero_add, madd_zero v hav] at h1
  exact h1)
 have CA2 := hid (show ∀ U, Calls Tryz.prog 36 #[.agg #[.int .i64 0, .int .u64 0, .int .u64 0], .agg #[.int .i64 (-qq), .int .u64 (hiW (-v)), .int .u64 (loW (-v))]] U fun e w' => e = .returned (.agg #[.int .i64 (-qq), .int .u64 (hiW (-v)), .int .u64 (loW (-v))]) ∧ Below U.heap.size U w' from fun U => by
  have h1 := and_any p0 ⟨-qq, -v⟩ U (show Amt 0 from ⟨by decide, by decide⟩) (amt_neg v hav) (by show -4611686018427387904 ≤ 0 + -qq; omega) (by show 0 + -qq ≤ 4611686018427387904; omega)
  simp only [pval, p0, words_zero.1, words_zero.2, Int.zero_add, madd_zero (-v) (amt_neg v hav)] at h1
  exact h1)
 have CN := hid (fun U => neg_any v U)
 have CS1 := hid (show ∀ U, Calls Tryz.prog 38 #[.agg #[.int .i64 qq, .int .u64 (hiW v), .int .u64 (loW v)]] U fun e w' => e = .returned (.int .u64 qq) ∧ Below U.heap.size U w' from fun U => by
  have h1 := psize_any ⟨qq, v⟩ U (by show -4611686018427387904 ≤ qq; omega) (by show qq ≤ 4611686018427387904; omega)
  rw [if_neg (show ¬ qq < 0 from by omega)] at h1
  exact h1)
 have CS2 := hid (show ∀ U, Calls Tryz.prog 38 #[.agg #[.int .i64 (-qq), .int .u64 (hiW (-v)), .int .u64 (loW (-v))]] U fun e w' => e = .returned (.int .u64 qq) ∧ Below U.heap.size U w' from fun U => by
  have h1 := psize_any ⟨-qq, -v⟩ U (by show -4611686018427387904 ≤ -qq; omega) (by show -qq ≤ 4611686018427387904; omega)
  rw [if_pos (show -qq < 0 from by omega)] at h1
  rw [show - -qq = qq from by omega] at h1
  exact h1)
 have LA := fun U => (show (Instr.lookup 98 (.map none) (.agg #[.int .u32 bu, .int .u32 ii]) false).run Tryz.prog U = .ok (.agg #[.int .i64 0, .int .u64 0, .int .u64 0]) U from by
  have h1 := get_none okP U (bu, ii) ⟨hub, hui⟩
  rw [show kvP.val kvP.zero = .agg #[.int .i64 0, .int .u64 0, .int .u64 0] from rfl] at h1
  exact h1)
 have LB := fun U => (show (Instr.lookup 98 (.map none) (.agg #[.int .u32 se, .int .u32 ii]) false).run Tryz.prog U = .ok (.agg #[.int .i64 0, .int .u64 0, .int .u64 0]) U from by
  have h1 := get_none okP U (se, ii) ⟨hus, hui⟩
  rw [show kvP.val kvP.zero = .agg #[.int .i64 0, .int .u64 0, .int .u64 0] from rfl] at h1
  exact h1)
 have EQ := fun U => eqH se ii bu ii U
 have zne : (se == bu) = false := by simpa using (fun e => hne e.symm)
 simp only [zne, Bool.false_and] at EQ
 have wq1 : IntKind.i64.wrap qq = qq := by rw [IntKind.wrap_i64]; omega
 have wq2 : IntKind.i64.wrap (-qq) = -qq := by rw [IntKind.wrap_i64]; omega
 have dq : decide (1099511627776 < qq) = false := decide_eq_false (by omega)
 have HQ0 := hid (show (⟨qq, v⟩ : Pv).q ≠ 0 from by show qq ≠ 0; omega)
 have HQ1 := hid (show (⟨-qq, -v⟩ : Pv).q ≠ 0 from by show -qq ≠ 0; omega)
 obtain ⟨k, hk⟩ : ∃ k, l.length = k := ⟨_, rfl⟩
 have HK := hid hk
 have HH := hid h
 have HRW := hid (fun (U : World) (hU : Below W1.heap.size W1 U) => row_on (row_on h.row B1.out) hU)
 rw [hk] at HRW
 unfold mv at CV CN
 have BR := hid (Below.refl W1.heap.size W1)
 clear h hy hz ey ez oy oz ht hui hub hus hav q2 q3 hne hv hk q0 q1 zne
 go_enter Tryz.func16, Tryz.ntmps16
 go_upto_region 1 with fail
 clear hW1 hg3
 have z0 := row_cell R1.out 0
 have z1 := row_cell R1.out 1
 have z2 := row_cell R1.out 2
 have z3 := row_cell R1.out 3
 have z4 := row_cell R1.out 4
 have z5 := row_cell R1.out 5
 simp only [lqA, lqB, lqC] at z0 z1 z2 z3 z4 z5
 go_upto_region 4 with (go_at_call 34; with_reducible refine CR.out.mono ?_; rintro e w2 ⟨rfl, h2⟩; have B2 := hid h2; clear h2)
 clear z0 z1 z2 z3 z4 z5
 have RD2 := hid (row_on R1.out B2.out)
 refine reg_cut (X := Nat × Nat) (fun a x => ((((((((((((a.put (some 18) (.pointer (some ⟨g3, 1, none⟩))).put (some 19) (.int .u32 bu)).put (some 20) (.pointer (some ⟨g3, 0, none⟩))).put (some 21) (.int .u32 ii)).put (some 22) (.agg #[.int .u32 bu, .int .u32 ii])).put (some 23) (.pointer (some ⟨g3, 2, none⟩))).put (some 24) (.int .u32 se)).put (some 25) (.pointer (some ⟨g3, 0, none⟩))).put (some 26) (.int .u32 ii)).put (some 27) (.agg #[.int .u32 se, .int .u32 ii])).put (some 6) (.pointer (some ⟨x.1, 0, none⟩))).put (some 7) (.pointer (some ⟨x.2, 0, none⟩)))) (fun x V => Hid (Below W1.heap.size W1 V) ∧ Hid (V.heap[g3]? = some (.cells #[.int .u32 ii, .int .u32 bu, .int .u32 se, .int .i64 tk, .int .i64 pr, .int .u64 qq] 59 (0, 0))) ∧ Hid (V.heap[x.1]? = some (.cells #[.int .u32 bu, .int .u32 ii] 79 (0, 0))) ∧ Hid (V.heap[x.2]? = some (.cells #[.int .u32 se, .int .u32 ii] 79 (0, 0)))) ?_ ?_
 ·obtain ⟨V1, hV1⟩ : ∃ U, w2.drew = U := ⟨_, rfl⟩
  have bV1 := hid (show Below w2.heap.size w2 V1 from by rw [← hV1]; exact bdrew1 _)
  have DV1 := hid (btr B2.out bV1.out)
  have r2 := hid (row_on RD2.out bV1.out)
  refine wp_region_held_drew (S := (fun U => U.cell? ⟨g3, 0, none⟩ = some (.int .u32 ii) ∧ U.cell? ⟨g3, 1, none⟩ = some (.int .u32 bu) ∧ U.cell? ⟨g3, 2, none⟩ = some (.int .u32 se) ∧ U.cell? ⟨g3, 3, none⟩ = some (.int .i64 tk) ∧ U.cell? ⟨g3, 4, none⟩ = some (.int .i64 pr) ∧ U.cell? ⟨g3, 5, none⟩ = some (.int .u64 qq))) (by kernel_rfl) ?_ (fun hHeld => ?_)
  ·(try dsimp only); rw [hV1]; exact ⟨row_cell r2.out 0, row_cell r2.out 1, row_cell r2.out 2, row_cell r2.out 3, row_cell r2.out 4, row_cell r2.out 5⟩
  rw [hV1] at hHeld ⊢
  clear hV1
  refine' tkz 0 rfl ?_ ?_
  rotate_left
  ·(intro w hSw; (try dsimp only at hSw); go_simp; try (with_reducible rfl))
  try simp only [lgA, lgB, lgC, Act.put, lsA, lsB, lsC]
  refine' tkz 1 rfl ?_ ?_
  rotate_left
  ·(intro w hSw; (try dsimp only at hSw); go_simp; try (with_reducible rfl))
  try simp only [lgA, lgB, lgC, Act.put, lsA, lsB, lsC]
  refine' tkz 2 rfl ?_ ?_
  rotate_left
  ·(intro w hSw; (try dsimp only at hSw); go_simp; try (with_reducible rfl))
  try simp only [lgA, lgB, lgC, Act.put, lsA, lsB, lsC]
  refine' tkz 3 rfl ?_ ?_
  rotate_left
  ·(intro w hSw; (try dsimp only at hSw); go_simp; try (with_reducible rfl))
  try simp only [lgA, lgB, lgC, Act.put, lsA, lsB, lsC]
  refine' tkz 4 rfl ?_ ?_
  rotate_left
  ·(intro w hSw; (try dsimp only at hSw); go_simp; try (with_reducible rfl))
  try simp only [lgA, lgB, lgC, Act.put, lsA, lsB, lsC]
  refine' tkz 5 rfl ?_ ?_
  rotate_left
  ·(intro w hSw; (try dsimp only at hSw); go_simp; try (with_reducible rfl))
  try simp only [lgA, lgB, lgC, Act.put, lsA, lsB, lsC]
  refine' tkz 6 rfl ?_ ?_
  rotate_left
  ·(intro w hSw; (try dsimp only at hSw); go_simp; try (with_reducible rfl))
  try simp only [lgA, lgB, lgC, Act.put, lsA, lsB, lsC]
  refine' tkz 7 rfl ?_ ?_
  rotate_left
  ·(intro w hSw; (try dsimp only at hSw); go_simp; try (with_reducible rfl))
  try simp only [lgA, lgB, lgC, Act.put, lsA, lsB, lsC]
  refine' tkz 8 rfl ?_ ?_
  rotate_left
  ·(intro w hSw; (try dsimp only at hSw); go_simp; try (with_reducible rfl))
  try simp only [lgA, lgB, lgC, Act.put, lsA, lsB, lsC]
  refine' tkz 9 rfl ?_ ?_
  rotate_left
  ·(intro w hSw; (try dsimp only at hSw); go_simp; try (with_reducible rfl))
  try simp only [lgA, lgB, lgC, Act.put, lsA, lsB, lsC]
  refine wpAnyH_ready (rs := [10, 11]) (by kernel_rfl) (by simp) ?_
  refine (AllReadyH.cons rfl (fun K hK => ?_) (AllReadyH.cons rfl (fun K hK => ?_) AllReadyH.nil))
  ·go_simp
   obtain ⟨X3, hX3⟩ : ∃ X, V1.alloc (.cells #[.int .u32 0, .int .u32 0] 79) = X := ⟨_, rfl⟩
   have bX3 := hid (show Below V1.heap.size V1 X3 from by rw [← hX3]; exact ball _ _)
   have zX3 : X3.heap[V1.heap.size]? = some (.cells #[.int .u32 0, .int .u32 0] 79 (0, 0)) := by rw [← hX3]; exact World.alloc_heap_new _ _
   have DX3 := hid (btr DV1.out bX3.out)
   have r5 := hid (row_on r2.out bX3.out)
   obtain ⟨g4, hg4⟩ : ∃ g, V1.heap.size = g := ⟨_, rfl⟩
   have ne6 := hid (show g3 ≠ g4 from by have := row_lt r2.out; omega)
   have yg4 := hid (Nat.le_trans DV1.out.size (Nat.le_refl _))
   rw [hg4] at zX3 yg4
   have ZX3 := hid zX3
   rw [hX3, hg4]
   clear hX3 hg4 zX3
   refine hK.out _ _ ?_ (fun hHeld => ?_)
   ·(try dsimp only); exact ⟨row_cell r5.out 0, row_cell r5.out 1, row_cell r5.out 2, row_cell r5.out 3, row_cell r5.out 4, row_cell r5.out 5⟩
   clear hK K
   try simp only [lgA, lgB, lgC, Act.put, lsA, lsB, lsC]
   refine wpAnyH_ready (rs := [11]) (by kernel_rfl) (by simp) ?_
   refine (AllReadyH.cons rfl (fun K hK => ?_) AllReadyH.nil)
   go_simp
   obtain ⟨X7, hX7⟩ : ∃ X, X3.alloc (.cells #[.int .u32 0, .int .u32 0] 79) = X := ⟨_, rfl⟩
   have bX7 := hid (show Below X3.heap.size X3 X7 from by rw [← hX7]; exact ball _ _)
   have zX7 : X7.heap[X3.heap.size]? = some (.cells #[.int .u32 0, .int .u32 0] 79 (0, 0)) := by rw [← hX7]; exact World.alloc_heap_new _ _
   have DX7 := hid (btr DX3.out bX7.out)
   have r9 := hid (row_on r5.out bX7.out)
   have r10 := hid (row_on ZX3.out bX7.out)
   obtain ⟨g8, hg8⟩ : ∃ g, X3.heap.size = g := ⟨_, rfl⟩
   have ne11 := hid (show g3 ≠ g8 from by have := row_lt r5.out; omega)
   have ne12 := hid (show g4 ≠ g8 from by have := row_lt ZX3.out; omega)
   have yg8 := hid (Nat.le_trans DX3.out.size (Nat.le_refl _))
   rw [hg8] at zX7 yg8
   have ZX7 := hid zX7
   rw [hX7, hg8]
   clear hX7 hg8 zX7
   refine hK.out _ _ ?_ (fun hHeld => ?_)
   ·(try dsimp only); exact ⟨row_cell r9.out 0, row_cell r9.out 1, row_cell r9.out 2, row_cell r9.out 3, row_cell r9.out 4, row_cell r9.out 5⟩
   clear hK K
   try simp only [lgA, lgB, lgC, Act.put, lsA, lsB, lsC]
   refine wpAnyH_ready (rs := [12]) (by kernel_rfl) (by simp) ?_
   refine (AllReadyH.cons rfl (fun K hK => ?_) AllReadyH.nil)
   refine step_store_row (by rfl) 79 (.tmp 6) (.tmp 22) (by rfl) g4 #[.int .u32 bu, .int .u32 ii] (by rfl) (by rfl) 79 _ r10.out infoH2 (by rfl) (by simp [Value.oneCell']) ?_
   have AY13 := hid (setRow_heap X7 g4 _ #[.int .u32 bu, .int .u32 ii] 79 (0, 0) r10.out)
   have kY13 := hid (setRow_kp X7 g4 #[.int .u32 bu, .int .u32 ii])
   have r14 := hid (kY13.out.row r9.out (fun e => ne6.out e))
   have r15 := hid (kY13.out.row ZX7.out (fun e => ne12.out.symm e))
   have DY13 := hid (show Below _ _ _ from DX7.out.trans (kY13.out.below DX7.out.size (fun g hg e => by have := yg4.out; omega)))
   obtain ⟨Y13, hY13⟩ : ∃ Y, X7.setRow g4 #[.int .u32 bu, .int .u32 ii] = Y := ⟨_, rfl⟩
   rw [hY13] at AY13 kY13 DY13 r14 r15 ⊢
   clear hY13
   refine hK.out _ _ ?_ (fun hHeld => ?_)
   ·(try dsimp only); exact ⟨row_cell r14.out 0, row_cell r14.out 1, row_cell r14.out 2, row_cell r14.out 3, row_cell r14.out 4, row_cell r14.out 5⟩
   clear hK K
   try simp only [lgA, lgB, lgC, Act.put, lsA, lsB, lsC]
   refine wpAnyH_ready (rs := [13]) (by kernel_rfl) (by simp) ?_
   refine (AllReadyH.cons rfl (fun K hK => ?_) AllReadyH.nil)
   refine step_store_row (by rfl) 79 (.tmp 7) (.tmp 27) (by rfl) g8 #[.int .u32 se, .int .u32 ii] (by rfl) (by rfl) 79 _ r15.out infoH2 (by rfl) (by simp [Value.oneCell']) ?_
   have AY16 := hid (setRow_heap Y13 g8 _ #[.int .u32 se, .int .u32 ii] 79 (0, 0) r15.out)
   have kY16 := hid (setRow_kp Y13 g8 #[.int .u32 se, .int .u32 ii])
   have r17 := hid (kY16.out.row r14.out (fun e => ne11.out e))
   have r18 := hid (kY16.out.row AY13.out (fun e => ne12.out e))
   have DY16 := hid (show Below _ _ _ from DY13.out.trans (kY16.out.below DY13.out.size (fun g hg e => by have := yg8.out; omega)))
   obtain ⟨Y16, hY16⟩ : ∃ Y, Y13.setRow g8 #[.int .u32 se, .int .u32 ii] = Y := ⟨_, rfl⟩
   rw [hY16] at AY16 kY16 DY16 r17 r18 ⊢
   clear hY16
   refine hK.out _ _ ?_ (fun hHeld => ?_)
   ·(try dsimp only); exact ⟨row_cell r17.out 0, row_cell r17.out 1, row_cell r17.out 2, row_cell r17.out 3, row_cell r17.out 4, row_cell r17.out 5⟩
   clear hK K
   try simp only [lgA, lgB, lgC, Act.put, lsA, lsB, lsC]
   refine wpAnyH_done (by kernel_rfl) ?_ _
   exact ⟨(g4, g8), by kernel_rfl, DY16, r17, r18, AY16⟩
  ·go_simp
   obtain ⟨X19, hX19⟩ : ∃ X, V1.alloc (.cells #[.int .u32 0, .int .u32 0] 79) = X := ⟨_, rfl⟩
   have bX19 := hid (show Below V1.heap.size V1 X19 from by rw [← hX19]; exact ball _ _)
   have zX19 : X19.heap[V1.heap.size]? = some (.cells #[.int .u32 0, .int .u32 0] 79 (0, 0)) := by rw [← hX19]; exact World.alloc_heap_new _ _
   have DX19 := hid (btr DV1.out bX19.out)
   have r21 := hid (row_on r2.out bX19.out)
   obtain ⟨g20, hg20⟩ : ∃ g, V1.heap.size = g := ⟨_, rfl⟩
   have ne22 := hid (show g3 ≠ g20 from by have := row_lt r2.out; omega)
   have yg20 := hid (Nat.le_trans DV1.out.size (Nat.le_refl _))
   rw [hg20] at zX19 yg20
   have ZX19 := hid zX19
   rw [hX19, hg20]
   clear hX19 hg20 zX19
   refine hK.out _ _ ?_ (fun hHeld => ?_)
   ·(try dsimp only); exact ⟨row_cell r21.out 0, row_cell r21.out 1, row_cell r21.out 2, row_cell r21.out 3, row_cell r21.out 4, row_cell r21.out 5⟩
   clear hK K
   try simp only [lgA, lgB, lgC, Act.put, lsA, lsB, lsC]
   refine wpAnyH_ready (rs := [10]) (by kernel_rfl) (by simp) ?_
   refine (AllReadyH.cons rfl (fun K hK => ?_) AllReadyH.nil)
   go_simp
   obtain ⟨X23, hX23⟩ : ∃ X, X19.alloc (.cells #[.int .u32 0, .int .u32 0] 79) = X := ⟨_, rfl⟩
   have bX23 := hid (show Below X19.heap.size X19 X23 from by rw [← hX23]; exact ball _ _)
   have zX23 : X23.heap[X19.heap.size]? = some (.cells #[.int .u32 0, .int .u32 0] 79 (0, 0)) := by rw [← hX23]; exact World.alloc_heap_new _ _
   have DX23 := hid (btr DX19.out bX23.out)
   have r25 := hid (row_on r21.out bX23.out)
   have r26 := hid (row_on ZX19.out bX23.out)
   obtain ⟨g24, hg24⟩ : ∃ g, X19.heap.size = g := ⟨_, rfl⟩
   have ne27 := hid (show g3 ≠ g24 from by have := row_lt r21.out; omega)
   have ne28 := hid (show g20 ≠ g24 from by have := row_lt ZX19.out; omega)
   have yg24 := hid (Nat.le_trans DX19.out.size (Nat.le_refl _))
   rw [hg24] at zX23 yg24
   have ZX23 := hid zX23
   rw [hX23, hg24]
   clear hX23 hg24 zX23
   refine hK.out _ _ ?_ (fun hHeld => ?_)
   ·(try dsimp only); exact ⟨row_cell r25.out 0, row_cell r25.out 1, row_cell r25.out 2, row_cell r25.out 3, row_cell r25.out 4, row_cell r25.out 5⟩
   clear hK K
   try simp only [lgA, lgB, lgC, Act.put, lsA, lsB, lsC]
   refine wpAnyH_ready (rs := [12]) (by kernel_rfl) (by simp) ?_
   refine (AllReadyH.cons rfl (fun K hK => ?_) AllReadyH.nil)
   refine step_store_row (by rfl) 79 (.tmp 6) (.tmp 22) (by rfl) g24 #[.int .u32 bu, .int .u32 ii] (by rfl) (by rfl) 79 _ ZX23.out infoH2 (by rfl) (by simp [Value.oneCell']) ?_
   have AY29 := hid (setRow_heap X23 g24 _ #[.int .u32 bu, .int .u32 ii] 79 (0, 0) ZX23.out)
   have kY29 := hid (setRow_kp X23 g24 #[.int .u32 bu, .int .u32 ii])
   have r30 := hid (kY29.out.row r25.out (fun e => ne27.out e))
   have r31 := hid (kY29.out.row r26.out (fun e => ne28.out e))
   have DY29 := hid (show Below _ _ _ from DX23.out.trans (kY29.out.below DX23.out.size (fun g hg e => by have := yg24.out; omega)))
   obtain ⟨Y29, hY29⟩ : ∃ Y, X23.setRow g24 #[.int .u32 bu, .int .u32 ii] = Y := ⟨_, rfl⟩
   rw [hY29] at AY29 kY29 DY29 r30 r31 ⊢
   clear hY29
   refine hK.out _ _ ?_ (fun hHeld => ?_)
   ·(try dsimp only); exact ⟨row_cell r30.out 0, row_cell r30.out 1, row_cell r30.out 2, row_cell r30.out 3, row_cell r30.out 4, row_cell r30.out 5⟩
   clear hK K
   try simp only [lgA, lgB, lgC, Act.put, lsA, lsB, lsC]
   refine wpAnyH_ready (rs := [13]) (by kernel_rfl) (by simp) ?_
   refine (AllReadyH.cons rfl (fun K hK => ?_) AllReadyH.nil)
   refine step_store_row (by rfl) 79 (.tmp 7) (.tmp 27) (by rfl) g20 #[.int .u32 se, .int .u32 ii] (by rfl) (by rfl) 79 _ r31.out infoH2 (by rfl) (by simp [Value.oneCell']) ?_
   have AY32 := hid (setRow_heap Y29 g20 _ #[.int .u32 se, .int .u32 ii] 79 (0, 0) r31.out)
   have kY32 := hid (setRow_kp Y29 g20 #[.int .u32 se, .int .u32 ii])
   have r33 := hid (kY32.out.row r30.out (fun e => ne22.out e))
   have r34 := hid (kY32.out.row AY29.out (fun e => ne28.out.symm e))
   have DY32 := hid (show Below _ _ _ from DY29.out.trans (kY32.out.below DY29.out.size (fun g hg e => by have := yg20.out; omega)))
   obtain ⟨Y32, hY32⟩ : ∃ Y, Y29.setRow g20 #[.int .u32 se, .int .u32 ii] = Y := ⟨_, rfl⟩
   rw [hY32] at AY32 kY32 DY32 r33 r34 ⊢
   clear hY32
   refine hK.out _ _ ?_ (fun hHeld => ?_)
   ·(try dsimp only); exact ⟨row_cell r33.out 0, row_cell r33.out 1, row_cell r33.out 2, row_cell r33.out 3, row_cell r33.out 4, row_cell r33.out 5⟩
   clear hK K
   try simp only [lgA, lgB, lgC, Act.put, lsA, lsB, lsC]
   refine wpAnyH_done (by kernel_rfl) ?_ _
   exact ⟨(g24, g20), by kernel_rfl, DY32, r33, r34, AY32⟩
 rintro ⟨ga, gb⟩ V4 ⟨B4, RD4, RA4, RB4⟩
 go_upto_region 5 with fail
 refine reg_cut (X := Nat) (fun a x => (((((((a.put (some 28) (.pointer (some ⟨g3, 5, none⟩))).put (some 29) (.int .u64 qq)).put (some 30) (.int .i64 qq)).put (some 31) (.agg #[.int .u32 ii, .int .u32 bu, .int .u32 se, .int .i64 tk, .int .i64 pr, .int .u64 qq])).put (some 32) (.agg #[.int .u64 (hiW v), .int .u64 (loW v)])).put (some 33) (.agg #[.int .i64 qq, .int .u64 (hiW v), .int .u64 (loW v)])).put (some 8) (.pointer (some ⟨x, 0, none⟩)))) (fun x V => Hid (Below W1.heap.size W1 V) ∧ Hid (V.heap[ga]? = some (.cells #[.int .u32 bu, .int .u32 ii] 79 (0, 0))) ∧ Hid (V.heap[gb]? = some (.cells #[.int .u32 se, .int .u32 ii] 79 (0, 0))) ∧ Hid (V.heap[x]? = some (.cells #[.int .i64 qq, .int .u64 (hiW v), .int .u64 (loW v)] 109 (0, 0)))) ?_ ?_
 ·obtain ⟨V35, hV35⟩ : ∃ U, V4.drew = U := ⟨_, rfl⟩
  have bV35 := hid (show Below V4.heap.size V4 V35 from by rw [← hV35]; exact bdrew1 _)
  have DV35 := hid (btr B4.out bV35.out)
  have r36 := hid (row_on RD4.out bV35.out)
  have r37 := hid (row_on RA4.out bV35.out)
  have r38 := hid (row_on RB4.out bV35.out)
  refine wp_region_held_drew (S := (fun U => U.cell? ⟨g3, 0, none⟩ = some (.int .u32 ii) ∧ U.cell? ⟨g3, 1, none⟩ = some (.int .u32 bu) ∧ U.cell? ⟨g3, 2, none⟩ = some (.int .u32 se) ∧ U.cell? ⟨g3, 3, none⟩ = some (.int .i64 tk) ∧ U.cell? ⟨g3, 4, none⟩ = some (.int .i64 pr) ∧ U.cell? ⟨g3, 5, none⟩ = some (.int .u64 qq))) (by kernel_rfl) ?_ (fun hHeld => ?_)
  ·(try dsimp only); rw [hV35]; exact ⟨row_cell r36.out 0, row_cell r36.out 1, row_cell r36.out 2, row_cell r36.out 3, row_cell r36.out 4, row_cell r36.out 5⟩
  rw [hV35] at hHeld ⊢
  clear hV35
  refine' tkz 0 rfl ?_ ?_
  rotate_left
  ·(intro w hSw; (try dsimp only at hSw); go_simp; try (with_reducible rfl))
  try simp only [lgA, lgB, lgC, Act.put, lsA, lsB, lsC]
  refine' tkz 1 rfl ?_ ?_
  rotate_left
  ·(intro w hSw; (try dsimp only at hSw); go_simp; try (with_reducible rfl))
  try simp only [lgA, lgB, lgC, Act.put, lsA, lsB, lsC]
  refine' tkz 2 rfl ?_ ?_
  rotate_left
  ·(intro w hSw; (try dsimp only at hSw); go_simp; try (with_reducible rfl))
  try simp only [lgA, lgB, lgC, Act.put, lsA, lsB, lsC]
  refine' tkz 3 rfl ?_ ?_
  rotate_left
  ·(intro w hSw; (try dsimp only at hSw); go_simp; try (with_reducible rfl))
  try simp only [lgA, lgB, lgC, Act.put, lsA, lsB, lsC]
  refine wpAnyH_ready (rs := [4, 6]) (by kernel_rfl) (by simp) ?_
  refine (AllReadyH.cons rfl (fun K hK => ?_) (AllReadyH.cons rfl (fun K hK => ?_) AllReadyH.nil))
  ·go_simp
   go_at_call 35
   with_reducible refine (CV.out V35).mono ?_
   rintro e X39 ⟨rfl, cX39⟩
   have bX39 := hid cX39
   clear cX39
   have DX39 := hid (btr DV35.out bX39.out)
   have r40 := hid (row_on r36.out bX39.out)
   have r41 := hid (row_on r37.out bX39.out)
   have r42 := hid (row_on r38.out bX39.out)
   (try go_wp2_with fail)
   refine hK.out _ _ ?_ (fun hHeld => ?_)
   ·(try dsimp only); exact ⟨row_cell r40.out 0, row_cell r40.out 1, row_cell r40.out 2, row_cell r40.out 3, row_cell r40.out 4, row_cell r40.out 5⟩
   clear hK K
   try simp only [lgA, lgB, lgC, Act.put, lsA, lsB, lsC]
   refine' tkz 5 rfl ?_ ?_
   rotate_left
   ·(intro w hSw; (try dsimp only at hSw); go_simp; try (with_reducible rfl))
   try simp only [lgA, lgB, lgC, Act.put, lsA, lsB, lsC]
   refine wpAnyH_ready (rs := [6]) (by kernel_rfl) (by simp) ?_
   refine (AllReadyH.cons rfl (fun K hK => ?_) AllReadyH.nil)
   go_simp
   obtain ⟨X43, hX43⟩ : ∃ X, X39.alloc (.cells #[.int .i64 0, .int .u64 0, .int .u64 0] 109) = X := ⟨_, rfl⟩
   have bX43 := hid (show Below X39.heap.size X39 X43 from by rw [← hX43]; exact ball _ _)
   have zX43 : X43.heap[X39.heap.size]? = some (.cells #[.int .i64 0, .int .u64 0, .int .u64 0] 109 (0, 0)) := by rw [← hX43]; exact World.alloc_heap_new _ _
   have DX43 := hid (btr DX39.out bX43.out)
   have r45 := hid (row_on r40.out bX43.out)
   have r46 := hid (row_on r41.out bX43.out)
   have r47 := hid (row_on r42.out bX43.out)
   obtain ⟨g44, hg44⟩ : ∃ g, X39.heap.size = g := ⟨_, rfl⟩
   have ne48 := hid (show g3 ≠ g44 from by have := row_lt r40.out; omega)
   have ne49 := hid (show ga ≠ g44 from by have := row_lt r41.out; omega)
   have ne50 := hid (show gb ≠ g44 from by have := row_lt r42.out; omega)
   have yg44 := hid (Nat.le_trans DX39.out.size (Nat.le_refl _))
   rw [hg44] at zX43 yg44
   have ZX43 := hid zX43
   rw [hX43, hg44]
   clear hX43 hg44 zX43
   refine hK.out _ _ ?_ (fun hHeld => ?_)
   ·(try dsimp only); exact ⟨row_cell r45.out 0, row_cell r45.out 1, row_cell r45.out 2, row_cell r45.out 3, row_cell r45.out 4, row_cell r45.out 5⟩
   clear hK K
   try simp only [lgA, lgB, lgC, Act.put, lsA, lsB, lsC]
   refine wpAnyH_ready (rs := [7]) (by kernel_rfl) (by simp) ?_
   refine (AllReadyH.cons rfl (fun K hK => ?_) AllReadyH.nil)
   refine step_store_row (by rfl) 109 (.tmp 8) (.tmp 33) (by rfl) g44 #[.int .i64 qq, .int .u64 (hiW v), .int .u64 (loW v)] (by rfl) (by rfl) 109 _ ZX43.out infoP3 (by rfl) (by simp [Value.oneCell']) ?_
   have AY51 := hid (setRow_heap X43 g44 _ #[.int .i64 qq, .int .u64 (hiW v), .int .u64 (loW v)] 109 (0, 0) ZX43.out)
   have kY51 := hid (setRow_kp X43 g44 #[.int .i64 qq, .int .u64 (hiW v), .int .u64 (loW v)])
   have r52 := hid (kY51.out.row r45.out (fun e => ne48.out e))
   have r53 := hid (kY51.out.row r46.out (fun e => ne49.out e))
   have r54 := hid (kY51.out.row r47.out (fun e => ne50.out e))
   have DY51 := hid (show Below _ _ _ from DX43.out.trans (kY51.out.below DX43.out.size (fun g hg e => by have := yg44.out; omega)))
   obtain ⟨Y51, hY51⟩ : ∃ Y, X43.setRow g44 #[.int .i64 qq, .int .u64 (hiW v), .int .u64 (loW v)] = Y := ⟨_, rfl⟩
   rw [hY51] at AY51 kY51 DY51 r52 r53 r54 ⊢
   clear hY51
   refine hK.out _ _ ?_ (fun hHeld => ?_)
   ·(try dsimp only); exact ⟨row_cell r52.out 0, row_cell r52.out 1, row_cell r52.out 2, row_cell r52.out 3, row_cell r52.out 4, row_cell r52.out 5⟩
   clear hK K
   try simp only [lgA, lgB, lgC, Act.put, lsA, lsB, lsC]
   refine wpAnyH_done (by kernel_rfl) ?_ _
   exact ⟨g44, by kernel_rfl, DY51, r53, r54, AY51⟩
  ·go_simp
   obtain ⟨X55, hX55⟩ : ∃ X, V35.alloc (.cells #[.int .i64 0, .int .u64 0, .int .u64 0] 109) = X := ⟨_, rfl⟩
   have bX55 := hid (show Below V35.heap.size V35 X55 from by rw [← hX55]; exact ball _ _)
   have zX55 : X55.heap[V35.heap.size]? = some (.cells #[.int .i64 0, .int .u64 0, .int .u64 0] 109 (0, 0)) := by rw [← hX55]; exact World.alloc_heap_new _ _
   have DX55 := hid (btr DV35.out bX55.out)
   have r57 := hid (row_on r36.out bX55.out)
   have r58 := hid (row_on r37.out bX55.out)
   have r59 := hid (row_on r38.out bX55.out)
   obtain ⟨g56, hg56⟩ : ∃ g, V35.heap.size = g := ⟨_, rfl⟩
   have ne60 := hid (show g3 ≠ g56 from by have := row_lt r36.out; omega)
   have ne61 := hid (show ga ≠ g56 from by have := row_lt r37.out; omega)
   have ne62 := hid (show gb ≠ g56 from by have := row_lt r38.out; omega)
   have yg56 := hid (Nat.le_trans DV35.out.size (Nat.le_refl _))
   rw [hg56] at zX55 yg56
   have ZX55 := hid zX55
   rw [hX55, hg56]
   clear hX55 hg56 zX55
   refine hK.out _ _ ?_ (fun hHeld => ?_)
   ·(try dsimp only); exact ⟨row_cell r57.out 0, row_cell r57.out 1, row_cell r57.out 2, row_cell r57.out 3, row_cell r57.out 4, row_cell r57.out 5⟩
   clear hK K
   try simp only [lgA, lgB, lgC, Act.put, lsA, lsB, lsC]
   refine wpAnyH_ready (rs := [4]) (by kernel_rfl) (by simp) ?_
   refine (AllReadyH.cons rfl (fun K hK => ?_) AllReadyH.nil)
   go_simp
   go_at_call 35
   with_reducible refine (CV.out X55).mono ?_
   rintro e X63 ⟨rfl, cX63⟩
   have bX63 := hid cX63
   clear cX63
   have DX63 := hid (btr DX55.out bX63.out)
   have r64 := hid (row_on r57.out bX63.out)
   have r65 := hid (row_on r58.out bX63.out)
   have r66 := hid (row_on r59.out bX63.out)
   have r67 := hid (row_on ZX55.out bX63.out)
   (try go_wp2_with fail)
   refine hK.out _ _ ?_ (fun hHeld => ?_)
   ·(try dsimp only); exact ⟨row_cell r64.out 0, row_cell r64.out 1, row_cell r64.out 2, row_cell r64.out 3, row_cell r64.out 4, row_cell r64.out 5⟩
   clear hK K
   try simp only [lgA, lgB, lgC, Act.put, lsA, lsB, lsC]
   refine' tkz 5 rfl ?_ ?_
   rotate_left
   ·(intro w hSw; (try dsimp only at hSw); go_simp; try (with_reducible rfl))
   try simp only [lgA, lgB, lgC, Act.put, lsA, lsB, lsC]
   refine wpAnyH_ready (rs := [7]) (by kernel_rfl) (by simp) ?_
   refine (AllReadyH.cons rfl (fun K hK => ?_) AllReadyH.nil)
   refine step_store_row (by rfl) 109 (.tmp 8) (.tmp 33) (by rfl) g56 #[.int .i64 qq, .int .u64 (hiW v), .int .u64 (loW v)] (by rfl) (by rfl) 109 _ r67.out infoP3 (by rfl) (by simp [Value.oneCell']) ?_
   have AY68 := hid (setRow_heap X63 g56 _ #[.int .i64 qq, .int .u64 (hiW v), .int .u64 (loW v)] 109 (0, 0) r67.out)
   have kY68 := hid (setRow_kp X63 g56 #[.int .i64 qq, .int .u64 (hiW v), .int .u64 (loW v)])
   have r69 := hid (kY68.out.row r64.out (fun e => ne60.out e))
   have r70 := hid (kY68.out.row r65.out (fun e => ne61.out e))
   have r71 := hid (kY68.out.row r66.out (fun e => ne62.out e))
   have DY68 := hid (show Below _ _ _ from DX63.out.trans (kY68.out.below DX63.out.size (fun g hg e => by have := yg56.out; omega)))
   obtain ⟨Y68, hY68⟩ : ∃ Y, X63.setRow g56 #[.int .i64 qq, .int .u64 (hiW v), .int .u64 (loW v)] = Y := ⟨_, rfl⟩
   rw [hY68] at AY68 kY68 DY68 r69 r70 r71 ⊢
   clear hY68
   refine hK.out _ _ ?_ (fun hHeld => ?_)
   ·(try dsimp only); exact ⟨row_cell r69.out 0, row_cell r69.out 1, row_cell r69.out 2, row_cell r69.out 3, row_cell r69.out 4, row_cell r69.out 5⟩
   clear hK K
   try simp only [lgA, lgB, lgC, Act.put, lsA, lsB, lsC]
   refine wpAnyH_done (by kernel_rfl) ?_ _
   exact ⟨g56, by kernel_rfl, DY68, r70, r71, AY68⟩
 rintro gs V5 ⟨B5, RA5, RB5, RS5⟩
 have RH5 := hid (HRW.out V5 B5.out)
 go_upto_region 6 with fail
 refine reg_cut (X := Nat) (fun a x => (((((((((a.put (some 34) (pb H)).put (some 35) (pb H)).put (some 36) (.pointer (some ⟨H, 2, none⟩))).put (some 37) (.map none)).put (some 38) (.agg #[.int .u32 bu, .int .u32 ii])).put (some 39) (.agg #[.int .i64 0, .int .u64 0, .int .u64 0])).put (some 40) (.agg #[.int .i64 qq, .int .u64 (hiW v), .int .u64 (loW v)])).put (some 41) (.agg #[.int .i64 qq, .int .u64 (hiW v), .int .u64 (loW v)])).put (some 9) (.pointer (some ⟨x, 0, none⟩)))) (fun x V => Hid (Below W1.heap.size W1 V) ∧ Hid (V.heap[ga]? = some (.cells #[.int .u32 bu, .int .u32 ii] 79 (0, 0))) ∧ Hid (V.heap[gb]? = some (.cells #[.int .u32 se, .int .u32 ii] 79 (0, 0))) ∧ Hid (V.heap[gs]? = some (.cells #[.int .i64 qq, .int .u64 (hiW v), .int .u64 (loW v)] 109 (0, 0))) ∧ Hid (V.heap[x]? = some (.cells #[.int .i64 qq, .int .u64 (hiW v), .int .u64 (loW v)] 109 (0, 0)))) ?_ ?_
 ·obtain ⟨V72, hV72⟩ : ∃ U, V5.drew = U := ⟨_, rfl⟩
  have bV72 := hid (show Below V5.heap.size V5 V72 from by rw [← hV72]; exact bdrew1 _)
  have DV72 := hid (btr B5.out bV72.out)
  have r73 := hid (row_on RA5.out bV72.out)
  have r74 := hid (row_on RB5.out bV72.out)
  have r75 := hid (row_on RS5.out bV72.out)
  have r76 := hid (row_on RH5.out bV72.out)
  refine wp_region_held_drew (S := (fun U => U.cell? ⟨H, 2, none⟩ = some (.map none) ∧ U.cell? ⟨ga, 0, none⟩ = some (.int .u32 bu) ∧ U.cell? ⟨ga, 1, none⟩ = some (.int .u32 ii) ∧ U.cell? ⟨gs, 0, none⟩ = some (.int .i64 qq) ∧ U.cell? ⟨gs, 1, none⟩ = some (.int .u64 (hiW v)) ∧ U.cell? ⟨gs, 2, none⟩ = some (.int .u64 (loW v)))) (by kernel_rfl) ?_ (fun hHeld => ?_)
  ·(try dsimp only); rw [hV72]; exact ⟨row_cell r76.out 2, row_cell r73.out 0, row_cell r73.out 1, row_cell r75.out 0, row_cell r75.out 1, row_cell r75.out 2⟩
  rw [hV72] at hHeld ⊢
  clear hV72
  refine' tkz 0 rfl ?_ ?_
  rotate_left
  ·(intro w hSw; (try dsimp only at hSw); go_simp; try (with_reducible rfl))
  try simp only [lgA, lgB, lgC, Act.put, lsA, lsB, lsC]
  refine' tkz 1 rfl ?_ ?_
  rotate_left
  ·(intro w hSw; (try dsimp only at hSw); go_simp; try (with_reducible rfl))
  try simp only [lgA, lgB, lgC, Act.put, lsA, lsB, lsC]
  refine' tkz 2 rfl ?_ ?_
  rotate_left
  ·(intro w hSw; (try dsimp only at hSw); go_simp; try (with_reducible rfl))
  try simp only [lgA, lgB, lgC, Act.put, lsA, lsB, lsC]
  refine' tkz 3 rfl ?_ ?_
  rotate_left
  ·(intro w hSw; (try dsimp only at hSw); go_simp; try (with_reducible rfl))
  try simp only [lgA, lgB, lgC, Act.put, lsA, lsB, lsC]
  refine' tkz 4 rfl ?_ ?_
  rotate_left
  ·(intro w hSw; (try dsimp only at hSw); go_simp; try (with_reducible rfl))
  try simp only [lgA, lgB, lgC, Act.put, lsA, lsB, lsC]
  refine' tkz 5 rfl ?_ ?_
  rotate_left
  ·(intro w hSw; (try dsimp only at hSw); go_simp; try (with_reducible rfl))
  try simp only [lgA, lgB, lgC, Act.put, lsA, lsB, lsC]
  refine' tkz 6 rfl ?_ ?_
  rotate_left
  ·(intro w hSw; (try dsimp only at hSw); go_simp; try (with_reducible rfl))
  try simp only [lgA, lgB, lgC, Act.put, lsA, lsB, lsC]
  refine wpAnyH_ready (rs := [7, 8]) (by kernel_rfl) (by simp) ?_
  refine (AllReadyH.cons rfl (fun K hK => ?_) (AllReadyH.cons rfl (fun K hK => ?_) AllReadyH.nil))
  ·go_simp
   go_at_call 36
   with_reducible refine (CA1.out V72).mono ?_
   rintro e X77 ⟨rfl, cX77⟩
   have bX77 := hid cX77
   clear cX77
   have DX77 := hid (btr DV72.out bX77.out)
   have r78 := hid (row_on r73.out bX77.out)
   have r79 := hid (row_on r74.out bX77.out)
   have r80 := hid (row_on r75.out bX77.out)
   have r81 := hid (row_on r76.out bX77.out)
   (try go_wp2_with fail)
   refine hK.out _ _ ?_ (fun hHeld => ?_)
   ·(try dsimp only); exact ⟨row_cell r81.out 2, row_cell r78.out 0, row_cell r78.out 1, row_cell r80.out 0, row_cell r80.out 1, row_cell r80.out 2⟩
   clear hK K
   try simp only [lgA, lgB, lgC, Act.put, lsA, lsB, lsC]
   refine wpAnyH_ready (rs := [8]) (by kernel_rfl) (by simp) ?_
   refine (AllReadyH.cons rfl (fun K hK => ?_) AllReadyH.nil)
   go_simp
   obtain ⟨X82, hX82⟩ : ∃ X, X77.alloc (.cells #[.int .i64 0, .int .u64 0, .int .u64 0] 109) = X := ⟨_, rfl⟩
   have bX82 := hid (show Below X77.heap.size X77 X82 from by rw [← hX82]; exact ball _ _)
   have zX82 : X82.heap[X77.heap.size]? = some (.cells #[.int .i64 0, .int .u64 0, .int .u64 0] 109 (0, 0)) := by rw [← hX82]; exact World.alloc_heap_new _ _
   have DX82 := hid (btr DX77.out bX82.out)
   have r84 := hid (row_on r78.out bX82.out)
   have r85 := hid (row_on r79.out bX82.out)
   have r86 := hid (row_on r80.out bX82.out)
   have r87 := hid (row_on r81.out bX82.out)
   obtain ⟨g83, hg83⟩ : ∃ g, X77.heap.size = g := ⟨_, rfl⟩
   have ne88 := hid (show ga ≠ g83 from by have := row_lt r78.out; omega)
   have ne89 := hid (show gb ≠ g83 from by have := row_lt r79.out; omega)
   have ne90 := hid (show gs ≠ g83 from by have := row_lt r80.out; omega)
   have ne91 := hid (show H ≠ g83 from by have := row_lt r81.out; omega)
   have yg83 := hid (Nat.le_trans DX77.out.size (Nat.le_refl _))
   rw [hg83] at zX82 yg83
   have ZX82 := hid zX82
   rw [hX82, hg83]
   clear hX82 hg83 zX82
   refine hK.out _ _ ?_ (fun hHeld => ?_)
   ·(try dsimp only); exact ⟨row_cell r87.out 2, row_cell r84.out 0, row_cell r84.out 1, row_cell r86.out 0, row_cell r86.out 1, row_cell r86.out 2⟩
   clear hK K
   try simp only [lgA, lgB, lgC, Act.put, lsA, lsB, lsC]
   refine wpAnyH_ready (rs := [9]) (by kernel_rfl) (by simp) ?_
   refine (AllReadyH.cons rfl (fun K hK => ?_) AllReadyH.nil)
   refine step_store_row (by rfl) 109 (.tmp 9) (.tmp 41) (by rfl) g83 #[.int .i64 qq, .int .u64 (hiW v), .int .u64 (loW v)] (by rfl) (by rfl) 109 _ ZX82.out infoP3 (by rfl) (by simp [Value.oneCell']) ?_
   have AY92 := hid (setRow_heap X82 g83 _ #[.int .i64 qq, .int .u64 (hiW v), .int .u64 (loW v)] 109 (0, 0) ZX82.out)
   have kY92 := hid (setRow_kp X82 g83 #[.int .i64 qq, .int .u64 (hiW v), .int .u64 (loW v)])
   have r93 := hid (kY92.out.row r84.out (fun e => ne88.out e))
   have r94 := hid (kY92.out.row r85.out (fun e => ne89.out e))
   have r95 := hid (kY92.out.row r86.out (fun e => ne90.out e))
   have r96 := hid (kY92.out.row r87.out (fun e => ne91.out e))
   have DY92 := hid (show Below _ _ _ from DX82.out.trans (kY92.out.below DX82.out.size (fun g hg e => by have := yg83.out; omega)))
   obtain ⟨Y92, hY92⟩ : ∃ Y, X82.setRow g83 #[.int .i64 qq, .int .u64 (hiW v), .int .u64 (loW v)] = Y := ⟨_, rfl⟩
   rw [hY92] at AY92 kY92 DY92 r93 r94 r95 r96 ⊢
   clear hY92
   refine hK.out _ _ ?_ (fun hHeld => ?_)
   ·(try dsimp only); exact ⟨row_cell r96.out 2, row_cell r93.out 0, row_cell r93.out 1, row_cell r95.out 0, row_cell r95.out 1, row_cell r95.out 2⟩
   clear hK K
   try simp only [lgA, lgB, lgC, Act.put, lsA, lsB, lsC]
   refine wpAnyH_done (by kernel_rfl) ?_ _
   exact ⟨g83, by kernel_rfl, DY92, r93, r94, r95, AY92⟩
  ·go_simp
   obtain ⟨X97, hX97⟩ : ∃ X, V72.alloc (.cells #[.int .i64 0, .int .u64 0, .int .u64 0] 109) = X := ⟨_, rfl⟩
   have bX97 := hid (show Below V72.heap.size V72 X97 from by rw [← hX97]; exact ball _ _)
   have zX97 : X97.heap[V72.heap.size]? = some (.cells #[.int .i64 0, .int .u64 0, .int .u64 0] 109 (0, 0)) := by rw [← hX97]; exact World.alloc_heap_new _ _
   have DX97 := hid (btr DV72.out bX97.out)
   have r99 := hid (row_on r73.out bX97.out)
   have r100 := hid (row_on r74.out bX97.out)
   have r101 := hid (row_on r75.out bX97.out)
   have r102 := hid (row_on r76.out bX97.out)
   obtain ⟨g98, hg98⟩ : ∃ g, V72.heap.size = g := ⟨_, rfl⟩
   have ne103 := hid (show ga ≠ g98 from by have := row_lt r73.out; omega)
   have ne104 := hid (show gb ≠ g98 from by have := row_lt r74.out; omega)
   have ne105 := hid (show gs ≠ g98 from by have := row_lt r75.out; omega)
   have ne106 := hid (show H ≠ g98 from by have := row_lt r76.out; omega)
   have yg98 := hid (Nat.le_trans DV72.out.size (Nat.le_refl _))
   rw [hg98] at zX97 yg98
   have ZX97 := hid zX97
   rw [hX97, hg98]
   clear hX97 hg98 zX97
   refine hK.out _ _ ?_ (fun hHeld => ?_)
   ·(try dsimp only); exact ⟨row_cell r102.out 2, row_cell r99.out 0, row_cell r99.out 1, row_cell r101.out 0, row_cell r101.out 1, row_cell r101.out 2⟩
   clear hK K
   try simp only [lgA, lgB, lgC, Act.put, lsA, lsB, lsC]
   refine wpAnyH_ready (rs := [7]) (by kernel_rfl) (by simp) ?_
   refine (AllReadyH.cons rfl (fun K hK => ?_) AllReadyH.nil)
   go_simp
   go_at_call 36
   with_reducible refine (CA1.out X97).mono ?_
   rintro e X107 ⟨rfl, cX107⟩
   have bX107 := hid cX107
   clear cX107
   have DX107 := hid (btr DX97.out bX107.out)
   have r108 := hid (row_on r99.out bX107.out)
   have r109 := hid (row_on r100.out bX107.out)
   have r110 := hid (row_on r101.out bX107.out)
   have r111 := hid (row_on r102.out bX107.out)
   have r112 := hid (row_on ZX97.out bX107.out)
   (try go_wp2_with fail)
   refine hK.out _ _ ?_ (fun hHeld => ?_)
   ·(try dsimp only); exact ⟨row_cell r111.out 2, row_cell r108.out 0, row_cell r108.out 1, row_cell r110.out 0, row_cell r110.out 1, row_cell r110.out 2⟩
   clear hK K
   try simp only [lgA, lgB, lgC, Act.put, lsA, lsB, lsC]
   refine wpAnyH_ready (rs := [9]) (by kernel_rfl) (by simp) ?_
   refine (AllReadyH.cons rfl (fun K hK => ?_) AllReadyH.nil)
   refine step_store_row (by rfl) 109 (.tmp 9) (.tmp 41) (by rfl) g98 #[.int .i64 qq, .int .u64 (hiW v), .int .u64 (loW v)] (by rfl) (by rfl) 109 _ r112.out infoP3 (by rfl) (by simp [Value.oneCell']) ?_
   have AY113 := hid (setRow_heap X107 g98 _ #[.int .i64 qq, .int .u64 (hiW v), .int .u64 (loW v)] 109 (0, 0) r112.out)
   have kY113 := hid (setRow_kp X107 g98 #[.int .i64 qq, .int .u64 (hiW v), .int .u64 (loW v)])
   have r114 := hid (kY113.out.row r108.out (fun e => ne103.out e))
   have r115 := hid (kY113.out.row r109.out (fun e => ne104.out e))
   have r116 := hid (kY113.out.row r110.out (fun e => ne105.out e))
   have r117 := hid (kY113.out.row r111.out (fun e => ne106.out e))
   have DY113 := hid (show Below _ _ _ from DX107.out.trans (kY113.out.below DX107.out.size (fun g hg e => by have := yg98.out; omega)))
   obtain ⟨Y113, hY113⟩ : ∃ Y, X107.setRow g98 #[.int .i64 qq, .int .u64 (hiW v), .int .u64 (loW v)] = Y := ⟨_, rfl⟩
   rw [hY113] at AY113 kY113 DY113 r114 r115 r116 r117 ⊢
   clear hY113
   refine hK.out _ _ ?_ (fun hHeld => ?_)
   ·(try dsimp only); exact ⟨row_cell r117.out 2, row_cell r114.out 0, row_cell r114.out 1, row_cell r116.out 0, row_cell r116.out 1, row_cell r116.out 2⟩
   clear hK K
   try simp only [lgA, lgB, lgC, Act.put, lsA, lsB, lsC]
   refine wpAnyH_done (by kernel_rfl) ?_ _
   exact ⟨g98, by kernel_rfl, DY113, r114, r115, r116, AY113⟩
 rintro go V6 ⟨B6, RA6, RB6, RS6, RO6⟩
 have RH6 := hid (HRW.out V6 B6.out)
 go_upto_region 7 with fail
 refine reg_cut (X := Nat) (fun a x => (((((((a.put (some 42) (pb H)).put (some 43) (pb H)).put (some 44) (.pointer (some ⟨H, 2, none⟩))).put (some 45) (.map none)).put (some 46) (.agg #[.int .u32 se, .int .u32 ii])).put (some 47) (.agg #[.int .i64 0, .int .u64 0, .int .u64 0])).put (some 10) (.pointer (some ⟨x, 0, none⟩)))) (fun x V => Hid (Below W1.heap.size W1 V) ∧ Hid (V.heap[ga]? = some (.cells #[.int .u32 bu, .int .u32 ii] 79 (0, 0))) ∧ Hid (V.heap[gb]? = some (.cells #[.int .u32 se, .int .u32 ii] 79 (0, 0))) ∧ Hid (V.heap[gs]? = some (.cells #[.int .i64 qq, .int .u64 (hiW v), .int .u64 (loW v)] 109 (0, 0))) ∧ Hid (V.heap[go]? = some (.cells #[.int .i64 qq, .int .u64 (hiW v), .int .u64 (loW v)] 109 (0, 0))) ∧ Hid (V.heap[x]? = some (.cells #[.int .i64 0, .int .u64 0, .int .u64 0] 109 (0, 0)))) ?_ ?_
 ·obtain ⟨V118, hV118⟩ : ∃ U, V6.drew = U := ⟨_, rfl⟩
  have bV118 := hid (show Below V6.heap.size V6 V118 from by rw [← hV118]; exact bdrew1 _)
  have DV118 := hid (btr B6.out bV118.out)
  have r119 := hid (row_on RA6.out bV118.out)
  have r120 := hid (row_on RB6.out bV118.out)
  have r121 := hid (row_on RS6.out bV118.out)
  have r122 := hid (row_on RH6.out bV118.out)
  have r123 := hid (row_on RO6.out bV118.out)
  refine wp_region_held_drew (S := (fun U => U.cell? ⟨H, 2, none⟩ = some (.map none) ∧ U.cell? ⟨gb, 0, none⟩ = some (.int .u32 se) ∧ U.cell? ⟨gb, 1, none⟩ = some (.int .u32 ii))) (by kernel_rfl) ?_ (fun hHeld => ?_)
  ·(try dsimp only); rw [hV118]; exact ⟨row_cell r122.out 2, row_cell r120.out 0, row_cell r120.out 1⟩
  rw [hV118] at hHeld ⊢
  clear hV118
  refine' tkz 0 rfl ?_ ?_
  rotate_left
  ·(intro w hSw; (try dsimp only at hSw); go_simp; try (with_reducible rfl))
  try simp only [lgA, lgB, lgC, Act.put, lsA, lsB, lsC]
  refine' tkz 1 rfl ?_ ?_
  rotate_left
  ·(intro w hSw; (try dsimp only at hSw); go_simp; try (with_reducible rfl))
  try simp only [lgA, lgB, lgC, Act.put, lsA, lsB, lsC]
  refine' tkz 2 rfl ?_ ?_
  rotate_left
  ·(intro w hSw; (try dsimp only at hSw); go_simp; try (with_reducible rfl))
  try simp only [lgA, lgB, lgC, Act.put, lsA, lsB, lsC]
  refine' tkz 3 rfl ?_ ?_
  rotate_left
  ·(intro w hSw; (try dsimp only at hSw); go_simp; try (with_reducible rfl))
  try simp only [lgA, lgB, lgC, Act.put, lsA, lsB, lsC]
  refine' tkz 4 rfl ?_ ?_
  rotate_left
  ·(intro w hSw; (try dsimp only at hSw); go_simp; try (with_reducible rfl))
  try simp only [lgA, lgB, lgC, Act.put, lsA, lsB, lsC]
  refine' tkz 5 rfl ?_ ?_
  rotate_left
  ·(intro w hSw; (try dsimp only at hSw); go_simp; try (with_reducible rfl))
  try simp only [lgA, lgB, lgC, Act.put, lsA, lsB, lsC]
  refine wpAnyH_ready (rs := [6]) (by kernel_rfl) (by simp) ?_
  refine (AllReadyH.cons rfl (fun K hK => ?_) AllReadyH.nil)
  go_simp
  obtain ⟨X124, hX124⟩ : ∃ X, V118.alloc (.cells #[.int .i64 0, .int .u64 0, .int .u64 0] 109) = X := ⟨_, rfl⟩
  have bX124 := hid (show Below V118.heap.size V118 X124 from by rw [← hX124]; exact ball _ _)
  have zX124 : X124.heap[V118.heap.size]? = some (.cells #[.int .i64 0, .int .u64 0, .int .u64 0] 109 (0, 0)) := by rw [← hX124]; exact World.alloc_heap_new _ _
  have DX124 := hid (btr DV118.out bX124.out)
  have r126 := hid (row_on r119.out bX124.out)
  have r127 := hid (row_on r120.out bX124.out)
  have r128 := hid (row_on r121.out bX124.out)
  have r129 := hid (row_on r122.out bX124.out)
  have r130 := hid (row_on r123.out bX124.out)
  obtain ⟨g125, hg125⟩ : ∃ g, V118.heap.size = g := ⟨_, rfl⟩
  have ne131 := hid (show ga ≠ g125 from by have := row_lt r119.out; omega)
  have ne132 := hid (show gb ≠ g125 from by have := row_lt r120.out; omega)
  have ne133 := hid (show gs ≠ g125 from by have := row_lt r121.out; omega)
  have ne134 := hid (show H ≠ g125 from by have := row_lt r122.out; omega)
  have ne135 := hid (show go ≠ g125 from by have := row_lt r123.out; omega)
  have yg125 := hid (Nat.le_trans DV118.out.size (Nat.le_refl _))
  rw [hg125] at zX124 yg125
  have ZX124 := hid zX124
  rw [hX124, hg125]
  clear hX124 hg125 zX124
  refine hK.out _ _ ?_ (fun hHeld => ?_)
  ·(try dsimp only); exact ⟨row_cell r129.out 2, row_cell r127.out 0, row_cell r127.out 1⟩
  clear hK K
  try simp only [lgA, lgB, lgC, Act.put, lsA, lsB, lsC]
  refine wpAnyH_ready (rs := [7]) (by kernel_rfl) (by simp) ?_
  refine (AllReadyH.cons rfl (fun K hK => ?_) AllReadyH.nil)
  refine step_store_row (by rfl) 109 (.tmp 10) (.tmp 47) (by rfl) g125 #[.int .i64 0, .int .u64 0, .int .u64 0] (by rfl) (by rfl) 109 _ ZX124.out infoP3 (by rfl) (by simp [Value.oneCell']) ?_
  have AY136 := hid (setRow_heap X124 g125 _ #[.int .i64 0, .int .u64 0, .int .u64 0] 109 (0, 0) ZX124.out)
  have kY136 := hid (setRow_kp X124 g125 #[.int .i64 0, .int .u64 0, .int .u64 0])
  have r137 := hid (kY136.out.row r126.out (fun e => ne131.out e))
  have r138 := hid (kY136.out.row r127.out (fun e => ne132.out e))
  have r139 := hid (kY136.out.row r128.out (fun e => ne133.out e))
  have r140 := hid (kY136.out.row r129.out (fun e => ne134.out e))
  have r141 := hid (kY136.out.row r130.out (fun e => ne135.out e))
  have DY136 := hid (show Below _ _ _ from DX124.out.trans (kY136.out.below DX124.out.size (fun g hg e => by have := yg125.out; omega)))
  obtain ⟨Y136, hY136⟩ : ∃ Y, X124.setRow g125 #[.int .i64 0, .int .u64 0, .int .u64 0] = Y := ⟨_, rfl⟩
  rw [hY136] at AY136 kY136 DY136 r137 r138 r139 r140 r141 ⊢
  clear hY136
  refine hK.out _ _ ?_ (fun hHeld => ?_)
  ·(try dsimp only); exact ⟨row_cell r140.out 2, row_cell r138.out 0, row_cell r138.out 1⟩
  clear hK K
  try simp only [lgA, lgB, lgC, Act.put, lsA, lsB, lsC]
  refine wpAnyH_done (by kernel_rfl) ?_ _
  exact ⟨g125, by kernel_rfl, DY136, r137, r138, r139, r141, AY136⟩
 rintro gE V7 ⟨B7, RA7, RB7, RS7, RO7, RE7⟩
 have RH7 := hid (HRW.out V7 B7.out)
 have a0 := row_cell RA7.out 0
 have a1 := row_cell RA7.out 1
 have b0 := row_cell RB7.out 0
 have b1 := row_cell RB7.out 1
 simp only [lqA, lqB, lqC] at a0 a1 b0 b1
 go_upto_region 10 with fail
 clear a0 a1 b0 b1
 refine reg_cut (X := Nat) (fun a x => ((((((((((a.put (some 52) (.agg #[.int .i64 0, .int .u64 0, .int .u64 0])).put (some 53) (.pointer (some ⟨gs, 0, none⟩))).put (some 54) (.int .i64 qq)).put (some 55) (.int .i64 (-qq))).put (some 56) (.pointer (some ⟨gs, 1, none⟩))).put (some 57) (.agg #[.int .u64 (hiW v), .int .u64 (loW v)])).put (some 58) (.agg #[.int .u64 (hiW (-v)), .int .u64 (loW (-v))])).put (some 59) (.agg #[.int .i64 (-qq), .int .u64 (hiW (-v)), .int .u64 (loW (-v))])).put (some 60) (.agg #[.int .i64 (-qq), .int .u64 (hiW (-v)), .int .u64 (loW (-v))])).put (some 11) (.pointer (some ⟨x, 0, none⟩)))) (fun x V => Hid (Below W1.heap.size W1 V) ∧ Hid (V.heap[ga]? = some (.cells #[.int .u32 bu, .int .u32 ii] 79 (0, 0))) ∧ Hid (V.heap[gb]? = some (.cells #[.int .u32 se, .int .u32 ii] 79 (0, 0))) ∧ Hid (V.heap[gs]? = some (.cells #[.int .i64 qq, .int .u64 (hiW v), .int .u64 (loW v)] 109 (0, 0))) ∧ Hid (V.heap[go]? = some (.cells #[.int .i64 qq, .int .u64 (hiW v), .int .u64 (loW v)] 109 (0, 0))) ∧ Hid (V.heap[x]? = some (.cells #[.int .i64 (-qq), .int .u64 (hiW (-v)), .int .u64 (loW (-v))] 109 (0, 0)))) ?_ ?_
 ·obtain ⟨V142, hV142⟩ : ∃ U, V7.drew = U := ⟨_, rfl⟩
  have bV142 := hid (show Below V7.heap.size V7 V142 from by rw [← hV142]; exact bdrew1 _)
  have DV142 := hid (btr B7.out bV142.out)
  have r143 := hid (row_on RA7.out bV142.out)
  have r144 := hid (row_on RB7.out bV142.out)
  have r145 := hid (row_on RS7.out bV142.out)
  have r146 := hid (row_on RH7.out bV142.out)
  have r147 := hid (row_on RO7.out bV142.out)
  have r148 := hid (row_on RE7.out bV142.out)
  refine wp_region_held_drew (S := (fun U => U.cell? ⟨gE, 0, none⟩ = some (.int .i64 0) ∧ U.cell? ⟨gE, 1, none⟩ = some (.int .u64 0) ∧ U.cell? ⟨gE, 2, none⟩ = some (.int .u64 0) ∧ U.cell? ⟨gs, 0, none⟩ = some (.int .i64 qq) ∧ U.cell? ⟨gs, 1, none⟩ = some (.int .u64 (hiW v)) ∧ U.cell? ⟨gs, 2, none⟩ = some (.int .u64 (loW v)))) (by kernel_rfl) ?_ (fun hHeld => ?_)
  ·(try dsimp only); rw [hV142]; exact ⟨row_cell r148.out 0, row_cell r148.out 1, row_cell r148.out 2, row_cell r145.out 0, row_cell r145.out 1, row_cell r145.out 2⟩
  rw [hV142] at hHeld ⊢
  clear hV142
  refine' tkz 0 rfl ?_ ?_
  rotate_left
  ·(intro w hSw; (try dsimp only at hSw); go_simp; try (with_reducible rfl))
  try simp only [lgA, lgB, lgC, Act.put, lsA, lsB, lsC]
  refine' tkz 1 rfl ?_ ?_
  rotate_left
  ·(intro w hSw; (try dsimp only at hSw); go_simp; try (with_reducible rfl))
  try simp only [lgA, lgB, lgC, Act.put, lsA, lsB, lsC]
  refine' tkz 2 rfl ?_ ?_
  rotate_left
  ·(intro w hSw; (try dsimp only at hSw); go_simp; try (with_reducible rfl))
  try simp only [lgA, lgB, lgC, Act.put, lsA, lsB, lsC]
  refine' tkz 3 rfl ?_ ?_
  rotate_left
  ·(intro w hSw; (try dsimp only at hSw); go_simp; try (with_reducible rfl))
  try simp only [lgA, lgB, lgC, Act.put, lsA, lsB, lsC]
  refine' tkz 4 rfl ?_ ?_
  rotate_left
  ·(intro w hSw; (try dsimp only at hSw); go_simp; try (with_reducible rfl))
  try simp only [lgA, lgB, lgC, Act.put, lsA, lsB, lsC]
  refine' tkz 5 rfl ?_ ?_
  rotate_left
  ·(intro w hSw; (try dsimp only at hSw); go_simp; try (with_reducible rfl))
  try simp only [lgA, lgB, lgC, Act.put, lsA, lsB, lsC]
  refine wpAnyH_ready (rs := [6, 9]) (by kernel_rfl) (by simp) ?_
  refine (AllReadyH.cons rfl (fun K hK => ?_) (AllReadyH.cons rfl (fun K hK => ?_) AllReadyH.nil))
  ·go_simp
   go_at_call 37
   with_reducible refine (CN.out V142).mono ?_
   rintro e X149 ⟨rfl, cX149⟩
   have bX149 := hid cX149
   clear cX149
   have DX149 := hid (btr DV142.out bX149.out)
   have r150 := hid (row_on r143.out bX149.out)
   have r151 := hid (row_on r144.out bX149.out)
   have r152 := hid (row_on r145.out bX149.out)
   have r153 := hid (row_on r146.out bX149.out)
   have r154 := hid (row_on r147.out bX149.out)
   have r155 := hid (row_on r148.out bX149.out)
   (try go_wp2_with fail)
   refine hK.out _ _ ?_ (fun hHeld => ?_)
   ·(try dsimp only); exact ⟨row_cell r155.out 0, row_cell r155.out 1, row_cell r155.out 2, row_cell r152.out 0, row_cell r152.out 1, row_cell r152.out 2⟩
   clear hK K
   try simp only [lgA, lgB, lgC, Act.put, lsA, lsB, lsC]
   refine' tkz 7 rfl ?_ ?_
   rotate_left
   ·(intro w hSw; (try dsimp only at hSw); go_simp; try (with_reducible rfl))
   try simp only [lgA, lgB, lgC, Act.put, lsA, lsB, lsC]
   refine wpAnyH_ready (rs := [8, 9]) (by kernel_rfl) (by simp) ?_
   refine (AllReadyH.cons rfl (fun K hK => ?_) (AllReadyH.cons rfl (fun K hK => ?_) AllReadyH.nil))
   ·go_simp
    go_at_call 36
    with_reducible refine (CA2.out X149).mono ?_
    rintro e X156 ⟨rfl, cX156⟩
    have bX156 := hid cX156
    clear cX156
    have DX156 := hid (btr DX149.out bX156.out)
    have r157 := hid (row_on r150.out bX156.out)
    have r158 := hid (row_on r151.out bX156.out)
    have r159 := hid (row_on r152.out bX156.out)
    have r160 := hid (row_on r153.out bX156.out)
    have r161 := hid (row_on r154.out bX156.out)
    have r162 := hid (row_on r155.out bX156.out)
    (try go_wp2_with fail)
    refine hK.out _ _ ?_ (fun hHeld => ?_)
    ·(try dsimp only); exact ⟨row_cell r162.out 0, row_cell r162.out 1, row_cell r162.out 2, row_cell r159.out 0, row_cell r159.out 1, row_cell r159.out 2⟩
    clear hK K
    try simp only [lgA, lgB, lgC, Act.put, lsA, lsB, lsC]
    refine wpAnyH_ready (rs := [9]) (by kernel_rfl) (by simp) ?_
    refine (AllReadyH.cons rfl (fun K hK => ?_) AllReadyH.nil)
    go_simp
    obtain ⟨X163, hX163⟩ : ∃ X, X156.alloc (.cells #[.int .i64 0, .int .u64 0, .int .u64 0] 109) = X := ⟨_, rfl⟩
    have bX163 := hid (show Below X156.heap.size X156 X163 from by rw [← hX163]; exact ball _ _)
    have zX163 : X163.heap[X156.heap.size]? = some (.cells #[.int .i64 0, .int .u64 0, .int .u64 0] 109 (0, 0)) := by rw [← hX163]; exact World.alloc_heap_new _ _
    have DX163 := hid (btr DX156.out bX163.out)
    have r165 := hid (row_on r157.out bX163.out)
    have r166 := hid (row_on r158.out bX163.out)
    have r167 := hid (row_on r159.out bX163.out)
    have r168 := hid (row_on r160.out bX163.out)
    have r169 := hid (row_on r161.out bX163.out)
    have r170 := hid (row_on r162.out bX163.out)
    obtain ⟨g164, hg164⟩ : ∃ g, X156.heap.size = g := ⟨_, rfl⟩
    have ne171 := hid (show ga ≠ g164 from by have := row_lt r157.out; omega)
    have ne172 := hid (show gb ≠ g164 from by have := row_lt r158.out; omega)
    have ne173 := hid (show gs ≠ g164 from by have := row_lt r159.out; omega)
    have ne174 := hid (show H ≠ g164 from by have := row_lt r160.out; omega)
    have ne175 := hid (show go ≠ g164 from by have := row_lt r161.out; omega)
    have ne176 := hid (show gE ≠ g164 from by have := row_lt r162.out; omega)
    have yg164 := hid (Nat.le_trans DX156.out.size (Nat.le_refl _))
    rw [hg164] at zX163 yg164
    have ZX163 := hid zX163
    rw [hX163, hg164]
    clear hX163 hg164 zX163
    refine hK.out _ _ ?_ (fun hHeld => ?_)
    ·(try dsimp only); exact ⟨row_cell r170.out 0, row_cell r170.out 1, row_cell r170.out 2, row_cell r167.out 0, row_cell r167.out 1, row_cell r167.out 2⟩
    clear hK K
    try simp only [lgA, lgB, lgC, Act.put, lsA, lsB, lsC]
    refine wpAnyH_ready (rs := [10]) (by kernel_rfl) (by simp) ?_
    refine (AllReadyH.cons rfl (fun K hK => ?_) AllReadyH.nil)
    refine step_store_row (by rfl) 109 (.tmp 11) (.tmp 60) (by rfl) g164 #[.int .i64 (-qq), .int .u64 (hiW (-v)), .int .u64 (loW (-v))] (by rfl) (by rfl) 109 _ ZX163.out infoP3 (by rfl) (by simp [Value.oneCell']) ?_
    have AY177 := hid (setRow_heap X163 g164 _ #[.int .i64 (-qq), .int .u64 (hiW (-v)), .int .u64 (loW (-v))] 109 (0, 0) ZX163.out)
    have kY177 := hid (setRow_kp X163 g164 #[.int .i64 (-qq), .int .u64 (hiW (-v)), .int .u64 (loW (-v))])
    have r178 := hid (kY177.out.row r165.out (fun e => ne171.out e))
    have r179 := hid (kY177.out.row r166.out (fun e => ne172.out e))
    have r180 := hid (kY177.out.row r167.out (fun e => ne173.out e))
    have r181 := hid (kY177.out.row r168.out (fun e => ne174.out e))
    have r182 := hid (kY177.out.row r169.out (fun e => ne175.out e))
    have r183 := hid (kY177.out.row r170.out (fun e => ne176.out e))
    have DY177 := hid (show Below _ _ _ from DX163.out.trans (kY177.out.below DX163.out.size (fun g hg e => by have := yg164.out; omega)))
    obtain ⟨Y177, hY177⟩ : ∃ Y, X163.setRow g164 #[.int .i64 (-qq), .int .u64 (hiW (-v)), .int .u64 (loW (-v))] = Y := ⟨_, rfl⟩
    rw [hY177] at AY177 kY177 DY177 r178 r179 r180 r181 r182 r183 ⊢
    clear hY177
    refine hK.out _ _ ?_ (fun hHeld => ?_)
    ·(try dsimp only); exact ⟨row_cell r183.out 0, row_cell r183.out 1, row_cell r183.out 2, row_cell r180.out 0, row_cell r180.out 1, row_cell r180.out 2⟩
    clear hK K
    try simp only [lgA, lgB, lgC, Act.put, lsA, lsB, lsC]
    refine wpAnyH_done (by kernel_rfl) ?_ _
    exact ⟨g164, by kernel_rfl, DY177, r178, r179, r180, r182, AY177⟩
   ·go_simp
    obtain ⟨X184, hX184⟩ : ∃ X, X149.alloc (.cells #[.int .i64 0, .int .u64 0, .int .u64 0] 109) = X := ⟨_, rfl⟩
    have bX184 := hid (show Below X149.heap.size X149 X184 from by rw [← hX184]; exact ball _ _)
    have zX184 : X184.heap[X149.heap.size]? = some (.cells #[.int .i64 0, .int .u64 0, .int .u64 0] 109 (0, 0)) := by rw [← hX184]; exact World.alloc_heap_new _ _
    have DX184 := hid (btr DX149.out bX184.out)
    have r186 := hid (row_on r150.out bX184.out)
    have r187 := hid (row_on r151.out bX184.out)
    have r188 := hid (row_on r152.out bX184.out)
    have r189 := hid (row_on r153.out bX184.out)
    have r190 := hid (row_on r154.out bX184.out)
    have r191 := hid (row_on r155.out bX184.out)
    obtain ⟨g185, hg185⟩ : ∃ g, X149.heap.size = g := ⟨_, rfl⟩
    have ne192 := hid (show ga ≠ g185 from by have := row_lt r150.out; omega)
    have ne193 := hid (show gb ≠ g185 from by have := row_lt r151.out; omega)
    have ne194 := hid (show gs ≠ g185 from by have := row_lt r152.out; omega)
    have ne195 := hid (show H ≠ g185 from by have := row_lt r153.out; omega)
    have ne196 := hid (show go ≠ g185 from by have := row_lt r154.out; omega)
    have ne197 := hid (show gE ≠ g185 from by have := row_lt r155.out; omega)
    have yg185 := hid (Nat.le_trans DX149.out.size (Nat.le_refl _))
    rw [hg185] at zX184 yg185
    have ZX184 := hid zX184
    rw [hX184, hg185]
    clear hX184 hg185 zX184
    refine hK.out _ _ ?_ (fun hHeld => ?_)
    ·(try dsimp only); exact ⟨row_cell r191.out 0, row_cell r191.out 1, row_cell r191.out 2, row_cell r188.out 0, row_cell r188.out 1, row_cell r188.out 2⟩
    clear hK K
    try simp only [lgA, lgB, lgC, Act.put, lsA, lsB, lsC]
    refine wpAnyH_ready (rs := [8]) (by kernel_rfl) (by simp) ?_
    refine (AllReadyH.cons rfl (fun K hK => ?_) AllReadyH.nil)
    go_simp
    go_at_call 36
    with_reducible refine (CA2.out X184).mono ?_
    rintro e X198 ⟨rfl, cX198⟩
    have bX198 := hid cX198
    clear cX198
    have DX198 := hid (btr DX184.out bX198.out)
    have r199 := hid (row_on r186.out bX198.out)
    have r200 := hid (row_on r187.out bX198.out)
    have r201 := hid (row_on r188.out bX198.out)
    have r202 := hid (row_on r189.out bX198.out)
    have r203 := hid (row_on r190.out bX198.out)
    have r204 := hid (row_on r191.out bX198.out)
    have r205 := hid (row_on ZX184.out bX198.out)
    (try go_wp2_with fail)
    refine hK.out _ _ ?_ (fun hHeld => ?_)
    ·(try dsimp only); exact ⟨row_cell r204.out 0, row_cell r204.out 1, row_cell r204.out 2, row_cell r201.out 0, row_cell r201.out 1, row_cell r201.out 2⟩
    clear hK K
    try simp only [lgA, lgB, lgC, Act.put, lsA, lsB, lsC]
    refine wpAnyH_ready (rs := [10]) (by kernel_rfl) (by simp) ?_
    refine (AllReadyH.cons rfl (fun K hK => ?_) AllReadyH.nil)
    refine step_store_row (by rfl) 109 (.tmp 11) (.tmp 60) (by rfl) g185 #[.int .i64 (-qq), .int .u64 (hiW (-v)), .int .u64 (loW (-v))] (by rfl) (by rfl) 109 _ r205.out infoP3 (by rfl) (by simp [Value.oneCell']) ?_
    have AY206 := hid (setRow_heap X198 g185 _ #[.int .i64 (-qq), .int .u64 (hiW (-v)), .int .u64 (loW (-v))] 109 (0, 0) r205.out)
    have kY206 := hid (setRow_kp X198 g185 #[.int .i64 (-qq), .int .u64 (hiW (-v)), .int .u64 (loW (-v))])
    have r207 := hid (kY206.out.row r199.out (fun e => ne192.out e))
    have r208 := hid (kY206.out.row r200.out (fun e => ne193.out e))
    have r209 := hid (kY206.out.row r201.out (fun e => ne194.out e))
    have r210 := hid (kY206.out.row r202.out (fun e => ne195.out e))
    have r211 := hid (kY206.out.row r203.out (fun e => ne196.out e))
    have r212 := hid (kY206.out.row r204.out (fun e => ne197.out e))
    have DY206 := hid (show Below _ _ _ from DX198.out.trans (kY206.out.below DX198.out.size (fun g hg e => by have := yg185.out; omega)))
    obtain ⟨Y206, hY206⟩ : ∃ Y, X198.setRow g185 #[.int .i64 (-qq), .int .u64 (hiW (-v)), .int .u64 (loW (-v))] = Y := ⟨_, rfl⟩
    rw [hY206] at AY206 kY206 DY206 r207 r208 r209 r210 r211 r212 ⊢
    clear hY206
    refine hK.out _ _ ?_ (fun hHeld => ?_)
    ·(try dsimp only); exact ⟨row_cell r212.out 0, row_cell r212.out 1, row_cell r212.out 2, row_cell r209.out 0, row_cell r209.out 1, row_cell r209.out 2⟩
    clear hK K
    try simp only [lgA, lgB, lgC, Act.put, lsA, lsB, lsC]
    refine wpAnyH_done (by kernel_rfl) ?_ _
    exact ⟨g185, by kernel_rfl, DY206, r207, r208, r209, r211, AY206⟩
  ·go_simp
   obtain ⟨X213, hX213⟩ : ∃ X, V142.alloc (.cells #[.int .i64 0, .int .u64 0, .int .u64 0] 109) = X := ⟨_, rfl⟩
   have bX213 := hid (show Below V142.heap.size V142 X213 from by rw [← hX213]; exact ball _ _)
   have zX213 : X213.heap[V142.heap.size]? = some (.cells #[.int .i64 0, .int .u64 0, .int .u64 0] 109 (0, 0)) := by rw [← hX213]; exact World.alloc_heap_new _ _
   have DX213 := hid (btr DV142.out bX213.out)
   have r215 := hid (row_on r143.out bX213.out)
   have r216 := hid (row_on r144.out bX213.out)
   have r217 := hid (row_on r145.out bX213.out)
   have r218 := hid (row_on r146.out bX213.out)
   have r219 := hid (row_on r147.out bX213.out)
   have r220 := hid (row_on r148.out bX213.out)
   obtain ⟨g214, hg214⟩ : ∃ g, V142.heap.size = g := ⟨_, rfl⟩
   have ne221 := hid (show ga ≠ g214 from by have := row_lt r143.out; omega)
   have ne222 := hid (show gb ≠ g214 from by have := row_lt r144.out; omega)
   have ne223 := hid (show gs ≠ g214 from by have := row_lt r145.out; omega)
   have ne224 := hid (show H ≠ g214 from by have := row_lt r146.out; omega)
   have ne225 := hid (show go ≠ g214 from by have := row_lt r147.out; omega)
   have ne226 := hid (show gE ≠ g214 from by have := row_lt r148.out; omega)
   have yg214 := hid (Nat.le_trans DV142.out.size (Nat.le_refl _))
   rw [hg214] at zX213 yg214
   have ZX213 := hid zX213
   rw [hX213, hg214]
   clear hX213 hg214 zX213
   refine hK.out _ _ ?_ (fun hHeld => ?_)
   ·(try dsimp only); exact ⟨row_cell r220.out 0, row_cell r220.out 1, row_cell r220.out 2, row_cell r217.out 0, row_cell r217.out 1, row_cell r217.out 2⟩
   clear hK K
   try simp only [lgA, lgB, lgC, Act.put, lsA, lsB, lsC]
   refine wpAnyH_ready (rs := [6]) (by kernel_rfl) (by simp) ?_
   refine (AllReadyH.cons rfl (fun K hK => ?_) AllReadyH.nil)
   go_simp
   go_at_call 37
   with_reducible refine (CN.out X213).mono ?_
   rintro e X227 ⟨rfl, cX227⟩
   have bX227 := hid cX227
   clear cX227
   have DX227 := hid (btr DX213.out bX227.out)
   have r228 := hid (row_on r215.out bX227.out)
   have r229 := hid (row_on r216.out bX227.out)
   have r230 := hid (row_on r217.out bX227.out)
   have r231 := hid (row_on r218.out bX227.out)
   have r232 := hid (row_on r219.out bX227.out)
   have r233 := hid (row_on r220.out bX227.out)
   have r234 := hid (row_on ZX213.out bX227.out)
   (try go_wp2_with fail)
   refine hK.out _ _ ?_ (fun hHeld => ?_)
   ·(try dsimp only); exact ⟨row_cell r233.out 0, row_cell r233.out 1, row_cell r233.out 2, row_cell r230.out 0, row_cell r230.out 1, row_cell r230.out 2⟩
   clear hK K
   try simp only [lgA, lgB, lgC, Act.put, lsA, lsB, lsC]
   refine' tkz 7 rfl ?_ ?_
   rotate_left
   ·(intro w hSw; (try dsimp only at hSw); go_simp; try (with_reducible rfl))
   try simp only [lgA, lgB, lgC, Act.put, lsA, lsB, lsC]
   refine wpAnyH_ready (rs := [8]) (by kernel_rfl) (by simp) ?_
   refine (AllReadyH.cons rfl (fun K hK => ?_) AllReadyH.nil)
   go_simp
   go_at_call 36
   with_reducible refine (CA2.out X227).mono ?_
   rintro e X235 ⟨rfl, cX235⟩
   have bX235 := hid cX235
   clear cX235
   have DX235 := hid (btr DX227.out bX235.out)
   have r236 := hid (row_on r228.out bX235.out)
   have r237 := hid (row_on r229.out bX235.out)
   have r238 := hid (row_on r230.out bX235.out)
   have r239 := hid (row_on r231.out bX235.out)
   have r240 := hid (row_on r232.out bX235.out)
   have r241 := hid (row_on r233.out bX235.out)
   have r242 := hid (row_on r234.out bX235.out)
   (try go_wp2_with fail)
   refine hK.out _ _ ?_ (fun hHeld => ?_)
   ·(try dsimp only); exact ⟨row_cell r241.out 0, row_cell r241.out 1, row_cell r241.out 2, row_cell r238.out 0, row_cell r238.out 1, row_cell r238.out 2⟩
   clear hK K
   try simp only [lgA, lgB, lgC, Act.put, lsA, lsB, lsC]
   refine wpAnyH_ready (rs := [10]) (by kernel_rfl) (by simp) ?_
   refine (AllReadyH.cons rfl (fun K hK => ?_) AllReadyH.nil)
   refine step_store_row (by rfl) 109 (.tmp 11) (.tmp 60) (by rfl) g214 #[.int .i64 (-qq), .int .u64 (hiW (-v)), .int .u64 (loW (-v))] (by rfl) (by rfl) 109 _ r242.out infoP3 (by rfl) (by simp [Value.oneCell']) ?_
   have AY243 := hid (setRow_heap X235 g214 _ #[.int .i64 (-qq), .int .u64 (hiW (-v)), .int .u64 (loW (-v))] 109 (0, 0) r242.out)
   have kY243 := hid (setRow_kp X235 g214 #[.int .i64 (-qq), .int .u64 (hiW (-v)), .int .u64 (loW (-v))])
   have r244 := hid (kY243.out.row r236.out (fun e => ne221.out e))
   have r245 := hid (kY243.out.row r237.out (fun e => ne222.out e))
   have r246 := hid (kY243.out.row r238.out (fun e => ne223.out e))
   have r247 := hid (kY243.out.row r239.out (fun e => ne224.out e))
   have r248 := hid (kY243.out.row r240.out (fun e => ne225.out e))
   have r249 := hid (kY243.out.row r241.out (fun e => ne226.out e))
   have DY243 := hid (show Below _ _ _ from DX235.out.trans (kY243.out.below DX235.out.size (fun g hg e => by have := yg214.out; omega)))
   obtain ⟨Y243, hY243⟩ : ∃ Y, X235.setRow g214 #[.int .i64 (-qq), .int .u64 (hiW (-v)), .int .u64 (loW (-v))] = Y := ⟨_, rfl⟩
   rw [hY243] at AY243 kY243 DY243 r244 r245 r246 r247 r248 r249 ⊢
   clear hY243
   refine hK.out _ _ ?_ (fun hHeld => ?_)
   ·(try dsimp only); exact ⟨row_cell r249.out 0, row_cell r249.out 1, row_cell r249.out 2, row_cell r246.out 0, row_cell r246.out 1, row_cell r246.out 2⟩
   clear hK K
   try simp only [lgA, lgB, lgC, Act.put, lsA, lsB, lsC]
   refine wpAnyH_done (by kernel_rfl) ?_ _
   exact ⟨g214, by kernel_rfl, DY243, r244, r245, r246, r248, AY243⟩
 rintro gl V8 ⟨B8, RA8, RB8, RS8, RO8, RL8⟩
 have p0 := row_cell RO8.out 0
 have p1 := row_cell RO8.out 1
 have p2 := row_cell RO8.out 2
 have r0 := row_cell RL8.out 0
 have r1 := row_cell RL8.out 1
 have r2 := row_cell RL8.out 2
 simp only [lqA, lqB, lqC] at p0 p1 p2 r0 r1 r2
 have SZ1 := hid (show ∀ X, Below V8.heap.size V8 X → X.heap[gl]? = some (.cells #[.int .i64 (-qq), .int .u64 (hiW (-v)), .int .u64 (loW (-v))] 109 (0, 0)) from fun X hX => row_on RL8.out hX)
 go_upto_region 13 with (first
  | (go_at_call 38; with_reducible refine (CS1.out _).mono ?_; rintro e w9 ⟨rfl, h9⟩; have B9 := hid h9; clear h9; have r0 := row_cell (SZ1.out _ B9.out) 0; have r1 := row_cell (SZ1.out _ B9.out) 1; have r2 := row_cell (SZ1.out _ B9.out) 2; simp only [lqA, lqB, lqC] at r0 r1 r2)
  | (go_at_call 38; with_reducible refine (CS2.out _).mono ?_; rintro e wa ⟨rfl, ha⟩; have BA := hid ha; clear ha))
 have B10 := hid (btr (btr B8.out B9.out) BA.out)
 have HO10 := hid (HH.out.on (btr B1.out B10.out))
 have RA10 := hid (row_on RA8.out (btr B9.out BA.out))
 have RB10 := hid (row_on RB8.out (btr B9.out BA.out))
 have RO10 := hid (row_on RO8.out (btr B9.out BA.out))
 have RL10 := hid (row_on RL8.out (btr B9.out BA.out))
 clear p0 p1 p2 r0 r1 r2
 have p0 := row_cell RO10.out 0
 have p1 := row_cell RO10.out 1
 have p2 := row_cell RO10.out 2
 have a0 := row_cell RA10.out 0
 have a1 := row_cell RA10.out 1
 simp only [lqA, lqB, lqC] at p0 p1 p2 a0 a1
 have CH1 := hid (hold_none bu ii ⟨qq, v⟩ HQ0.out HUB.out HUI.out HO10.out)
 go_upto_region 14 with (go_at_call 39; with_reducible refine CH1.out.mono ?_; rintro e wb ⟨rfl, b, h1, h2, h3⟩; have LB0 := hid h1; have HOb := hid h2; have KB := hid h3; clear h1 h2 h3)
 have RBb := hid (KB.out.row RB10.out (row_ne RB10.out HO10.out.row (by decide)))
 have RLb := hid (KB.out.row RL10.out (row_ne RL10.out HO10.out.row (by decide)))
 clear p0 p1 p2 a0 a1 CH1
 have p0 := row_cell RLb.out 0
 have p1 := row_cell RLb.out 1
 have p2 := row_cell RLb.out 2
 have a0 := row_cell RBb.out 0
 have a1 := row_cell RBb.out 1
 simp only [lqA, lqB, lqC] at p0 p1 p2 a0 a1
 have CH2 := hid (hold_some se ii ⟨-qq, -v⟩ HQ1.out H b o p l.length c wb (fun U' => Mp kvP U' b 2 (upd (upd (fun _ => none) (bu, ii) ⟨qq, v⟩) (se, ii) ⟨-qq, -v⟩)) HOb.out.row (Mp.obj HOb.out.mp) (fun U hU => by
  obtain ⟨U', h1, h2, h3⟩ := (Mp.on HOb.out.mp hU).put okP (by decide) (se, ii) ⟨HUS.out, HUI.out⟩ ⟨-qq, -v⟩
  exact ⟨U', h1, h3, h2⟩))
 go_wp2_with (go_at_call 39; with_reducible refine CH2.out.mono ?_; rintro e wc ⟨rfl, h1, h2⟩; have KC := hid h1; have MC := hid h2; clear h1 h2)
 go_ret
 have nbr : ∀ r cs t, wb.heap[r]? = some (.cells cs t (0, 0)) → ¬ r = b := fun r cs t e e2 => by
  subst e2
  obtain ⟨es, cl, e1⟩ := Mp.obj HOb.out.mp
  rw [e1] at e
  cases e
 refine ⟨rfl, b, Nat.le_trans (btr B1.out B10.out).size LB0.out, HOb.out.map KC.out (fun r cs t e _ => nbr r cs t e) (KC.out.row HOb.out.row (nbr _ _ _ HOb.out.row)) MC.out, ((Kp.of (fun j => j = H) (btr B1.out B10.out)).trans KB.out (fun g _ e => e)).trans KC.out (fun g hg e => ?_)⟩
 exfalso
 have := LB0.out
 have := (btr B1.out B10.out).size
 omega
end Go.Proofs.YtlhbgaiiehljpaaGreat.Ac
