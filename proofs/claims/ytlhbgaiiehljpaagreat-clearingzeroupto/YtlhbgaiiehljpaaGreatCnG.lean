/-
  CnG
-/
import Derived.Test.YtlhbgaiiehljpaaGreatGAa
import Derived.Test.YtlhbgaiiehljpaaGreatCnE
namespace Go.Proofs.YtlhbgaiiehljpaaGreat.Ac
open List renaming getElem?_toArray → lqA, getElem?_cons_succ → lqB, getElem?_cons_zero → lqC
open List renaming getElem_toArray → lgA, getElem_cons_succ → lgB, getElem_cons_zero → lgC, setIfInBounds_toArray → lsA, set_cons_zero → lsB, set_cons_succ → lsC
open Go.RowKit Go.Deep Go.Maps MonM Go.Proofs.YtlhbgaiiehljpaaGreat
set_option linter.unusedVariables false
set_option linter.unusedSimpArgs false
set_option maxHeartbeats 8000000
set_option maxRecDepth 100000
attribute [local go_sem ↓] Go.wp_at_zero Go.wp_at_succ
def okF (f : Ks2) : Prop := ∀ x v, f x = some v → v.ok
theorem okF.get {f : Ks2} (h : okF f) (x : Int × Int) : ((f x).getD n0).ok := by
 cases e : f x with
 | none => exact ⟨⟨by decide, by decide⟩, ⟨by decide, by decide⟩, ⟨by decide, by decide⟩⟩
 | some v => exact h x v e
theorem okF.buy {f : Ks2} (h : okF f) (m i q v : Int) : okF (buyD f m i q v) := fun x u e => by
 unfold buyD at e
 by_cases c : x = (m, i)
 ·subst c
  rw [upd_same] at e
  cases e
  exact ⟨madd_amt _ _, ⟨by dsimp only; omega, by dsimp only; omega⟩, (h.get _).2.2⟩
 ·rw [upd_other _ _ c] at e
  exact h x u e
theorem okF.sel {f : Ks2} (h : okF f) (m i q v : Int) : okF (selD f m i q v) := fun x u e => by
 unfold selD at e
 by_cases c : x = (m, i)
 ·subst c
  rw [upd_same] at e
  cases e
  exact ⟨madd_amt _ _, (h.get _).2.1, ⟨by dsimp only; omega, by dsimp only; omega⟩⟩
 ·rw [upd_other _ _ c] at e
  exact h x u e
theorem okF.dst {f : Ks2} (h : okF f) (d : Dl) : okF (dst f d) := (h.buy _ _ _ _).sel _ _ _ _
/-- a map's answer and its next state. -/
theorem lkN {U : World} {M n : Nat} {f : Ks2} (h : Mp kvN U M n f) {m i : Int} (hm : U32 m) (hi : U32 i) {b s a : Int} (e : (f (m, i)).getD n0 = ⟨b, s, a⟩) :
  (Instr.lookup 74 (.map (some M)) (.agg #[.int .u32 m, .int .u32 i]) false).run Tryz.prog U = .ok (.agg #[.int .u32 0, .int .u32 0, .int .u64 b, .int .u64 s, .int .u64 (hiW a), .int .u64 (loW a)]) U := by
 have h1 := h.get okN (m, i) ⟨hm, hi⟩
 rw [show kvN.val ((f (m, i)).getD kvN.zero) = .agg #[.int .u32 0, .int .u32 0, .int .u64 b, .int .u64 s, .int .u64 (hiW a), .int .u64 (loW a)] from by rw [show kvN.zero = n0 from rfl, e]; rfl] at h1
 exact h1
theorem ptN {U : World} {M n : Nat} {f : Ks2} (h : Mp kvN U M n f) (hn : n < maxLen) {m i : Int} (hm : U32 m) (hi : U32 i) (b s a : Int) :
  ∃ U', (Instr.mapUpdate 74 (.map (some M)) (.agg #[.int .u32 m, .int .u32 i]) (.agg #[.int .u32 0, .int .u32 0, .int .u64 b, .int .u64 s, .int .u64 (hiW a), .int .u64 (loW a)])).run Tryz.prog U = .ok () U' ∧ Mp kvN U' M (n + 1) (upd f (m, i) ⟨b, s, a⟩) ∧ Kp (fun j => j = M) U U' :=
 h.put okN hn (m, i) ⟨hm, hi⟩ ⟨b, s, a⟩
theorem count_any (d : Dl) (M n : Nat) (f : Ks2) (w : World) (hm : Mp kvN w M n f) (hn : n + 2 < maxLen) (hd : d.ok) (ht : terr d = 0) (hf : okF f) :
  Calls Tryz.prog 22 #[.map (some M), dv d] w fun e w' => e = .returned (.tuple #[]) ∧ Mp kvN w' M (n + 2) (dst f d) ∧ Kp (fun b => b = M) w w' := by
 obtain ⟨⟨p0, p1⟩, q0, q1, hav⟩ := terr_ok ht
 have CV := hid (fun U => value_any d U p0 p1 ⟨by omega, by omega⟩)
 obtain ⟨ii, bu, se, tk, pr, qq⟩ := d
 obtain ⟨hui, hub, hus, -⟩ := hd
 have HUI := hid (show U32 ii from hui)
 have HUB := hid (show U32 bu from hub)
 have HUS := hid (show U32 se from hus)
 have hav : Amt (pr * qq) := hav
 have q0 : 1 ≤ qq := q0
 have q1 : qq ≤ 4294967295 := q1
 show Calls Tryz.prog 22 #[.map (some M), .agg #[.int .u32 ii, .int .u32 bu, .int .u32 se, .int .i64 tk, .int .i64 pr, .int .u64 qq]] w fun e w' => e = .returned (.tuple #[]) ∧ Mp kvN w' M (n + 2) (selD (buyD f bu ii qq (pr * qq)) se ii qq (pr * qq)) ∧ Kp (fun b => b = M) w w'
 have CV := hid (show ∀ U, Calls Tryz.prog 35 #[.agg #[.int .u32 ii, .int .u32 bu, .int .u32 se, .int .i64 tk, .int .i64 pr, .int .u64 qq]] U fun e w' => e = .returned (mv (pr * qq)) ∧ Below U.heap.size U w' from CV.out)
 obtain ⟨v, hv⟩ : ∃ v, pr * qq = v := ⟨_, rfl⟩
 rw [hv] at CV hav ⊢
 unfold mv at CV
 have HF1 := hid (hf.buy bu ii qq v)
 obtain ⟨f1, hf1⟩ : ∃ f1, buyD f bu ii qq v = f1 := ⟨_, rfl⟩
 rw [hf1] at HF1 ⊢
 obtain ⟨f2, hf2⟩ : ∃ f2, selD f1 se ii qq v = f2 := ⟨_, rfl⟩
 rw [hf2]
 unfold buyD at hf1
 unfold selD at hf2
 have ok1 := hf.get (bu, ii)
 have ok2 := HF1.out.get (se, ii)
 obtain ⟨o1, ho1⟩ : ∃ o, (f (bu, ii)).getD n0 = o := ⟨_, rfl⟩
 obtain ⟨o2, ho2⟩ : ∃ o, (f1 (se, ii)).getD n0 = o := ⟨_, rfl⟩
 rw [ho1] at hf1 ok1
 rw [ho2] at hf2 ok2
 obtain ⟨b0, s0, a0⟩ := o1
 obtain ⟨b2, s2, a2⟩ := o2
 have CP := hid (fun U => plus_any a0 v U ok1.1 hav)
 have CL := hid (fun U => less_any a2 v U ok2.1 hav)
 dsimp only at hf1 hf2
 obtain ⟨n1, hn1⟩ : ∃ x, maddV a0 v = x := ⟨_, rfl⟩
 obtain ⟨n2, hn2⟩ : ∃ x, maddV a2 (-v) = x := ⟨_, rfl⟩
 rw [hn1] at CP hf1
 rw [hn2] at CL hf2
 unfold mv at CP CL
 obtain ⟨b1, hb1⟩ : ∃ x, (b0 + qq) % 18446744073709551616 = x := ⟨_, rfl⟩
 obtain ⟨s3, hs3⟩ : ∃ x, (s2 + qq) % 18446744073709551616 = x := ⟨_, rfl⟩
 rw [hb1] at hf1
 rw [hs3] at hf2
 have wb : IntKind.u64.wrap (b0 + qq) = b1 := by rw [IntKind.wrap_u64]; exact hb1
 have ws : IntKind.u64.wrap (s2 + qq) = s3 := by rw [IntKind.wrap_u64]; exact hs3
 have LK1 := hid (show ∀ U, Mp kvN U M n f → _ from fun U h => lkN h HUB.out HUI.out ho1)
 have LK2 := hid (show ∀ U, Mp kvN U M (n + 1) f1 → _ from fun U h => lkN h HUS.out HUI.out ho2)
 have PT1 := hid (show ∀ U, Mp kvN U M n f → _ from fun U h => ptN h (by omega) HUB.out HUI.out b1 s0 n1)
 have PT2 := hid (show ∀ U, Mp kvN U M (n + 1) f1 → _ from fun U h => ptN h (by omega) HUS.out HUI.out b2 s3 n2)
 rw [hf1] at PT1
 rw [hf2] at PT2
 have HM := hid hm
 clear hm hf ht p0 p1 q0 q1 hav hv hn1 hn2 hb1 hs3 hf1 hf2 ho1 ho2 ok1 ok2 HF1 hui hub hus
 obtain ⟨g3, hg3⟩ : ∃ g, w.heap.size = g := ⟨_, rfl⟩
 obtain ⟨W, hW⟩ : ∃ W, w.alloc (.cells #[.int .u32 ii, .int .u32 bu, .int .u32 se, .int .i64 tk, .int .i64 pr, .int .u64 qq] 59) = W := ⟨_, rfl⟩
 have RW := hid (show W.heap[g3]? = some (.cells #[.int .u32 ii, .int .u32 bu, .int .u32 se, .int .i64 tk, .int .i64 pr, .int .u64 qq] 59 (0, 0)) from by rw [← hW, ← hg3]; exact World.alloc_heap_new _ _)
 have BWw := hid (show Below w.heap.size w W from by rw [← hW]; exact ball _ _)
 have SM := hid (show M < g3 ∧ g3 < W.heap.size from ⟨by rw [← hg3]; exact HM.out.lt, row_lt RW.out⟩)
 have G3 := hid hg3
 have K0 := hid (show ∀ U, Below W.heap.size W U → U.cell? ⟨g3, 0, none⟩ = some (.int .u32 ii) from fun U hU => row_cell (row_on RW.out hU) 0)
 have K1 := hid (show ∀ U, Below W.heap.size W U → U.cell? ⟨g3, 1, none⟩ = some (.int .u32 bu) from fun U hU => row_cell (row_on RW.out hU) 1)
 have K2 := hid (show ∀ U, Below W.heap.size W U → U.cell? ⟨g3, 2, none⟩ = some (.int .u32 se) from fun U hU => row_cell (row_on RW.out hU) 2)
 have K3 := hid (show ∀ U, Below W.heap.size W U → U.cell? ⟨g3, 3, none⟩ = some (.int .i64 tk) from fun U hU => row_cell (row_on RW.out hU) 3)
 have K4 := hid (show ∀ U, Below W.heap.size W U → U.cell? ⟨g3, 4, none⟩ = some (.int .i64 pr) from fun U hU => row_cell (row_on RW.out hU) 4)
 have K5 := hid (show ∀ U, Below W.heap.size W U → U.cell? ⟨g3, 5, none⟩ = some (.int .u64 qq) from fun U hU => row_cell (row_on RW.out hU) 5)
 go_enter Tryz.func22, Tryz.ntmps22
 go_upto_region 1 with fail
 clear hW hg3
 refine reg_cut (X := Nat × Nat) (fun a t => ((((((((((((a.put (some 7) (.pointer (some ⟨g3, 1, none⟩))).put (some 8) (.int .u32 bu)).put (some 9) (.pointer (some ⟨g3, 0, none⟩))).put (some 10) (.int .u32 ii)).put (some 11) (.agg #[.int .u32 bu, .int .u32 ii])).put (some 12) (.pointer (some ⟨g3, 2, none⟩))).put (some 13) (.int .u32 se)).put (some 14) (.pointer (some ⟨g3, 0, none⟩))).put (some 15) (.int .u32 ii)).put (some 16) (.agg #[.int .u32 se, .int .u32 ii])).put (some 4) (.pointer (some ⟨t.1, 0, none⟩))).put (some 5) (.pointer (some ⟨t.2, 0, none⟩)))) (fun t V9 => Hid (Below W.heap.size W V9) ∧ Hid (V9.heap[t.1]? = some (.cells #[.int .u32 bu, .int .u32 ii] 79 (0, 0))) ∧ Hid (V9.heap[t.2]? = some (.cells #[.int .u32 se, .int .u32 ii] 79 (0, 0))) ∧ Hid (W.heap.size ≤ t.1) ∧ Hid (W.heap.size ≤ t.2) ∧ Hid (t.1 ≠ t.2)) ?_ ?_
 ·obtain ⟨V1, hV1⟩ : ∃ U, W.drew = U := ⟨_, rfl⟩
  have BV1 := hid (show Below W.heap.size W V1 from by rw [← hV1]; exact bdrew1 _)
  refine wp_region_held_drew (S := (fun U => U.cell? ⟨g3, 0, none⟩ = some (.int .u32 ii) ∧ U.cell? ⟨g3, 1, none⟩ = some (.int .u32 bu) ∧ U.cell? ⟨g3, 2, none⟩ = some (.int .u32 se))) (by kernel_rfl) ?_ (fun hHeld => ?_)
  ·(try dsimp only); rw [hV1]; exact ⟨K0.out _ BV1.out, K1.out _ BV1.out, K2.out _ BV1.out⟩
  rw [hV1] at hHeld ⊢
  clear hV1
  refine' tkz 0 rfl ?_ ?_
  rotate_left
  ·(intro w hSw; (try dsimp only at hSw); go_simp; try (with_reducible rfl))
  try simp only [lgA, lgB, lgC, Act.put, lsA, lsB, lsC]
  refine' tkz 1 rfl ?_ ?_
  rotate_left
  ·(intro w hSw; (try dsimp only at hSw); go_simp; try (with_reducible rfl))
  try simp only [lgA, lgB, lgC, Act.put, lsA, lsB, lsC]
  refine' tkz 2 rfl ?_ ?_
  rotate_left
  ·(intro w hSw; (try dsimp only at hSw); go_simp; try (with_reducible rfl))
  try simp only [lgA, lgB, lgC, Act.put, lsA, lsB, lsC]
  refine' tkz 3 rfl ?_ ?_
  rotate_left
  ·(intro w hSw; (try dsimp only at hSw); go_simp; try (with_reducible rfl))
  try simp only [lgA, lgB, lgC, Act.put, lsA, lsB, lsC]
  refine' tkz 4 rfl ?_ ?_
  rotate_left
  ·(intro w hSw; (try dsimp only at hSw); go_simp; try (with_reducible rfl))
  try simp only [lgA, lgB, lgC, Act.put, lsA, lsB, lsC]
  refine' tkz 5 rfl ?_ ?_
  rotate_left
  ·(intro w hSw; (try dsimp only at hSw); go_simp; try (with_reducible rfl))
  try simp only [lgA, lgB, lgC, Act.put, lsA, lsB, lsC]
  refine' tkz 6 rfl ?_ ?_
  rotate_left
  ·(intro w hSw; (try dsimp only at hSw); go_simp; try (with_reducible rfl))
  try simp only [lgA, lgB, lgC, Act.put, lsA, lsB, lsC]
  refine' tkz 7 rfl ?_ ?_
  rotate_left
  ·(intro w hSw; (try dsimp only at hSw); go_simp; try (with_reducible rfl))
  try simp only [lgA, lgB, lgC, Act.put, lsA, lsB, lsC]
  refine' tkz 8 rfl ?_ ?_
  rotate_left
  ·(intro w hSw; (try dsimp only at hSw); go_simp; try (with_reducible rfl))
  try simp only [lgA, lgB, lgC, Act.put, lsA, lsB, lsC]
  refine' tkz 9 rfl ?_ ?_
  rotate_left
  ·(intro w hSw; (try dsimp only at hSw); go_simp; try (with_reducible rfl))
  try simp only [lgA, lgB, lgC, Act.put, lsA, lsB, lsC]
  refine wpAnyH_ready (rs := [10, 11]) (by kernel_rfl) (by simp) ?_
  refine (AllReadyH.cons rfl (fun K hK => ?_) (AllReadyH.cons rfl (fun K hK => ?_) AllReadyH.nil))
  ·go_simp
   obtain ⟨X2, hX2⟩ : ∃ X, V1.alloc (.cells #[.int .u32 0, .int .u32 0] 79) = X := ⟨_, rfl⟩
   have bX2 : Below V1.heap.size V1 X2 := by rw [← hX2]; exact ball _ _
   have DX2 := hid (btr BV1.out bX2)
   have zX2 : X2.heap[V1.heap.size]? = some (.cells #[.int .u32 0, .int .u32 0] 79 (0, 0)) := by rw [← hX2]; exact World.alloc_heap_new _ _
   have yg3 := BV1.out.size
   obtain ⟨g3, hg3⟩ : ∃ g, V1.heap.size = g := ⟨_, rfl⟩
   rw [hg3] at zX2 yg3
   have ZX2 := hid zX2
   rw [hX2, hg3]
   clear hX2 hg3 zX2 bX2
   refine hK.out _ _ ?_ (fun hHeld => ?_)
   ·(try dsimp only); exact ⟨K0.out _ DX2.out, K1.out _ DX2.out, K2.out _ DX2.out⟩
   clear hK K
   try simp only [lgA, lgB, lgC, Act.put, lsA, lsB, lsC]
   refine wpAnyH_ready (rs := [11]) (by kernel_rfl) (by simp) ?_
   refine (AllReadyH.cons rfl (fun K hK => ?_) AllReadyH.nil)
   go_simp
   obtain ⟨X4, hX4⟩ : ∃ X, X2.alloc (.cells #[.int .u32 0, .int .u32 0] 79) = X := ⟨_, rfl⟩
   have bX4 : Below X2.heap.size X2 X4 := by rw [← hX4]; exact ball _ _
   have r6 := hid (row_on ZX2.out bX4)
   have DX4 := hid (btr DX2.out bX4)
   have zX4 : X4.heap[X2.heap.size]? = some (.cells #[.int .u32 0, .int .u32 0] 79 (0, 0)) := by rw [← hX4]; exact World.alloc_heap_new _ _
   have yg5 := DX2.out.size
   obtain ⟨g5, hg5⟩ : ∃ g, X2.heap.size = g := ⟨_, rfl⟩
   have n7 : g5 ≠ g3 := by have := row_lt ZX2.out; omega
   rw [hg5] at zX4 yg5
   have ZX4 := hid zX4
   rw [hX4, hg5]
   clear hX4 hg5 zX4 bX4
   refine hK.out _ _ ?_ (fun hHeld => ?_)
   ·(try dsimp only); exact ⟨K0.out _ DX4.out, K1.out _ DX4.out, K2.out _ DX4.out⟩
   clear hK K
   try simp only [lgA, lgB, lgC, Act.put, lsA, lsB, lsC]
   refine wpAnyH_ready (rs := [12]) (by kernel_rfl) (by simp) ?_
   refine (AllReadyH.cons rfl (fun K hK => ?_) AllReadyH.nil)
   refine step_store_row (by rfl) 79 (.tmp 4) (.tmp 11) (by rfl) g3 #[.int .u32 bu, .int .u32 ii] (by rfl) (by rfl) 79 _ r6.out infoH2 (by rfl) (by simp [Value.oneCell']) ?_
   obtain ⟨Y8, hY8⟩ : ∃ Y, X4.setRow g3 #[.int .u32 bu, .int .u32 ii] = Y := ⟨_, rfl⟩
   have KY8 := hid (show Kp (fun j => j = g3) X4 Y8 from by rw [← hY8]; exact setRow_kp _ _ _)
   have AY8 := hid (show Y8.heap[g3]? = some (.cells #[.int .u32 bu, .int .u32 ii] 79 (0, 0)) from by rw [← hY8]; exact setRow_heap X4 g3 _ _ 79 (0, 0) r6.out)
   have DY8 := hid (show Below W.heap.size W Y8 from by rw [← hY8]; exact setRow_below DX4.out yg3)
   have r9 := hid (KY8.out.row ZX4.out (fun e => n7 e))
   rw [hY8]
   refine hK.out _ _ ?_ (fun hHeld => ?_)
   ·(try dsimp only); exact ⟨K0.out _ DY8.out, K1.out _ DY8.out, K2.out _ DY8.out⟩
   clear hK K hY8
   try simp only [lgA, lgB, lgC, Act.put, lsA, lsB, lsC]
   refine wpAnyH_ready (rs := [13]) (by kernel_rfl) (by simp) ?_
   refine (AllReadyH.cons rfl (fun K hK => ?_) AllReadyH.nil)
   refine step_store_row (by rfl) 79 (.tmp 5) (.tmp 16) (by rfl) g5 #[.int .u32 se, .int .u32 ii] (by rfl) (by rfl) 79 _ r9.out infoH2 (by rfl) (by simp [Value.oneCell']) ?_
   obtain ⟨Y10, hY10⟩ : ∃ Y, Y8.setRow g5 #[.int .u32 se, .int .u32 ii] = Y := ⟨_, rfl⟩
   have KY10 := hid (show Kp (fun j => j = g5) Y8 Y10 from by rw [← hY10]; exact setRow_kp _ _ _)
   have AY10 := hid (show Y10.heap[g5]? = some (.cells #[.int .u32 se, .int .u32 ii] 79 (0, 0)) from by rw [← hY10]; exact setRow_heap Y8 g5 _ _ 79 (0, 0) r9.out)
   have DY10 := hid (show Below W.heap.size W Y10 from by rw [← hY10]; exact setRow_below DY8.out yg5)
   have r11 := hid (KY10.out.row AY8.out (fun e => n7.symm e))
   rw [hY10]
   refine hK.out _ _ ?_ (fun hHeld => ?_)
   ·(try dsimp only); exact ⟨K0.out _ DY10.out, K1.out _ DY10.out, K2.out _ DY10.out⟩
   clear hK K hY10
   try simp only [lgA, lgB, lgC, Act.put, lsA, lsB, lsC]
   refine wpAnyH_done (by kernel_rfl) ?_ _
   exact ⟨(g3, g5), by kernel_rfl, DY10, r11, AY10, hid yg3, hid yg5, hid n7.symm⟩
  ·go_simp
   obtain ⟨X12, hX12⟩ : ∃ X, V1.alloc (.cells #[.int .u32 0, .int .u32 0] 79) = X := ⟨_, rfl⟩
   have bX12 : Below V1.heap.size V1 X12 := by rw [← hX12]; exact ball _ _
   have DX12 := hid (btr BV1.out bX12)
   have zX12 : X12.heap[V1.heap.size]? = some (.cells #[.int .u32 0, .int .u32 0] 79 (0, 0)) := by rw [← hX12]; exact World.alloc_heap_new _ _
   have yg13 := BV1.out.size
   obtain ⟨g13, hg13⟩ : ∃ g, V1.heap.size = g := ⟨_, rfl⟩
   rw [hg13] at zX12 yg13
   have ZX12 := hid zX12
   rw [hX12, hg13]
   clear hX12 hg13 zX12 bX12
   refine hK.out _ _ ?_ (fun hHeld => ?_)
   ·(try dsimp only); exact ⟨K0.out _ DX12.out, K1.out _ DX12.out, K2.out _ DX12.out⟩
   clear hK K
   try simp only [lgA, lgB, lgC, Act.put, lsA, lsB, lsC]
   refine wpAnyH_ready (rs := [10]) (by kernel_rfl) (by simp) ?_
   refine (AllReadyH.cons rfl (fun K hK => ?_) AllReadyH.nil)
   go_simp
   obtain ⟨X14, hX14⟩ : ∃ X, X12.alloc (.cells #[.int .u32 0, .int .u32 0] 79) = X := ⟨_, rfl⟩
   have bX14 : Below X12.heap.size X12 X14 := by rw [← hX14]; exact ball _ _
   have r16 := hid (row_on ZX12.out bX14)
   have DX14 := hid (btr DX12.out bX14)
   have zX14 : X14.heap[X12.heap.size]? = some (.cells #[.int .u32 0, .int .u32 0] 79 (0, 0)) := by rw [← hX14]; exact World.alloc_heap_new _ _
   have yg15 := DX12.out.size
   obtain ⟨g15, hg15⟩ : ∃ g, X12.heap.size = g := ⟨_, rfl⟩
   have n17 : g15 ≠ g13 := by have := row_lt ZX12.out; omega
   rw [hg15] at zX14 yg15
   have ZX14 := hid zX14
   rw [hX14, hg15]
   clear hX14 hg15 zX14 bX14
   refine hK.out _ _ ?_ (fun hHeld => ?_)
   ·(try dsimp only); exact ⟨K0.out _ DX14.out, K1.out _ DX14.out, K2.out _ DX14.out⟩
   clear hK K
   try simp only [lgA, lgB, lgC, Act.put, lsA, lsB, lsC]
   refine wpAnyH_ready (rs := [12]) (by kernel_rfl) (by simp) ?_
   refine (AllReadyH.cons rfl (fun K hK => ?_) AllReadyH.nil)
   refine step_store_row (by rfl) 79 (.tmp 4) (.tmp 11) (by rfl) g15 #[.int .u32 bu, .int .u32 ii] (by rfl) (by rfl) 79 _ ZX14.out infoH2 (by rfl) (by simp [Value.oneCell']) ?_
   obtain ⟨Y18, hY18⟩ : ∃ Y, X14.setRow g15 #[.int .u32 bu, .int .u32 ii] = Y := ⟨_, rfl⟩
   have KY18 := hid (show Kp (fun j => j = g15) X14 Y18 from by rw [← hY18]; exact setRow_kp _ _ _)
   have AY18 := hid (show Y18.heap[g15]? = some (.cells #[.int .u32 bu, .int .u32 ii] 79 (0, 0)) from by rw [← hY18]; exact setRow_heap X14 g15 _ _ 79 (0, 0) ZX14.out)
   have DY18 := hid (show Below W.heap.size W Y18 from by rw [← hY18]; exact setRow_below DX14.out yg15)
   have r19 := hid (KY18.out.row r16.out (fun e => n17.symm e))
   rw [hY18]
   refine hK.out _ _ ?_ (fun hHeld => ?_)
   ·(try dsimp only); exact ⟨K0.out _ DY18.out, K1.out _ DY18.out, K2.out _ DY18.out⟩
   clear hK K hY18
   try simp only [lgA, lgB, lgC, Act.put, lsA, lsB, lsC]
   refine wpAnyH_ready (rs := [13]) (by kernel_rfl) (by simp) ?_
   refine (AllReadyH.cons rfl (fun K hK => ?_) AllReadyH.nil)
   refine step_store_row (by rfl) 79 (.tmp 5) (.tmp 16) (by rfl) g13 #[.int .u32 se, .int .u32 ii] (by rfl) (by rfl) 79 _ r19.out infoH2 (by rfl) (by simp [Value.oneCell']) ?_
   obtain ⟨Y20, hY20⟩ : ∃ Y, Y18.setRow g13 #[.int .u32 se, .int .u32 ii] = Y := ⟨_, rfl⟩
   have KY20 := hid (show Kp (fun j => j = g13) Y18 Y20 from by rw [← hY20]; exact setRow_kp _ _ _)
   have AY20 := hid (show Y20.heap[g13]? = some (.cells #[.int .u32 se, .int .u32 ii] 79 (0, 0)) from by rw [← hY20]; exact setRow_heap Y18 g13 _ _ 79 (0, 0) r19.out)
   have DY20 := hid (show Below W.heap.size W Y20 from by rw [← hY20]; exact setRow_below DY18.out yg13)
   have r21 := hid (KY20.out.row AY18.out (fun e => n17 e))
   rw [hY20]
   refine hK.out _ _ ?_ (fun hHeld => ?_)
   ·(try dsimp only); exact ⟨K0.out _ DY20.out, K1.out _ DY20.out, K2.out _ DY20.out⟩
   clear hK K hY20
   try simp only [lgA, lgB, lgC, Act.put, lsA, lsB, lsC]
   refine wpAnyH_done (by kernel_rfl) ?_ _
   exact ⟨(g15, g13), by kernel_rfl, DY20, r21, AY20, hid yg15, hid yg13, hid n17⟩
 ·rintro ⟨p, q⟩ Y ⟨BY, RP, RQ, LP, LQ, NPQ⟩
  dsimp only at BY RP RQ LP LQ NPQ ⊢
  try simp only [lgA, lgB, lgC, Act.put, lsA, lsB, lsC]
  have RD := hid (row_on RW.out BY.out)
  have HMY := hid (HM.out.on (btr BWw.out BY.out))
  have KK := hid (show Kp (fun b => b = M) w Y from Kp.of _ (btr BWw.out BY.out))
  have lk := LK1.out Y HMY.out
  have p0 := row_cell RP.out 0
  have p1 := row_cell RP.out 1
  simp only [lqA, lqB, lqC] at p0 p1
  have HZ := hid (World.alloc_heap_new Y (.cells #[.int .u32 0, .int .u32 0, .int .u64 0, .int .u64 0, .int .u64 0, .int .u64 0] 38))
  clear K0 K1 K2 K3 K4 K5
  go_upto_region 3 with (refine wpList_store_row (by rfl) 38 (.tmp 6) (.tmp 19) (by rfl) Y.heap.size #[.int .u32 0, .int .u32 0, .int .u64 b0, .int .u64 s0, .int .u64 (hiW a0), .int .u64 (loW a0)] (by rfl) (by rfl) 38 _ HZ.out infoN6 (by rfl) (by simp [Value.oneCell']) ?_)
  obtain ⟨X, hX⟩ : ∃ X, (Y.alloc (.cells #[.int .u32 0, .int .u32 0, .int .u64 0, .int .u64 0, .int .u64 0, .int .u64 0] 38)).setRow Y.heap.size #[.int .u32 0, .int .u32 0, .int .u64 b0, .int .u64 s0, .int .u64 (hiW a0), .int .u64 (loW a0)] = X := ⟨_, rfl⟩
  have BX := hid (show Below Y.heap.size Y X from by rw [← hX]; exact setRow_below (ball _ _) (Nat.le_refl _))
  have GX := hid (show X.heap[Y.heap.size]? = some (.cells #[.int .u32 0, .int .u32 0, .int .u64 b0, .int .u64 s0, .int .u64 (hiW a0), .int .u64 (loW a0)] 38 (0, 0)) from by rw [← hX]; exact setRow_heap _ _ _ _ 38 (0, 0) HZ.out)
  rw [hX]
  have LY := hid (show p < Y.heap.size ∧ q < Y.heap.size ∧ W.heap.size ≤ Y.heap.size from ⟨row_lt RP.out, row_lt RQ.out, BY.out.size⟩)
  obtain ⟨y, hy⟩ : ∃ y, Y.heap.size = y := ⟨_, rfl⟩
  rw [hy] at GX LY ⊢
  have SW := hid (show w.heap.size ≤ y ∧ w.heap.size = g3 from ⟨by have := LY.out; have := SM.out; have := G3.out; omega, G3.out⟩)
  have NP := hid (show ¬ p = y ∧ ¬ q = y ∧ ¬ g3 = y ∧ ¬ M = y from by have := LY.out; have := SM.out; exact ⟨by omega, by omega, by omega, by omega⟩)
  have NM := hid (show ¬ p = M ∧ ¬ q = M ∧ ¬ g3 = M ∧ ¬ y = M from by have := LY.out; have := SM.out; have := LP.out; have := LQ.out; exact ⟨by omega, by omega, by omega, by omega⟩)
  have RD := hid (row_on RD.out BX.out)
  have RP := hid (row_on RP.out BX.out)
  have RQ := hid (row_on RQ.out BX.out)
  have HMX := hid (HMY.out.on BX.out)
  have KK := hid (KK.out.trans (Kp.of (fun b => b = M) BX.out) (fun g _ e => e))
  clear hX hy HZ lk p0 p1 BY BX

  have z := row_cell GX.out 2
  have d5 := row_cell RD.out 5
  simp only [lqA, lqB, lqC] at z d5
  have fz := row_frz GX.out 2
  go_upto_region 4 with fail
  obtain ⟨X2, hX2⟩ : ∃ Z9, X.setCell ⟨y, 2, none⟩ (.int .u64 b1) = Z9 := ⟨_, rfl⟩
  have KX2 := hid (show Kp (fun j => j = y) X X2 from by rw [← hX2]; exact Kp.set _ _ _ _)
  have GX2 := hid (show X2.heap[y]? = some (.cells #[.int .u32 0, .int .u32 0, .int .u64 b1, .int .u64 s0, .int .u64 (hiW a0), .int .u64 (loW a0)] 38 (0, 0)) from by rw [← hX2]; exact set_row _ GX.out (by rfl))
  rw [hX2]
  clear hX2 z d5 fz
  have RD := hid (KX2.out.row RD.out NP.out.2.2.1)
  have RP := hid (KX2.out.row RP.out NP.out.1)
  have RQ := hid (KX2.out.row RQ.out NP.out.2.1)
  have KK := hid (KK.out.trans KX2.out (fun g hg e => by have := SW.out; omega))
  have HMX2 := hid (HMX.out.kept KX2.out NP.out.2.2.2)
  clear KX2 GX
  refine reg_cut (X := Unit) (fun a _ => ((((((a.put (some 26) (.pointer (some ⟨y, 4, none⟩))).put (some 27) (.agg #[.int .u64 (hiW a0), .int .u64 (loW a0)])).put (some 28) (.agg #[.int .u32 ii, .int .u32 bu, .int .u32 se, .int .i64 tk, .int .i64 pr, .int .u64 qq])).put (some 29) (.agg #[.int .u64 (hiW v), .int .u64 (loW v)])).put (some 30) (.agg #[.int .u64 (hiW n1), .int .u64 (loW n1)])).put (some 31) (.pointer (some ⟨y, 4, none⟩)))) (fun _ V9 => Hid (Kp (fun j => j = y) X2 V9) ∧ Hid (V9.heap[y]? = some (.cells #[.int .u32 0, .int .u32 0, .int .u64 b1, .int .u64 s0, .int .u64 (hiW n1), .int .u64 (loW n1)] 38 (0, 0)))) ?_ ?_
  ·obtain ⟨V22, hV22⟩ : ∃ U, X2.drew = U := ⟨_, rfl⟩
   have rD23 := hid (row_on RD.out (show Below X2.heap.size X2 V22 from by rw [← hV22]; exact bdrew1 _))
   have rY24 := hid (row_on GX2.out (show Below X2.heap.size X2 V22 from by rw [← hV22]; exact bdrew1 _))
   have kK25 := hid (show Kp (fun j => j = y) X2 V22 from by rw [← hV22]; exact Kp.of _ (bdrew1 _))
   refine wp_region_held_drew (S := (fun U => U.cell? ⟨g3, 0, none⟩ = some (.int .u32 ii) ∧ U.cell? ⟨g3, 1, none⟩ = some (.int .u32 bu) ∧ U.cell? ⟨g3, 2, none⟩ = some (.int .u32 se) ∧ U.cell? ⟨g3, 3, none⟩ = some (.int .i64 tk) ∧ U.cell? ⟨g3, 4, none⟩ = some (.int .i64 pr) ∧ U.cell? ⟨g3, 5, none⟩ = some (.int .u64 qq))) (by kernel_rfl) ?_ (fun hHeld => ?_)
   ·(try dsimp only); rw [hV22]; exact ⟨row_cell rD23.out 0, row_cell rD23.out 1, row_cell rD23.out 2, row_cell rD23.out 3, row_cell rD23.out 4, row_cell rD23.out 5⟩
   rw [hV22] at hHeld ⊢
   clear hV22
   refine' tkz 0 rfl ?_ ?_
   rotate_left
   ·(intro w hSw; (try dsimp only at hSw); go_simp; try (with_reducible rfl))
   try simp only [lgA, lgB, lgC, Act.put, lsA, lsB, lsC]
   refine' tkz 2 rfl ?_ ?_
   rotate_left
   ·(intro w hSw; (try dsimp only at hSw); go_simp; try (with_reducible rfl))
   try simp only [lgA, lgB, lgC, Act.put, lsA, lsB, lsC]
   refine wpAnyH_ready (rs := [1, 3]) (by kernel_rfl) (by simp) ?_
   refine (AllReadyH.cons rfl (fun K hK => ?_) (AllReadyH.cons rfl (fun K hK => ?_) AllReadyH.nil))
   ·have z4 := row_cell rY24.out 4
    have z5 := row_cell rY24.out 5
    simp only [lqA, lqB, lqC] at z4 z5
    go_simp
    refine hK.out _ _ ?_ (fun hHeld => ?_)
    ·(try dsimp only); exact ⟨row_cell rD23.out 0, row_cell rD23.out 1, row_cell rD23.out 2, row_cell rD23.out 3, row_cell rD23.out 4, row_cell rD23.out 5⟩
    clear hK K z4 z5
    try simp only [lgA, lgB, lgC, Act.put, lsA, lsB, lsC]
    refine wpAnyH_ready (rs := [3]) (by kernel_rfl) (by simp) ?_
    refine (AllReadyH.cons rfl (fun K hK => ?_) AllReadyH.nil)
    go_simp
    go_at_call 35
    with_reducible refine (CV.out V22).mono ?_
    rintro e X26 ⟨rfl, DbX26⟩
    have rD27 := hid (row_on rD23.out DbX26)
    have rY28 := hid (row_on rY24.out DbX26)
    have kK29 := hid (kK25.out.trans (Kp.of (fun j => j = y) DbX26) (fun g _ e => e))
    clear DbX26
    (try go_wp2_with fail)
    refine hK.out _ _ ?_ (fun hHeld => ?_)
    ·(try dsimp only); exact ⟨row_cell rD27.out 0, row_cell rD27.out 1, row_cell rD27.out 2, row_cell rD27.out 3, row_cell rD27.out 4, row_cell rD27.out 5⟩
    clear hK K
    try simp only [lgA, lgB, lgC, Act.put, lsA, lsB, lsC]
    refine wpAnyH_ready (rs := [4]) (by kernel_rfl) (by simp) ?_
    refine (AllReadyH.cons rfl (fun K hK => ?_) AllReadyH.nil)
    go_simp
    go_at_call 48
    with_reducible refine (CP.out X26).mono ?_
    rintro e X30 ⟨rfl, DbX30⟩
    have rD31 := hid (row_on rD27.out DbX30)
    have rY32 := hid (row_on rY28.out DbX30)
    have kK33 := hid (kK29.out.trans (Kp.of (fun j => j = y) DbX30) (fun g _ e => e))
    clear DbX30
    (try go_wp2_with fail)
    refine hK.out _ _ ?_ (fun hHeld => ?_)
    ·(try dsimp only); exact ⟨row_cell rD31.out 0, row_cell rD31.out 1, row_cell rD31.out 2, row_cell rD31.out 3, row_cell rD31.out 4, row_cell rD31.out 5⟩
    clear hK K
    try simp only [lgA, lgB, lgC, Act.put, lsA, lsB, lsC]
    refine' tkz 5 rfl ?_ ?_
    rotate_left
    ·(intro w hSw; (try dsimp only at hSw); go_simp; try (with_reducible rfl))
    try simp only [lgA, lgB, lgC, Act.put, lsA, lsB, lsC]
    refine wpAnyH_ready (rs := [6]) (by kernel_rfl) (by simp) ?_
    refine (AllReadyH.cons rfl (fun K hK => ?_) AllReadyH.nil)
    have z4 := row_cell rY32.out 4
    have z5 := row_cell rY32.out 5
    simp only [lqA, lqB, lqC] at z4 z5
    have f4 := row_frz rY32.out 4
    have f5 := row_frz rY32.out 5
    go_simp
    obtain ⟨Y34, hY34⟩ : ∃ Y, (X30.setCell ⟨y, 4, none⟩ (.int .u64 (hiW n1))).setCell ⟨y, 5, none⟩ (.int .u64 (loW n1)) = Y := ⟨_, rfl⟩
    have kx := hid (show Kp (fun j => j = y) X30 Y34 from by rw [← hY34]; exact (Kp.set X30 y _ _).trans (Kp.set _ y _ _) (fun g _ e => e))
    have rD35 := hid (kx.out.row rD31.out NP.out.2.2.1)
    have rY36 := hid (show Y34.heap[y]? = some (.cells #[.int .u32 0, .int .u32 0, .int .u64 b1, .int .u64 s0, .int .u64 (hiW n1), .int .u64 (loW n1)] 38 (0, 0)) from by rw [← hY34]; exact set_row #[.int .u32 0, .int .u32 0, .int .u64 b1, .int .u64 s0, .int .u64 (hiW n1), .int .u64 (loW n1)] (set_row #[.int .u32 0, .int .u32 0, .int .u64 b1, .int .u64 s0, .int .u64 (hiW n1), .int .u64 (loW a0)] rY32.out (by rfl)) (by rfl))
    have kK37 := hid (kK33.out.trans kx.out (fun g _ e => e))
    rw [hY34]
    refine hK.out _ _ ?_ (fun hHeld => ?_)
    ·(try dsimp only); exact ⟨row_cell rD35.out 0, row_cell rD35.out 1, row_cell rD35.out 2, row_cell rD35.out 3, row_cell rD35.out 4, row_cell rD35.out 5⟩
    clear hK K z4 z5 f4 f5 hY34
    try simp only [lgA, lgB, lgC, Act.put, lsA, lsB, lsC]
    refine wpAnyH_done (by kernel_rfl) ?_ _
    exact ⟨(), by kernel_rfl, kK37, rY36⟩
   ·go_simp
    go_at_call 35
    with_reducible refine (CV.out V22).mono ?_
    rintro e X38 ⟨rfl, DbX38⟩
    have rD39 := hid (row_on rD23.out DbX38)
    have rY40 := hid (row_on rY24.out DbX38)
    have kK41 := hid (kK25.out.trans (Kp.of (fun j => j = y) DbX38) (fun g _ e => e))
    clear DbX38
    (try go_wp2_with fail)
    refine hK.out _ _ ?_ (fun hHeld => ?_)
    ·(try dsimp only); exact ⟨row_cell rD39.out 0, row_cell rD39.out 1, row_cell rD39.out 2, row_cell rD39.out 3, row_cell rD39.out 4, row_cell rD39.out 5⟩
    clear hK K
    try simp only [lgA, lgB, lgC, Act.put, lsA, lsB, lsC]
    refine wpAnyH_ready (rs := [1]) (by kernel_rfl) (by simp) ?_
    refine (AllReadyH.cons rfl (fun K hK => ?_) AllReadyH.nil)
    have z4 := row_cell rY40.out 4
    have z5 := row_cell rY40.out 5
    simp only [lqA, lqB, lqC] at z4 z5
    go_simp
    refine hK.out _ _ ?_ (fun hHeld => ?_)
    ·(try dsimp only); exact ⟨row_cell rD39.out 0, row_cell rD39.out 1, row_cell rD39.out 2, row_cell rD39.out 3, row_cell rD39.out 4, row_cell rD39.out 5⟩
    clear hK K z4 z5
    try simp only [lgA, lgB, lgC, Act.put, lsA, lsB, lsC]
    refine wpAnyH_ready (rs := [4]) (by kernel_rfl) (by simp) ?_
    refine (AllReadyH.cons rfl (fun K hK => ?_) AllReadyH.nil)
    go_simp
    go_at_call 48
    with_reducible refine (CP.out X38).mono ?_
    rintro e X42 ⟨rfl, DbX42⟩
    have rD43 := hid (row_on rD39.out DbX42)
    have rY44 := hid (row_on rY40.out DbX42)
    have kK45 := hid (kK41.out.trans (Kp.of (fun j => j = y) DbX42) (fun g _ e => e))
    clear DbX42
    (try go_wp2_with fail)
    refine hK.out _ _ ?_ (fun hHeld => ?_)
    ·(try dsimp only); exact ⟨row_cell rD43.out 0, row_cell rD43.out 1, row_cell rD43.out 2, row_cell rD43.out 3, row_cell rD43.out 4, row_cell rD43.out 5⟩
    clear hK K
    try simp only [lgA, lgB, lgC, Act.put, lsA, lsB, lsC]
    refine' tkz 5 rfl ?_ ?_
    rotate_left
    ·(intro w hSw; (try dsimp only at hSw); go_simp; try (with_reducible rfl))
    try simp only [lgA, lgB, lgC, Act.put, lsA, lsB, lsC]
    refine wpAnyH_ready (rs := [6]) (by kernel_rfl) (by simp) ?_
    refine (AllReadyH.cons rfl (fun K hK => ?_) AllReadyH.nil)
    have z4 := row_cell rY44.out 4
    have z5 := row_cell rY44.out 5
    simp only [lqA, lqB, lqC] at z4 z5
    have f4 := row_frz rY44.out 4
    have f5 := row_frz rY44.out 5
    go_simp
    obtain ⟨Y46, hY46⟩ : ∃ Y, (X42.setCell ⟨y, 4, none⟩ (.int .u64 (hiW n1))).setCell ⟨y, 5, none⟩ (.int .u64 (loW n1)) = Y := ⟨_, rfl⟩
    have kx := hid (show Kp (fun j => j = y) X42 Y46 from by rw [← hY46]; exact (Kp.set X42 y _ _).trans (Kp.set _ y _ _) (fun g _ e => e))
    have rD47 := hid (kx.out.row rD43.out NP.out.2.2.1)
    have rY48 := hid (show Y46.heap[y]? = some (.cells #[.int .u32 0, .int .u32 0, .int .u64 b1, .int .u64 s0, .int .u64 (hiW n1), .int .u64 (loW n1)] 38 (0, 0)) from by rw [← hY46]; exact set_row #[.int .u32 0, .int .u32 0, .int .u64 b1, .int .u64 s0, .int .u64 (hiW n1), .int .u64 (loW n1)] (set_row #[.int .u32 0, .int .u32 0, .int .u64 b1, .int .u64 s0, .int .u64 (hiW n1), .int .u64 (loW a0)] rY44.out (by rfl)) (by rfl))
    have kK49 := hid (kK45.out.trans kx.out (fun g _ e => e))
    rw [hY46]
    refine hK.out _ _ ?_ (fun hHeld => ?_)
    ·(try dsimp only); exact ⟨row_cell rD47.out 0, row_cell rD47.out 1, row_cell rD47.out 2, row_cell rD47.out 3, row_cell rD47.out 4, row_cell rD47.out 5⟩
    clear hK K z4 z5 f4 f5 hY46
    try simp only [lgA, lgB, lgC, Act.put, lsA, lsB, lsC]
    refine wpAnyH_done (by kernel_rfl) ?_ _
    exact ⟨(), by kernel_rfl, kK49, rY48⟩
  ·rintro _ V4 ⟨KV4, GV4⟩
   try simp only [lgA, lgB, lgC, Act.put, lsA, lsB, lsC]
   have RD := hid (KV4.out.row RD.out NP.out.2.2.1)
   have RP := hid (KV4.out.row RP.out NP.out.1)
   have RQ := hid (KV4.out.row RQ.out NP.out.2.1)
   have KK := hid (KK.out.trans KV4.out (fun g hg e => by have := SW.out; omega))
   have HM4 := hid (HMX2.out.kept KV4.out NP.out.2.2.2)
   clear KV4 GX2
   obtain ⟨V5, hmu, hM, hK⟩ := PT1.out _ HM4.out
   have HM5 := hid hM
   have KV5 := hid hK
   clear hM hK
   have p0 := row_cell RP.out 0
   have p1 := row_cell RP.out 1
   have y0 := row_cell GV4.out 0
   have y1 := row_cell GV4.out 1
   have y2 := row_cell GV4.out 2
   have y3 := row_cell GV4.out 3
   have y4 := row_cell GV4.out 4
   have y5 := row_cell GV4.out 5
   simp only [lqA, lqB, lqC] at p0 p1 y0 y1 y2 y3 y4 y5
   go_upto_region 6 with fail
   clear hmu p0 p1 y0 y1 y2 y3 y4 y5
   have RD := hid (KV5.out.row RD.out NM.out.2.2.1)
   have RP := hid (KV5.out.row RP.out NM.out.1)
   have RQ := hid (KV5.out.row RQ.out NM.out.2.1)
   have KK := hid (KK.out.trans KV5.out (fun g hg e => e))
   have GV5 := hid (KV5.out.row GV4.out NM.out.2.2.2)
   clear KV5 GV4
   have lk := LK2.out V5 HM5.out
   have p0 := row_cell RQ.out 0
   have p1 := row_cell RQ.out 1
   simp only [lqA, lqB, lqC] at p0 p1
   go_upto_region 7 with (refine wpList_store_row (by rfl) 38 (.tmp 6) (.tmp 37) (by rfl) y #[.int .u32 0, .int .u32 0, .int .u64 b2, .int .u64 s2, .int .u64 (hiW a2), .int .u64 (loW a2)] (by rfl) (by rfl) 38 _ GV5.out infoN6 (by rfl) (by simp [Value.oneCell']) ?_)
   obtain ⟨V6, hV6⟩ : ∃ X, V5.setRow y #[.int .u32 0, .int .u32 0, .int .u64 b2, .int .u64 s2, .int .u64 (hiW a2), .int .u64 (loW a2)] = X := ⟨_, rfl⟩
   have KV6 := hid (show Kp (fun j => j = y) V5 V6 from by rw [← hV6]; exact setRow_kp _ _ _)
   have GV6 := hid (show V6.heap[y]? = some (.cells #[.int .u32 0, .int .u32 0, .int .u64 b2, .int .u64 s2, .int .u64 (hiW a2), .int .u64 (loW a2)] 38 (0, 0)) from by rw [← hV6]; exact setRow_heap _ _ _ _ 38 (0, 0) GV5.out)
   rw [hV6]
   clear hV6 lk p0 p1
   have RD := hid (KV6.out.row RD.out NP.out.2.2.1)
   have RP := hid (KV6.out.row RP.out NP.out.1)
   have RQ := hid (KV6.out.row RQ.out NP.out.2.1)
   have KK := hid (KK.out.trans KV6.out (fun g hg e => by have := SW.out; omega))
   have HM6 := hid (HM5.out.kept KV6.out NP.out.2.2.2)
   clear KV6 GV5

   have z := row_cell GV6.out 3
   have d5 := row_cell RD.out 5
   simp only [lqA, lqB, lqC] at z d5
   have fz := row_frz GV6.out 3
   go_upto_region 8 with fail
   obtain ⟨V7, hX2⟩ : ∃ Z9, V6.setCell ⟨y, 3, none⟩ (.int .u64 s3) = Z9 := ⟨_, rfl⟩
   have KX2 := hid (show Kp (fun j => j = y) V6 V7 from by rw [← hX2]; exact Kp.set _ _ _ _)
   have GV7 := hid (show V7.heap[y]? = some (.cells #[.int .u32 0, .int .u32 0, .int .u64 b2, .int .u64 s3, .int .u64 (hiW a2), .int .u64 (loW a2)] 38 (0, 0)) from by rw [← hX2]; exact set_row _ GV6.out (by rfl))
   rw [hX2]
   clear hX2 z d5 fz
   have RD := hid (KX2.out.row RD.out NP.out.2.2.1)
   have RP := hid (KX2.out.row RP.out NP.out.1)
   have RQ := hid (KX2.out.row RQ.out NP.out.2.1)
   have KK := hid (KK.out.trans KX2.out (fun g hg e => by have := SW.out; omega))
   have HM7 := hid (HM6.out.kept KX2.out NP.out.2.2.2)
   clear KX2 GV6
   refine reg_cut (X := Unit) (fun a _ => ((((((a.put (some 44) (.pointer (some ⟨y, 4, none⟩))).put (some 45) (.agg #[.int .u64 (hiW a2), .int .u64 (loW a2)])).put (some 46) (.agg #[.int .u32 ii, .int .u32 bu, .int .u32 se, .int .i64 tk, .int .i64 pr, .int .u64 qq])).put (some 47) (.agg #[.int .u64 (hiW v), .int .u64 (loW v)])).put (some 48) (.agg #[.int .u64 (hiW n2), .int .u64 (loW n2)])).put (some 49) (.pointer (some ⟨y, 4, none⟩)))) (fun _ V9 => Hid (Kp (fun j => j = y) V7 V9) ∧ Hid (V9.heap[y]? = some (.cells #[.int .u32 0, .int .u32 0, .int .u64 b2, .int .u64 s3, .int .u64 (hiW n2), .int .u64 (loW n2)] 38 (0, 0)))) ?_ ?_
   ·obtain ⟨V50, hV50⟩ : ∃ U, V7.drew = U := ⟨_, rfl⟩
    have rD51 := hid (row_on RD.out (show Below V7.heap.size V7 V50 from by rw [← hV50]; exact bdrew1 _))
    have rY52 := hid (row_on GV7.out (show Below V7.heap.size V7 V50 from by rw [← hV50]; exact bdrew1 _))
    have kK53 := hid (show Kp (fun j => j = y) V7 V50 from by rw [← hV50]; exact Kp.of _ (bdrew1 _))
    refine wp_region_held_drew (S := (fun U => U.cell? ⟨g3, 0, none⟩ = some (.int .u32 ii) ∧ U.cell? ⟨g3, 1, none⟩ = some (.int .u32 bu) ∧ U.cell? ⟨g3, 2, none⟩ = some (.int .u32 se) ∧ U.cell? ⟨g3, 3, none⟩ = some (.int .i64 tk) ∧ U.cell? ⟨g3, 4, none⟩ = some (.int .i64 pr) ∧ U.cell? ⟨g3, 5, none⟩ = some (.int .u64 qq))) (by kernel_rfl) ?_ (fun hHeld => ?_)
    ·(try dsimp only); rw [hV50]; exact ⟨row_cell rD51.out 0, row_cell rD51.out 1, row_cell rD51.out 2, row_cell rD51.out 3, row_cell rD51.out 4, row_cell rD51.out 5⟩
    rw [hV50] at hHeld ⊢
    clear hV50
    refine' tkz 0 rfl ?_ ?_
    rotate_left
    ·(intro w hSw; (try dsimp only at hSw); go_simp; try (with_reducible rfl))
    try simp only [lgA, lgB, lgC, Act.put, lsA, lsB, lsC]
    refine' tkz 2 rfl ?_ ?_
    rotate_left
    ·(intro w hSw; (try dsimp only at hSw); go_simp; try (with_reducible rfl))
    try simp only [lgA, lgB, lgC, Act.put, lsA, lsB, lsC]
    refine wpAnyH_ready (rs := [1, 3]) (by kernel_rfl) (by simp) ?_
    refine (AllReadyH.cons rfl (fun K hK => ?_) (AllReadyH.cons rfl (fun K hK => ?_) AllReadyH.nil))
    ·have z4 := row_cell rY52.out 4
     have z5 := row_cell rY52.out 5
     simp only [lqA, lqB, lqC] at z4 z5
     go_simp
     refine hK.out _ _ ?_ (fun hHeld => ?_)
     ·(try dsimp only); exact ⟨row_cell rD51.out 0, row_cell rD51.out 1, row_cell rD51.out 2, row_cell rD51.out 3, row_cell rD51.out 4, row_cell rD51.out 5⟩
     clear hK K z4 z5
     try simp only [lgA, lgB, lgC, Act.put, lsA, lsB, lsC]
     refine wpAnyH_ready (rs := [3]) (by kernel_rfl) (by simp) ?_
     refine (AllReadyH.cons rfl (fun K hK => ?_) AllReadyH.nil)
     go_simp
     go_at_call 35
     with_reducible refine (CV.out V50).mono ?_
     rintro e X54 ⟨rfl, DbX54⟩
     have rD55 := hid (row_on rD51.out DbX54)
     have rY56 := hid (row_on rY52.out DbX54)
     have kK57 := hid (kK53.out.trans (Kp.of (fun j => j = y) DbX54) (fun g _ e => e))
     clear DbX54
     (try go_wp2_with fail)
     refine hK.out _ _ ?_ (fun hHeld => ?_)
     ·(try dsimp only); exact ⟨row_cell rD55.out 0, row_cell rD55.out 1, row_cell rD55.out 2, row_cell rD55.out 3, row_cell rD55.out 4, row_cell rD55.out 5⟩
     clear hK K
     try simp only [lgA, lgB, lgC, Act.put, lsA, lsB, lsC]
     refine wpAnyH_ready (rs := [4]) (by kernel_rfl) (by simp) ?_
     refine (AllReadyH.cons rfl (fun K hK => ?_) AllReadyH.nil)
     go_simp
     go_at_call 49
     with_reducible refine (CL.out X54).mono ?_
     rintro e X58 ⟨rfl, DbX58⟩
     have rD59 := hid (row_on rD55.out DbX58)
     have rY60 := hid (row_on rY56.out DbX58)
     have kK61 := hid (kK57.out.trans (Kp.of (fun j => j = y) DbX58) (fun g _ e => e))
     clear DbX58
     (try go_wp2_with fail)
     refine hK.out _ _ ?_ (fun hHeld => ?_)
     ·(try dsimp only); exact ⟨row_cell rD59.out 0, row_cell rD59.out 1, row_cell rD59.out 2, row_cell rD59.out 3, row_cell rD59.out 4, row_cell rD59.out 5⟩
     clear hK K
     try simp only [lgA, lgB, lgC, Act.put, lsA, lsB, lsC]
     refine' tkz 5 rfl ?_ ?_
     rotate_left
     ·(intro w hSw; (try dsimp only at hSw); go_simp; try (with_reducible rfl))
     try simp only [lgA, lgB, lgC, Act.put, lsA, lsB, lsC]
     refine wpAnyH_ready (rs := [6]) (by kernel_rfl) (by simp) ?_
     refine (AllReadyH.cons rfl (fun K hK => ?_) AllReadyH.nil)
     have z4 := row_cell rY60.out 4
     have z5 := row_cell rY60.out 5
     simp only [lqA, lqB, lqC] at z4 z5
     have f4 := row_frz rY60.out 4
     have f5 := row_frz rY60.out 5
     go_simp
     obtain ⟨Y62, hY62⟩ : ∃ Y, (X58.setCell ⟨y, 4, none⟩ (.int .u64 (hiW n2))).setCell ⟨y, 5, none⟩ (.int .u64 (loW n2)) = Y := ⟨_, rfl⟩
     have kx := hid (show Kp (fun j => j = y) X58 Y62 from by rw [← hY62]; exact (Kp.set X58 y _ _).trans (Kp.set _ y _ _) (fun g _ e => e))
     have rD63 := hid (kx.out.row rD59.out NP.out.2.2.1)
     have rY64 := hid (show Y62.heap[y]? = some (.cells #[.int .u32 0, .int .u32 0, .int .u64 b2, .int .u64 s3, .int .u64 (hiW n2), .int .u64 (loW n2)] 38 (0, 0)) from by rw [← hY62]; exact set_row #[.int .u32 0, .int .u32 0, .int .u64 b2, .int .u64 s3, .int .u64 (hiW n2), .int .u64 (loW n2)] (set_row #[.int .u32 0, .int .u32 0, .int .u64 b2, .int .u64 s3, .int .u64 (hiW n2), .int .u64 (loW a2)] rY60.out (by rfl)) (by rfl))
     have kK65 := hid (kK61.out.trans kx.out (fun g _ e => e))
     rw [hY62]
     refine hK.out _ _ ?_ (fun hHeld => ?_)
     ·(try dsimp only); exact ⟨row_cell rD63.out 0, row_cell rD63.out 1, row_cell rD63.out 2, row_cell rD63.out 3, row_cell rD63.out 4, row_cell rD63.out 5⟩
     clear hK K z4 z5 f4 f5 hY62
     try simp only [lgA, lgB, lgC, Act.put, lsA, lsB, lsC]
     refine wpAnyH_done (by kernel_rfl) ?_ _
     exact ⟨(), by kernel_rfl, kK65, rY64⟩
    ·go_simp
     go_at_call 35
     with_reducible refine (CV.out V50).mono ?_
     rintro e X66 ⟨rfl, DbX66⟩
     have rD67 := hid (row_on rD51.out DbX66)
     have rY68 := hid (row_on rY52.out DbX66)
     have kK69 := hid (kK53.out.trans (Kp.of (fun j => j = y) DbX66) (fun g _ e => e))
     clear DbX66
     (try go_wp2_with fail)
     refine hK.out _ _ ?_ (fun hHeld => ?_)
     ·(try dsimp only); exact ⟨row_cell rD67.out 0, row_cell rD67.out 1, row_cell rD67.out 2, row_cell rD67.out 3, row_cell rD67.out 4, row_cell rD67.out 5⟩
     clear hK K
     try simp only [lgA, lgB, lgC, Act.put, lsA, lsB, lsC]
     refine wpAnyH_ready (rs := [1]) (by kernel_rfl) (by simp) ?_
     refine (AllReadyH.cons rfl (fun K hK => ?_) AllReadyH.nil)
     have z4 := row_cell rY68.out 4
     have z5 := row_cell rY68.out 5
     simp only [lqA, lqB, lqC] at z4 z5
     go_simp
     refine hK.out _ _ ?_ (fun hHeld => ?_)
     ·(try dsimp only); exact ⟨row_cell rD67.out 0, row_cell rD67.out 1, row_cell rD67.out 2, row_cell rD67.out 3, row_cell rD67.out 4, row_cell rD67.out 5⟩
     clear hK K z4 z5
     try simp only [lgA, lgB, lgC, Act.put, lsA, lsB, lsC]
     refine wpAnyH_ready (rs := [4]) (by kernel_rfl) (by simp) ?_
     refine (AllReadyH.cons rfl (fun K hK => ?_) AllReadyH.nil)
     go_simp
     go_at_call 49
     with_reducible refine (CL.out X66).mono ?_
     rintro e X70 ⟨rfl, DbX70⟩
     have rD71 := hid (row_on rD67.out DbX70)
     have rY72 := hid (row_on rY68.out DbX70)
     have kK73 := hid (kK69.out.trans (Kp.of (fun j => j = y) DbX70) (fun g _ e => e))
     clear DbX70
     (try go_wp2_with fail)
     refine hK.out _ _ ?_ (fun hHeld => ?_)
     ·(try dsimp only); exact ⟨row_cell rD71.out 0, row_cell rD71.out 1, row_cell rD71.out 2, row_cell rD71.out 3, row_cell rD71.out 4, row_cell rD71.out 5⟩
     clear hK K
     try simp only [lgA, lgB, lgC, Act.put, lsA, lsB, lsC]
     refine' tkz 5 rfl ?_ ?_
     rotate_left
     ·(intro w hSw; (try dsimp only at hSw); go_simp; try (with_reducible rfl))
     try simp only [lgA, lgB, lgC, Act.put, lsA, lsB, lsC]
     refine wpAnyH_ready (rs := [6]) (by kernel_rfl) (by simp) ?_
     refine (AllReadyH.cons rfl (fun K hK => ?_) AllReadyH.nil)
     have z4 := row_cell rY72.out 4
     have z5 := row_cell rY72.out 5
     simp only [lqA, lqB, lqC] at z4 z5
     have f4 := row_frz rY72.out 4
     have f5 := row_frz rY72.out 5
     go_simp
     obtain ⟨Y74, hY74⟩ : ∃ Y, (X70.setCell ⟨y, 4, none⟩ (.int .u64 (hiW n2))).setCell ⟨y, 5, none⟩ (.int .u64 (loW n2)) = Y := ⟨_, rfl⟩
     have kx := hid (show Kp (fun j => j = y) X70 Y74 from by rw [← hY74]; exact (Kp.set X70 y _ _).trans (Kp.set _ y _ _) (fun g _ e => e))
     have rD75 := hid (kx.out.row rD71.out NP.out.2.2.1)
     have rY76 := hid (show Y74.heap[y]? = some (.cells #[.int .u32 0, .int .u32 0, .int .u64 b2, .int .u64 s3, .int .u64 (hiW n2), .int .u64 (loW n2)] 38 (0, 0)) from by rw [← hY74]; exact set_row #[.int .u32 0, .int .u32 0, .int .u64 b2, .int .u64 s3, .int .u64 (hiW n2), .int .u64 (loW n2)] (set_row #[.int .u32 0, .int .u32 0, .int .u64 b2, .int .u64 s3, .int .u64 (hiW n2), .int .u64 (loW a2)] rY72.out (by rfl)) (by rfl))
     have kK77 := hid (kK73.out.trans kx.out (fun g _ e => e))
     rw [hY74]
     refine hK.out _ _ ?_ (fun hHeld => ?_)
     ·(try dsimp only); exact ⟨row_cell rD75.out 0, row_cell rD75.out 1, row_cell rD75.out 2, row_cell rD75.out 3, row_cell rD75.out 4, row_cell rD75.out 5⟩
     clear hK K z4 z5 f4 f5 hY74
     try simp only [lgA, lgB, lgC, Act.put, lsA, lsB, lsC]
     refine wpAnyH_done (by kernel_rfl) ?_ _
     exact ⟨(), by kernel_rfl, kK77, rY76⟩
   ·rintro _ V8 ⟨KV8, GV8⟩
    try simp only [lgA, lgB, lgC, Act.put, lsA, lsB, lsC]
    have RD := hid (KV8.out.row RD.out NP.out.2.2.1)
    have RP := hid (KV8.out.row RP.out NP.out.1)
    have RQ := hid (KV8.out.row RQ.out NP.out.2.1)
    have KK := hid (KK.out.trans KV8.out (fun g hg e => by have := SW.out; omega))
    have HM8 := hid (HM7.out.kept KV8.out NP.out.2.2.2)
    clear KV8 GV7
    obtain ⟨V9, hmu, hM, hK⟩ := PT2.out _ HM8.out
    have HM9 := hid hM
    have KV5 := hid hK
    clear hM hK
    have p0 := row_cell RQ.out 0
    have p1 := row_cell RQ.out 1
    have y0 := row_cell GV8.out 0
    have y1 := row_cell GV8.out 1
    have y2 := row_cell GV8.out 2
    have y3 := row_cell GV8.out 3
    have y4 := row_cell GV8.out 4
    have y5 := row_cell GV8.out 5
    simp only [lqA, lqB, lqC] at p0 p1 y0 y1 y2 y3 y4 y5
    have KK := hid (KK.out.trans KV5.out (fun g hg e => e))
    go_wp2
    go_end0
    exact ⟨rfl, HM9.out, KK.out⟩
end Go.Proofs.YtlhbgaiiehljpaaGreat.Ac
