/-
  LvP
-/
import Derived.Test.YtlhbgaiiehljpaaGreatGAa
import Derived.Test.YtlhbgaiiehljpaaGreatGBa
namespace Go.Proofs.YtlhbgaiiehljpaaGreat.Ac
open List renaming getElem?_toArray → lqA, getElem?_cons_succ → lqB, getElem?_cons_zero → lqC
open List renaming getElem_toArray → lgA, getElem_cons_succ → lgB, getElem_cons_zero → lgC, setIfInBounds_toArray → lsA, set_cons_zero → lsB, set_cons_succ → lsC
open Go.RowKit Go.Deep Go.Maps MonM Go.Proofs.YtlhbgaiiehljpaaGreat
set_option linter.unusedVariables false
set_option linter.unusedSimpArgs false
set_option maxHeartbeats 8000000
set_option maxRecDepth 100000
attribute [local go_sem ↓] Go.wp_at_zero Go.wp_at_succ
def stepL (f0 : HoP) (pr : Int) (l : List (Nat × Sv)) (k : Int × Int) : List (Nat × Sv) := sset l { gm l k.1 with m := k.1, mg := maddV (gm l k.1).mg (maddV (pr * ((f0 k).getD p0).q) (-((f0 k).getD p0).v)) }
def stepF (f0 : HoP) (pr : Int) (f : HoP) (k : Int × Int) : HoP := upd f k ⟨((f0 k).getD p0).q, pr * ((f0 k).getD p0).q⟩
/-- what was settled. -/
structure Sd (f0 : HoP) (lf : Int × Int → Bool) (ks : List (Int × Int)) : Prop where
 nd : ks.Nodup
 ok : ∀ k ∈ ks, kvP.ok k ∧ (f0 k).isSome = true
 lf : ∀ k, kvP.ok k → (lf k = true ↔ (f0 k).isSome = true ∧ k ∉ ks)
def AmtL (l : List (Nat × Sv)) : Prop := ∀ y ∈ l, Amt y.2.mg
theorem stepF_other (f0 : HoP) (pr : Int) : ∀ (ks : List (Int × Int)) (f : HoP) (k : Int × Int), k ∉ ks → ks.foldl (stepF f0 pr) f k = f k
 | [], f, k, _ => rfl
 | a :: r, f, k, h => by
  simp only [List.foldl_cons]
  rw [stepF_other f0 pr r _ k (fun e => h (List.mem_cons_of_mem _ e))]
  exact upd_other _ _ (fun e => h (by rw [e]; exact List.mem_cons_self ..))
/-- what is asked of positions and members. -/
structure SOk (f0 : HoP) (ri : Int) (l : List (Nat × Sv)) : Prop where
 i : ∀ k x, f0 k = some x → k.2 = ri ∧ x.q ≠ 0 ∧ (-1099511627776 ≤ x.q ∧ x.q ≤ 1099511627776) ∧ Amt x.v ∧ ∃ y ∈ l, y.2.m = k.1
 a : AmtL l
theorem SOk.on {f0 : HoP} {ri : Int} {l : List (Nat × Sv)} (h : SOk f0 ri l) (s : Sv) (hs : Amt s.mg) : SOk f0 ri (sset l s) where
 i := fun k x e => by
  obtain ⟨h1, h2, h3, h4, y, hy, h5⟩ := h.i k x e
  refine ⟨h1, h2, h3, h4, _, List.mem_map.2 ⟨y, hy, rfl⟩, ?_⟩
  by_cases c : y.2.m = s.m
  ·simp only [if_pos c]; exact c.symm.trans h5
  ·simp only [if_neg c]; exact h5
 a := fun x hx => by
  rcases sset_mem hx with ⟨e, _⟩ | ⟨hx, _⟩
  ·rw [e]; exact hs
  ·exact h.a x hx
theorem settle_any {H : Nat} {o : Int} {p : Option Addr} {c : Nat} {l0 : List (Nat × Sv)} {b : Nat} {n : Nat} {f0 : HoP} (w : World) (h : Ho w H o p c l0 (some b) n f0) (hn : n < 1000000000) (ri rp ra rb : Int) (M nr : Nat) (hm : Mp kvR w M nr (upd (fun _ => none) ri ⟨ri, rp, ra, rb⟩)) (hMb : M ≠ b) (q0 : 0 ≤ rp) (q1 : rp < 262144) (hs : SOk f0 ri l0) :
  Calls Tryz.prog 41 #[pb H, .map (some M)] w fun e w' => e = .returned (.tuple #[]) ∧ ∃ lf ks, Sd f0 lf ks ∧ (∀ k, kvP.ok k → lf k = false) ∧ Ho w' H o p c (ks.foldl (stepL f0 rp) l0) (some b) n (ks.foldl (stepF f0 rp) f0) ∧ SOk f0 ri (ks.foldl (stepL f0 rp) l0) ∧ Kp (Ob H p (bks l0) (some b)) w w' := by
 have hmb := row_lt (Mp.obj h.mp).choose_spec.choose_spec
 have k2 := row_cell (hid h.row).out 2
 simp only [lqA, lqB, lqC] at k2
 obtain ⟨V, cnt, hrun, hmr, hcn, hbv⟩ := Mp.range h.mp okP
 have hrun : (Instr.range 98 (.map (some b))).run Tryz.prog w = .ok (.pointer (some ⟨w.heap.size, 0, none⟩)) V := hrun
 obtain ⟨r, hr⟩ : ∃ r, w.heap.size = r := ⟨_, rfl⟩
 rw [hr] at hrun hmr
 have HMR := hid hmr
 have HRR := hid hr
 have HN := hid hn
 have HQ := hid (And.intro q0 q1)
 have HVo := hid (h.on hbv)
 have HVm := hid (hm.on hbv)
 have HKV := hid (Kp.of (Ob H p (bks l0) (some b)) hbv)
 have HS := hid hs
 have HMb := hid hMb
 have HRB := hid (show r ≠ b ∧ r ≠ M from ⟨by omega, by have := hm.lt; omega⟩)
 have HRO := hid (show ¬ Ob H p (bks l0) (some b) r from fun e => by have := h.lt e; omega)
 clear hmr hbv hr hcn hs hm hMb h hmb hn q0 q1
 go_enter Tryz.func41, Tryz.ntmps41
 go_wp2
 try go_frame
 go_loopg [] (cnt) (fun kk wr => ∃ (lf : Int × Int → Bool) (ks : List (Int × Int)) (l : List (Nat × Sv)) (f : HoP), Hid (Sd f0 lf ks) ∧ Hid (Ho wr H o p c l (some b) n f) ∧ Hid (l = ks.foldl (stepL f0 rp) l0 ∧ f = ks.foldl (stepF f0 rp) f0 ∧ bks l = bks l0) ∧ Hid (SOk f0 ri l) ∧ Hid (Mr kvP wr b r n f lf kk) ∧ Hid (Mp kvR wr M nr (upd (fun _ => none) ri ⟨ri, rp, ra, rb⟩)) ∧ Hid (Kp (Ob H p (bks l0) (some b)) w wr))
 case atStart => exact ⟨_, [], l0, f0, ⟨List.nodup_nil, fun k h => by (cases h), fun k _ => by simp⟩, HVo, ⟨rfl, rfl, rfl⟩, HS, HMR, HVm, HKV⟩
 case round =>
  obtain ⟨lf, ks, l, f, HSD, HO, HE, HSO, HR, HM, HK⟩ := hrel
  clear hrun k2 HVo HVm HKV HMR
  rcases HR.out.nextv okP kvallP with ⟨h0, hdone⟩ | ⟨x, pvx, wn, cn, hok, hlf, hfx, hnext, hentry, hmr, hlt, hko⟩
  ·have H0 := hid h0
   clear h0
   go_wp2
   go_end0
   refine ⟨rfl, lf, ks, HSD.out, H0.out, ?_, ?_, HK.out⟩
   ·rw [← HE.out.1, ← HE.out.2.1]; exact HO.out
   ·rw [← HE.out.1]; exact HSO.out
  ·obtain ⟨m, i⟩ := x
   obtain ⟨q, v⟩ := pvx
   have hsd := (HSD.out.lf (m, i) hok).1 hlf
   obtain ⟨pv0, hf0⟩ := Option.isSome_iff_exists.1 hsd.1
   have e0 : (⟨q, v⟩ : Pv) = pv0 := by
    rw [HE.out.2.1, stepF_other f0 rp ks f0 (m, i) hsd.2, hf0] at hfx
    exact (Option.some.inj hfx).symm
   subst e0
   obtain ⟨ei, hq, hqb, hv, ⟨yb, ym, yf, yg, yc, yo⟩, hy, em⟩ := HSO.out.i _ _ hf0
   have ei : i = ri := ei
   have em : ym = m := em
   subst ei em
   have hq : q ≠ 0 := hq
   have hqb : -1099511627776 ≤ q ∧ q ≤ 1099511627776 := hqb
   have hv : Amt v := hv
   have HY := hid hy
   have hgm := gm_of HO.out.up hy
   have hyg : Amt yg := HSO.out.a _ hy
   have hnext : ∀ ty, (Instr.next (.pointer (some ⟨r, 0, none⟩)) false ty).run Tryz.prog wr = .ok (.tuple #[.bool true, .agg #[.int .u32 ym, .int .u32 i], .agg #[.int .i64 q, .int .u64 (hiW v), .int .u64 (loW v)]]) wn := hnext
   have hentry : (Instr.entry (.pointer (some ⟨r, 0, none⟩))).run Tryz.prog wn = .ok (.tuple #[.agg #[.int .u32 ym, .int .u32 i], .agg #[.int .i64 q, .int .u64 (hiW v), .int .u64 (loW v)]]) wn := hentry
   obtain ⟨m, rfl⟩ : ∃ m, m = ym := ⟨_, rfl⟩
   have HMN := hid hmr
   have HLT := hid hlt
   have HUM := hid (show U32 m from hok.1)
   have HUI := hid (show U32 i from hok.2)
   have HKN := hid hko
   have HON := hid (HO.out.kept hko (fun j hj e => HRO.out (by rw [e] at hj; rw [← HE.out.2.2]; exact hj)))
   have HMMn := hid (HM.out.kept hko (fun e => HRB.out.2 e.symm))
   have CW := hid (fun U => worth_any ⟨q, v⟩ rp U HQ.out.1 HQ.out.2 hqb.1 hqb.2)
   obtain ⟨u, hu⟩ : ∃ u, rp * q = u := ⟨_, rfl⟩
   have CW := hid (show ∀ U, Calls Tryz.prog 70 #[.agg #[.int .i64 q, .int .u64 (hiW v), .int .u64 (loW v)], .int .i64 rp] U fun e w' => e = .returned (mv u) ∧ Below U.heap.size U w' from by rw [← hu]; exact CW.out)
   have hua : Amt u := by
    rw [← hu]
    by_cases c : 0 ≤ q
    ·exact mul_bd HQ.out.1 HQ.out.2 c hqb.2
    ·have h1 := mul_bd (b := -q) HQ.out.1 HQ.out.2 (by omega) (by omega)
     have h2 := amt_neg _ h1
     rw [Int.mul_neg, Int.neg_neg] at h2
     exact h2
   have CL := hid (fun U => less_any u v U hua hv)
   obtain ⟨d, hd⟩ : ∃ d, maddV u (-v) = d := ⟨_, rfl⟩
   rw [hd] at CL
   have CP := hid (fun U => plus_any yg d U hyg (by rw [← hd]; exact madd_amt _ _))
   obtain ⟨e0, he0⟩ : ∃ e0, maddV yg d = e0 := ⟨_, rfl⟩
   rw [he0] at CP
   have HE0 := hid (show Amt e0 from by rw [← he0]; exact madd_amt _ _)
   have HST := hid (show stepL f0 rp l (m, i) = sset l ⟨m, yf, e0, yc, yo⟩ from by
    unfold stepL
    rw [hf0]
    have hgm : gm l m = ⟨m, yf, yg, yc, yo⟩ := hgm
    simp only [hgm, Option.getD_some, hu, hd, he0])
   have HSF := hid (show stepF f0 rp f (m, i) = upd f (m, i) ⟨q, u⟩ from by
    unfold stepF
    rw [hf0]
    simp only [Option.getD_some, hu])
   have HSD2 := hid (show Sd f0 (fun x => lf x && !(decide (x = (m, i)))) (ks ++ [(m, i)]) from ⟨by
    rw [List.nodup_append]
    exact ⟨HSD.out.nd, by simp, fun a ha b hb e => by simp at hb; subst hb; subst e; exact hsd.2 ha⟩, fun k hk => by
    rcases List.mem_append.1 hk with hk | hk
    ·exact HSD.out.ok k hk
    ·simp at hk; subst hk; exact ⟨hok, hsd.1⟩, fun k hk => by
    have h1 := HSD.out.lf k hk
    by_cases c : k = (m, i)
    ·subst c; simp
    ·simp only [c, decide_false, Bool.not_false, Bool.and_true, List.mem_append, List.mem_singleton, or_false]; exact h1⟩)
   have HFS := hid (show (f (m, i)).isSome = true from by rw [hfx]; rfl)
   have HQN := hid hq
   have qa := hqb.1
   have qb := hqb.2
   unfold mv at CW CL CP
   clear hok hlf hmr hlt hko hfx hsd hf0 hy hgm hyg hu hua hd he0 hv hqb hq
   obtain ⟨gA, hgA⟩ : ∃ g, wn.heap.size = g := ⟨_, rfl⟩
   obtain ⟨Wx, hWx⟩ : ∃ W, wn.alloc (.cells #[.int .u32 0, .int .u32 0] 79) = W := ⟨_, rfl⟩
   obtain ⟨gB, hgB⟩ : ∃ g, Wx.heap.size = g := ⟨_, rfl⟩
   obtain ⟨Wy, hWy⟩ : ∃ W, Wx.alloc (.cells #[.int .i64 0, .int .u64 0, .int .u64 0] 109) = W := ⟨_, rfl⟩
   obtain ⟨Wz, hWz⟩ : ∃ W, Wy.setRow gA #[.int .u32 m, .int .u32 i] = W := ⟨_, rfl⟩
   obtain ⟨Wu, hWu⟩ : ∃ W, Wz.setRow gB #[.int .i64 q, .int .u64 (hiW v), .int .u64 (loW v)] = W := ⟨_, rfl⟩
   have bx : Below wn.heap.size wn Wx := by rw [← hWx]; exact ball _ _
   have bY : Below Wx.heap.size Wx Wy := by rw [← hWy]; exact ball _ _
   have zA : Wx.heap[gA]? = some (.cells #[.int .u32 0, .int .u32 0] 79 (0, 0)) := by rw [← hWx, ← hgA]; exact World.alloc_heap_new _ _
   have ZA := hid (row_on zA bY)
   have zB : Wy.heap[gB]? = some (.cells #[.int .i64 0, .int .u64 0, .int .u64 0] 109 (0, 0)) := by rw [← hWy, ← hgB]; exact World.alloc_heap_new _ _
   have nAB : gA ≠ gB := by have := row_lt zA; omega
   have kz : Kp (fun j => j = gA) Wy Wz := by rw [← hWz]; exact setRow_kp _ _ _
   have ku : Kp (fun j => j = gB) Wz Wu := by rw [← hWu]; exact setRow_kp _ _ _
   have ZB := hid (kz.row zB (fun e => nAB e.symm))
   have rA : Wz.heap[gA]? = some (.cells #[.int .u32 m, .int .u32 i] 79 (0, 0)) := by rw [← hWz]; exact setRow_heap _ _ _ _ 79 (0, 0) ZA.out
   have RA := hid (ku.row rA nAB)
   have RB := hid (show Wu.heap[gB]? = some (.cells #[.int .i64 q, .int .u64 (hiW v), .int .u64 (loW v)] 109 (0, 0)) from by rw [← hWu]; exact setRow_heap _ _ _ _ 109 (0, 0) ZB.out)
   have BU := hid (show Below wn.heap.size wn Wu from (((btr bx bY).trans (kz.below (btr bx bY).size (fun g hg e => by omega))).trans (ku.below (Nat.le_trans (btr bx bY).size kz.size) (fun g hg e => by have := bx.size; omega))))
   clear bx bY zA zB nAB kz ku rA
   go_upto_region 3 with (first
    | (refine wpList_store_row (by rfl) 79 (.tmp 4) (.tmp 18) (by rfl) gA #[.int .u32 m, .int .u32 i] (by rfl) (by rfl) 79 _ ZA.out infoH2 (by rfl) (by simp [Value.oneCell']) ?_; rw [hWz])
    | (refine wpList_store_row (by rfl) 109 (.tmp 5) (.tmp 19) (by rfl) gB #[.int .i64 q, .int .u64 (hiW v), .int .u64 (loW v)] (by rfl) (by rfl) 109 _ ZB.out infoP3 (by rfl) (by simp [Value.oneCell']) ?_; rw [hWu]))
   clear hgA hWx hgB hWy hWz hWu ZA ZB
   have LK : (Instr.lookup 113 (.map (some M)) (.int .u32 i) true).run Tryz.prog Wu = .ok (.tuple #[.agg #[.int .u32 i, .int .i64 rp, .int .u32 ra, .int .u32 rb], .bool true]) Wu := by
    have h1 := (HMMn.out.on BU.out).look okR i HUI.out
    rw [upd_same] at h1
    exact h1
   clear hnext hentry
   have a1 := row_cell RA.out 1
   simp only [lqA, lqB, lqC] at a1
   obtain ⟨gC, hgC⟩ : ∃ g, Wu.heap.size = g := ⟨_, rfl⟩
   obtain ⟨Wv, hWv⟩ : ∃ W, Wu.alloc (.cells #[.int .u32 0, .int .i64 0, .int .u32 0, .int .u32 0] 61) = W := ⟨_, rfl⟩
   obtain ⟨Ww, hWw⟩ : ∃ W, Wv.setRow gC #[.int .u32 i, .int .i64 rp, .int .u32 ra, .int .u32 rb] = W := ⟨_, rfl⟩
   have bv : Below Wu.heap.size Wu Wv := by rw [← hWv]; exact ball _ _
   have ZC := hid (show Wv.heap[gC]? = some (.cells #[.int .u32 0, .int .i64 0, .int .u32 0, .int .u32 0] 61 (0, 0)) from by rw [← hWv, ← hgC]; exact World.alloc_heap_new _ _)
   have RC := hid (show Ww.heap[gC]? = some (.cells #[.int .u32 i, .int .i64 rp, .int .u32 ra, .int .u32 rb] 61 (0, 0)) from by rw [← hWw]; exact setRow_heap _ _ _ _ 61 (0, 0) ZC.out)
   have BV := hid (show Below Wu.heap.size Wu Ww from by rw [← hWw]; exact setRow_below bv (Nat.le_of_eq hgC))
   have RA := hid (row_on RA.out BV.out)
   have RB := hid (row_on RB.out BV.out)
   have BW := hid (btr BU.out BV.out)
   clear bv
   go_upto_region 4 with (refine wpList_store_row (by rfl) 61 (.tmp 6) (.tmp 25) (by rfl) gC #[.int .u32 i, .int .i64 rp, .int .u32 ra, .int .u32 rb] (by rfl) (by rfl) 61 _ ZC.out infoT4 (by rfl) (by simp [Value.oneCell']) ?_; rw [hWw])
   clear hgC hWv hWw ZC LK
   have y0 := row_cell RB.out 0
   have y1 := row_cell RB.out 1
   have y2 := row_cell RB.out 2
   simp only [lqA, lqB, lqC] at y0 y1 y2
   have z1 := row_cell RC.out 1
   simp only [lqA, lqB, lqC] at z1
   go_upto_region 6 with (first
    | (go_at_call 70; with_reducible refine (CW.out _).mono ?_; rintro e X ⟨rfl, hX⟩; have BX := hid hX; clear hX; have ZX := hid (World.alloc_heap_new X (.cells #[.int .u64 0, .int .u64 0] 33)))
    | (refine wpList_store_row (by rfl) 33 (.tmp 8) (.tmp 32) (by rfl) X.heap.size #[.int .u64 (hiW u), .int .u64 (loW u)] (by rfl) (by rfl) 33 _ ZX.out infoM2 (by rfl) (by simp [Value.oneCell']) ?_))
   obtain ⟨Y, hY⟩ : ∃ Y, (X.alloc (.cells #[.int .u64 0, .int .u64 0] 33)).setRow X.heap.size #[.int .u64 (hiW u), .int .u64 (loW u)] = Y := ⟨_, rfl⟩
   have GY := hid (show Y.heap[X.heap.size]? = some (.cells #[.int .u64 (hiW u), .int .u64 (loW u)] 33 (0, 0)) from by rw [← hY]; exact setRow_heap _ _ _ _ 33 (0, 0) ZX.out)
   have BY := hid (btr BX.out (show Below X.heap.size X Y from by rw [← hY]; exact setRow_below (ball _ _) (Nat.le_refl _)))
   rw [hY]
   obtain ⟨g8, hg8⟩ : ∃ y, X.heap.size = y := ⟨_, rfl⟩
   rw [hg8] at GY ⊢
   clear hY hg8 ZX y0 y1 y2 z1
   have RAY := hid (row_on RA.out BY.out)
   have BYN := hid (btr BW.out BY.out)
   have HOY := hid (HON.out.on BYN.out)
   have CF := hid (find_yes Y HOY.out HY.out (show (yb, (⟨m, yf, yg, yc, yo⟩ : Sv)).2.m = m from rfl))
   have t0 := row_cell RAY.out 0
   simp only [lqA, lqB, lqC] at t0
   go_upto_region 8 with (go_at_call 66; with_reducible refine CF.out.mono ?_; rintro e Z ⟨rfl, hZ⟩; have BZ := hid hZ; clear hZ)
   clear t0 CF
   have BZN := hid (btr BYN.out BZ.out)
   have HOZ := hid (HON.out.on BZN.out)
   have RYZ := hid (show Z.heap[yb]? = some (.cells #[.int .u32 m, .int .u64 yf, .int .u64 (hiW yg), .int .u64 (loW yg), .bool yc, .bool yo] 106 (0, 0)) from HOZ.out.me.st _ HY.out)
   have RAZ := hid (row_on RAY.out BZ.out)
   have RBZ := hid (row_on RB.out (btr BY.out BZ.out))
   have RGZ := hid (row_on GY.out BZ.out)
   have BRF := hid (Below.refl Z.heap.size Z)
   refine reg_cut (X := Unit) (fun a x => ((((((((((((a.put (some 39) (pb yb)).put (some 40) (pb yb)).put (some 41) (.pointer (some ⟨yb, 0, none⟩))).put (some 42) (.pointer (some ⟨yb, 2, none⟩))).put (some 43) (.agg #[.int .u64 (hiW yg), .int .u64 (loW yg)])).put (some 44) (.agg #[.int .u64 (hiW u), .int .u64 (loW u)])).put (some 45) (.pointer (some ⟨gB, 1, none⟩))).put (some 46) (.agg #[.int .u64 (hiW v), .int .u64 (loW v)])).put (some 47) (.agg #[.int .u64 (hiW d), .int .u64 (loW d)])).put (some 48) (.agg #[.int .u64 (hiW e0), .int .u64 (loW e0)])).put (some 49) (.pointer (some ⟨yb, 0, none⟩))).put (some 50) (.pointer (some ⟨yb, 2, none⟩)))) (fun x V => Hid (Kp (fun j => j = yb) Z V) ∧ Hid (V.heap[yb]? = some (.cells #[.int .u32 m, .int .u64 yf, .int .u64 (hiW e0), .int .u64 (loW e0), .bool yc, .bool yo] 106 (0, 0)))) ?_ ?_
   ·obtain ⟨V1, hV1⟩ : ∃ U, Z.drew = U := ⟨_, rfl⟩
    have bV1 := hid (show Below Z.heap.size Z V1 from by rw [← hV1]; exact bdrew1 _)
    have DV1 := hid (btr BRF.out bV1.out)
    have r2 := hid (row_on RYZ.out bV1.out)
    have r3 := hid (row_on RBZ.out bV1.out)
    have r4 := hid (row_on RGZ.out bV1.out)
    refine wp_region_held_drew (S := (fun U => U.cell? ⟨gB, 1, none⟩ = some (.int .u64 (hiW v)) ∧ U.cell? ⟨gB, 2, none⟩ = some (.int .u64 (loW v)) ∧ U.cell? ⟨g8, 0, none⟩ = some (.int .u64 (hiW u)) ∧ U.cell? ⟨g8, 1, none⟩ = some (.int .u64 (loW u)))) (by kernel_rfl) ?_ (fun hHeld => ?_)
    ·(try dsimp only); rw [hV1]; exact ⟨row_cell r3.out 1, row_cell r3.out 2, row_cell r4.out 0, row_cell r4.out 1⟩
    rw [hV1] at hHeld ⊢
    clear hV1
    refine' tkz 0 rfl ?_ ?_
    rotate_left
    ·(intro w hSw; (try dsimp only at hSw); go_simp; try (with_reducible rfl))
    try simp only [lgA, lgB, lgC, Act.put, lsA, lsB, lsC]
    refine' tkz 1 rfl ?_ ?_
    rotate_left
    ·(intro w hSw; (try dsimp only at hSw); go_simp; try (with_reducible rfl))
    try simp only [lgA, lgB, lgC, Act.put, lsA, lsB, lsC]
    refine' tkz 2 rfl ?_ ?_
    rotate_left
    ·(intro w hSw; (try dsimp only at hSw); go_simp; try (with_reducible rfl))
    try simp only [lgA, lgB, lgC, Act.put, lsA, lsB, lsC]
    refine' tkz 3 rfl ?_ ?_
    rotate_left
    ·(intro w hSw; (try dsimp only at hSw); go_simp; try (with_reducible rfl))
    try simp only [lgA, lgB, lgC, Act.put, lsA, lsB, lsC]
    refine' tkz 5 rfl ?_ ?_
    rotate_left
    ·(intro w hSw; (try dsimp only at hSw); go_simp; try (with_reducible rfl))
    try simp only [lgA, lgB, lgC, Act.put, lsA, lsB, lsC]
    refine' tkz 6 rfl ?_ ?_
    rotate_left
    ·(intro w hSw; (try dsimp only at hSw); go_simp; try (with_reducible rfl))
    try simp only [lgA, lgB, lgC, Act.put, lsA, lsB, lsC]
    refine' tkz 7 rfl ?_ ?_
    rotate_left
    ·(intro w hSw; (try dsimp only at hSw); go_simp; try (with_reducible rfl))
    try simp only [lgA, lgB, lgC, Act.put, lsA, lsB, lsC]
    refine wpAnyH_ready (rs := [4, 8]) (by kernel_rfl) (by simp) ?_
    refine (AllReadyH.cons rfl (fun K hK => ?_) (AllReadyH.cons rfl (fun K hK => ?_) AllReadyH.nil))
    ·have z2 := row_cell r2.out 2
     have z3 := row_cell r2.out 3
     simp only [lqA, lqB, lqC] at z2 z3
     go_simp
     refine hK.out _ _ ?_ (fun hHeld => ?_)
     ·(try dsimp only); exact ⟨row_cell r3.out 1, row_cell r3.out 2, row_cell r4.out 0, row_cell r4.out 1⟩
     clear hK K z2 z3
     try simp only [lgA, lgB, lgC, Act.put, lsA, lsB, lsC]
     refine wpAnyH_ready (rs := [8]) (by kernel_rfl) (by simp) ?_
     refine (AllReadyH.cons rfl (fun K hK => ?_) AllReadyH.nil)
     go_simp
     go_at_call 49
     with_reducible refine (CL.out V1).mono ?_
     rintro e X5 ⟨rfl, cX5⟩
     have bX5 := hid cX5
     clear cX5
     have DX5 := hid (btr DV1.out bX5.out)
     have r6 := hid (row_on r2.out bX5.out)
     have r7 := hid (row_on r3.out bX5.out)
     have r8 := hid (row_on r4.out bX5.out)
     (try go_wp2_with fail)
     refine hK.out _ _ ?_ (fun hHeld => ?_)
     ·(try dsimp only); exact ⟨row_cell r7.out 1, row_cell r7.out 2, row_cell r8.out 0, row_cell r8.out 1⟩
     clear hK K
     try simp only [lgA, lgB, lgC, Act.put, lsA, lsB, lsC]
     refine wpAnyH_ready (rs := [9]) (by kernel_rfl) (by simp) ?_
     refine (AllReadyH.cons rfl (fun K hK => ?_) AllReadyH.nil)
     go_simp
     go_at_call 48
     with_reducible refine (CP.out X5).mono ?_
     rintro e X9 ⟨rfl, cX9⟩
     have bX9 := hid cX9
     clear cX9
     have DX9 := hid (btr DX5.out bX9.out)
     have r10 := hid (row_on r6.out bX9.out)
     have r11 := hid (row_on r7.out bX9.out)
     have r12 := hid (row_on r8.out bX9.out)
     (try go_wp2_with fail)
     refine hK.out _ _ ?_ (fun hHeld => ?_)
     ·(try dsimp only); exact ⟨row_cell r11.out 1, row_cell r11.out 2, row_cell r12.out 0, row_cell r12.out 1⟩
     clear hK K
     try simp only [lgA, lgB, lgC, Act.put, lsA, lsB, lsC]
     refine' tkz 10 rfl ?_ ?_
     rotate_left
     ·(intro w hSw; (try dsimp only at hSw); go_simp; try (with_reducible rfl))
     try simp only [lgA, lgB, lgC, Act.put, lsA, lsB, lsC]
     refine' tkz 11 rfl ?_ ?_
     rotate_left
     ·(intro w hSw; (try dsimp only at hSw); go_simp; try (with_reducible rfl))
     try simp only [lgA, lgB, lgC, Act.put, lsA, lsB, lsC]
     refine wpAnyH_ready (rs := [12]) (by kernel_rfl) (by simp) ?_
     refine (AllReadyH.cons rfl (fun K hK => ?_) AllReadyH.nil)
     have z2 := row_cell r10.out 2
     have z3 := row_cell r10.out 3
     simp only [lqA, lqB, lqC] at z2 z3
     have f2 := row_frz r10.out 2
     have f3 := row_frz r10.out 3
     go_simp
     obtain ⟨Y13, hY13⟩ : ∃ Y, (X9.setCell ⟨yb, 2, none⟩ (.int .u64 (hiW e0))).setCell ⟨yb, 3, none⟩ (.int .u64 (loW e0)) = Y := ⟨_, rfl⟩
     have kY13 := hid (show Kp (fun j => j = yb) X9 Y13 from by rw [← hY13]; exact (Kp.set X9 yb _ _).trans (Kp.set _ yb _ _) (fun g _ e => e))
     have AY13 := hid (show Y13.heap[yb]? = some (.cells #[.int .u32 m, .int .u64 yf, .int .u64 (hiW e0), .int .u64 (loW e0), .bool yc, .bool yo] 106 (0, 0)) from by rw [← hY13]; exact set_row #[.int .u32 m, .int .u64 yf, .int .u64 (hiW e0), .int .u64 (loW e0), .bool yc, .bool yo] (set_row #[.int .u32 m, .int .u64 yf, .int .u64 (hiW e0), .int .u64 (loW yg), .bool yc, .bool yo] r10.out (by rfl)) (by rfl))
     have r14 := hid (kY13.out.row r11.out (row_ne r11.out r10.out (by decide)))
     have r15 := hid (kY13.out.row r12.out (row_ne r12.out r10.out (by decide)))
     rw [hY13]
     refine hK.out _ _ ?_ (fun hHeld => ?_)
     ·(try dsimp only); exact ⟨row_cell r14.out 1, row_cell r14.out 2, row_cell r15.out 0, row_cell r15.out 1⟩
     clear hK K hY13 z2 z3 f2 f3
     try simp only [lgA, lgB, lgC, Act.put, lsA, lsB, lsC]
     refine wpAnyH_done (by kernel_rfl) ?_ _
     exact ⟨(), by kernel_rfl, hid ((Kp.of (fun j => j = yb) DX9.out).trans kY13.out (fun g _ e => e)), AY13⟩
    ·go_simp
     go_at_call 49
     with_reducible refine (CL.out V1).mono ?_
     rintro e X16 ⟨rfl, cX16⟩
     have bX16 := hid cX16
     clear cX16
     have DX16 := hid (btr DV1.out bX16.out)
     have r17 := hid (row_on r2.out bX16.out)
     have r18 := hid (row_on r3.out bX16.out)
     have r19 := hid (row_on r4.out bX16.out)
     (try go_wp2_with fail)
     refine hK.out _ _ ?_ (fun hHeld => ?_)
     ·(try dsimp only); exact ⟨row_cell r18.out 1, row_cell r18.out 2, row_cell r19.out 0, row_cell r19.out 1⟩
     clear hK K
     try simp only [lgA, lgB, lgC, Act.put, lsA, lsB, lsC]
     refine wpAnyH_ready (rs := [4]) (by kernel_rfl) (by simp) ?_
     refine (AllReadyH.cons rfl (fun K hK => ?_) AllReadyH.nil)
     have z2 := row_cell r17.out 2
     have z3 := row_cell r17.out 3
     simp only [lqA, lqB, lqC] at z2 z3
     go_simp
     refine hK.out _ _ ?_ (fun hHeld => ?_)
     ·(try dsimp only); exact ⟨row_cell r18.out 1, row_cell r18.out 2, row_cell r19.out 0, row_cell r19.out 1⟩
     clear hK K z2 z3
     try simp only [lgA, lgB, lgC, Act.put, lsA, lsB, lsC]
     refine wpAnyH_ready (rs := [9]) (by kernel_rfl) (by simp) ?_
     refine (AllReadyH.cons rfl (fun K hK => ?_) AllReadyH.nil)
     go_simp
     go_at_call 48
     with_reducible refine (CP.out X16).mono ?_
     rintro e X20 ⟨rfl, cX20⟩
     have bX20 := hid cX20
     clear cX20
     have DX20 := hid (btr DX16.out bX20.out)
     have r21 := hid (row_on r17.out bX20.out)
     have r22 := hid (row_on r18.out bX20.out)
     have r23 := hid (row_on r19.out bX20.out)
     (try go_wp2_with fail)
     refine hK.out _ _ ?_ (fun hHeld => ?_)
     ·(try dsimp only); exact ⟨row_cell r22.out 1, row_cell r22.out 2, row_cell r23.out 0, row_cell r23.out 1⟩
     clear hK K
     try simp only [lgA, lgB, lgC, Act.put, lsA, lsB, lsC]
     refine' tkz 10 rfl ?_ ?_
     rotate_left
     ·(intro w hSw; (try dsimp only at hSw); go_simp; try (with_reducible rfl))
     try simp only [lgA, lgB, lgC, Act.put, lsA, lsB, lsC]
     refine' tkz 11 rfl ?_ ?_
     rotate_left
     ·(intro w hSw; (try dsimp only at hSw); go_simp; try (with_reducible rfl))
     try simp only [lgA, lgB, lgC, Act.put, lsA, lsB, lsC]
     refine wpAnyH_ready (rs := [12]) (by kernel_rfl) (by simp) ?_
     refine (AllReadyH.cons rfl (fun K hK => ?_) AllReadyH.nil)
     have z2 := row_cell r21.out 2
     have z3 := row_cell r21.out 3
     simp only [lqA, lqB, lqC] at z2 z3
     have f2 := row_frz r21.out 2
     have f3 := row_frz r21.out 3
     go_simp
     obtain ⟨Y24, hY24⟩ : ∃ Y, (X20.setCell ⟨yb, 2, none⟩ (.int .u64 (hiW e0))).setCell ⟨yb, 3, none⟩ (.int .u64 (loW e0)) = Y := ⟨_, rfl⟩
     have kY24 := hid (show Kp (fun j => j = yb) X20 Y24 from by rw [← hY24]; exact (Kp.set X20 yb _ _).trans (Kp.set _ yb _ _) (fun g _ e => e))
     have AY24 := hid (show Y24.heap[yb]? = some (.cells #[.int .u32 m, .int .u64 yf, .int .u64 (hiW e0), .int .u64 (loW e0), .bool yc, .bool yo] 106 (0, 0)) from by rw [← hY24]; exact set_row #[.int .u32 m, .int .u64 yf, .int .u64 (hiW e0), .int .u64 (loW e0), .bool yc, .bool yo] (set_row #[.int .u32 m, .int .u64 yf, .int .u64 (hiW e0), .int .u64 (loW yg), .bool yc, .bool yo] r21.out (by rfl)) (by rfl))
     have r25 := hid (kY24.out.row r22.out (row_ne r22.out r21.out (by decide)))
     have r26 := hid (kY24.out.row r23.out (row_ne r23.out r21.out (by decide)))
     rw [hY24]
     refine hK.out _ _ ?_ (fun hHeld => ?_)
     ·(try dsimp only); exact ⟨row_cell r25.out 1, row_cell r25.out 2, row_cell r26.out 0, row_cell r26.out 1⟩
     clear hK K hY24 z2 z3 f2 f3
     try simp only [lgA, lgB, lgC, Act.put, lsA, lsB, lsC]
     refine wpAnyH_done (by kernel_rfl) ?_ _
     exact ⟨(), by kernel_rfl, hid ((Kp.of (fun j => j = yb) DX20.out).trans kY24.out (fun g _ e => e)), AY24⟩
   rintro - Q ⟨KQ, RYQ⟩
   have HOQ := hid (HOZ.out.sset HY.out (s := ⟨m, yf, e0, yc, yo⟩) rfl KQ.out RYQ.out)
   have ny : ∀ {r : Nat} {cs : Array Value} {t : TypeId}, Z.heap[r]? = some (.cells cs t (0, 0)) → t ≠ 106 → ¬ r = yb := fun e ht => row_ne e RYZ.out ht
   have RAQ := hid (KQ.out.row RAZ.out (ny RAZ.out (by decide)))
   have RBQ := hid (KQ.out.row RBZ.out (ny RBZ.out (by decide)))
   have RGQ := hid (KQ.out.row RGZ.out (ny RGZ.out (by decide)))
   have nmy : ∀ {j : Nat} {es : Array MapEntry} {cl : Nat}, Z.heap[j]? = some (.map es cl) → ¬ j = yb := fun e e2 => by
    rw [e2, RYZ.out] at e
    cases e
   have HMQ := hid ((HMMn.out.on BZN.out).kept KQ.out (by obtain ⟨es, cl, e⟩ := Mp.obj (HMMn.out.on BZN.out); exact nmy e))
   have HRQ := hid ((HMN.out.on BZN.out).kept KQ.out (by obtain ⟨es, cl, e⟩ := Mp.obj (HMN.out.mp.on BZN.out); exact nmy e) (fun e => by
    have h1 := (HMN.out.on BZN.out)
    obtain ⟨D, left, ⟨es, clock, since, seen, c0, a1, a2, a3, a4, a5, a6⟩, h2⟩ := h1
    rw [e, RYZ.out] at a5
    cases a5))
   clear ny nmy
   have CH := hid (hold_some m i ⟨q, u⟩ HQN.out H b o p (sset l ⟨m, yf, e0, yc, yo⟩).length c Q (fun U' => Mr kvP U' b r n (upd f (m, i) ⟨q, u⟩) (fun x => lf x && !(decide (x = (m, i)))) cn) HOQ.out.row (Mp.obj HOQ.out.mp) (fun U hU => by
    obtain ⟨U', h1, h2, h3⟩ := (HRQ.out.on hU).put okP (by have := HN.out; unfold maxLen; omega) (m, i) ⟨HUM.out, HUI.out⟩ HFS.out ⟨q, u⟩
    exact ⟨U', h1, h3, h2⟩))
   have t0 := row_cell RAQ.out 0
   have t1 := row_cell RAQ.out 1
   simp only [lqA, lqB, lqC] at t0 t1
   have s0 := row_cell RBQ.out 0
   simp only [lqA, lqB, lqC] at s0
   have g0 := row_cell RGQ.out 0
   have g1 := row_cell RGQ.out 1
   simp only [lqA, lqB, lqC] at g0 g1
   go_wp2_with (go_at_call 39; with_reducible refine CH.out.mono ?_; rintro e wz ⟨rfl, h1, h2⟩; have KZ := hid h1; have MZ := hid h2; clear h1 h2)
   go_roundg cn
   case measure => exact HLT.out
   case rel =>
    have nb : ∀ {r' : Nat} {cs : Array Value} {t : TypeId}, Q.heap[r']? = some (.cells cs t (0, 0)) → ¬ r' = b := fun e e2 => by
     obtain ⟨es, cl, e3⟩ := Mp.obj HOQ.out.mp
     rw [e2, e3] at e
     cases e
    refine ⟨_, ks ++ [(m, i)], sset l ⟨m, yf, e0, yc, yo⟩, upd f (m, i) ⟨q, u⟩, HSD2, hid (HOQ.out.map KZ.out (fun r' cs t e _ => nb e) (KZ.out.row HOQ.out.row (nb HOQ.out.row)) MZ.out.mp), hid ⟨?_, ?_, ?_⟩, hid (HSO.out.on _ HE0.out), MZ, hid (HMQ.out.kept KZ.out HMb.out), hid ?_⟩
    ·rw [List.foldl_append, ← HE.out.1]
     exact HST.out.symm
    ·rw [List.foldl_append, ← HE.out.2.1]
     exact HSF.out.symm
    ·rw [sset_bks]; exact HE.out.2.2
    ·have k1 := HK.out.trans HKN.out (C := fun j => j = r) (fun g hg e => by have := HRR.out; omega)
     have k2 := k1.trans (Kp.of (fun j => j = yb) BZN.out) (fun g hg e => by rw [e, ← HE.out.2.2]; exact .inr (.inr (.inl (List.mem_map.2 ⟨_, HY.out, rfl⟩))))
     have k3 := k2.trans KQ.out (fun g hg e => by rw [e, ← HE.out.2.2]; exact .inr (.inr (.inl (List.mem_map.2 ⟨_, HY.out, rfl⟩))))
     exact k3.trans KZ.out (fun g hg e => by rw [e]; exact .inr (.inr (.inr rfl)))
end Go.Proofs.YtlhbgaiiehljpaaGreat.Ac
