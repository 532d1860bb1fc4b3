/-
  LvQ
-/
import Derived.Test.YtlhbgaiiehljpaaGreatGAa
import Derived.Test.YtlhbgaiiehljpaaGreatLvP
namespace Go.Proofs.YtlhbgaiiehljpaaGreat.Ac
open List renaming getElem?_toArray → lqA, getElem?_cons_succ → lqB, getElem?_cons_zero → lqC
open List renaming getElem_toArray → lgA, getElem_cons_succ → lgB, getElem_cons_zero → lgC, setIfInBounds_toArray → lsA, set_cons_zero → lsB, set_cons_succ → lsC
open Go.RowKit Go.Deep Go.Maps MonM Go.Proofs.YtlhbgaiiehljpaaGreat
set_option linter.unusedVariables false
set_option linter.unusedSimpArgs false
set_option maxHeartbeats 8000000
set_option maxRecDepth 100000
attribute [local go_sem ↓] Go.wp_at_zero Go.wp_at_succ
def szq (q : Int) : Int := if q < 0 then -q else q
def stepN (nd : Int × Int → Int) (g : Int → Option Int) (k : Int × Int) : Int → Option Int := upd g k.1 (maddV ((g k.1).getD 0) (nd k))
def AmtG (g : Int → Option Int) : Prop := ∀ m x, g m = some x → Amt x
theorem AmtG.get {g : Int → Option Int} (h : AmtG g) (m : Int) : Amt ((g m).getD 0) := by
 cases e : g m with
 | none => exact ⟨by decide, by decide⟩
 | some x => exact h m x e
theorem AmtG.step {g : Int → Option Int} (h : AmtG g) (nd : Int × Int → Int) (k : Int × Int) : AmtG (stepN nd g k) := fun m x e => by
 unfold stepN at e
 by_cases c : m = k.1
 ·subst c
  rw [upd_same] at e
  cases e
  exact madd_amt _ _
 ·rw [upd_other _ _ c] at e
  exact h m x e
theorem needs_any {H : Nat} {o : Int} {p : Option Addr} {c : Nat} {l : List (Nat × Sv)} {b : Nat} {n : Nat} {f : HoP} (w : World) (h : Ho w H o p c l (some b) n f) (hn : n < 1000000000) (ri rp ra rb : Int) (M nr : Nat) (hm : Mp kvR w M nr (upd (fun _ => none) ri ⟨ri, rp, ra, rb⟩)) (q0 : 0 ≤ rp) (q1 : rp < 262144) (hs : SOk f ri l) (nd : Int × Int → Int) (er : Int) (hnd : ∀ k, Amt (nd k))
  (hpo : ∀ k x, f k = some x → ∀ U, Calls Tryz.prog 71 #[mv (rp * szq x.q), .int .u32 ra, .int .u32 rb, .int .i64 1] U fun e w' => e = .returned (.tuple #[mv (nd k), .int .i64 er]) ∧ Below U.heap.size U w') :
  Calls Tryz.prog 43 #[pb H, .map (some M)] w fun e w' => ∃ N k lf ks, e = .returned (.map (some N)) ∧ Sd f lf ks ∧ (∀ k, kvP.ok k → lf k = false) ∧ Mp kvU w' N k (ks.foldl (stepN nd) (fun _ => none)) ∧ AmtG (ks.foldl (stepN nd) (fun _ => none)) ∧ w.heap.size ≤ N ∧ Below w.heap.size w w' := by
 have k2 := row_cell (hid h.row).out 2
 simp only [lqA, lqB, lqC] at k2
 obtain ⟨N, hN⟩ : ∃ N, w.heap.size = N := ⟨_, rfl⟩
 obtain ⟨W1, hW1⟩ : ∃ W, w.alloc (.map #[] 0) = W := ⟨_, rfl⟩
 have rm : (Instr.makeMap 85 none).run Tryz.prog w = .ok (.map (some N)) W1 := by rw [← hN, ← hW1]; rfl
 have b1 : Below w.heap.size w W1 := by rw [← hW1]; exact ball _ _
 have mN : Mp kvU W1 N 0 (fun _ => none) := by rw [← hW1, ← hN]; exact Mp.made kvU w
 have k2' := row_cell (row_on h.row b1) 2
 simp only [lqA, lqB, lqC] at k2'
 obtain ⟨V, cnt, hrun, hmr, hcn, hbv⟩ := Mp.range (Mp.on h.mp b1) okP
 have hrun : (Instr.range 98 (.map (some b))).run Tryz.prog W1 = .ok (.pointer (some ⟨W1.heap.size, 0, none⟩)) V := hrun
 obtain ⟨r, hr⟩ : ∃ r, W1.heap.size = r := ⟨_, rfl⟩
 rw [hr] at hrun hmr
 have HMR := hid hmr
 have HRR := hid (show N < r ∧ w.heap.size = N ∧ w.heap.size ≤ r from ⟨by have := mN.lt; omega, hN, by have := b1.size; omega⟩)
 have HNN := hid hn
 have HQ := hid (And.intro q0 q1)
 have HVm := hid (hm.on (btr b1 hbv))
 have HVn := hid (mN.on hbv)
 have HBV := hid (btr b1 hbv)
 have HCN := hid hcn
 have HMN' := hid (show ¬ M = N from by have := hm.lt; omega)
 have HRM := hid (show ¬ r = M from by have := hm.lt; have := b1.size; omega)
 have HS := hid hs
 have HPO := hid hpo
 have HND := hid hnd
 have HH := hid h
 clear hmr hbv hr hcn hs hm h hn q0 q1 hpo hnd mN b1
 go_enter Tryz.func43, Tryz.ntmps43
 go_wp2
 try go_frame
 go_loopg [] (cnt) (fun kk wr => ∃ (lf : Int × Int → Bool) (ks : List (Int × Int)) (j : Nat), Hid (Sd f lf ks) ∧ Hid (Mr kvP wr b r n f lf kk) ∧ Hid (Mp kvR wr M nr (upd (fun _ => none) ri ⟨ri, rp, ra, rb⟩)) ∧ Hid (Mp kvU wr N j (ks.foldl (stepN nd) (fun _ => none))) ∧ Hid (AmtG (ks.foldl (stepN nd) (fun _ => none))) ∧ Hid (j + kk ≤ n) ∧ Hid (Below w.heap.size w wr))
 case atStart => exact ⟨_, [], 0, ⟨List.nodup_nil, fun k h => by (cases h), fun k _ => by simp⟩, HMR, HVm, HVn, fun m x e => by (cases e), by have := HCN.out; show 0 + cnt ≤ n; omega, HBV⟩
 case round =>
  obtain ⟨lf, ks, j, HSD, HR, HM, HG, HA, HJ, HB⟩ := hrel
  clear hrun rm k2 k2' HVm HVn HBV HMR hN hW1
  rcases HR.out.nextv okP kvallP with ⟨h0, hdone⟩ | ⟨x, pvx, wn, cn, hok, hlf, hfx, hnext, hentry, hmr, hlt, hko⟩
  ·have H0 := hid h0
   clear h0
   go_wp2
   go_ret
   exact ⟨N, rfl, j, lf, ks, HSD.out, fun a b => H0.out (a, b), HG.out, HA.out, Nat.le_of_eq HRR.out.2.1, HB.out⟩
  ·obtain ⟨m, i⟩ := x
   obtain ⟨q, v⟩ := pvx
   have hsd := (HSD.out.lf (m, i) hok).1 hlf
   obtain ⟨ei, hq, hqb, hv, -⟩ := HS.out.i _ _ hfx
   have ei : i = ri := ei
   subst ei
   have hqb : -1099511627776 ≤ q ∧ q ≤ 1099511627776 := hqb
   have hnext : ∀ ty, (Instr.next (.pointer (some ⟨r, 0, none⟩)) false ty).run Tryz.prog wr = .ok (.tuple #[.bool true, .agg #[.int .u32 m, .int .u32 i], .agg #[.int .i64 q, .int .u64 (hiW v), .int .u64 (loW v)]]) wn := hnext
   have hentry : (Instr.entry (.pointer (some ⟨r, 0, none⟩))).run Tryz.prog wn = .ok (.tuple #[.agg #[.int .u32 m, .int .u32 i], .agg #[.int .i64 q, .int .u64 (hiW v), .int .u64 (loW v)]]) wn := hentry
   have HMN := hid hmr
   have HLT := hid hlt
   have HUM := hid (show U32 m from hok.1)
   have HUI := hid (show U32 i from hok.2)
   have HBN := hid (HB.out.trans (hko.below HB.out.size (fun j hj e => by have := HRR.out.2.2; omega)))
   have HMMn := hid (HM.out.kept hko (fun e => HRM.out e.symm))
   have HGn := hid (HG.out.kept hko (fun e => by have := HRR.out.1; omega))
   have CS := hid (show ∀ U, Calls Tryz.prog 38 #[.agg #[.int .i64 q, .int .u64 (hiW v), .int .u64 (loW v)]] U fun e w' => e = .returned (.int .u64 (szq q)) ∧ Below U.heap.size U w' from fun U => psize_any ⟨q, v⟩ U (by show -4611686018427387904 ≤ q; omega) (by show q ≤ 4611686018427387904; omega))
   have s0 : 0 ≤ szq q ∧ szq q ≤ 1099511627776 := by unfold szq; split <;> omega
   have CT := hid (fun U => numTimes_any rp (szq q) U HQ.out.1 (by have := HQ.out.2; omega) ⟨s0.1, by omega⟩)
   have CPo := hid (HPO.out _ _ hfx)
   have CPo := hid (show ∀ U, Calls Tryz.prog 71 #[mv (rp * szq q), .int .u32 ra, .int .u32 rb, .int .i64 1] U fun e w' => e = .returned (.tuple #[mv (nd (m, i)), .int .i64 er]) ∧ Below U.heap.size U w' from CPo.out)
   obtain ⟨s, hs⟩ : ∃ s, szq q = s := ⟨_, rfl⟩
   rw [hs] at CS CT CPo
   obtain ⟨t, ht⟩ : ∃ t, rp * s = t := ⟨_, rfl⟩
   rw [ht] at CT CPo
   have hd := HND.out (m, i)
   have HST := hid (show stepN nd (ks.foldl (stepN nd) (fun _ => none)) (m, i) = upd (ks.foldl (stepN nd) (fun _ => none)) m (maddV (((ks.foldl (stepN nd) (fun _ => none)) m).getD 0) (nd (m, i))) from rfl)
   have HA2 := hid (HA.out.step nd (m, i))
   have hg0 := HA.out.get m
   obtain ⟨g, hg⟩ : ∃ g, ks.foldl (stepN nd) (fun _ => none) = g := ⟨_, rfl⟩
   rw [hg] at HST HA2 HGn hg0
   have HGE := hid hg
   obtain ⟨d, hdd⟩ : ∃ d, nd (m, i) = d := ⟨_, rfl⟩
   rw [hdd] at hd CPo HST
   obtain ⟨g0, hgg⟩ : ∃ g0, (g m).getD 0 = g0 := ⟨_, rfl⟩
   rw [hgg] at hg0 HST
   have CP := hid (fun U => plus_any g0 d U hg0 hd)
   obtain ⟨e0, he0⟩ : ∃ e0, maddV g0 d = e0 := ⟨_, rfl⟩
   rw [he0] at CP HST
   have LG := hid (show ∀ U, Mp kvU U N j g → (Instr.lookup 85 (.map (some N)) (.int .u32 m) false).run Tryz.prog U = .ok (.agg #[.int .u64 (hiW g0), .int .u64 (loW g0)]) U from fun U hU => by
    have h1 := hU.get okU m HUM.out
    have h2 : (g m).getD kvU.zero = g0 := hgg
    rw [h2] at h1
    exact h1)
   have PG := hid (show ∀ U, Mp kvU U N j g → ∃ U', (Instr.mapUpdate 85 (.map (some N)) (.int .u32 m) (.agg #[.int .u64 (hiW e0), .int .u64 (loW e0)])).run Tryz.prog U = .ok () U' ∧ Mp kvU U' N (j + 1) (upd g m e0) ∧ Kp (fun x => x = N) U U' from fun U hU => hU.put okU (by have := HJ.out; have := HNN.out; unfold maxLen; omega) m HUM.out e0)
   have HSD2 := hid (show Sd f (fun x => lf x && !(decide (x = (m, i)))) (ks ++ [(m, i)]) from ⟨by
    rw [List.nodup_append]
    exact ⟨HSD.out.nd, by simp, fun a ha b hb e => by simp at hb; subst hb; subst e; exact hsd.2 ha⟩, fun k hk => by
    rcases List.mem_append.1 hk with hk | hk
    ·exact HSD.out.ok k hk
    ·simp at hk; subst hk; exact ⟨hok, hsd.1⟩, fun k hk => by
    have h1 := HSD.out.lf k hk
    by_cases c : k = (m, i)
    ·subst c; simp
    ·simp only [c, decide_false, Bool.not_false, Bool.and_true, List.mem_append, List.mem_singleton, or_false]; exact h1⟩)
   have wp : IntKind.u32.wrap rp = rp := by have := HQ.out.1; have := HQ.out.2; rw [IntKind.wrap_u32]; omega
   unfold mv at CT CP CPo
   clear hok hlf hmr hlt hko hfx hsd hs ht hd hg0 hg hdd hgg he0 hq hv hqb s0
   obtain ⟨gA, hgA⟩ : ∃ g, wn.heap.size = g := ⟨_, rfl⟩
   obtain ⟨Wx, hWx⟩ : ∃ W, wn.alloc (.cells #[.int .u32 0, .int .u32 0] 79) = W := ⟨_, rfl⟩
   obtain ⟨gB, hgB⟩ : ∃ g, Wx.heap.size = g := ⟨_, rfl⟩
   obtain ⟨Wy, hWy⟩ : ∃ W, Wx.alloc (.cells #[.int .i64 0, .int .u64 0, .int .u64 0] 109) = W := ⟨_, rfl⟩
   obtain ⟨Wz, hWz⟩ : ∃ W, Wy.setRow gA #[.int .u32 m, .int .u32 i] = W := ⟨_, rfl⟩
   obtain ⟨Wu, hWu⟩ : ∃ W, Wz.setRow gB #[.int .i64 q, .int .u64 (hiW v), .int .u64 (loW v)] = W := ⟨_, rfl⟩
   have bx : Below wn.heap.size wn Wx := by rw [← hWx]; exact ball _ _
   have bY : Below Wx.heap.size Wx Wy := by rw [← hWy]; exact ball _ _
   have zA : Wx.heap[gA]? = some (.cells #[.int .u32 0, .int .u32 0] 79 (0, 0)) := by rw [← hWx, ← hgA]; exact World.alloc_heap_new _ _
   have ZA := hid (row_on zA bY)
   have zB : Wy.heap[gB]? = some (.cells #[.int .i64 0, .int .u64 0, .int .u64 0] 109 (0, 0)) := by rw [← hWy, ← hgB]; exact World.alloc_heap_new _ _
   have nAB : gA ≠ gB := by have := row_lt zA; omega
   have kz : Kp (fun j => j = gA) Wy Wz := by rw [← hWz]; exact setRow_kp _ _ _
   have ku : Kp (fun j => j = gB) Wz Wu := by rw [← hWu]; exact setRow_kp _ _ _
   have ZB := hid (kz.row zB (fun e => nAB e.symm))
   have rA : Wz.heap[gA]? = some (.cells #[.int .u32 m, .int .u32 i] 79 (0, 0)) := by rw [← hWz]; exact setRow_heap _ _ _ _ 79 (0, 0) ZA.out
   have RA := hid (ku.row rA nAB)
   have RB := hid (show Wu.heap[gB]? = some (.cells #[.int .i64 q, .int .u64 (hiW v), .int .u64 (loW v)] 109 (0, 0)) from by rw [← hWu]; exact setRow_heap _ _ _ _ 109 (0, 0) ZB.out)
   have BU := hid (show Below wn.heap.size wn Wu from (((btr bx bY).trans (kz.below (btr bx bY).size (fun g hg e => by omega))).trans (ku.below (Nat.le_trans (btr bx bY).size kz.size) (fun g hg e => by have := bx.size; omega))))
   clear bx bY zA zB nAB kz ku rA
   go_upto_region 5 with (first
    | (refine wpList_store_row (by rfl) 79 (.tmp 6) (.tmp 21) (by rfl) gA #[.int .u32 m, .int .u32 i] (by rfl) (by rfl) 79 _ ZA.out infoH2 (by rfl) (by simp [Value.oneCell']) ?_; rw [hWz])
    | (refine wpList_store_row (by rfl) 109 (.tmp 7) (.tmp 22) (by rfl) gB #[.int .i64 q, .int .u64 (hiW v), .int .u64 (loW v)] (by rfl) (by rfl) 109 _ ZB.out infoP3 (by rfl) (by simp [Value.oneCell']) ?_; rw [hWu]))
   clear hgA hWx hgB hWy hWz hWu ZA ZB
   have LK : (Instr.lookup 113 (.map (some M)) (.int .u32 i) true).run Tryz.prog Wu = .ok (.tuple #[.agg #[.int .u32 i, .int .i64 rp, .int .u32 ra, .int .u32 rb], .bool true]) Wu := by
    have h1 := (HMMn.out.on BU.out).look okR i HUI.out
    rw [upd_same] at h1
    exact h1
   clear hnext hentry
   have a1 := row_cell RA.out 1
   simp only [lqA, lqB, lqC] at a1
   obtain ⟨gC, hgC⟩ : ∃ g, Wu.heap.size = g := ⟨_, rfl⟩
   obtain ⟨Wv, hWv⟩ : ∃ W, Wu.alloc (.cells #[.int .u32 0, .int .i64 0, .int .u32 0, .int .u32 0] 61) = W := ⟨_, rfl⟩
   obtain ⟨Ww, hWw⟩ : ∃ W, Wv.setRow gC #[.int .u32 i, .int .i64 rp, .int .u32 ra, .int .u32 rb] = W := ⟨_, rfl⟩
   have bv : Below Wu.heap.size Wu Wv := by rw [← hWv]; exact ball _ _
   have ZC := hid (show Wv.heap[gC]? = some (.cells #[.int .u32 0, .int .i64 0, .int .u32 0, .int .u32 0] 61 (0, 0)) from by rw [← hWv, ← hgC]; exact World.alloc_heap_new _ _)
   have RC := hid (show Ww.heap[gC]? = some (.cells #[.int .u32 i, .int .i64 rp, .int .u32 ra, .int .u32 rb] 61 (0, 0)) from by rw [← hWw]; exact setRow_heap _ _ _ _ 61 (0, 0) ZC.out)
   have BV := hid (show Below Wu.heap.size Wu Ww from by rw [← hWw]; exact setRow_below bv (Nat.le_of_eq hgC))
   have RA := hid (row_on RA.out BV.out)
   have RB := hid (row_on RB.out BV.out)
   have BW := hid (btr BU.out BV.out)
   clear bv
   go_upto_region 7 with (refine wpList_store_row (by rfl) 61 (.tmp 8) (.tmp 28) (by rfl) gC #[.int .u32 i, .int .i64 rp, .int .u32 ra, .int .u32 rb] (by rfl) (by rfl) 61 _ ZC.out infoT4 (by rfl) (by simp [Value.oneCell']) ?_; rw [hWw])
   clear hgC hWv hWw ZC LK
   have BRF := hid (Below.refl Ww.heap.size Ww)
   refine reg_cut (X := Nat) (fun a x => ((((((((((((((((a.put (some 33) (.pointer (some ⟨gC, 1, none⟩))).put (some 34) (.int .i64 rp)).put (some 35) (.int .u32 rp)).put (some 36) (.agg #[.int .i64 q, .int .u64 (hiW v), .int .u64 (loW v)])).put (some 37) (.int .u64 s)).put (some 38) (.agg #[.int .u64 (hiW t), .int .u64 (loW t)])).put (some 39) (.pointer (some ⟨gC, 2, none⟩))).put (some 40) (.int .u32 ra)).put (some 41) (.pointer (some ⟨gC, 3, none⟩))).put (some 42) (.int .u32 rb)).put (some 43) (.tuple #[.agg #[.int .u64 (hiW d), .int .u64 (loW d)], .int .i64 er])).put (some 32) (.tuple #[.agg #[.int .u64 (hiW d), .int .u64 (loW d)], .int .i64 er])).put (some 44) (.agg #[.int .u64 (hiW d), .int .u64 (loW d)])).put (some 45) (.int .i64 er)).put (some 10) (.pointer (some ⟨x, 0, none⟩))).put (some 11) (.int .i64 er))) (fun x V => Hid (Below Ww.heap.size Ww V) ∧ Hid (V.heap[gA]? = some (.cells #[.int .u32 m, .int .u32 i] 79 (0, 0))) ∧ Hid (V.heap[x]? = some (.cells #[.int .u64 (hiW d), .int .u64 (loW d)] 33 (0, 0)))) ?_ ?_
   ·obtain ⟨V1, hV1⟩ : ∃ U, Ww.drew = U := ⟨_, rfl⟩
    have bV1 := hid (show Below Ww.heap.size Ww V1 from by rw [← hV1]; exact bdrew1 _)
    have DV1 := hid (btr BRF.out bV1.out)
    have r2 := hid (row_on RA.out bV1.out)
    have r3 := hid (row_on RB.out bV1.out)
    have r4 := hid (row_on RC.out bV1.out)
    refine wp_region_held_drew (S := (fun U => U.cell? ⟨gC, 1, none⟩ = some (.int .i64 rp) ∧ U.cell? ⟨gC, 2, none⟩ = some (.int .u32 ra) ∧ U.cell? ⟨gC, 3, none⟩ = some (.int .u32 rb) ∧ U.cell? ⟨gB, 0, none⟩ = some (.int .i64 q) ∧ U.cell? ⟨gB, 1, none⟩ = some (.int .u64 (hiW v)) ∧ U.cell? ⟨gB, 2, none⟩ = some (.int .u64 (loW v)))) (by kernel_rfl) ?_ (fun hHeld => ?_)
    ·(try dsimp only); rw [hV1]; exact ⟨row_cell r4.out 1, row_cell r4.out 2, row_cell r4.out 3, row_cell r3.out 0, row_cell r3.out 1, row_cell r3.out 2⟩
    rw [hV1] at hHeld ⊢
    clear hV1
    refine' tkz 0 rfl ?_ ?_
    rotate_left
    ·(intro w hSw; (try dsimp only at hSw); go_simp; try (with_reducible rfl))
    try simp only [lgA, lgB, lgC, Act.put, lsA, lsB, lsC]
    refine' tkz 1 rfl ?_ ?_
    rotate_left
    ·(intro w hSw; (try dsimp only at hSw); go_simp; try (with_reducible rfl))
    try simp only [lgA, lgB, lgC, Act.put, lsA, lsB, lsC]
    refine' tkz 2 rfl ?_ ?_
    rotate_left
    ·(intro w hSw; (try dsimp only at hSw); go_simp; try (with_reducible rfl))
    try simp only [lgA, lgB, lgC, Act.put, lsA, lsB, lsC]
    refine' tkz 3 rfl ?_ ?_
    rotate_left
    ·(intro w hSw; (try dsimp only at hSw); go_simp; try (with_reducible rfl))
    try simp only [lgA, lgB, lgC, Act.put, lsA, lsB, lsC]
    refine' tkz 6 rfl ?_ ?_
    rotate_left
    ·(intro w hSw; (try dsimp only at hSw); go_simp; try (with_reducible rfl))
    try simp only [lgA, lgB, lgC, Act.put, lsA, lsB, lsC]
    refine' tkz 7 rfl ?_ ?_
    rotate_left
    ·(intro w hSw; (try dsimp only at hSw); go_simp; try (with_reducible rfl))
    try simp only [lgA, lgB, lgC, Act.put, lsA, lsB, lsC]
    refine' tkz 8 rfl ?_ ?_
    rotate_left
    ·(intro w hSw; (try dsimp only at hSw); go_simp; try (with_reducible rfl))
    try simp only [lgA, lgB, lgC, Act.put, lsA, lsB, lsC]
    refine' tkz 9 rfl ?_ ?_
    rotate_left
    ·(intro w hSw; (try dsimp only at hSw); go_simp; try (with_reducible rfl))
    try simp only [lgA, lgB, lgC, Act.put, lsA, lsB, lsC]
    refine wpAnyH_ready (rs := [4, 14]) (by kernel_rfl) (by simp) ?_
    refine (AllReadyH.cons rfl (fun K hK => ?_) (AllReadyH.cons rfl (fun K hK => ?_) AllReadyH.nil))
    ·go_simp
     go_at_call 38
     with_reducible refine (CS.out V1).mono ?_
     rintro e X5 ⟨rfl, cX5⟩
     have bX5 := hid cX5
     clear cX5
     have DX5 := hid (btr DV1.out bX5.out)
     have r6 := hid (row_on r2.out bX5.out)
     have r7 := hid (row_on r3.out bX5.out)
     have r8 := hid (row_on r4.out bX5.out)
     (try go_wp2_with fail)
     refine hK.out _ _ ?_ (fun hHeld => ?_)
     ·(try dsimp only); exact ⟨row_cell r8.out 1, row_cell r8.out 2, row_cell r8.out 3, row_cell r7.out 0, row_cell r7.out 1, row_cell r7.out 2⟩
     clear hK K
     try simp only [lgA, lgB, lgC, Act.put, lsA, lsB, lsC]
     refine wpAnyH_ready (rs := [5, 14]) (by kernel_rfl) (by simp) ?_
     refine (AllReadyH.cons rfl (fun K hK => ?_) (AllReadyH.cons rfl (fun K hK => ?_) AllReadyH.nil))
     ·go_simp
      go_at_call 67
      with_reducible refine (CT.out X5).mono ?_
      rintro e X9 ⟨rfl, cX9⟩
      have bX9 := hid cX9
      clear cX9
      have DX9 := hid (btr DX5.out bX9.out)
      have r10 := hid (row_on r6.out bX9.out)
      have r11 := hid (row_on r7.out bX9.out)
      have r12 := hid (row_on r8.out bX9.out)
      (try go_wp2_with fail)
      refine hK.out _ _ ?_ (fun hHeld => ?_)
      ·(try dsimp only); exact ⟨row_cell r12.out 1, row_cell r12.out 2, row_cell r12.out 3, row_cell r11.out 0, row_cell r11.out 1, row_cell r11.out 2⟩
      clear hK K
      try simp only [lgA, lgB, lgC, Act.put, lsA, lsB, lsC]
      refine wpAnyH_ready (rs := [10, 14]) (by kernel_rfl) (by simp) ?_
      refine (AllReadyH.cons rfl (fun K hK => ?_) (AllReadyH.cons rfl (fun K hK => ?_) AllReadyH.nil))
      ·go_simp
       go_at_call 71
       with_reducible refine (CPo.out X9).mono ?_
       rintro e X13 ⟨rfl, cX13⟩
       have bX13 := hid cX13
       clear cX13
       have DX13 := hid (btr DX9.out bX13.out)
       have r14 := hid (row_on r10.out bX13.out)
       have r15 := hid (row_on r11.out bX13.out)
       have r16 := hid (row_on r12.out bX13.out)
       (try go_wp2_with fail)
       refine hK.out _ _ ?_ (fun hHeld => ?_)
       ·(try dsimp only); exact ⟨row_cell r16.out 1, row_cell r16.out 2, row_cell r16.out 3, row_cell r15.out 0, row_cell r15.out 1, row_cell r15.out 2⟩
       clear hK K
       try simp only [lgA, lgB, lgC, Act.put, lsA, lsB, lsC]
       refine' tkz 11 rfl ?_ ?_
       rotate_left
       ·(intro w hSw; (try dsimp only at hSw); go_simp; try (with_reducible rfl))
       try simp only [lgA, lgB, lgC, Act.put, lsA, lsB, lsC]
       refine' tkz 12 rfl ?_ ?_
       rotate_left
       ·(intro w hSw; (try dsimp only at hSw); go_simp; try (with_reducible rfl))
       try simp only [lgA, lgB, lgC, Act.put, lsA, lsB, lsC]
       refine' tkz 13 rfl ?_ ?_
       rotate_left
       ·(intro w hSw; (try dsimp only at hSw); go_simp; try (with_reducible rfl))
       try simp only [lgA, lgB, lgC, Act.put, lsA, lsB, lsC]
       refine wpAnyH_ready (rs := [14]) (by kernel_rfl) (by simp) ?_
       refine (AllReadyH.cons rfl (fun K hK => ?_) AllReadyH.nil)
       go_simp
       obtain ⟨X17, hX17⟩ : ∃ X, X13.alloc (.cells #[.int .u64 0, .int .u64 0] 33) = X := ⟨_, rfl⟩
       have bX17 := hid (show Below X13.heap.size X13 X17 from by rw [← hX17]; exact ball _ _)
       have zX17 : X17.heap[X13.heap.size]? = some (.cells #[.int .u64 0, .int .u64 0] 33 (0, 0)) := by rw [← hX17]; exact World.alloc_heap_new _ _
       have DX17 := hid (btr DX13.out bX17.out)
       have r19 := hid (row_on r14.out bX17.out)
       have r20 := hid (row_on r15.out bX17.out)
       have r21 := hid (row_on r16.out bX17.out)
       obtain ⟨g18, hg18⟩ : ∃ g, X13.heap.size = g := ⟨_, rfl⟩
       have ne22 := hid (show gA ≠ g18 from by have := row_lt r14.out; omega)
       have ne23 := hid (show gB ≠ g18 from by have := row_lt r15.out; omega)
       have ne24 := hid (show gC ≠ g18 from by have := row_lt r16.out; omega)
       have yg18 := hid (Nat.le_trans DX13.out.size (Nat.le_refl _))
       rw [hg18] at zX17 yg18
       have ZX17 := hid zX17
       rw [hX17, hg18]
       clear hX17 hg18 zX17
       refine hK.out _ _ ?_ (fun hHeld => ?_)
       ·(try dsimp only); exact ⟨row_cell r21.out 1, row_cell r21.out 2, row_cell r21.out 3, row_cell r20.out 0, row_cell r20.out 1, row_cell r20.out 2⟩
       clear hK K
       try simp only [lgA, lgB, lgC, Act.put, lsA, lsB, lsC]
       refine wpAnyH_ready (rs := [15]) (by kernel_rfl) (by simp) ?_
       refine (AllReadyH.cons rfl (fun K hK => ?_) AllReadyH.nil)
       refine step_store_row (by rfl) 33 (.tmp 10) (.tmp 44) (by rfl) g18 #[.int .u64 (hiW d), .int .u64 (loW d)] (by rfl) (by rfl) 33 _ ZX17.out infoM2 (by rfl) (by simp [Value.oneCell']) ?_
       have AY25 := hid (setRow_heap X17 g18 _ #[.int .u64 (hiW d), .int .u64 (loW d)] 33 (0, 0) ZX17.out)
       have kY25 := hid (setRow_kp X17 g18 #[.int .u64 (hiW d), .int .u64 (loW d)])
       have r26 := hid (kY25.out.row r19.out (fun e => ne22.out e))
       have r27 := hid (kY25.out.row r20.out (fun e => ne23.out e))
       have r28 := hid (kY25.out.row r21.out (fun e => ne24.out e))
       have DY25 := hid (show Below _ _ _ from DX17.out.trans (kY25.out.below DX17.out.size (fun g hg e => by have := yg18.out; omega)))
       obtain ⟨Y25, hY25⟩ : ∃ Y, X17.setRow g18 #[.int .u64 (hiW d), .int .u64 (loW d)] = Y := ⟨_, rfl⟩
       rw [hY25] at AY25 kY25 DY25 r26 r27 r28 ⊢
       clear hY25
       refine hK.out _ _ ?_ (fun hHeld => ?_)
       ·(try dsimp only); exact ⟨row_cell r28.out 1, row_cell r28.out 2, row_cell r28.out 3, row_cell r27.out 0, row_cell r27.out 1, row_cell r27.out 2⟩
       clear hK K
       try simp only [lgA, lgB, lgC, Act.put, lsA, lsB, lsC]
       refine' tkz 16 rfl ?_ ?_
       rotate_left
       ·(intro w hSw; (try dsimp only at hSw); go_simp; try (with_reducible rfl))
       try simp only [lgA, lgB, lgC, Act.put, lsA, lsB, lsC]
       refine wpAnyH_done (by kernel_rfl) ?_ _
       exact ⟨g18, by kernel_rfl, DY25, r26, AY25⟩
      ·go_simp
       obtain ⟨X29, hX29⟩ : ∃ X, X9.alloc (.cells #[.int .u64 0, .int .u64 0] 33) = X := ⟨_, rfl⟩
       have bX29 := hid (show Below X9.heap.size X9 X29 from by rw [← hX29]; exact ball _ _)
       have zX29 : X29.heap[X9.heap.size]? = some (.cells #[.int .u64 0, .int .u64 0] 33 (0, 0)) := by rw [← hX29]; exact World.alloc_heap_new _ _
       have DX29 := hid (btr DX9.out bX29.out)
       have r31 := hid (row_on r10.out bX29.out)
       have r32 := hid (row_on r11.out bX29.out)
       have r33 := hid (row_on r12.out bX29.out)
       obtain ⟨g30, hg30⟩ : ∃ g, X9.heap.size = g := ⟨_, rfl⟩
       have ne34 := hid (show gA ≠ g30 from by have := row_lt r10.out; omega)
       have ne35 := hid (show gB ≠ g30 from by have := row_lt r11.out; omega)
       have ne36 := hid (show gC ≠ g30 from by have := row_lt r12.out; omega)
       have yg30 := hid (Nat.le_trans DX9.out.size (Nat.le_refl _))
       rw [hg30] at zX29 yg30
       have ZX29 := hid zX29
       rw [hX29, hg30]
       clear hX29 hg30 zX29
       refine hK.out _ _ ?_ (fun hHeld => ?_)
       ·(try dsimp only); exact ⟨row_cell r33.out 1, row_cell r33.out 2, row_cell r33.out 3, row_cell r32.out 0, row_cell r32.out 1, row_cell r32.out 2⟩
       clear hK K
       try simp only [lgA, lgB, lgC, Act.put, lsA, lsB, lsC]
       refine wpAnyH_ready (rs := [10]) (by kernel_rfl) (by simp) ?_
       refine (AllReadyH.cons rfl (fun K hK => ?_) AllReadyH.nil)
       go_simp
       go_at_call 71
       with_reducible refine (CPo.out X29).mono ?_
       rintro e X37 ⟨rfl, cX37⟩
       have bX37 := hid cX37
       clear cX37
       have DX37 := hid (btr DX29.out bX37.out)
       have r38 := hid (row_on r31.out bX37.out)
       have r39 := hid (row_on r32.out bX37.out)
       have r40 := hid (row_on r33.out bX37.out)
       have r41 := hid (row_on ZX29.out bX37.out)
       (try go_wp2_with fail)
       refine hK.out _ _ ?_ (fun hHeld => ?_)
       ·(try dsimp only); exact ⟨row_cell r40.out 1, row_cell r40.out 2, row_cell r40.out 3, row_cell r39.out 0, row_cell r39.out 1, row_cell r39.out 2⟩
       clear hK K
       try simp only [lgA, lgB, lgC, Act.put, lsA, lsB, lsC]
       refine' tkz 11 rfl ?_ ?_
       rotate_left
       ·(intro w hSw; (try dsimp only at hSw); go_simp; try (with_reducible rfl))
       try simp only [lgA, lgB, lgC, Act.put, lsA, lsB, lsC]
       refine' tkz 12 rfl ?_ ?_
       rotate_left
       ·(intro w hSw; (try dsimp only at hSw); go_simp; try (with_reducible rfl))
       try simp only [lgA, lgB, lgC, Act.put, lsA, lsB, lsC]
       refine' tkz 13 rfl ?_ ?_
       rotate_left
       ·(intro w hSw; (try dsimp only at hSw); go_simp; try (with_reducible rfl))
       try simp only [lgA, lgB, lgC, Act.put, lsA, lsB, lsC]
       refine wpAnyH_ready (rs := [15]) (by kernel_rfl) (by simp) ?_
       refine (AllReadyH.cons rfl (fun K hK => ?_) AllReadyH.nil)
       refine step_store_row (by rfl) 33 (.tmp 10) (.tmp 44) (by rfl) g30 #[.int .u64 (hiW d), .int .u64 (loW d)] (by rfl) (by rfl) 33 _ r41.out infoM2 (by rfl) (by simp [Value.oneCell']) ?_
       have AY42 := hid (setRow_heap X37 g30 _ #[.int .u64 (hiW d), .int .u64 (loW d)] 33 (0, 0) r41.out)
       have kY42 := hid (setRow_kp X37 g30 #[.int .u64 (hiW d), .int .u64 (loW d)])
       have r43 := hid (kY42.out.row r38.out (fun e => ne34.out e))
       have r44 := hid (kY42.out.row r39.out (fun e => ne35.out e))
       have r45 := hid (kY42.out.row r40.out (fun e => ne36.out e))
       have DY42 := hid (show Below _ _ _ from DX37.out.trans (kY42.out.below DX37.out.size (fun g hg e => by have := yg30.out; omega)))
       obtain ⟨Y42, hY42⟩ : ∃ Y, X37.setRow g30 #[.int .u64 (hiW d), .int .u64 (loW d)] = Y := ⟨_, rfl⟩
       rw [hY42] at AY42 kY42 DY42 r43 r44 r45 ⊢
       clear hY42
       refine hK.out _ _ ?_ (fun hHeld => ?_)
       ·(try dsimp only); exact ⟨row_cell r45.out 1, row_cell r45.out 2, row_cell r45.out 3, row_cell r44.out 0, row_cell r44.out 1, row_cell r44.out 2⟩
       clear hK K
       try simp only [lgA, lgB, lgC, Act.put, lsA, lsB, lsC]
       refine' tkz 16 rfl ?_ ?_
       rotate_left
       ·(intro w hSw; (try dsimp only at hSw); go_simp; try (with_reducible rfl))
       try simp only [lgA, lgB, lgC, Act.put, lsA, lsB, lsC]
       refine wpAnyH_done (by kernel_rfl) ?_ _
       exact ⟨g30, by kernel_rfl, DY42, r43, AY42⟩
     ·go_simp
      obtain ⟨X46, hX46⟩ : ∃ X, X5.alloc (.cells #[.int .u64 0, .int .u64 0] 33) = X := ⟨_, rfl⟩
      have bX46 := hid (show Below X5.heap.size X5 X46 from by rw [← hX46]; exact ball _ _)
      have zX46 : X46.heap[X5.heap.size]? = some (.cells #[.int .u64 0, .int .u64 0] 33 (0, 0)) := by rw [← hX46]; exact World.alloc_heap_new _ _
      have DX46 := hid (btr DX5.out bX46.out)
      have r48 := hid (row_on r6.out bX46.out)
      have r49 := hid (row_on r7.out bX46.out)
      have r50 := hid (row_on r8.out bX46.out)
      obtain ⟨g47, hg47⟩ : ∃ g, X5.heap.size = g := ⟨_, rfl⟩
      have ne51 := hid (show gA ≠ g47 from by have := row_lt r6.out; omega)
      have ne52 := hid (show gB ≠ g47 from by have := row_lt r7.out; omega)
      have ne53 := hid (show gC ≠ g47 from by have := row_lt r8.out; omega)
      have yg47 := hid (Nat.le_trans DX5.out.size (Nat.le_refl _))
      rw [hg47] at zX46 yg47
      have ZX46 := hid zX46
      rw [hX46, hg47]
      clear hX46 hg47 zX46
      refine hK.out _ _ ?_ (fun hHeld => ?_)
      ·(try dsimp only); exact ⟨row_cell r50.out 1, row_cell r50.out 2, row_cell r50.out 3, row_cell r49.out 0, row_cell r49.out 1, row_cell r49.out 2⟩
      clear hK K
      try simp only [lgA, lgB, lgC, Act.put, lsA, lsB, lsC]
      refine wpAnyH_ready (rs := [5]) (by kernel_rfl) (by simp) ?_
      refine (AllReadyH.cons rfl (fun K hK => ?_) AllReadyH.nil)
      go_simp
      go_at_call 67
      with_reducible refine (CT.out X46).mono ?_
      rintro e X54 ⟨rfl, cX54⟩
      have bX54 := hid cX54
      clear cX54
      have DX54 := hid (btr DX46.out bX54.out)
      have r55 := hid (row_on r48.out bX54.out)
      have r56 := hid (row_on r49.out bX54.out)
      have r57 := hid (row_on r50.out bX54.out)
      have r58 := hid (row_on ZX46.out bX54.out)
      (try go_wp2_with fail)
      refine hK.out _ _ ?_ (fun hHeld => ?_)
      ·(try dsimp only); exact ⟨row_cell r57.out 1, row_cell r57.out 2, row_cell r57.out 3, row_cell r56.out 0, row_cell r56.out 1, row_cell r56.out 2⟩
      clear hK K
      try simp only [lgA, lgB, lgC, Act.put, lsA, lsB, lsC]
      refine wpAnyH_ready (rs := [10]) (by kernel_rfl) (by simp) ?_
      refine (AllReadyH.cons rfl (fun K hK => ?_) AllReadyH.nil)
      go_simp
      go_at_call 71
      with_reducible refine (CPo.out X54).mono ?_
      rintro e X59 ⟨rfl, cX59⟩
      have bX59 := hid cX59
      clear cX59
      have DX59 := hid (btr DX54.out bX59.out)
      have r60 := hid (row_on r55.out bX59.out)
      have r61 := hid (row_on r56.out bX59.out)
      have r62 := hid (row_on r57.out bX59.out)
      have r63 := hid (row_on r58.out bX59.out)
      (try go_wp2_with fail)
      refine hK.out _ _ ?_ (fun hHeld => ?_)
      ·(try dsimp only); exact ⟨row_cell r62.out 1, row_cell r62.out 2, row_cell r62.out 3, row_cell r61.out 0, row_cell r61.out 1, row_cell r61.out 2⟩
      clear hK K
      try simp only [lgA, lgB, lgC, Act.put, lsA, lsB, lsC]
      refine' tkz 11 rfl ?_ ?_
      rotate_left
      ·(intro w hSw; (try dsimp only at hSw); go_simp; try (with_reducible rfl))
      try simp only [lgA, lgB, lgC, Act.put, lsA, lsB, lsC]
      refine' tkz 12 rfl ?_ ?_
      rotate_left
      ·(intro w hSw; (try dsimp only at hSw); go_simp; try (with_reducible rfl))
      try simp only [lgA, lgB, lgC, Act.put, lsA, lsB, lsC]
      refine' tkz 13 rfl ?_ ?_
      rotate_left
      ·(intro w hSw; (try dsimp only at hSw); go_simp; try (with_reducible rfl))
      try simp only [lgA, lgB, lgC, Act.put, lsA, lsB, lsC]
      refine wpAnyH_ready (rs := [15]) (by kernel_rfl) (by simp) ?_
      refine (AllReadyH.cons rfl (fun K hK => ?_) AllReadyH.nil)
      refine step_store_row (by rfl) 33 (.tmp 10) (.tmp 44) (by rfl) g47 #[.int .u64 (hiW d), .int .u64 (loW d)] (by rfl) (by rfl) 33 _ r63.out infoM2 (by rfl) (by simp [Value.oneCell']) ?_
      have AY64 := hid (setRow_heap X59 g47 _ #[.int .u64 (hiW d), .int .u64 (loW d)] 33 (0, 0) r63.out)
      have kY64 := hid (setRow_kp X59 g47 #[.int .u64 (hiW d), .int .u64 (loW d)])
      have r65 := hid (kY64.out.row r60.out (fun e => ne51.out e))
      have r66 := hid (kY64.out.row r61.out (fun e => ne52.out e))
      have r67 := hid (kY64.out.row r62.out (fun e => ne53.out e))
      have DY64 := hid (show Below _ _ _ from DX59.out.trans (kY64.out.below DX59.out.size (fun g hg e => by have := yg47.out; omega)))
      obtain ⟨Y64, hY64⟩ : ∃ Y, X59.setRow g47 #[.int .u64 (hiW d), .int .u64 (loW d)] = Y := ⟨_, rfl⟩
      rw [hY64] at AY64 kY64 DY64 r65 r66 r67 ⊢
      clear hY64
      refine hK.out _ _ ?_ (fun hHeld => ?_)
      ·(try dsimp only); exact ⟨row_cell r67.out 1, row_cell r67.out 2, row_cell r67.out 3, row_cell r66.out 0, row_cell r66.out 1, row_cell r66.out 2⟩
      clear hK K
      try simp only [lgA, lgB, lgC, Act.put, lsA, lsB, lsC]
      refine' tkz 16 rfl ?_ ?_
      rotate_left
      ·(intro w hSw; (try dsimp only at hSw); go_simp; try (with_reducible rfl))
      try simp only [lgA, lgB, lgC, Act.put, lsA, lsB, lsC]
      refine wpAnyH_done (by kernel_rfl) ?_ _
      exact ⟨g47, by kernel_rfl, DY64, r65, AY64⟩
    ·go_simp
     obtain ⟨X68, hX68⟩ : ∃ X, V1.alloc (.cells #[.int .u64 0, .int .u64 0] 33) = X := ⟨_, rfl⟩
     have bX68 := hid (show Below V1.heap.size V1 X68 from by rw [← hX68]; exact ball _ _)
     have zX68 : X68.heap[V1.heap.size]? = some (.cells #[.int .u64 0, .int .u64 0] 33 (0, 0)) := by rw [← hX68]; exact World.alloc_heap_new _ _
     have DX68 := hid (btr DV1.out bX68.out)
     have r70 := hid (row_on r2.out bX68.out)
     have r71 := hid (row_on r3.out bX68.out)
     have r72 := hid (row_on r4.out bX68.out)
     obtain ⟨g69, hg69⟩ : ∃ g, V1.heap.size = g := ⟨_, rfl⟩
     have ne73 := hid (show gA ≠ g69 from by have := row_lt r2.out; omega)
     have ne74 := hid (show gB ≠ g69 from by have := row_lt r3.out; omega)
     have ne75 := hid (show gC ≠ g69 from by have := row_lt r4.out; omega)
     have yg69 := hid (Nat.le_trans DV1.out.size (Nat.le_refl _))
     rw [hg69] at zX68 yg69
     have ZX68 := hid zX68
     rw [hX68, hg69]
     clear hX68 hg69 zX68
     refine hK.out _ _ ?_ (fun hHeld => ?_)
     ·(try dsimp only); exact ⟨row_cell r72.out 1, row_cell r72.out 2, row_cell r72.out 3, row_cell r71.out 0, row_cell r71.out 1, row_cell r71.out 2⟩
     clear hK K
     try simp only [lgA, lgB, lgC, Act.put, lsA, lsB, lsC]
     refine wpAnyH_ready (rs := [4]) (by kernel_rfl) (by simp) ?_
     refine (AllReadyH.cons rfl (fun K hK => ?_) AllReadyH.nil)
     go_simp
     go_at_call 38
     with_reducible refine (CS.out X68).mono ?_
     rintro e X76 ⟨rfl, cX76⟩
     have bX76 := hid cX76
     clear cX76
     have DX76 := hid (btr DX68.out bX76.out)
     have r77 := hid (row_on r70.out bX76.out)
     have r78 := hid (row_on r71.out bX76.out)
     have r79 := hid (row_on r72.out bX76.out)
     have r80 := hid (row_on ZX68.out bX76.out)
     (try go_wp2_with fail)
     refine hK.out _ _ ?_ (fun hHeld => ?_)
     ·(try dsimp only); exact ⟨row_cell r79.out 1, row_cell r79.out 2, row_cell r79.out 3, row_cell r78.out 0, row_cell r78.out 1, row_cell r78.out 2⟩
     clear hK K
     try simp only [lgA, lgB, lgC, Act.put, lsA, lsB, lsC]
     refine wpAnyH_ready (rs := [5]) (by kernel_rfl) (by simp) ?_
     refine (AllReadyH.cons rfl (fun K hK => ?_) AllReadyH.nil)
     go_simp
     go_at_call 67
     with_reducible refine (CT.out X76).mono ?_
     rintro e X81 ⟨rfl, cX81⟩
     have bX81 := hid cX81
     clear cX81
     have DX81 := hid (btr DX76.out bX81.out)
     have r82 := hid (row_on r77.out bX81.out)
     have r83 := hid (row_on r78.out bX81.out)
     have r84 := hid (row_on r79.out bX81.out)
     have r85 := hid (row_on r80.out bX81.out)
     (try go_wp2_with fail)
     refine hK.out _ _ ?_ (fun hHeld => ?_)
     ·(try dsimp only); exact ⟨row_cell r84.out 1, row_cell r84.out 2, row_cell r84.out 3, row_cell r83.out 0, row_cell r83.out 1, row_cell r83.out 2⟩
     clear hK K
     try simp only [lgA, lgB, lgC, Act.put, lsA, lsB, lsC]
     refine wpAnyH_ready (rs := [10]) (by kernel_rfl) (by simp) ?_
     refine (AllReadyH.cons rfl (fun K hK => ?_) AllReadyH.nil)
     go_simp
     go_at_call 71
     with_reducible refine (CPo.out X81).mono ?_
     rintro e X86 ⟨rfl, cX86⟩
     have bX86 := hid cX86
     clear cX86
     have DX86 := hid (btr DX81.out bX86.out)
     have r87 := hid (row_on r82.out bX86.out)
     have r88 := hid (row_on r83.out bX86.out)
     have r89 := hid (row_on r84.out bX86.out)
     have r90 := hid (row_on r85.out bX86.out)
     (try go_wp2_with fail)
     refine hK.out _ _ ?_ (fun hHeld => ?_)
     ·(try dsimp only); exact ⟨row_cell r89.out 1, row_cell r89.out 2, row_cell r89.out 3, row_cell r88.out 0, row_cell r88.out 1, row_cell r88.out 2⟩
     clear hK K
     try simp only [lgA, lgB, lgC, Act.put, lsA, lsB, lsC]
     refine' tkz 11 rfl ?_ ?_
     rotate_left
     ·(intro w hSw; (try dsimp only at hSw); go_simp; try (with_reducible rfl))
     try simp only [lgA, lgB, lgC, Act.put, lsA, lsB, lsC]
     refine' tkz 12 rfl ?_ ?_
     rotate_left
     ·(intro w hSw; (try dsimp only at hSw); go_simp; try (with_reducible rfl))
     try simp only [lgA, lgB, lgC, Act.put, lsA, lsB, lsC]
     refine' tkz 13 rfl ?_ ?_
     rotate_left
     ·(intro w hSw; (try dsimp only at hSw); go_simp; try (with_reducible rfl))
     try simp only [lgA, lgB, lgC, Act.put, lsA, lsB, lsC]
     refine wpAnyH_ready (rs := [15]) (by kernel_rfl) (by simp) ?_
     refine (AllReadyH.cons rfl (fun K hK => ?_) AllReadyH.nil)
     refine step_store_row (by rfl) 33 (.tmp 10) (.tmp 44) (by rfl) g69 #[.int .u64 (hiW d), .int .u64 (loW d)] (by rfl) (by rfl) 33 _ r90.out infoM2 (by rfl) (by simp [Value.oneCell']) ?_
     have AY91 := hid (setRow_heap X86 g69 _ #[.int .u64 (hiW d), .int .u64 (loW d)] 33 (0, 0) r90.out)
     have kY91 := hid (setRow_kp X86 g69 #[.int .u64 (hiW d), .int .u64 (loW d)])
     have r92 := hid (kY91.out.row r87.out (fun e => ne73.out e))
     have r93 := hid (kY91.out.row r88.out (fun e => ne74.out e))
     have r94 := hid (kY91.out.row r89.out (fun e => ne75.out e))
     have DY91 := hid (show Below _ _ _ from DX86.out.trans (kY91.out.below DX86.out.size (fun g hg e => by have := yg69.out; omega)))
     obtain ⟨Y91, hY91⟩ : ∃ Y, X86.setRow g69 #[.int .u64 (hiW d), .int .u64 (loW d)] = Y := ⟨_, rfl⟩
     rw [hY91] at AY91 kY91 DY91 r92 r93 r94 ⊢
     clear hY91
     refine hK.out _ _ ?_ (fun hHeld => ?_)
     ·(try dsimp only); exact ⟨row_cell r94.out 1, row_cell r94.out 2, row_cell r94.out 3, row_cell r93.out 0, row_cell r93.out 1, row_cell r93.out 2⟩
     clear hK K
     try simp only [lgA, lgB, lgC, Act.put, lsA, lsB, lsC]
     refine' tkz 16 rfl ?_ ?_
     rotate_left
     ·(intro w hSw; (try dsimp only at hSw); go_simp; try (with_reducible rfl))
     try simp only [lgA, lgB, lgC, Act.put, lsA, lsB, lsC]
     refine wpAnyH_done (by kernel_rfl) ?_ _
     exact ⟨g69, by kernel_rfl, DY91, r92, AY91⟩
   rintro gD Q ⟨BQ, RAQ, RDQ⟩
   have BQN := hid (btr BW.out BQ.out)
   have GQ := hid (HGn.out.on BQN.out)
   have BRQ := hid (Below.refl Q.heap.size Q)
   go_upto_region 8 with fail
   obtain ⟨V95, hV95⟩ : ∃ U, Q.drew = U := ⟨_, rfl⟩
   have bV95 := hid (show Below Q.heap.size Q V95 from by rw [← hV95]; exact bdrew1 _)
   have DV95 := hid (btr BRQ.out bV95.out)
   have r96 := hid (row_on RAQ.out bV95.out)
   have r97 := hid (row_on RDQ.out bV95.out)
   have x98 := hid (GQ.out.on bV95.out)
   refine wp_region_held_drew (S := (fun U => U.cell? ⟨gA, 0, none⟩ = some (.int .u32 m) ∧ U.cell? ⟨gD, 0, none⟩ = some (.int .u64 (hiW d)) ∧ U.cell? ⟨gD, 1, none⟩ = some (.int .u64 (loW d)))) (by kernel_rfl) ?_ (fun hHeld => ?_)
   ·(try dsimp only); rw [hV95]; exact ⟨row_cell r96.out 0, row_cell r97.out 0, row_cell r97.out 1⟩
   rw [hV95] at hHeld ⊢
   clear hV95
   refine' tkz 0 rfl ?_ ?_
   rotate_left
   ·(intro w hSw; (try dsimp only at hSw); go_simp; try (with_reducible rfl))
   try simp only [lgA, lgB, lgC, Act.put, lsA, lsB, lsC]
   refine' tkz 1 rfl ?_ ?_
   rotate_left
   ·(intro w hSw; (try dsimp only at hSw); go_simp; try (with_reducible rfl))
   try simp only [lgA, lgB, lgC, Act.put, lsA, lsB, lsC]
   refine' tkz 2 rfl ?_ ?_
   rotate_left
   ·(intro w hSw; (try dsimp only at hSw); go_simp; try (with_reducible rfl))
   try simp only [lgA, lgB, lgC, Act.put, lsA, lsB, lsC]
   refine' tkz 3 rfl ?_ ?_
   rotate_left
   ·(intro w hSw; (try dsimp only at hSw); go_simp; try (with_reducible rfl))
   try simp only [lgA, lgB, lgC, Act.put, lsA, lsB, lsC]
   refine' tkz 4 rfl ?_ ?_
   rotate_left
   ·(intro w hSw; (try dsimp only at hSw); go_simp; try (with_reducible rfl))
   try simp only [lgA, lgB, lgC, Act.put, lsA, lsB, lsC]
   refine' tkz 5 rfl ?_ ?_
   rotate_left
   ·(intro w hSw; (try dsimp only at hSw); go_simp; try (with_reducible rfl))
   try simp only [lgA, lgB, lgC, Act.put, lsA, lsB, lsC]
   refine' tkz 7 rfl ?_ ?_
   rotate_left
   ·(intro w hSw; (try dsimp only at hSw); go_simp; try (with_reducible rfl))
   try simp only [lgA, lgB, lgC, Act.put, lsA, lsB, lsC]
   refine wpAnyH_ready (rs := [6]) (by kernel_rfl) (by simp) ?_
   refine (AllReadyH.cons rfl (fun K hK => ?_) AllReadyH.nil)
   have hl := LG.out V95 x98.out
   go_simp
   refine hK.out _ _ ?_ (fun hHeld => ?_)
   ·(try dsimp only); exact ⟨row_cell r96.out 0, row_cell r97.out 0, row_cell r97.out 1⟩
   clear hK K hl
   try simp only [lgA, lgB, lgC, Act.put, lsA, lsB, lsC]
   refine wpAnyH_ready (rs := [8]) (by kernel_rfl) (by simp) ?_
   refine (AllReadyH.cons rfl (fun K hK => ?_) AllReadyH.nil)
   go_simp
   go_at_call 48
   with_reducible refine (CP.out V95).mono ?_
   rintro e X99 ⟨rfl, cX99⟩
   have bX99 := hid cX99
   clear cX99
   have DX99 := hid (btr DV95.out bX99.out)
   have r100 := hid (row_on r96.out bX99.out)
   have r101 := hid (row_on r97.out bX99.out)
   have x102 := hid (x98.out.on bX99.out)
   (try go_wp2_with fail)
   refine hK.out _ _ ?_ (fun hHeld => ?_)
   ·(try dsimp only); exact ⟨row_cell r100.out 0, row_cell r101.out 0, row_cell r101.out 1⟩
   clear hK K
   try simp only [lgA, lgB, lgC, Act.put, lsA, lsB, lsC]
   refine wpAnyH_ready (rs := [9]) (by kernel_rfl) (by simp) ?_
   refine (AllReadyH.cons rfl (fun K hK => ?_) AllReadyH.nil)
   obtain ⟨U9, hu9, hm9, hk9⟩ := PG.out X99 x102.out
   have M9 := hid hm9
   have K9 := hid hk9
   clear hm9 hk9
   have nm9 : ∀ {r' : Nat} {cs : Array Value} {t : TypeId}, X99.heap[r']? = some (.cells cs t (0, 0)) → ¬ r' = N := fun e e2 => by
    obtain ⟨es, cl, e3⟩ := Mp.obj x102.out
    rw [e2, e3] at e
    cases e
   have r103 := hid (K9.out.row r100.out (nm9 r100.out))
   have r104 := hid (K9.out.row r101.out (nm9 r101.out))
   go_simp
   refine hK.out _ _ ?_ (fun hHeld => ?_)
   ·(try dsimp only); exact ⟨row_cell r103.out 0, row_cell r104.out 0, row_cell r104.out 1⟩
   clear hK K hu9 nm9
   try simp only [lgA, lgB, lgC, Act.put, lsA, lsB, lsC]
   refine wpAnyH_done (by kernel_rfl) ?_ _
   (try go_wp2)
   go_roundg cn
   case measure => exact HLT.out
   case rel =>
    have bq := btr BQN.out DX99.out
    have bN : Below w.heap.size w U9 := (btr HBN.out bq).trans (K9.out.below (btr HBN.out bq).size (fun j hj e => by have := HRR.out.2.1; omega))
    refine ⟨_, ks ++ [(m, i)], j + 1, HSD2, hid ((HMN.out.on bq).kept K9.out (fun e => ?_) (fun e => by have := HRR.out.1; omega)), hid ((HMMn.out.on bq).kept K9.out (fun e => ?_)), hid ?_, hid ?_, hid (by have := HJ.out; have := HLT.out; omega), hid bN⟩
    ·have := HH.out.lt (b := b) (.inr (.inr (.inr rfl))); have := HRR.out.2.1; omega
    ·exact HMN'.out e
    ·rw [List.foldl_append, HGE.out]
     show Mp kvU U9 N (j + 1) (stepN nd g (m, i))
     rw [HST.out]
     exact M9.out
    ·rw [List.foldl_append, HGE.out]
     exact HA2.out
end Go.Proofs.YtlhbgaiiehljpaaGreat.Ac
