/-
  LvS
-/
import Derived.Test.YtlhbgaiiehljpaaGreatGAa
import Derived.Test.YtlhbgaiiehljpaaGreatLvR
namespace Go.Proofs.YtlhbgaiiehljpaaGreat.Ac
open List renaming getElem?_toArray → lqA, getElem?_cons_succ → lqB, getElem?_cons_zero → lqC
open List renaming getElem_toArray → lgA, getElem_cons_succ → lgB, getElem_cons_zero → lgC, setIfInBounds_toArray → lsA, set_cons_zero → lsB, set_cons_succ → lsC
open Go.RowKit Go.Deep Go.Maps MonM Go.Proofs.YtlhbgaiiehljpaaGreat
set_option linter.unusedVariables false
set_option linter.unusedSimpArgs false
set_option maxHeartbeats 8000000
set_option maxRecDepth 100000
attribute [local go_sem ↓] Go.wp_at_zero Go.wp_at_succ
def outK (l : List (Nat × Sv)) (k : Int × Int) : Bool := (gm l k.1).ou
def hcs (l : List (Int × Int)) : List Value := l.flatMap fun k => [.int .u32 k.1, .int .u32 k.2]
def fT (G : List (Int × Int)) (f : HoP) : HoP := G.foldl (fun f k => dlt (upd f (0, k.2) ((f k).getD p0)) k) f
theorem infoH8 : (Tryz.prog.info? 79).map (fun i => (i.zero, i.size, i.bytes)) = some (some (.agg #[.int .u32 0, .int .u32 0]), 2, 8) := by kernel_rfl
theorem takeOver_any {H : Nat} {o : Int} {p : Option Addr} {c : Nat} {l : List (Nat × Sv)} {b : Nat} {n : Nat} {f : HoP} (w : World) (h : Ho w H o p c l (some b) n f) (hn : n < 1000000000) (G : List (Int × Int)) (hG : ∀ ks lf, Sd f lf ks → (∀ k, kvP.ok k → lf k = false) → ks.filter (outK l) = G) (hm : ∀ k x, f k = some x → ∃ y ∈ l, y.2.m = k.1)
  (hG2 : G = [] ∨ ∃ m i q v, G = [(m, i)] ∧ f (m, i) = some ⟨q, v⟩ ∧ f (0, i) = none ∧ q ≠ 0 ∧ Amt v ∧ (-1099511627776 ≤ q ∧ q ≤ 1099511627776) ∧ m ≠ 0 ∧ U32 m ∧ U32 i) :
  Calls Tryz.prog 72 #[pb H] w fun e w' => e = .returned (.tuple #[]) ∧ Ho w' H o p c l (some b) (n + 1) (fT G f) ∧ Kp (fun j => j = b) w w' := by
 have k2 := row_cell (hid h.row).out 2
 simp only [lqA, lqB, lqC] at k2
 obtain ⟨V, cnt, hrun, hmr, hcn, hbv⟩ := Mp.range h.mp okP
 have hrun : (Instr.range 98 (.map (some b))).run Tryz.prog w = .ok (.pointer (some ⟨w.heap.size, 0, none⟩)) V := hrun
 obtain ⟨r, hr⟩ : ∃ r, w.heap.size = r := ⟨_, rfl⟩
 rw [hr] at hrun hmr
 have HMR := hid hmr
 have HRR := hid hr
 have HNN := hid hn
 have HBV := hid hbv
 have HCN := hid hcn
 have HH := hid h
 have HM := hid hm
 have HG := hid hG
 have HG2 := hid hG2
 obtain ⟨iH, hiH, hzH, hsH, hyH⟩ := info_parts infoH8
 have IH := hid (And.intro hiH (And.intro hzH (And.intro hsH hyH)))
 clear hmr hbv hr hcn h hn hm hG hG2 hiH hzH hsH hyH
 go_enter Tryz.func72, Tryz.ntmps72
 go_upto_region 2 with fail
 try go_frame
 go_loopg [2] (cnt) (fun kk gv wr => ∃ (lf : Int × Int → Bool) (ks : List (Int × Int)) (q : Option Addr) (d m0 : Nat), gv = .slice q m0 d ∧ Hid (m0 = (ks.filter (outK l)).length ∧ m0 + kk ≤ n) ∧ Hid (Sd f lf ks) ∧ Hid (Mr kvP wr b r n f lf kk) ∧ Hid (wr.ownsRow (r + 1) 79 2 (.slice q m0 d) m0 (hcs (ks.filter (outK l)))) ∧ Hid (Below w.heap.size w wr))
 case atStart => exact ⟨_, [], none, 0, 0, rfl, ⟨rfl, by have := HCN.out; omega⟩, ⟨List.nodup_nil, fun k h => by (cases h), fun k _ => by simp⟩, HMR, own_nil _ _ _ _, HBV⟩
 case round =>
  obtain ⟨lf, ks, gq, gd, m0, rfl, HM0, HSD, HR, OG, HB⟩ := hrel
  clear hrun k2
  rcases HR.out.nextv okP kvallP with ⟨h0, hdone⟩ | ⟨x, pvx, wn, cn, hok, hlf, hfx, hnext, hentry, hmr, hlt, hko⟩
  ·have HGE := hid (HG.out ks lf HSD.out h0)
   have HO := hid (HH.out.on HB.out)
   clear h0
   rw [HGE.out] at HM0 OG
   rcases HG2.out with e | ⟨m, i, q, v, e, hf, hf0, hq, hv, hqb, hm0, hum, hui⟩
   ·have HE := hid e
    rw [e] at HM0 OG
    have hm0 : m0 = 0 := HM0.out.1
    subst hm0
    go_upto_region 7 with fail
    go_upto_region 8 with fail
    go_loopw [35] (fun iv wr2 => iv = .int .i64 0 ∧ wr2 = wr) (fun _ _ => 0)
    case atStart => exact ⟨rfl, rfl⟩
    case round =>
     obtain ⟨rfl, hw⟩ := hrel
     subst hw
     go_wp2
     go_end0
     exact ⟨rfl, by rw [HE.out]; exact ⟨HO.out.row, HO.out.me, HO.out.nd, HO.out.up, HO.out.sz, Mp.mono HO.out.mp (Nat.le_succ _)⟩, Kp.of _ HB.out⟩
   ·have HE := hid e
    rw [e] at HM0 OG
    have hm1 : m0 = 1 := HM0.out.1
    subst hm1
    obtain ⟨gg, u0, rfl, -, -⟩ : ∃ g u, gq = some ⟨g, 0, none⟩ ∧ True ∧ True := by
     obtain ⟨h1, ⟨e1, e2⟩ | ⟨g, c', cur, e', r1, r2, r3, r4, r5, r6⟩⟩ := OG.out
     ·omega
     ·exact ⟨g, undef, (Value.slice.inj e').1, trivial, trivial⟩
    have RGG := hid (show ∃ cur, wr.heap[gg]? = some (.cells cur 79 (0, 0)) ∧ cur[0]? = some (.int .u32 m) ∧ cur[1]? = some (.int .u32 i) from by
     obtain ⟨h1, ⟨e1, e2⟩ | ⟨g, c', cur, e', r1, r2, r3, r4, r5, r6⟩⟩ := OG.out
     ·omega
     ·have e3 := (Value.slice.inj e').1
      injection e3 with e3
      injection e3 with e3
      subst e3
      refine ⟨cur, r2, ?_, ?_⟩
      ·have := congrArg (fun z => z[0]?) r6
       simp only [List.getElem?_take, show 0 < 1 * 2 by omega, if_true, Array.getElem?_toList] at this
       rw [this]; rfl
      ·have := congrArg (fun z => z[1]?) r6
       simp only [List.getElem?_take, show 1 < 1 * 2 by omega, if_true, Array.getElem?_toList] at this
       rw [this]; rfl)
    have hcap := (own_capn OG.out).1
    have HFT := hid (show fT G f = dlt (upd f (0, i) ⟨q, v⟩) (m, i) from by rw [e]; unfold fT; simp only [List.foldl_cons, List.foldl_nil, hf, Option.getD_some])
    have HF := hid hf
    have HF0 := hid hf0
    have HQ0 := hid hq
    have HUM := hid hum
    have HUI := hid hui
    have HM0N := hid hm0
    have CA := hid (show ∀ U, Calls Tryz.prog 36 #[.agg #[.int .i64 0, .int .u64 0, .int .u64 0], .agg #[.int .i64 q, .int .u64 (hiW v), .int .u64 (loW v)]] U fun e w' => e = .returned (.agg #[.int .i64 q, .int .u64 (hiW v), .int .u64 (loW v)]) ∧ Below U.heap.size U w' from fun U => by
     have h1 := and_any p0 ⟨q, v⟩ U (show Amt 0 from ⟨by decide, by decide⟩) hv (by show -4611686018427387904 ≤ 0 + q; omega) (by show 0 + q ≤ 4611686018427387904; omega)
     simp only [pval, p0, words_zero.1, words_zero.2, Int.zero_add, madd_zero v hv] at h1
     exact h1)
    clear e hf hf0 hq hv hqb hm0 hum hui
    go_upto_region 7 with fail
    go_upto_region 8 with fail
    go_loopw [35] (fun iv wr2 => (iv = .int .i64 0 ∧ wr2 = wr) ∨ (iv = .int .i64 1 ∧ Hid (Ho wr2 H o p c l (some b) (n + 1) (fT G f)) ∧ Hid (Kp (fun j => j = b) w wr2))) (fun iv _ => 1 - (intOf iv).toNat)
    case atStart => exact .inl ⟨rfl, rfl⟩
    case round =>
     rcases hrel with ⟨rfl, hw⟩ | ⟨rfl, HO2, HK2⟩
     ·subst hw
      obtain ⟨cur, rg, rg0, rg1⟩ := RGG.out
      have c0 := (row_cell rg 0).trans rg0
      have c1 := (row_cell rg 1).trans rg1
      obtain ⟨gA, hgA⟩ : ∃ g, wr.heap.size = g := ⟨_, rfl⟩
      obtain ⟨Wx, hWx⟩ : ∃ W, wr.alloc (.cells #[.int .u32 0, .int .u32 0] 79) = W := ⟨_, rfl⟩
      obtain ⟨Wy, hWy⟩ : ∃ W, Wx.setRow gA #[.int .u32 m, .int .u32 i] = W := ⟨_, rfl⟩
      obtain ⟨gB, hgB⟩ : ∃ g, Wy.heap.size = g := ⟨_, rfl⟩
      obtain ⟨Wz, hWz⟩ : ∃ W, Wy.alloc (.cells #[.int .u32 0, .int .u32 0] 79) = W := ⟨_, rfl⟩
      obtain ⟨Wu, hWu⟩ : ∃ W, Wz.setRow gB #[.int .u32 0, .int .u32 i] = W := ⟨_, rfl⟩
      have bx : Below wr.heap.size wr Wx := by rw [← hWx]; exact ball _ _
      have ZA := hid (show Wx.heap[gA]? = some (.cells #[.int .u32 0, .int .u32 0] 79 (0, 0)) from by rw [← hWx, ← hgA]; exact World.alloc_heap_new _ _)
      have rA : Wy.heap[gA]? = some (.cells #[.int .u32 m, .int .u32 i] 79 (0, 0)) := by rw [← hWy]; exact setRow_heap _ _ _ _ 79 (0, 0) ZA.out
      have RAy := hid rA
      have by1 : Below wr.heap.size wr Wy := by rw [← hWy]; exact setRow_below bx (Nat.le_of_eq hgA)
      have bz : Below Wy.heap.size Wy Wz := by rw [← hWz]; exact ball _ _
      have ZB := hid (show Wz.heap[gB]? = some (.cells #[.int .u32 0, .int .u32 0] 79 (0, 0)) from by rw [← hWz, ← hgB]; exact World.alloc_heap_new _ _)
      have RB := hid (show Wu.heap[gB]? = some (.cells #[.int .u32 0, .int .u32 i] 79 (0, 0)) from by rw [← hWu]; exact setRow_heap _ _ _ _ 79 (0, 0) ZB.out)
      have bu : Below Wy.heap.size Wy Wu := by rw [← hWu]; exact setRow_below bz (Nat.le_of_eq hgB)
      have RA := hid (row_on rA bu)
      have BU := hid (btr by1 bu)
      clear bx rA by1 bz bu
      go_upto_region 10 with (refine wpList_store_row (by rfl) 79 (.tmp 6) (.tmp 38) (by rfl) gA #[.int .u32 m, .int .u32 i] (by rfl) (by rfl) 79 _ ZA.out infoH2 (by rfl) (by simp [Value.oneCell']) ?_; rw [hWy])
      have a1 := row_cell RAy.out 1
      simp only [lqA, lqB, lqC] at a1
      go_upto_region 11 with (refine wpList_store_row (by rfl) 79 (.tmp 7) (.tmp 41) (by rfl) gB #[.int .u32 0, .int .u32 i] (by rfl) (by rfl) 79 _ ZB.out infoH2 (by rfl) (by simp [Value.oneCell']) ?_; rw [hWu])
      clear hgA hWx hWy hgB hWz hWu ZA ZB c0 c1 a1 rg rg0 rg1
      have HOu := hid (HO.out.on BU.out)
      obtain ⟨k, hk⟩ : ∃ k, l.length = k := ⟨_, rfl⟩
      have RH := hid (show Wu.heap[H]? = some (.cells #[.int .u64 o, .slice p k c, .map (some b)] 100 (0, 0)) from by rw [← hk]; exact HOu.out.row)
      have HKL := hid hk
      clear hk
      have LT := hid (show ∀ U, Mp kvP U b n f → (Instr.lookup 98 (.map (some b)) (.agg #[.int .u32 0, .int .u32 i]) false).run Tryz.prog U = .ok (.agg #[.int .i64 0, .int .u64 0, .int .u64 0]) U from fun U hU => by
       have h1 := hU.get okP (0, i) ⟨u32_mk (by omega) (by omega), HUI.out⟩
       rw [HF0.out] at h1
       exact h1)
      have LF := hid (show ∀ U, Mp kvP U b n f → (Instr.lookup 98 (.map (some b)) (.agg #[.int .u32 m, .int .u32 i]) false).run Tryz.prog U = .ok (.agg #[.int .i64 q, .int .u64 (hiW v), .int .u64 (loW v)]) U from fun U hU => by
       have h1 := hU.get okP (m, i) ⟨HUM.out, HUI.out⟩
       rw [HF.out] at h1
       exact h1)
      have MPu := hid (show Mp kvP Wu b n f from HOu.out.mp)
      have BRF := hid (Below.refl Wu.heap.size Wu)
      refine reg_cut (X := Unit) (fun a x => ((((((((((((((((a.put (some 42) (pb H)).put (some 43) (.agg #[.int .u32 0, .int .u32 i])).put (some 44) (pb H)).put (some 45) (.pointer (some ⟨H, 0, none⟩))).put (some 46) (.pointer (some ⟨H, 2, none⟩))).put (some 47) (.map (some b))).put (some 48) (.agg #[.int .u32 0, .int .u32 i])).put (some 49) (.agg #[.int .i64 0, .int .u64 0, .int .u64 0])).put (some 50) (pb H)).put (some 51) (.pointer (some ⟨H, 0, none⟩))).put (some 52) (.pointer (some ⟨H, 2, none⟩))).put (some 53) (.map (some b))).put (some 54) (.agg #[.int .u32 m, .int .u32 i])).put (some 55) (.agg #[.int .i64 q, .int .u64 (hiW v), .int .u64 (loW v)])).put (some 56) (.agg #[.int .i64 q, .int .u64 (hiW v), .int .u64 (loW v)])).put (some 57) (.tuple #[]))) (fun x V => Hid (V.heap[gA]? = some (.cells #[.int .u32 m, .int .u32 i] 79 (0, 0))) ∧ Hid (Kp (fun j => j = b) Wu V) ∧ Hid (Mp kvP V b (n + 1) (upd f (0, i) ⟨q, v⟩))) ?_ ?_
      ·obtain ⟨V1, hV1⟩ : ∃ U, Wu.drew = U := ⟨_, rfl⟩
       have bV1 := hid (show Below Wu.heap.size Wu V1 from by rw [← hV1]; exact bdrew1 _)
       have DV1 := hid (btr BRF.out bV1.out)
       have r2 := hid (row_on RH.out bV1.out)
       have r3 := hid (row_on RA.out bV1.out)
       have r4 := hid (row_on RB.out bV1.out)
       have x5 := hid (MPu.out.on bV1.out)
       refine wp_region_held_drew (S := (fun U => U.cell? ⟨H, 2, none⟩ = some (.map (some b)) ∧ U.cell? ⟨gB, 0, none⟩ = some (.int .u32 0) ∧ U.cell? ⟨gB, 1, none⟩ = some (.int .u32 i) ∧ U.cell? ⟨gA, 0, none⟩ = some (.int .u32 m) ∧ U.cell? ⟨gA, 1, none⟩ = some (.int .u32 i))) (by kernel_rfl) ?_ (fun hHeld => ?_)
       ·(try dsimp only); rw [hV1]; exact ⟨row_cell r2.out 2, row_cell r4.out 0, row_cell r4.out 1, row_cell r3.out 0, row_cell r3.out 1⟩
       rw [hV1] at hHeld ⊢
       clear hV1
       refine' tkz 0 rfl ?_ ?_
       rotate_left
       ·(intro w hSw; (try dsimp only at hSw); go_simp; try (with_reducible rfl))
       try simp only [lgA, lgB, lgC, Act.put, lsA, lsB, lsC]
       refine' tkz 1 rfl ?_ ?_
       rotate_left
       ·(intro w hSw; (try dsimp only at hSw); go_simp; try (with_reducible rfl))
       try simp only [lgA, lgB, lgC, Act.put, lsA, lsB, lsC]
       refine' tkz 2 rfl ?_ ?_
       rotate_left
       ·(intro w hSw; (try dsimp only at hSw); go_simp; try (with_reducible rfl))
       try simp only [lgA, lgB, lgC, Act.put, lsA, lsB, lsC]
       refine' tkz 3 rfl ?_ ?_
       rotate_left
       ·(intro w hSw; (try dsimp only at hSw); go_simp; try (with_reducible rfl))
       try simp only [lgA, lgB, lgC, Act.put, lsA, lsB, lsC]
       refine' tkz 4 rfl ?_ ?_
       rotate_left
       ·(intro w hSw; (try dsimp only at hSw); go_simp; try (with_reducible rfl))
       try simp only [lgA, lgB, lgC, Act.put, lsA, lsB, lsC]
       refine' tkz 5 rfl ?_ ?_
       rotate_left
       ·(intro w hSw; (try dsimp only at hSw); go_simp; try (with_reducible rfl))
       try simp only [lgA, lgB, lgC, Act.put, lsA, lsB, lsC]
       refine' tkz 6 rfl ?_ ?_
       rotate_left
       ·(intro w hSw; (try dsimp only at hSw); go_simp; try (with_reducible rfl))
       try simp only [lgA, lgB, lgC, Act.put, lsA, lsB, lsC]
       refine' tkz 8 rfl ?_ ?_
       rotate_left
       ·(intro w hSw; (try dsimp only at hSw); go_simp; try (with_reducible rfl))
       try simp only [lgA, lgB, lgC, Act.put, lsA, lsB, lsC]
       refine' tkz 9 rfl ?_ ?_
       rotate_left
       ·(intro w hSw; (try dsimp only at hSw); go_simp; try (with_reducible rfl))
       try simp only [lgA, lgB, lgC, Act.put, lsA, lsB, lsC]
       refine' tkz 10 rfl ?_ ?_
       rotate_left
       ·(intro w hSw; (try dsimp only at hSw); go_simp; try (with_reducible rfl))
       try simp only [lgA, lgB, lgC, Act.put, lsA, lsB, lsC]
       refine' tkz 11 rfl ?_ ?_
       rotate_left
       ·(intro w hSw; (try dsimp only at hSw); go_simp; try (with_reducible rfl))
       try simp only [lgA, lgB, lgC, Act.put, lsA, lsB, lsC]
       refine' tkz 12 rfl ?_ ?_
       rotate_left
       ·(intro w hSw; (try dsimp only at hSw); go_simp; try (with_reducible rfl))
       try simp only [lgA, lgB, lgC, Act.put, lsA, lsB, lsC]
       refine wpAnyH_ready (rs := [7, 13]) (by kernel_rfl) (by simp) ?_
       refine (AllReadyH.cons rfl (fun K hK => ?_) (AllReadyH.cons rfl (fun K hK => ?_) AllReadyH.nil))
       ·have hl := LT.out V1 x5.out
        go_simp
        refine hK.out _ _ ?_ (fun hHeld => ?_)
        ·(try dsimp only); exact ⟨row_cell r2.out 2, row_cell r4.out 0, row_cell r4.out 1, row_cell r3.out 0, row_cell r3.out 1⟩
        clear hK K hl
        try simp only [lgA, lgB, lgC, Act.put, lsA, lsB, lsC]
        refine wpAnyH_ready (rs := [13]) (by kernel_rfl) (by simp) ?_
        refine (AllReadyH.cons rfl (fun K hK => ?_) AllReadyH.nil)
        have hl := LF.out V1 x5.out
        go_simp
        refine hK.out _ _ ?_ (fun hHeld => ?_)
        ·(try dsimp only); exact ⟨row_cell r2.out 2, row_cell r4.out 0, row_cell r4.out 1, row_cell r3.out 0, row_cell r3.out 1⟩
        clear hK K hl
        try simp only [lgA, lgB, lgC, Act.put, lsA, lsB, lsC]
        refine wpAnyH_ready (rs := [14]) (by kernel_rfl) (by simp) ?_
        refine (AllReadyH.cons rfl (fun K hK => ?_) AllReadyH.nil)
        go_simp
        go_at_call 36
        with_reducible refine (CA.out V1).mono ?_
        rintro e X6 ⟨rfl, cX6⟩
        have bX6 := hid cX6
        clear cX6
        have DX6 := hid (btr DV1.out bX6.out)
        have r7 := hid (row_on r2.out bX6.out)
        have r8 := hid (row_on r3.out bX6.out)
        have r9 := hid (row_on r4.out bX6.out)
        have x10 := hid (x5.out.on bX6.out)
        (try go_wp2_with fail)
        refine hK.out _ _ ?_ (fun hHeld => ?_)
        ·(try dsimp only); exact ⟨row_cell r7.out 2, row_cell r9.out 0, row_cell r9.out 1, row_cell r8.out 0, row_cell r8.out 1⟩
        clear hK K
        try simp only [lgA, lgB, lgC, Act.put, lsA, lsB, lsC]
        refine wpAnyH_ready (rs := [15]) (by kernel_rfl) (by simp) ?_
        refine (AllReadyH.cons rfl (fun K hK => ?_) AllReadyH.nil)
        have CH := hid (hold_some 0 i ⟨q, v⟩ HQ0.out H b o p k c X6 (fun U' => Mp kvP U' b (n + 1) (upd f (0, i) ⟨q, v⟩)) r7.out (Mp.obj x10.out) (fun U hU => by
         obtain ⟨U', h1, h2, h3⟩ := (x10.out.on hU).put okP (by have := HNN.out; unfold maxLen; omega) (0, i) ⟨u32_mk (by omega) (by omega), HUI.out⟩ ⟨q, v⟩
         exact ⟨U', h1, h3, h2⟩))
        have nb9 : ∀ {r' : Nat} {cs : Array Value} {t : TypeId}, X6.heap[r']? = some (.cells cs t (0, 0)) → ¬ r' = b := fun e e2 => by
         obtain ⟨es, cl, e3⟩ := Mp.obj x10.out
         rw [e2, e3] at e
         cases e
        go_simp
        go_at_call 39
        with_reducible refine CH.out.mono ?_
        rintro e w9 ⟨rfl, h1, h2⟩
        have K9 := hid h1
        have M9 := hid h2
        clear h1 h2 CH
        have r11 := hid (K9.out.row r7.out (nb9 r7.out))
        have r12 := hid (K9.out.row r8.out (nb9 r8.out))
        have r13 := hid (K9.out.row r9.out (nb9 r9.out))
        clear nb9
        (try go_wp2_with fail)
        refine hK.out _ _ ?_ (fun hHeld => ?_)
        ·(try dsimp only); exact ⟨row_cell r11.out 2, row_cell r13.out 0, row_cell r13.out 1, row_cell r12.out 0, row_cell r12.out 1⟩
        clear hK K
        try simp only [lgA, lgB, lgC, Act.put, lsA, lsB, lsC]
        refine wpAnyH_done (by kernel_rfl) ?_ _
        exact ⟨(), by kernel_rfl, r12, hid ((Kp.of (fun j => j = b) DX6.out).trans K9.out (fun g _ e => e)), M9⟩
       ·have hl := LF.out V1 x5.out
        go_simp
        refine hK.out _ _ ?_ (fun hHeld => ?_)
        ·(try dsimp only); exact ⟨row_cell r2.out 2, row_cell r4.out 0, row_cell r4.out 1, row_cell r3.out 0, row_cell r3.out 1⟩
        clear hK K hl
        try simp only [lgA, lgB, lgC, Act.put, lsA, lsB, lsC]
        refine wpAnyH_ready (rs := [7]) (by kernel_rfl) (by simp) ?_
        refine (AllReadyH.cons rfl (fun K hK => ?_) AllReadyH.nil)
        have hl := LT.out V1 x5.out
        go_simp
        refine hK.out _ _ ?_ (fun hHeld => ?_)
        ·(try dsimp only); exact ⟨row_cell r2.out 2, row_cell r4.out 0, row_cell r4.out 1, row_cell r3.out 0, row_cell r3.out 1⟩
        clear hK K hl
        try simp only [lgA, lgB, lgC, Act.put, lsA, lsB, lsC]
        refine wpAnyH_ready (rs := [14]) (by kernel_rfl) (by simp) ?_
        refine (AllReadyH.cons rfl (fun K hK => ?_) AllReadyH.nil)
        go_simp
        go_at_call 36
        with_reducible refine (CA.out V1).mono ?_
        rintro e X14 ⟨rfl, cX14⟩
        have bX14 := hid cX14
        clear cX14
        have DX14 := hid (btr DV1.out bX14.out)
        have r15 := hid (row_on r2.out bX14.out)
        have r16 := hid (row_on r3.out bX14.out)
        have r17 := hid (row_on r4.out bX14.out)
        have x18 := hid (x5.out.on bX14.out)
        (try go_wp2_with fail)
        refine hK.out _ _ ?_ (fun hHeld => ?_)
        ·(try dsimp only); exact ⟨row_cell r15.out 2, row_cell r17.out 0, row_cell r17.out 1, row_cell r16.out 0, row_cell r16.out 1⟩
        clear hK K
        try simp only [lgA, lgB, lgC, Act.put, lsA, lsB, lsC]
        refine wpAnyH_ready (rs := [15]) (by kernel_rfl) (by simp) ?_
        refine (AllReadyH.cons rfl (fun K hK => ?_) AllReadyH.nil)
        have CH := hid (hold_some 0 i ⟨q, v⟩ HQ0.out H b o p k c X14 (fun U' => Mp kvP U' b (n + 1) (upd f (0, i) ⟨q, v⟩)) r15.out (Mp.obj x18.out) (fun U hU => by
         obtain ⟨U', h1, h2, h3⟩ := (x18.out.on hU).put okP (by have := HNN.out; unfold maxLen; omega) (0, i) ⟨u32_mk (by omega) (by omega), HUI.out⟩ ⟨q, v⟩
         exact ⟨U', h1, h3, h2⟩))
        have nb9 : ∀ {r' : Nat} {cs : Array Value} {t : TypeId}, X14.heap[r']? = some (.cells cs t (0, 0)) → ¬ r' = b := fun e e2 => by
         obtain ⟨es, cl, e3⟩ := Mp.obj x18.out
         rw [e2, e3] at e
         cases e
        go_simp
        go_at_call 39
        with_reducible refine CH.out.mono ?_
        rintro e w9 ⟨rfl, h1, h2⟩
        have K9 := hid h1
        have M9 := hid h2
        clear h1 h2 CH
        have r19 := hid (K9.out.row r15.out (nb9 r15.out))
        have r20 := hid (K9.out.row r16.out (nb9 r16.out))
        have r21 := hid (K9.out.row r17.out (nb9 r17.out))
        clear nb9
        (try go_wp2_with fail)
        refine hK.out _ _ ?_ (fun hHeld => ?_)
        ·(try dsimp only); exact ⟨row_cell r19.out 2, row_cell r21.out 0, row_cell r21.out 1, row_cell r20.out 0, row_cell r20.out 1⟩
        clear hK K
        try simp only [lgA, lgB, lgC, Act.put, lsA, lsB, lsC]
        refine wpAnyH_done (by kernel_rfl) ?_ _
        exact ⟨(), by kernel_rfl, r20, hid ((Kp.of (fun j => j = b) DX14.out).trans K9.out (fun g _ e => e)), M9⟩
      rintro - Q ⟨RAQ, KQ, MQ⟩
      have nbu : ∀ {r' : Nat} {cs : Array Value} {t : TypeId}, Wu.heap[r']? = some (.cells cs t (0, 0)) → ¬ r' = b := fun e e2 => by
       obtain ⟨es, cl, e3⟩ := Mp.obj MPu.out
       rw [e2, e3] at e
       cases e
      have HOQ := hid (HOu.out.map KQ.out (fun r' cs t e _ => nbu e) (KQ.out.row HOu.out.row (nbu HOu.out.row)) MQ.out)
      have RHQ := hid (show Q.heap[H]? = some (.cells #[.int .u64 o, .slice p k c, .map (some b)] 100 (0, 0)) from KQ.out.row RH.out (nbu RH.out))
      clear nbu
      have BRQ := hid (Below.refl Q.heap.size Q)
      go_upto_region 12 with fail
      obtain ⟨V22, hV22⟩ : ∃ U, Q.drew = U := ⟨_, rfl⟩
      have bV22 := hid (show Below Q.heap.size Q V22 from by rw [← hV22]; exact bdrew1 _)
      have DV22 := hid (btr BRQ.out bV22.out)
      have r23 := hid (row_on RHQ.out bV22.out)
      have r24 := hid (row_on RAQ.out bV22.out)
      have x25 := hid (MQ.out.on bV22.out)
      refine wp_region_held_drew (S := (fun U => U.cell? ⟨H, 2, none⟩ = some (.map (some b)) ∧ U.cell? ⟨gA, 0, none⟩ = some (.int .u32 m) ∧ U.cell? ⟨gA, 1, none⟩ = some (.int .u32 i))) (by kernel_rfl) ?_ (fun hHeld => ?_)
      ·(try dsimp only); rw [hV22]; exact ⟨row_cell r23.out 2, row_cell r24.out 0, row_cell r24.out 1⟩
      rw [hV22] at hHeld ⊢
      clear hV22
      refine' tkz 0 rfl ?_ ?_
      rotate_left
      ·(intro w hSw; (try dsimp only at hSw); go_simp; try (with_reducible rfl))
      try simp only [lgA, lgB, lgC, Act.put, lsA, lsB, lsC]
      refine' tkz 1 rfl ?_ ?_
      rotate_left
      ·(intro w hSw; (try dsimp only at hSw); go_simp; try (with_reducible rfl))
      try simp only [lgA, lgB, lgC, Act.put, lsA, lsB, lsC]
      refine' tkz 2 rfl ?_ ?_
      rotate_left
      ·(intro w hSw; (try dsimp only at hSw); go_simp; try (with_reducible rfl))
      try simp only [lgA, lgB, lgC, Act.put, lsA, lsB, lsC]
      refine' tkz 3 rfl ?_ ?_
      rotate_left
      ·(intro w hSw; (try dsimp only at hSw); go_simp; try (with_reducible rfl))
      try simp only [lgA, lgB, lgC, Act.put, lsA, lsB, lsC]
      refine' tkz 4 rfl ?_ ?_
      rotate_left
      ·(intro w hSw; (try dsimp only at hSw); go_simp; try (with_reducible rfl))
      try simp only [lgA, lgB, lgC, Act.put, lsA, lsB, lsC]
      refine wpAnyH_ready (rs := [5]) (by kernel_rfl) (by simp) ?_
      refine (AllReadyH.cons rfl (fun K hK => ?_) AllReadyH.nil)
      obtain ⟨U9, hu9, hm9, hk9⟩ := x25.out.del okP (m, i) ⟨HUM.out, HUI.out⟩ 0
      have hu9 : (Builtin.delete_ #[98, 79] 0 #[.map (some b), .agg #[.int .u32 m, .int .u32 i]]).run Tryz.prog V22 = .ok (.tuple #[]) U9 := hu9
      have M9 := hid hm9
      have K9 := hid hk9
      clear hm9 hk9
      have nb9 : ∀ {r' : Nat} {cs : Array Value} {t : TypeId}, V22.heap[r']? = some (.cells cs t (0, 0)) → ¬ r' = b := fun e e2 => by
       obtain ⟨es, cl, e3⟩ := Mp.obj x25.out
       rw [e2, e3] at e
       cases e
      have r26 := hid (K9.out.row r23.out (nb9 r23.out))
      have r27 := hid (K9.out.row r24.out (nb9 r24.out))
      go_simp
      refine hK.out _ _ ?_ (fun hHeld => ?_)
      ·(try dsimp only); exact ⟨row_cell r26.out 2, row_cell r27.out 0, row_cell r27.out 1⟩
      clear hK K hu9 nb9
      try simp only [lgA, lgB, lgC, Act.put, lsA, lsB, lsC]
      refine wpAnyH_done (by kernel_rfl) ?_ _
      (try go_wp2)
      go_roundw
      case rel =>
       have kq := (Kp.of (fun j => j = b) DV22.out).trans K9.out (fun g _ e => e)
       have nbq : ∀ {r' : Nat} {cs : Array Value} {t : TypeId}, Q.heap[r']? = some (.cells cs t (0, 0)) → ¬ r' = b := fun e e2 => by
        obtain ⟨es, cl, e3⟩ := Mp.obj MQ.out
        rw [e2, e3] at e
        cases e
       refine .inr ⟨rfl, hid ?_, hid ((((Kp.of (fun j => j = b) (btr HB.out BU.out)).trans KQ.out (fun g _ e => e))).trans kq (fun g _ e => e))⟩
       rw [HFT.out]
       exact HOQ.out.map kq (fun r' cs t e _ => nbq e) (kq.row HOQ.out.row (nbq HOQ.out.row)) M9.out
      case measure => simp [intOf]
     ·go_wp2
      go_end0
      exact ⟨rfl, HO2.out, HK2.out⟩
  ·obtain ⟨m, i⟩ := x
   obtain ⟨q, v⟩ := pvx
   have hsd := (HSD.out.lf (m, i) hok).1 hlf
   obtain ⟨⟨yb, ym, yf, yg, yc, yo⟩, hy, em⟩ := HM.out _ _ hfx
   have em : ym = m := em
   subst em
   have hgm := gm_of HH.out.up hy
   have HOK := hid (show outK l (ym, i) = yo from by unfold outK; exact congrArg Sv.ou hgm)
   have hnext : ∀ ty, (Instr.next (.pointer (some ⟨r, 0, none⟩)) false ty).run Tryz.prog wr = .ok (.tuple #[.bool true, .agg #[.int .u32 ym, .int .u32 i], .agg #[.int .i64 q, .int .u64 (hiW v), .int .u64 (loW v)]]) wn := hnext
   have hentry : (Instr.entry (.pointer (some ⟨r, 0, none⟩))).run Tryz.prog wn = .ok (.tuple #[.agg #[.int .u32 ym, .int .u32 i], .agg #[.int .i64 q, .int .u64 (hiW v), .int .u64 (loW v)]]) wn := hentry
   obtain ⟨m, rfl⟩ : ∃ m, m = ym := ⟨_, rfl⟩
   have HMN := hid hmr
   have HLT := hid hlt
   have HBN := hid (HB.out.trans (hko.below HB.out.size (fun j hj e => by have := HRR.out; omega)))
   have OGN := hid (own_kp OG.out hko (fun r' cs e h2 e2 => by omega))
   have HY := hid hy
   have HSD2 := hid (show Sd f (fun x => lf x && !(decide (x = (m, i)))) (ks ++ [(m, i)]) from ⟨by
    rw [List.nodup_append]
    exact ⟨HSD.out.nd, by simp, fun a ha b hb e => by simp at hb; subst hb; subst e; exact hsd.2 ha⟩, fun k hk => by
    rcases List.mem_append.1 hk with hk | hk
    ·exact HSD.out.ok k hk
    ·simp at hk; subst hk; exact ⟨hok, hsd.1⟩, fun k hk => by
    have h1 := HSD.out.lf k hk
    by_cases c : k = (m, i)
    ·subst c; simp
    ·simp only [c, decide_false, Bool.not_false, Bool.and_true, List.mem_append, List.mem_singleton, or_false]; exact h1⟩)
   have HFA := hid (show (ks ++ [(m, i)]).filter (outK l) = ks.filter (outK l) ++ (if yo = true then [(m, i)] else []) from by
    rw [List.filter_append, List.filter_cons, HOK.out]; rfl)
   clear hok hlf hmr hlt hko hfx hsd hy hgm
   obtain ⟨gA, hgA⟩ : ∃ g, wn.heap.size = g := ⟨_, rfl⟩
   obtain ⟨Wx, hWx⟩ : ∃ W, wn.alloc (.cells #[.int .u32 0, .int .u32 0] 79) = W := ⟨_, rfl⟩
   obtain ⟨Wu, hWu⟩ : ∃ W, Wx.setRow gA #[.int .u32 m, .int .u32 i] = W := ⟨_, rfl⟩
   have bx : Below wn.heap.size wn Wx := by rw [← hWx]; exact ball _ _
   have ZA := hid (show Wx.heap[gA]? = some (.cells #[.int .u32 0, .int .u32 0] 79 (0, 0)) from by rw [← hWx, ← hgA]; exact World.alloc_heap_new _ _)
   have RA := hid (show Wu.heap[gA]? = some (.cells #[.int .u32 m, .int .u32 i] 79 (0, 0)) from by rw [← hWu]; exact setRow_heap _ _ _ _ 79 (0, 0) ZA.out)
   have BU := hid (show Below wn.heap.size wn Wu from by rw [← hWu]; exact setRow_below bx (Nat.le_of_eq hgA))
   clear bx
   go_upto_region 4 with (refine wpList_store_row (by rfl) 79 (.tmp 3) (.tmp 16) (by rfl) gA #[.int .u32 m, .int .u32 i] (by rfl) (by rfl) 79 _ ZA.out infoH2 (by rfl) (by simp [Value.oneCell']) ?_; rw [hWu])
   clear hgA hWx hWu ZA
   clear hnext hentry
   have BUN := hid (btr HBN.out BU.out)
   have HOU := hid (HH.out.on BUN.out)
   have CF := hid (find_yes Wu HOU.out HY.out (show (yb, (⟨m, yf, yg, yc, yo⟩ : Sv)).2.m = m from rfl))
   have a0 := row_cell RA.out 0
   simp only [lqA, lqB, lqC] at a0
   go_upto_region 5 with (go_at_call 66; with_reducible refine CF.out.mono ?_; rintro e Z ⟨rfl, hZ⟩; have BZ := hid hZ; clear hZ)
   clear a0 CF
   have BZN := hid (btr BUN.out BZ.out)
   have RYZ := hid (show Z.heap[yb]? = some (.cells (srow ⟨m, yf, yg, yc, yo⟩) 106 (0, 0)) from (HH.out.on BZN.out).me.st _ HY.out)
   have RAZ := hid (row_on RA.out BZ.out)
   have OGZ := hid (own_on OGN.out (btr BU.out BZ.out))
   have HMZ := hid (HMN.out.on (btr BU.out BZ.out))
   have y5 := row_cell RYZ.out 5
   simp only [lqA, lqB, lqC] at y5
   have a0 := row_cell RAZ.out 0
   have a1 := row_cell RAZ.out 1
   simp only [lqA, lqB, lqC] at a0 a1
   cases yo with
   | false =>
    go_wp2
    go_roundg cn
    case measure => exact HLT.out
    case rel =>
     refine ⟨_, ks ++ [(m, i)], gq, gd, m0, rfl, hid ?_, HSD2, HMZ, ?_, BZN⟩
     ·rw [HFA.out, show (if false = true then [(m, i)] else []) = ([] : List (Int × Int)) from rfl, List.append_nil]; have h1 := HM0.out; have h2 := HLT.out; exact ⟨h1.1, by omega⟩
     ·rw [HFA.out, show (if false = true then [(m, i)] else []) = ([] : List (Int × Int)) from rfl, List.append_nil]; exact OGZ
   | true =>
    obtain ⟨X, hX⟩ : ∃ X, Z.alloc (.cells #[.int .u32 m, .int .u32 i] 79) = X := ⟨_, rfl⟩
    have BX := hid (show Below Z.heap.size Z X from by rw [← hX]; exact ball _ _)
    have OGX := hid (own_on OGZ.out BX.out)
    have RN := hid (show ∀ j u, ([.int .u32 m, .int .u32 i] : List Value)[j]? = some u → X.cell? ((⟨Z.heap.size, 0, none⟩ : Addr).add j) = some u from fun j u hj => by
     rw [Addr.add_lit, Nat.zero_add, row_cell (show X.heap[Z.heap.size]? = some (.cells #[.int .u32 m, .int .u32 i] 79 (0, 0)) from by rw [← hX]; exact World.alloc_heap_new _ _)]
     simpa using hj)
    have H1 := hid (show ∀ u ∈ ([.int .u32 m, .int .u32 i] : List Value), u.oneCell' = true from fun u hu => by simp at hu; rcases hu with rfl | rfl <;> rfl)
    have HXX := hid hX
    have HBX := hid (show r + 1 ≤ X.heap.size from by have h1 := BX.out.size; have h2 := BZN.out.size; have h3 := HMZ.out.lt; have := HRR.out; omega)
    clear hX
    go_wp2_with (rw [HXX.out]; at_builtin; refine wpList_append_lies X (by rfl) (.tmp 29) (.tmp 31) 76 (by rfl) (r + 1) 79 iH _ 2 8 Tryz.underlying76 IH.out.1 IH.out.2.1 IH.out.2.2.1 IH.out.2.2.2 rfl (by decide) _ m0 (hcs (ks.filter (outK l))) (by rfl) OGX.out ⟨Z.heap.size, 0, none⟩ 1 1 [.int .u32 m, .int .u32 i] (by rfl) (by rfl) RN.out H1.out (by decide) (by have := HM0.out.2; have := HNN.out; unfold maxLen; omega) (by have := HM0.out.2; have := HNN.out; omega) HBX.out _ rfl ?_; intro g9 cap9 w9 h1 h2 h3 h4; have O9 := hid h1; have G9 := hid h2; clear h1 h2 h3 h4)
    go_roundg cn
    case measure => exact HLT.out
    case rel =>
     have k9 : Kp (fun j => r + 1 ≤ j) X w9 := ⟨G9.out.os, G9.out.tape, G9.out.output, G9.out.size, fun j hj hne => G9.out.block j hj (fun e => hne (own_lo OGX.out e.symm).1)⟩
     have hbl := HH.out.lt (b := b) (.inr (.inr (.inr rfl)))
     refine ⟨_, ks ++ [(m, i)], some ⟨g9, 0, none⟩, cap9, m0 + 1, rfl, hid ?_, HSD2, hid ((HMZ.out.on BX.out).kept k9 (fun e => ?_) (fun e => ?_)), ?_, hid ((btr BZN.out BX.out).trans (k9.below (btr BZN.out BX.out).size (fun j hj e => by have := HRR.out; omega)))⟩
     ·rw [HFA.out, List.length_append]; have h1 := HM0.out; have h2 := HLT.out; exact ⟨by rw [← h1.1]; rfl, by omega⟩
     ·have := HRR.out; omega
     ·omega
     ·rw [HFA.out]; unfold hcs; rw [List.flatMap_append]; exact O9
end Go.Proofs.YtlhbgaiiehljpaaGreat.Ac
