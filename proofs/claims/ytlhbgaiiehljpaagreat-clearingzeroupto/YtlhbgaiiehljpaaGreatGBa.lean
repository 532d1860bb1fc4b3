/-
  LvM
-/
import Derived.Test.YtlhbgaiiehljpaaGreatLvL
namespace Go.Proofs.YtlhbgaiiehljpaaGreat.Ac
open List renaming getElem?_toArray → lqA, getElem?_cons_succ → lqB, getElem?_cons_zero → lqC
open Go.RowKit Go.Deep Go.Maps MonM Go.Proofs.YtlhbgaiiehljpaaGreat
set_option linter.unusedVariables false
set_option linter.unusedSimpArgs false
set_option maxHeartbeats 8000000
set_option maxRecDepth 100000
attribute [local go_sem ↓] Go.wp_at_zero Go.wp_at_succ
theorem Mr.nextv {K V : Type} {s : Kv K V} [DecidableEq K] {w : World} {M r n cnt : Nat} {f : K → Option V} {lf : K → Bool} (h : Mr s w M r n f lf cnt) (S : KvOk s) (A : KvAll s) :
  ((∀ k, s.ok k → lf k = false) ∧ ∀ ty, (Instr.next (.pointer (some ⟨r, 0, none⟩)) false ty).run Tryz.prog w = .ok (.tuple #[.bool false]) w) ∨
  ∃ k v w' cnt', s.ok k ∧ lf k = true ∧ f k = some v ∧ (∀ ty, (Instr.next (.pointer (some ⟨r, 0, none⟩)) false ty).run Tryz.prog w = .ok (.tuple #[.bool true, s.kv k, s.val v]) w') ∧ (Instr.entry (.pointer (some ⟨r, 0, none⟩))).run Tryz.prog w' = .ok (.tuple #[s.kv k, s.val v]) w' ∧ Mr s w' M r n f (fun x => lf x && !(decide (x = k))) cnt' ∧ cnt' < cnt ∧ Kp (fun b => b = r) w w' := by
 obtain ⟨D, left, h1, h2, h3, h4, h5⟩ := h
 rcases h1.next S.law 0 with ⟨_, h0, hr⟩ | ⟨key, v, kl, y, w', cnt', hkey, hl, hv, hat, hr, hrg, hlt, hgr, hsz, hen⟩
 ·exact .inl ⟨fun k hk => by rw [← h2 k hk]; exact h0 _, fun ty => hr⟩
 ·obtain ⟨k, hk, rfl⟩ := A _ _ hkey
  have ek : s.kl k = kl := by
   have := S.key k hk
   rw [hkey] at this
   exact (Option.some.inj this).symm
  subst ek
  have hlk : lf k = true := by rw [← h2 k hk]; exact hl
  obtain ⟨x, hfx⟩ := Option.isSome_iff_exists.1 (h5 k hk hlk)
  have ev : v = s.val x := by
   have e1 := h4 k x hk hfx y.1
   rw [hat] at e1
   obtain ⟨y1, y2⟩ := y
   have e1 : y1 = s.el x := e1
   rw [e1] at hv
   exact S.un v x y2 hv
  subst ev
  refine .inr ⟨k, x, w', cnt', hk, hlk, hfx, fun ty => hr, hen, ⟨D, _, hrg, fun x hx => ?_, h3, h4, fun x hx hl => h5 x hx (by simp at hl; exact hl.1)⟩, hlt, ⟨hgr.os, hgr.tape, hgr.output, hgr.size, fun b hb hne => hgr.block b hb (by simpa using hne)⟩⟩
  rw [h2 x hx]
  by_cases e : x = k
  ·subst e
   rw [WideAt.sameKey_self (S.law.key (S.key x hx))]
   simp
  ·rw [sameKey_ne (S.ne hx hk e)]
   simp [e]
theorem infoT4 : (Tryz.prog.info? 61).map (·.size) = some 4 := by kernel_rfl
theorem mul_bd {a b : Int} (a0 : 0 ≤ a) (a1 : a < 262144) (b0 : 0 ≤ b) (b1 : b ≤ 1099511627776) : Amt (a * b) := by
 have m0 : 0 ≤ a * b := Int.mul_nonneg a0 b0
 have m1 := Int.mul_le_mul (a := a) (b := b) (c := 262143) (d := 1099511627776) (by omega) b1 b0 (by omega)
 unfold Amt
 omega
theorem worth_any (x : Pv) (pr : Int) (w : World) (p0 : 0 ≤ pr) (p1 : pr < 262144) (h0 : -1099511627776 ≤ x.q) (h1 : x.q ≤ 1099511627776) :
  Calls Tryz.prog 70 #[pval x, .int .i64 pr] w fun e w' => e = .returned (mv (pr * x.q)) ∧ Below w.heap.size w w' := by
 have CS := hid (fun U => psize_any x U (by omega) (by omega))
 obtain ⟨q, hq⟩ : ∃ q, x.q = q := ⟨_, rfl⟩
 obtain ⟨v, hv⟩ : ∃ v, x.v = v := ⟨_, rfl⟩
 unfold pval at CS ⊢
 rw [hq, hv] at CS
 rw [hq] at h0 h1
 rw [hq, hv]
 obtain ⟨s, hs⟩ : ∃ s, (if q < 0 then -q else q) = s := ⟨_, rfl⟩
 rw [hs] at CS
 have s0 : 0 ≤ s := by rw [← hs]; split <;> omega
 have s1 : s ≤ 1099511627776 := by rw [← hs]; split <;> omega
 have CT := hid (fun U => numTimes_any pr s U p0 (by omega) ⟨s0, by omega⟩)
 obtain ⟨t, ht⟩ : ∃ t, pr * s = t := ⟨_, rfl⟩
 have CN := hid (fun U => neg_any t U)
 have HQ := hid (show pr * q = if q < 0 then -t else t from by
  rw [← ht, ← hs]
  split
  ·rw [Int.mul_neg, Int.neg_neg]
  ·rfl)
 rw [ht] at CT
 unfold mv at CT CN
 have wp : IntKind.u32.wrap pr = pr := by rw [IntKind.wrap_u32]; omega
 obtain ⟨g2, hg2⟩ : ∃ g, w.heap.size = g := ⟨_, rfl⟩
 obtain ⟨Wa, hWa⟩ : ∃ W, w.alloc (.cells #[.int .i64 q, .int .u64 (hiW v), .int .u64 (loW v)] 109) = W := ⟨_, rfl⟩
 obtain ⟨g4, hg4⟩ : ∃ g, Wa.heap.size = g := ⟨_, rfl⟩
 obtain ⟨Wb, hWb⟩ : ∃ W, Wa.alloc (.cells #[.int .u64 0, .int .u64 0] 33) = W := ⟨_, rfl⟩
 have ba : Below w.heap.size w Wa := by rw [← hWa]; exact ball _ _
 have bb : Below Wa.heap.size Wa Wb := by rw [← hWb]; exact ball _ _
 have ra : Wa.heap[g2]? = some (.cells #[.int .i64 q, .int .u64 (hiW v), .int .u64 (loW v)] 109 (0, 0)) := by rw [← hWa, ← hg2]; exact World.alloc_heap_new _ _
 have RA := hid (row_on ra bb)
 have RB := hid (show Wb.heap[g4]? = some (.cells #[.int .u64 0, .int .u64 0] 33 (0, 0)) from by rw [← hWb, ← hg4]; exact World.alloc_heap_new _ _)
 have BC := hid (btr ba bb)
 have HG := hid (show w.heap.size ≤ g4 from by rw [← hg4]; exact ba.size)
 obtain ⟨R, hR⟩ : ∃ R, pr * q = R := ⟨_, rfl⟩
 rw [hR] at HQ ⊢
 clear ba bb ra hR hs ht p0 p1 h0 h1 s0 s1
 have a0 := row_cell RA.out 0
 have a1 := row_cell RA.out 1
 have a2 := row_cell RA.out 2
 simp only [lqA, lqB, lqC] at a0 a1 a2
 go_enter Tryz.func70, Tryz.ntmps70
 go_upto_region 1 with fail
 clear hWa hg2 hWb hg4
 go_upto_region 2 with (first
  | (go_at_call 38; with_reducible refine (CS.out _).mono ?_; rintro e X ⟨rfl, hX⟩; have BX := hid hX; clear hX)
  | (go_at_call 67; with_reducible refine (CT.out _).mono ?_; rintro e Y ⟨rfl, hY⟩; have BY := hid hY; clear hY; have ZY := hid (World.alloc_heap_new Y (.cells #[.int .u64 0, .int .u64 0] 33)))
  | (refine wpList_store_row (by rfl) 33 (.tmp 5) (.tmp 10) (by rfl) Y.heap.size #[.int .u64 (hiW t), .int .u64 (loW t)] (by rfl) (by rfl) 33 _ ZY.out infoM2 (by rfl) (by simp [Value.oneCell']) ?_))
 obtain ⟨V, hV⟩ : ∃ V, (Y.alloc (.cells #[.int .u64 0, .int .u64 0] 33)).setRow Y.heap.size #[.int .u64 (hiW t), .int .u64 (loW t)] = V := ⟨_, rfl⟩
 have GV := hid (show V.heap[Y.heap.size]? = some (.cells #[.int .u64 (hiW t), .int .u64 (loW t)] 33 (0, 0)) from by rw [← hV]; exact setRow_heap _ _ _ _ 33 (0, 0) ZY.out)
 have BV := hid (show Below Y.heap.size Y V from by rw [← hV]; exact setRow_below (ball _ _) (Nat.le_refl _))
 rw [hV]
 obtain ⟨y, hy⟩ : ∃ y, Y.heap.size = y := ⟨_, rfl⟩
 rw [hy] at GV ⊢
 have BZ := hid (btr (btr BX.out BY.out) BV.out)
 have RAV := hid (row_on RA.out BZ.out)
 have RBV := hid (row_on RB.out BZ.out)
 clear hV hy ZY a0 a1 a2
 have a0 := row_cell RAV.out 0
 simp only [lqA, lqB, lqC] at a0
 have y0 := row_cell GV.out 0
 have y1 := row_cell GV.out 1
 simp only [lqA, lqB, lqC] at y0 y1
 by_cases c : q < 0
 ·have HR := hid (show R = -t from by rw [HQ.out, if_pos c])
  go_wp2_with (first
   | (go_at_call 37; with_reducible refine (CN.out _).mono ?_; rintro e U ⟨rfl, hU⟩; have BU := hid hU; clear hU; have RBU := hid (row_on RBV.out BU.out))
   | (refine wpList_store_row (by rfl) 33 (.tmp 4) (.tmp 15) (by rfl) g4 #[.int .u64 (hiW (-t)), .int .u64 (loW (-t))] (by rfl) (by rfl) 33 _ RBU.out infoM2 (by rfl) (by simp [Value.oneCell']) ?_))
  exact bodyPost_ret (res_c Tryz.results70 _ _ g4 33 #[.int .u64 (hiW (-t)), .int .u64 (loW (-t))] (0, 0) _ (by rfl) (setRow_heap _ _ _ _ 33 (0, 0) RBU.out) Tryz.underlying33 rfl infoM2) rfl ⟨by rw [HR.out], setRow_below (btr (btr BC.out BZ.out) BU.out) HG.out⟩
 ·have HR := hid (show R = t from by rw [HQ.out, if_neg c])
  have c1 : decide (q < 0) = false := decide_eq_false c
  go_wp2_with (refine wpList_store_row (by rfl) 33 (.tmp 4) (.tmp 16) (by rfl) g4 #[.int .u64 (hiW t), .int .u64 (loW t)] (by rfl) (by rfl) 33 _ RBV.out infoM2 (by rfl) (by simp [Value.oneCell']) ?_)
  exact bodyPost_ret (res_c Tryz.results70 _ _ g4 33 #[.int .u64 (hiW t), .int .u64 (loW t)] (0, 0) _ (by rfl) (setRow_heap _ _ _ _ 33 (0, 0) RBV.out) Tryz.underlying33 rfl infoM2) rfl ⟨by rw [HR.out], setRow_below (btr BC.out BZ.out) HG.out⟩
theorem allRated_yes {H : Nat} {o : Int} {p : Option Addr} {c : Nat} {l : List (Nat × Sv)} {b : Nat} {n : Nat} {f : HoP} (w : World) (h : Ho w H o p c l (some b) n f) (ri rp ra rb : Int) (M nr : Nat) (hm : Mp kvR w M nr (upd (fun _ => none) ri ⟨ri, rp, ra, rb⟩)) (hf : ∀ k x, f k = some x → k.2 = ri) :
  Calls Tryz.prog 69 #[pb H, .map (some M)] w fun e w' => e = .returned (.bool true) ∧ Below w.heap.size w w' := by
 have k2 := row_cell (hid h.row).out 2
 simp only [lqA, lqB, lqC] at k2
 obtain ⟨V, cnt, hrun, hmr, hcn, hbv⟩ := Mp.range h.mp okP
 have hrun : (Instr.range 98 (.map (some b))).run Tryz.prog w = .ok (.pointer (some ⟨w.heap.size, 0, none⟩)) V := hrun
 obtain ⟨r, hr⟩ : ∃ r, w.heap.size = r := ⟨_, rfl⟩
 rw [hr] at hrun hmr
 have HMR := hid hmr
 have HBV := hid hbv
 have HRR := hid hr
 have HF := hid hf
 have HM := hid hm
 have HH := hid h
 clear hmr hbv hr hcn hf hm h
 go_enter Tryz.func69, Tryz.ntmps69
 go_wp2
 try go_frame
 go_loopg [] (cnt) (fun kk wr => ∃ (lf : Int × Int → Bool), Hid (Mr kvP wr b r n f lf kk) ∧ Hid (Below w.heap.size w wr))
 case atStart => exact ⟨_, HMR, HBV⟩
 case round =>
  obtain ⟨lf, HR, HB⟩ := hrel
  clear hrun k2
  rcases HR.out.nextv okP kvallP with ⟨h0, hdone⟩ | ⟨x, pvx, wn, cn, hok, hlf, hfx, hnext, hentry, hmr, hlt, hko⟩
  ·clear h0
   go_wp2
   go_ret
   exact ⟨rfl, HB.out⟩
  ·obtain ⟨m, i⟩ := x
   obtain ⟨q, v⟩ := pvx
   have ei : i = ri := HF.out _ _ hfx
   subst ei
   have hnext : ∀ ty, (Instr.next (.pointer (some ⟨r, 0, none⟩)) false ty).run Tryz.prog wr = .ok (.tuple #[.bool true, .agg #[.int .u32 m, .int .u32 i], .agg #[.int .i64 q, .int .u64 (hiW v), .int .u64 (loW v)]]) wn := hnext
   have hentry : (Instr.entry (.pointer (some ⟨r, 0, none⟩))).run Tryz.prog wn = .ok (.tuple #[.agg #[.int .u32 m, .int .u32 i], .agg #[.int .i64 q, .int .u64 (hiW v), .int .u64 (loW v)]]) wn := hentry
   have HMN := hid hmr
   have HLT := hid hlt
   have HUI := hid (show U32 i from hok.2)
   have HBN := hid (HB.out.trans (hko.below HB.out.size (fun j hj e => by have := HRR.out; omega)))
   clear hok hlf hmr hlt hko hfx
   obtain ⟨gA, hgA⟩ : ∃ g, wn.heap.size = g := ⟨_, rfl⟩
   obtain ⟨Wx, hWx⟩ : ∃ W, wn.alloc (.cells #[.int .u32 0, .int .u32 0] 79) = W := ⟨_, rfl⟩
   obtain ⟨gB, hgB⟩ : ∃ g, Wx.heap.size = g := ⟨_, rfl⟩
   obtain ⟨Wy, hWy⟩ : ∃ W, Wx.alloc (.cells #[.int .i64 0, .int .u64 0, .int .u64 0] 109) = W := ⟨_, rfl⟩
   obtain ⟨Wz, hWz⟩ : ∃ W, Wy.setRow gA #[.int .u32 m, .int .u32 i] = W := ⟨_, rfl⟩
   obtain ⟨Wu, hWu⟩ : ∃ W, Wz.setRow gB #[.int .i64 q, .int .u64 (hiW v), .int .u64 (loW v)] = W := ⟨_, rfl⟩
   have bx : Below wn.heap.size wn Wx := by rw [← hWx]; exact ball _ _
   have bY : Below Wx.heap.size Wx Wy := by rw [← hWy]; exact ball _ _
   have zA : Wx.heap[gA]? = some (.cells #[.int .u32 0, .int .u32 0] 79 (0, 0)) := by rw [← hWx, ← hgA]; exact World.alloc_heap_new _ _
   have ZA := hid (row_on zA bY)
   have zB : Wy.heap[gB]? = some (.cells #[.int .i64 0, .int .u64 0, .int .u64 0] 109 (0, 0)) := by rw [← hWy, ← hgB]; exact World.alloc_heap_new _ _
   have nAB : gA ≠ gB := by have := row_lt zA; omega
   have kz : Kp (fun j => j = gA) Wy Wz := by rw [← hWz]; exact setRow_kp _ _ _
   have ku : Kp (fun j => j = gB) Wz Wu := by rw [← hWu]; exact setRow_kp _ _ _
   have ZB := hid (kz.row zB (fun e => nAB e.symm))
   have rA : Wz.heap[gA]? = some (.cells #[.int .u32 m, .int .u32 i] 79 (0, 0)) := by rw [← hWz]; exact setRow_heap _ _ _ _ 79 (0, 0) ZA.out
   have RA := hid (ku.row rA nAB)
   have RB := hid (show Wu.heap[gB]? = some (.cells #[.int .i64 q, .int .u64 (hiW v), .int .u64 (loW v)] 109 (0, 0)) from by rw [← hWu]; exact setRow_heap _ _ _ _ 109 (0, 0) ZB.out)
   have BU := hid (show Below wn.heap.size wn Wu from (((btr bx bY).trans (kz.below (btr bx bY).size (fun g hg e => by omega))).trans (ku.below (Nat.le_trans (btr bx bY).size kz.size) (fun g hg e => by have := bx.size; omega))))
   clear bx bY zA zB nAB kz ku rA
   go_upto_region 4 with (first
    | (refine wpList_store_row (by rfl) 79 (.tmp 5) (.tmp 17) (by rfl) gA #[.int .u32 m, .int .u32 i] (by rfl) (by rfl) 79 _ ZA.out infoH2 (by rfl) (by simp [Value.oneCell']) ?_; rw [hWz])
    | (refine wpList_store_row (by rfl) 109 (.tmp 6) (.tmp 18) (by rfl) gB #[.int .i64 q, .int .u64 (hiW v), .int .u64 (loW v)] (by rfl) (by rfl) 109 _ ZB.out infoP3 (by rfl) (by simp [Value.oneCell']) ?_; rw [hWu]))
   clear hgA hWx hgB hWy hWz hWu ZA ZB
   have LK : (Instr.lookup 113 (.map (some M)) (.int .u32 i) true).run Tryz.prog Wu = .ok (.tuple #[.agg #[.int .u32 i, .int .i64 rp, .int .u32 ra, .int .u32 rb], .bool true]) Wu := by
    have h1 := (HM.out.on (btr HBN.out BU.out)).look okR i HUI.out
    rw [upd_same] at h1
    exact h1
   clear hnext hentry
   have a1 := row_cell RA.out 1
   simp only [lqA, lqB, lqC] at a1
   obtain ⟨gC, hgC⟩ : ∃ g, Wu.heap.size = g := ⟨_, rfl⟩
   obtain ⟨Wv, hWv⟩ : ∃ W, Wu.alloc (.cells #[.int .u32 0, .int .i64 0, .int .u32 0, .int .u32 0] 61) = W := ⟨_, rfl⟩
   obtain ⟨Ww, hWw⟩ : ∃ W, Wv.setRow gC #[.int .u32 i, .int .i64 rp, .int .u32 ra, .int .u32 rb] = W := ⟨_, rfl⟩
   have bv : Below Wu.heap.size Wu Wv := by rw [← hWv]; exact ball _ _
   have ZC := hid (show Wv.heap[gC]? = some (.cells #[.int .u32 0, .int .i64 0, .int .u32 0, .int .u32 0] 61 (0, 0)) from by rw [← hWv, ← hgC]; exact World.alloc_heap_new _ _)
   have RC := hid (show Ww.heap[gC]? = some (.cells #[.int .u32 i, .int .i64 rp, .int .u32 ra, .int .u32 rb] 61 (0, 0)) from by rw [← hWw]; exact setRow_heap _ _ _ _ 61 (0, 0) ZC.out)
   have BV := hid (show Below Wu.heap.size Wu Ww from by rw [← hWw]; exact setRow_below bv (Nat.le_of_eq hgC))
   have RA := hid (row_on RA.out BV.out)
   have RB := hid (row_on RB.out BV.out)
   have BW := hid (btr BU.out BV.out)
   clear bv
   go_upto_region 5 with (refine wpList_store_row (by rfl) 61 (.tmp 7) (.tmp 24) (by rfl) gC #[.int .u32 i, .int .i64 rp, .int .u32 ra, .int .u32 rb] (by rfl) (by rfl) 61 _ ZC.out infoT4 (by rfl) (by simp [Value.oneCell']) ?_; rw [hWw])
   clear hgC hWv hWw ZC LK
   have b0 := row_cell RB.out 0
   simp only [lqA, lqB, lqC] at b0
   go_wp2
   go_roundg cn
   case measure => exact HLT.out
   case rel => exact ⟨_, hid (HMN.out.on BW.out), hid (btr HBN.out BW.out)⟩
end Go.Proofs.YtlhbgaiiehljpaaGreat.Ac
namespace Go.Proofs.YtlhbgaiiehljpaaGreat.Ac
open Go.RowKit Go.Deep Go.Maps MonM Go.Proofs.YtlhbgaiiehljpaaGreat
set_option linter.unusedVariables false
set_option linter.unusedSimpArgs false
set_option maxHeartbeats 8000000
set_option maxRecDepth 100000
attribute [local go_sem ↓] Go.wp_at_zero Go.wp_at_succ
theorem rate_put {U : World} {M : Nat} (hU : U.ownsMap Tryz.prog 36 rd4 M 0 (.map [])) (ri : Int) (hri : U32 ri) (x : Rt) :
  ∃ U', (Instr.mapUpdate 113 (.map (some M)) (.int .u32 ri) (rval x)).run Tryz.prog U = .ok () U' ∧ Mp kvR U' M 1 (upd (fun _ => none) ri x) ∧ Kp (fun j => j = M) U U' ∧ ∀ ty, (Builtin.len_ #[113] ty #[.map (some M)]).run Tryz.prog U' = .ok (.int .i64 1) U' := by
 have hm : Mp kvR U M 0 (fun _ => none) := ⟨.map [], hU, fun k _ => rfl, fun k v _ h => by cases h⟩
 obtain ⟨U1, h1, h2, h3⟩ := hm.put okR (by decide) ri hri x
 obtain ⟨U2, k1, k2, k3⟩ := hU.update okR.law okR.und (by decide) (okR.key ri hri) (show rd4 (rval x) = some (kvR.el x, []) from okR.rd x)
 have e : U1 = U2 := by
  have h1 : (Instr.mapUpdate 113 (.map (some M)) (.int .u32 ri) (rval x)).run Tryz.prog U = .ok () U1 := h1
  have k1 : (Instr.mapUpdate 113 (.map (some M)) (.int .u32 ri) (rval x)).run Tryz.prog U = .ok () U2 := k1
  rw [h1] at k1
  injection k1
 subst e
 refine ⟨U1, h1, h2, h3, fun ty => ?_⟩
 have h4 := k2.len okR.und ty
 rw [size_put (hU.tidy okR.law)] at h4
 exact h4
theorem rated_one {H : Nat} {o : Int} {p : Option Addr} {c : Nat} {l : List (Nat × Sv)} {b : Nat} {n : Nat} {f : HoP} (w : World) (h : Ho w H o p c l (some b) n f) (ri rp ra rb : Int) (R : Nat) (hr : w.heap[R]? = some (.cells #[.int .u32 ri, .int .i64 rp, .int .u32 ra, .int .u32 rb] 61 (0, 0))) (hi : U32 ri) (p0 : 0 ≤ rp) (p1 : rp < 262144) (b0 : rb ≠ 0) (ab : ra ≤ rb) (hf : ∀ k x, f k = some x → k.2 = ri) :
  Calls Tryz.prog 40 #[pb H, .slice (some ⟨R, 0, none⟩) 1 1] w fun e w' => ∃ M, e = .returned (.tuple #[.map (some M), .int .i64 0]) ∧ w.heap.size ≤ M ∧ Mp kvR w' M 1 (upd (fun _ => none) ri ⟨ri, rp, ra, rb⟩) ∧ Below w.heap.size w w' := by
 have CP := hid (fun U => isPrice_any rp U)
 rw [show decide (0 ≤ rp ∧ rp < 262144) = true from by simp [p0, p1]] at CP
 have e0 : (rb == 0) = false := by simpa using b0
 have e1 : decide (rb < ra) = false := decide_eq_false (by omega)
 obtain ⟨M, hM⟩ : ∃ M, w.heap.size = M := ⟨_, rfl⟩
 obtain ⟨W, hW⟩ : ∃ W, w.alloc (.map #[] 0) = W := ⟨_, rfl⟩
 have rm : (Instr.makeMap 113 none).run Tryz.prog w = .ok (.map (some M)) W := by rw [← hM, ← hW]; rfl
 have BW := hid (show Below w.heap.size w W from by rw [← hW]; exact ball _ _)
 have OW := hid (show W.ownsMap Tryz.prog 36 rd4 M 0 (.map []) from by rw [← hW, ← hM]; exact World.ownsMap_made _ _ _ _)
 have HR := hid (fun (U : World) (hU : Below w.heap.size w U) => row_on hr hU)
 have HAR := hid (fun (U : World) (hU : Below w.heap.size w U) (M : Nat) (hm : Mp kvR U M 1 (upd (fun _ => none) ri ⟨ri, rp, ra, rb⟩)) => allRated_yes U (h.on hU) ri rp ra rb M 1 hm hf)
 have HI := hid hi
 have HMM := hid hM
 clear h hr hi p0 p1 b0 ab hf hM hW
 go_enter Tryz.func40, Tryz.ntmps40
 go_upto_region 4 with fail
 clear rm
 go_loopw [7, 8, 14] (fun av bv iv wr => av = .bool false ∧ bv = .bool false ∧ ((iv = .int .i64 0 ∧ wr = W) ∨ (iv = .int .i64 1 ∧ Hid (Mp kvR wr M 1 (upd (fun _ => none) ri ⟨ri, rp, ra, rb⟩)) ∧ Hid (Below w.heap.size w wr) ∧ Hid (∀ ty, (Builtin.len_ #[113] ty #[.map (some M)]).run Tryz.prog wr = .ok (.int .i64 1) wr)))) (fun _ _ iv _ => 1 - (intOf iv).toNat)
 case atStart => exact ⟨rfl, rfl, .inl ⟨rfl, rfl⟩⟩
 case round =>
  obtain ⟨rfl, rfl, hrel⟩ := hrel
  rcases hrel with ⟨rfl, hwr⟩ | ⟨rfl, HM, HB, HL⟩
  ·subst hwr
   have RR := hid (HR.out _ BW.out)
   have z0 := row_cell RR.out 0
   have z1 := row_cell RR.out 1
   have z2 := row_cell RR.out 2
   have z3 := row_cell RR.out 3
   simp only [List.getElem?_toArray, List.getElem?_cons_succ, List.getElem?_cons_zero] at z0 z1 z2 z3
   have ZC := hid (World.alloc_heap_new wr (.cells #[.int .u32 0, .int .i64 0, .int .u32 0, .int .u32 0] 61))
   obtain ⟨gC, hgC⟩ : ∃ g, wr.heap.size = g := ⟨_, rfl⟩
   obtain ⟨Wv, hWv⟩ : ∃ W, wr.alloc (.cells #[.int .u32 0, .int .i64 0, .int .u32 0, .int .u32 0] 61) = W := ⟨_, rfl⟩
   obtain ⟨Ww, hWw⟩ : ∃ W, Wv.setRow gC #[.int .u32 ri, .int .i64 rp, .int .u32 ra, .int .u32 rb] = W := ⟨_, rfl⟩
   rw [hgC, hWv] at ZC
   have bv : Below wr.heap.size wr Wv := by rw [← hWv]; exact ball _ _
   have RC := hid (show Ww.heap[gC]? = some (.cells #[.int .u32 ri, .int .i64 rp, .int .u32 ra, .int .u32 rb] 61 (0, 0)) from by rw [← hWw]; exact setRow_heap _ _ _ _ 61 (0, 0) ZC.out)
   have BV := hid (show Below wr.heap.size wr Ww from by rw [← hWw]; exact setRow_below bv (Nat.le_of_eq hgC))
   have OV := hid (show Ww.ownsMap Tryz.prog 36 rd4 M 0 (.map []) from by
    obtain ⟨es, clock, a1, a2⟩ := OW.out
    exact ⟨es, clock, (BV.out.block M (OW.out.lt)).trans a1, a2⟩)
   obtain ⟨U1, hrun, m1, m2, m3⟩ := rate_put OV.out ri HI.out ⟨ri, rp, ra, rb⟩
   have hrun : (Instr.mapUpdate 113 (.map (some M)) (.int .u32 ri) (.agg #[.int .u32 ri, .int .i64 rp, .int .u32 ra, .int .u32 rb])).run Tryz.prog Ww = .ok () U1 := hrun
   have M1 := hid m1
   have M2 := hid m2
   have M3 := hid m3
   clear bv m1 m2 m3
   go_upto_region 6 with (refine wpList_store_row (by rfl) 61 (.tmp 10) (.tmp 17) (by rfl) gC #[.int .u32 ri, .int .i64 rp, .int .u32 ra, .int .u32 rb] (by rfl) (by rfl) 61 _ ZC.out infoT4 (by rfl) (by simp [Value.oneCell']) ?_; rw [hWw])
   clear hgC hWv hWw ZC z0 z1 z2 z3
   have y0 := row_cell RC.out 0
   have y1 := row_cell RC.out 1
   have y2 := row_cell RC.out 2
   have y3 := row_cell RC.out 3
   simp only [List.getElem?_toArray, List.getElem?_cons_succ, List.getElem?_cons_zero] at y0 y1 y2 y3
   go_wp2_with (go_at_call 47; with_reducible refine (CP.out _).mono ?_; rintro e w9 ⟨rfl, h9⟩; subst w9)
   go_roundw
   case rel => exact ⟨rfl, rfl, .inr ⟨rfl, M1, hid ((btr BW.out BV.out).trans (M2.out.below (btr BW.out BV.out).size (fun j hj e => by have := HMM.out; omega))), M3⟩⟩
   case measure => simp [intOf]
  ·have hl := HL.out
   have CA := hid (HAR.out wr HB.out M HM.out)
   go_wp2_with (go_at_call 69; with_reducible refine CA.out.mono ?_; rintro e w8 ⟨rfl, h8⟩; have H8 := hid h8; clear h8)
   go_ret2
   exact ⟨M, rfl, Nat.le_of_eq HMM.out, HM.out.on H8.out, btr HB.out H8.out⟩
end Go.Proofs.YtlhbgaiiehljpaaGreat.Ac
namespace Go.Proofs.YtlhbgaiiehljpaaGreat.Ac
open Go.RowKit Go.Deep Go.Maps MonM Go.Proofs.YtlhbgaiiehljpaaGreat
set_option linter.unusedVariables false
set_option linter.unusedSimpArgs false
set_option maxHeartbeats 4000000
set_option maxRecDepth 100000
def sset (l : List (Nat × Sv)) (s : Sv) : List (Nat × Sv) := l.map fun z => if z.2.m = s.m then (z.1, s) else z
theorem sset_len (l : List (Nat × Sv)) (s : Sv) : (sset l s).length = l.length := by simp [sset]
theorem sset_fst (l : List (Nat × Sv)) (s : Sv) : (sset l s).map (·.1) = l.map (·.1) := by
 unfold sset
 rw [List.map_map]
 refine List.map_congr_left fun z _ => ?_
 show (if z.2.m = s.m then (z.1, s) else z).1 = z.1
 split <;> rfl
theorem sset_bks (l : List (Nat × Sv)) (s : Sv) : bks (sset l s) = bks l := sset_fst l s
theorem sset_pv (l : List (Nat × Sv)) (s : Sv) : pv (sset l s) = pv l := by
 unfold pv sset
 rw [List.map_map]
 refine List.map_congr_left fun z _ => ?_
 show pb (if z.2.m = s.m then (z.1, s) else z).1 = pb z.1
 split <;> rfl
theorem sset_up {l : List (Nat × Sv)} (s : Sv) (h : Up l) : Up (sset l s) := by
 unfold Up sset
 rw [List.pairwise_map]
 refine h.imp fun {a b} hab => ?_
 have e : ∀ z : Nat × Sv, (if z.2.m = s.m then (z.1, s) else z).2.m = z.2.m := fun z => by
  by_cases c : z.2.m = s.m
  ·rw [if_pos c]; exact c.symm
  ·rw [if_neg c]
 rw [e, e]
 exact hab
theorem sset_mem {l : List (Nat × Sv)} {s : Sv} {x : Nat × Sv} (h : x ∈ sset l s) : (x.2 = s ∧ ∃ z ∈ l, z.2.m = s.m ∧ z.1 = x.1) ∨ (x ∈ l ∧ x.2.m ≠ s.m) := by
 obtain ⟨z, hz, e⟩ := List.mem_map.1 h
 by_cases c : z.2.m = s.m
 ·have e : (if z.2.m = s.m then (z.1, s) else z) = x := e
  rw [if_pos c] at e
  subst e
  exact .inl ⟨rfl, z, hz, c, rfl⟩
 ·have e : (if z.2.m = s.m then (z.1, s) else z) = x := e
  rw [if_neg c] at e
  subst e
  exact .inr ⟨hz, c⟩
theorem Ho.sset {w w' : World} {H : Nat} {o : Int} {p : Option Addr} {c : Nat} {l : List (Nat × Sv)} {M : Option Nat} {n : Nat} {f : HoP} (h : Ho w H o p c l M n f) {y : Nat × Sv} (hy : y ∈ l) {s : Sv} (hs : s.m = y.2.m) (hk : Kp (fun j => j = y.1) w w') (hr : w'.heap[y.1]? = some (.cells (srow s) 106 (0, 0))) : Ho w' H o p c (Ac.sset l s) M n f := by
 have ry := h.me.st y hy
 have ne : ∀ {r : Nat} {cs : Array Value} {t : TypeId}, w.heap[r]? = some (.cells cs t (0, 0)) → t ≠ 106 → ¬ r = y.1 := fun e ht e2 => by
  rw [e2, ry] at e
  injection e with e
  injection e with _ e
  exact ht e.symm
 refine ⟨?_, ⟨?_, fun x hx => ?_⟩, ?_, sset_up s h.up, by rw [sset_len]; exact h.sz, ?_⟩
 ·rw [sset_len]
  exact hk.row h.row (ne h.row (by decide))
 ·rw [sset_len, sset_pv]
  exact own_same h.me.own (fun g hg => by
   obtain ⟨cur, e⟩ := own_ty h.me.own hg
   exact hk.obj g (row_lt e) (ne e (by decide)))
 ·rcases sset_mem hx with ⟨e, z, hz, e1, e2⟩ | ⟨hx, e⟩
  ·have : z = y := up_one h.up hz hy (e1.trans hs)
   rw [e, ← e2, this]
   exact hr
  ·refine hk.row (h.me.st x hx) (fun e2 => e ?_)
   have hnd := h.nd
   obtain ⟨i, hi, rfl⟩ := List.getElem_of_mem hx
   obtain ⟨j, hj, rfl⟩ := List.getElem_of_mem hy
   have this : i = j := by
    rcases Nat.lt_trichotomy i j with c | c | c
    ·exact absurd (by rw [List.getElem_map, List.getElem_map]; exact e2) (List.pairwise_iff_getElem.1 hnd i j (by simpa using hi) (by simpa using hj) c)
    ·exact c
    ·exact absurd (by rw [List.getElem_map, List.getElem_map]; exact e2.symm) (List.pairwise_iff_getElem.1 hnd j i (by simpa using hj) (by simpa using hi) c)
   subst this
   exact hs.symm
 ·rw [sset_fst]; exact h.nd
 ·exact h.mp.kept hk (fun b e e2 => by
   have h1 := h.mp
   rw [e] at h1
   obtain ⟨es, cl, e3⟩ := Mp.obj h1
   rw [e2, ry] at e3
   cases e3)
/-- a member's row. -/
def gm (l : List (Nat × Sv)) (m : Int) : Sv := ((l.find? fun y => y.2.m == m).map (·.2)).getD ⟨m, 0, 0, false, false⟩
theorem gm_of {l : List (Nat × Sv)} (h : Up l) {y : Nat × Sv} (hy : y ∈ l) : gm l y.2.m = y.2 := by
 unfold gm
 cases e : l.find? fun z => z.2.m == y.2.m with
 | none => exact absurd (List.find?_eq_none.1 e y hy) (by simp)
 | some z =>
  have h1 := List.mem_of_find?_eq_some e
  have h2 := List.find?_some e
  have h2 : z.2.m = y.2.m := by simpa using h2
  rw [up_one h h1 hy h2]
  rfl
end Go.Proofs.YtlhbgaiiehljpaaGreat.Ac
