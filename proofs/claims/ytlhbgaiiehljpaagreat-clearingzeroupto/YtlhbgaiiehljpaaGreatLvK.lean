/-
  LvK
-/
import Derived.Test.YtlhbgaiiehljpaaGreatGAa
import Derived.Test.YtlhbgaiiehljpaaGreatGAt
namespace Go.Proofs.YtlhbgaiiehljpaaGreat.Ac
open List renaming getElem?_toArray → lqA, getElem?_cons_succ → lqB, getElem?_cons_zero → lqC
open List renaming getElem_toArray → lgA, getElem_cons_succ → lgB, getElem_cons_zero → lgC, setIfInBounds_toArray → lsA, set_cons_zero → lsB, set_cons_succ → lsC
open Go.RowKit Go.Deep Go.Maps MonM Go.Proofs.YtlhbgaiiehljpaaGreat
set_option linter.unusedVariables false
set_option linter.unusedSimpArgs false
set_option maxHeartbeats 8000000
set_option maxRecDepth 100000
attribute [local go_sem ↓] Go.wp_at_zero Go.wp_at_succ
theorem Ho.map {w w' : World} {H : Nat} {o : Int} {p : Option Addr} {c : Nat} {l : List (Nat × Sv)} {M M' : Option Nat} {n n' : Nat} {f f' : HoP} {F : Nat → Prop} (h : Ho w H o p c l M n f) (hk : Kp F w w') (hF : ∀ r cs t, w.heap[r]? = some (.cells cs t (0, 0)) → t ≠ 100 → ¬ F r) (hr : w'.heap[H]? = some (.cells #[.int .u64 o, .slice p l.length c, .map M'] 100 (0, 0))) (hm : mpOf w' M' n' f') : Ho w' H o p c l M' n' f' where
 row := hr
 me := ⟨own_same h.me.own (fun g hg => by
  obtain ⟨cur, e⟩ := own_ty h.me.own hg
  exact hk.obj g (row_lt e) (hF _ _ _ e (by decide))), fun x hx => hk.row (h.me.st x hx) (hF _ _ _ (h.me.st x hx) (by decide))⟩
 nd := h.nd
 up := h.up
 sz := h.sz
 mp := hm
theorem hold_none (m i : Int) (x : Pv) (hx : x.q ≠ 0) (hm : U32 m) (hi : U32 i) {H : Nat} {o : Int} {p : Option Addr} {c : Nat} {l : List (Nat × Sv)} {n : Nat} {w : World} (h : Ho w H o p c l none n (fun _ => none)) :
  Calls Tryz.prog 39 #[pb H, .agg #[.int .u32 m, .int .u32 i], .agg #[.int .i64 x.q, .int .u64 (hiW x.v), .int .u64 (loW x.v)]] w fun e w' => e = .returned (.tuple #[]) ∧ ∃ b, w.heap.size ≤ b ∧ Ho w' H o p c l (some b) 1 (upd (fun _ => none) (m, i) x) ∧ Kp (fun j => j = H) w w' := by
 have EQ := fun W => eqP x.q (hiW x.v) (loW x.v) 0 0 0 W
 have z : (x.q == 0) = false := by simpa using hx
 simp only [z, Bool.false_and] at EQ
 have qT : ∀ (w : World) (r : Option Nat), (binOp .eql 98 (.map r) (.map none)).run Tryz.prog w = .ok (.bool r.isNone) w := fun w r => run_eql_map_nil w _ _ _ r Tryz.underlying98
 obtain ⟨g4, hg4⟩ : ∃ g, w.heap.size = g := ⟨_, rfl⟩
 obtain ⟨Wa, hWa⟩ : ∃ W, w.alloc (.cells #[.int .u32 m, .int .u32 i] 79) = W := ⟨_, rfl⟩
 obtain ⟨g5, hg5⟩ : ∃ g, Wa.heap.size = g := ⟨_, rfl⟩
 obtain ⟨Wb, hWb⟩ : ∃ W, Wa.alloc (.cells #[.int .i64 x.q, .int .u64 (hiW x.v), .int .u64 (loW x.v)] 109) = W := ⟨_, rfl⟩
 obtain ⟨b, hb⟩ : ∃ b, Wb.heap.size = b := ⟨_, rfl⟩
 obtain ⟨Wc, hWc⟩ : ∃ W, Wb.alloc (.map #[] 0) = W := ⟨_, rfl⟩
 obtain ⟨Wd, hWd⟩ : ∃ W, Wc.setCell ⟨H, 2, none⟩ (.map (some b)) = W := ⟨_, rfl⟩
 have ba : Below w.heap.size w Wa := by rw [← hWa]; exact ball _ _
 have bb : Below Wa.heap.size Wa Wb := by rw [← hWb]; exact ball _ _
 have bc : Below Wb.heap.size Wb Wc := by rw [← hWc]; exact ball _ _
 have ra : Wa.heap[g4]? = some (.cells #[.int .u32 m, .int .u32 i] 79 (0, 0)) := by rw [← hWa, ← hg4]; exact World.alloc_heap_new _ _
 have rb : Wb.heap[g5]? = some (.cells #[.int .i64 x.q, .int .u64 (hiW x.v), .int .u64 (loW x.v)] 109 (0, 0)) := by rw [← hWb, ← hg5]; exact World.alloc_heap_new _ _
 have rH := row_on (row_on h.row (btr ba bb)) bc
 have kd : Kp (fun j => j = H) Wc Wd := by rw [← hWd]; exact Kp.set Wc H 2 _
 have RA := hid (kd.row (row_on (row_on ra bb) bc) (row_ne (row_on (row_on ra bb) bc) rH (by decide)))
 have RB := hid (kd.row (row_on rb bc) (row_ne (row_on rb bc) rH (by decide)))
 obtain ⟨k, hk⟩ : ∃ k, l.length = k := ⟨_, rfl⟩
 have HK := hid hk
 rw [hk] at rH
 have RH := hid (show Wd.heap[H]? = some (.cells #[.int .u64 o, .slice p k c, .map (some b)] 100 (0, 0)) from by rw [← hWd]; exact set_row _ rH (by rfl))
 have mb0 : Mp kvP Wc b 0 (fun _ => none) := by rw [← hWc, ← hb]; exact Mp.made kvP Wb
 have nbH : ¬ b = H := fun e => by
  obtain ⟨es, cl, e1⟩ := Mp.obj mb0
  rw [e, rH] at e1
  cases e1
 have MB := hid (mb0.kept kd nbH)
 have KD := hid ((Kp.of (fun j => j = H) (btr (btr ba bb) bc)).trans kd (fun g _ e => e))
 have HB := hid (show w.heap.size ≤ b from by rw [← hb]; exact (btr ba bb).size)
 have HH := hid h
 have HPUT := hid (show ∀ U, Below Wd.heap.size Wd U → ∃ U', (Instr.mapUpdate 98 (.map (some b)) (.agg #[.int .u32 m, .int .u32 i]) (.agg #[.int .i64 x.q, .int .u64 (hiW x.v), .int .u64 (loW x.v)])).run Tryz.prog U = .ok () U' ∧ Kp (fun j => j = b) U U' ∧ Mp kvP U' b 1 (upd (fun _ => none) (m, i) x) from fun U hU => by
  obtain ⟨U', h1, h2, h3⟩ := (MB.out.on hU).put okP (by decide) (m, i) ⟨hm, hi⟩ x
  exact ⟨U', h1, h3, h2⟩)
 have NB := hid (show ∀ cs t U, Below Wd.heap.size Wd U → ¬ U.heap[b]? = some (.cells cs t (0, 0)) from fun cs t U hU e => by
  obtain ⟨es, cl, e1⟩ := Mp.obj (MB.out.on hU)
  rw [e1] at e
  cases e)
 have d0 := row_cell (row_on rb (Below.refl _ _)) 0
 have d1 := row_cell (row_on rb (Below.refl _ _)) 1
 have d2 := row_cell (row_on rb (Below.refl _ _)) 2
 have rH2 := row_on h.row (btr ba bb)
 rw [hk] at rH2
 have k2 := row_cell rH2 2
 have kc := row_cell rH 2
 have fc := row_frz rH 2
 simp only [lqA, lqB, lqC] at d0 d1 d2 k2 kc
 have rm : (Instr.makeMap 98 none).run Tryz.prog Wb = .ok (.map (some b)) Wc := by rw [← hb, ← hWc]; rfl
 have HWD := hid hWd
 clear ba bb bc ra rb h hx hm hi mb0 nbH kd hWc hb hk rH rH2 hWd
 go_enter Tryz.func39, Tryz.ntmps39
 go_upto_region 5 with fail
 rw [HWD.out]
 clear hWa hWb hg4 hg5 d0 d1 d2 k2 kc fc rm EQ qT z HWD
 have BR := hid (Below.refl Wd.heap.size Wd)
 obtain ⟨V1, hV1⟩ : ∃ U, Wd.drew = U := ⟨_, rfl⟩
 have bV1 := hid (show Below Wd.heap.size Wd V1 from by rw [← hV1]; exact bdrew1 _)
 have DV1 := hid (btr BR.out bV1.out)
 have r2 := hid (row_on RH.out bV1.out)
 have r3 := hid (row_on RA.out bV1.out)
 have r4 := hid (row_on RB.out bV1.out)
 refine wp_region_held_drew (S := (fun U => U.cell? ⟨H, 2, none⟩ = some (.map (some b)) ∧ U.cell? ⟨g4, 0, none⟩ = some (.int .u32 m) ∧ U.cell? ⟨g4, 1, none⟩ = some (.int .u32 i) ∧ U.cell? ⟨g5, 0, none⟩ = some (.int .i64 x.q) ∧ U.cell? ⟨g5, 1, none⟩ = some (.int .u64 (hiW x.v)) ∧ U.cell? ⟨g5, 2, none⟩ = some (.int .u64 (loW x.v)))) (by kernel_rfl) ?_ (fun hHeld => ?_)
 ·(try dsimp only); rw [hV1]; exact ⟨row_cell r2.out 2, row_cell r3.out 0, row_cell r3.out 1, row_cell r4.out 0, row_cell r4.out 1, row_cell r4.out 2⟩
 rw [hV1] at hHeld ⊢
 clear hV1
 refine' tkz 0 rfl ?_ ?_
 rotate_left
 ·(intro w hSw; (try dsimp only at hSw); go_simp; try (with_reducible rfl))
 try simp only [lgA, lgB, lgC, Act.put, lsA, lsB, lsC]
 refine' tkz 1 rfl ?_ ?_
 rotate_left
 ·(intro w hSw; (try dsimp only at hSw); go_simp; try (with_reducible rfl))
 try simp only [lgA, lgB, lgC, Act.put, lsA, lsB, lsC]
 refine' tkz 2 rfl ?_ ?_
 rotate_left
 ·(intro w hSw; (try dsimp only at hSw); go_simp; try (with_reducible rfl))
 try simp only [lgA, lgB, lgC, Act.put, lsA, lsB, lsC]
 refine' tkz 3 rfl ?_ ?_
 rotate_left
 ·(intro w hSw; (try dsimp only at hSw); go_simp; try (with_reducible rfl))
 try simp only [lgA, lgB, lgC, Act.put, lsA, lsB, lsC]
 refine' tkz 4 rfl ?_ ?_
 rotate_left
 ·(intro w hSw; (try dsimp only at hSw); go_simp; try (with_reducible rfl))
 try simp only [lgA, lgB, lgC, Act.put, lsA, lsB, lsC]
 refine' tkz 5 rfl ?_ ?_
 rotate_left
 ·(intro w hSw; (try dsimp only at hSw); go_simp; try (with_reducible rfl))
 try simp only [lgA, lgB, lgC, Act.put, lsA, lsB, lsC]
 refine wpAnyH_ready (rs := [6]) (by kernel_rfl) (by simp) ?_
 refine (AllReadyH.cons rfl (fun K hK => ?_) AllReadyH.nil)
 obtain ⟨U5, huU5, hkU5, hφU5⟩ := HPUT.out V1 DV1.out
 have HU := hid hkU5
 have HF := hid hφU5
 clear hkU5 hφU5
 have r6 := hid (HU.out.row r2.out (fun e => by have e1 := r2.out; rw [e] at e1; exact NB.out _ _ _ DV1.out e1))
 have r7 := hid (HU.out.row r3.out (fun e => by have e1 := r3.out; rw [e] at e1; exact NB.out _ _ _ DV1.out e1))
 have r8 := hid (HU.out.row r4.out (fun e => by have e1 := r4.out; rw [e] at e1; exact NB.out _ _ _ DV1.out e1))
 go_simp
 refine hK.out _ _ ?_ (fun hHeld => ?_)
 ·(try dsimp only); exact ⟨row_cell r6.out 2, row_cell r7.out 0, row_cell r7.out 1, row_cell r8.out 0, row_cell r8.out 1, row_cell r8.out 2⟩
 clear hK K
 try simp only [lgA, lgB, lgC, Act.put, lsA, lsB, lsC]
 clear huU5
 refine wpAnyH_done (by kernel_rfl) ?_ _
 go_wp2
 go_end0
 have kf := hid ((KD.out.trans (Kp.of (fun _ => False) DV1.out) (fun g _ e => e.elim)).trans HU.out (C := fun j => j = b) (fun g hg e => by have := HB.out; omega))
 exact ⟨rfl, b, HB.out, HH.out.map kf.out (fun r cs t e ht e2 => by subst e2; have e3 := HH.out.row; rw [e] at e3; injection e3 with e3; injection e3 with _ e3; exact ht e3) (by rw [HK.out]; exact r6.out) HF.out, kf.out⟩
theorem find_yes {H : Nat} {o : Int} {p : Option Addr} {c : Nat} {l : List (Nat × Sv)} {M : Option Nat} {n : Nat} {f : HoP} (w : World) (h : Ho w H o p c l M n f) {y : Nat × Sv} (hy : y ∈ l) {x : Int} (hx : y.2.m = x) :
  Calls Tryz.prog 66 #[pb H, .int .u32 x] w fun e w' => e = .returned (pb y.1) ∧ Below w.heap.size w w' :=
 (find_any x w h).mono fun e w' hh => ⟨by
  rcases hh.1 with ⟨z, hz, e1, e2⟩ | ⟨h1, _⟩
  ·rw [e2, up_one h.up hz hy (e1.trans hx.symm)]
  ·exact absurd hx (h1 y hy), hh.2⟩
theorem refused_no (d : Dl) {H : Nat} {o : Int} {p : Option Addr} {c : Nat} {l : List (Nat × Sv)} {M : Option Nat} {n : Nat} {f : HoP} (w : World) (h : Ho w H o p c l M n f) {y z : Nat × Sv} (hy : y ∈ l) (hz : z ∈ l) (ey : y.2.m = d.buy) (ez : z.2.m = d.sel) (oy : y.2.ou = false) (oz : z.2.ou = false) (ht : terr d = 0) :
  Calls Tryz.prog 34 #[pb H, dv d] w fun e w' => e = .returned (.int .i64 0) ∧ Below w.heap.size w w' := by
 have CT := hid (fun U => badTerms_any d U)
 rw [ht] at CT
 obtain ⟨ii, bu, se, tk, pr, qq⟩ := d
 obtain ⟨W, hW⟩ : ∃ W, w.alloc (.cells #[.int .u32 ii, .int .u32 bu, .int .u32 se, .int .i64 tk, .int .i64 pr, .int .u64 qq] 59) = W := ⟨_, rfl⟩
 obtain ⟨g, hg⟩ : ∃ g, w.heap.size = g := ⟨_, rfl⟩
 have BW := hid (show Below w.heap.size w W from by rw [← hW]; exact ball _ _)
 have RW := hid (show W.heap[g]? = some (.cells #[.int .u32 ii, .int .u32 bu, .int .u32 se, .int .i64 tk, .int .i64 pr, .int .u64 qq] 59 (0, 0)) from by rw [← hW, ← hg]; exact World.alloc_heap_new _ _)
 have CY := hid (fun (U : World) (hU : Below W.heap.size W U) => find_yes U (h.on (btr BW.out hU)) hy ey)
 have CZ := hid (fun (U : World) (hU : Below W.heap.size W U) => find_yes U (h.on (btr BW.out hU)) hz ez)
 have SY := hid (fun (U : World) (hU : Below W.heap.size W U) => row_cell (row_on (h.me.st y hy) (btr BW.out hU)) 5)
 have SZ := hid (fun (U : World) (hU : Below W.heap.size W U) => row_cell (row_on (h.me.st z hz) (btr BW.out hU)) 5)
 simp only [lqA, lqB, lqC, oy, oz] at SY SZ
 obtain ⟨yb, hyb⟩ : ∃ b, y.1 = b := ⟨_, rfl⟩
 obtain ⟨zb, hzb⟩ : ∃ b, z.1 = b := ⟨_, rfl⟩
 rw [hyb] at CY SY
 rw [hzb] at CZ SZ
 unfold dv drow at CT ⊢
 have BR := hid (Below.refl W.heap.size W)
 clear h hy hz ey ez oy oz ht hyb hzb
 go_enter Tryz.func34, Tryz.ntmps34
 go_upto_region 1 with fail
 clear hW hg
 obtain ⟨V9, hV9⟩ : ∃ U, W.drew = U := ⟨_, rfl⟩
 have bV9 := hid (show Below W.heap.size W V9 from by rw [← hV9]; exact bdrew1 _)
 have DV9 := hid (btr BR.out bV9.out)
 have r10 := hid (row_on RW.out bV9.out)
 refine wp_region_held_drew (S := (fun U => U.cell? ⟨g, 1, none⟩ = some (.int .u32 bu) ∧ U.cell? ⟨g, 2, none⟩ = some (.int .u32 se))) (by kernel_rfl) ?_ (fun hHeld => ?_)
 ·(try dsimp only); rw [hV9]; exact ⟨row_cell r10.out 1, row_cell r10.out 2⟩
 rw [hV9] at hHeld ⊢
 clear hV9
 refine' tkz 0 rfl ?_ ?_
 rotate_left
 ·(intro w hSw; (try dsimp only at hSw); go_simp; try (with_reducible rfl))
 try simp only [lgA, lgB, lgC, Act.put, lsA, lsB, lsC]
 refine' tkz 1 rfl ?_ ?_
 rotate_left
 ·(intro w hSw; (try dsimp only at hSw); go_simp; try (with_reducible rfl))
 try simp only [lgA, lgB, lgC, Act.put, lsA, lsB, lsC]
 refine' tkz 2 rfl ?_ ?_
 rotate_left
 ·(intro w hSw; (try dsimp only at hSw); go_simp; try (with_reducible rfl))
 try simp only [lgA, lgB, lgC, Act.put, lsA, lsB, lsC]
 refine' tkz 4 rfl ?_ ?_
 rotate_left
 ·(intro w hSw; (try dsimp only at hSw); go_simp; try (with_reducible rfl))
 try simp only [lgA, lgB, lgC, Act.put, lsA, lsB, lsC]
 refine' tkz 5 rfl ?_ ?_
 rotate_left
 ·(intro w hSw; (try dsimp only at hSw); go_simp; try (with_reducible rfl))
 try simp only [lgA, lgB, lgC, Act.put, lsA, lsB, lsC]
 refine' tkz 6 rfl ?_ ?_
 rotate_left
 ·(intro w hSw; (try dsimp only at hSw); go_simp; try (with_reducible rfl))
 try simp only [lgA, lgB, lgC, Act.put, lsA, lsB, lsC]
 refine wpAnyH_ready (rs := [3]) (by kernel_rfl) (by simp) ?_
 refine (AllReadyH.cons rfl (fun K hK => ?_) AllReadyH.nil)
 go_simp
 go_at_call 66
 with_reducible refine (CY.out V9 DV9.out).mono ?_
 rintro e X11 ⟨rfl, cX11⟩
 have bX11 := hid cX11
 clear cX11
 have DX11 := hid (btr DV9.out bX11.out)
 have r12 := hid (row_on r10.out bX11.out)
 (try go_wp2_with fail)
 refine hK.out _ _ ?_ (fun hHeld => ?_)
 ·(try dsimp only); exact ⟨row_cell r12.out 1, row_cell r12.out 2⟩
 clear hK K
 try simp only [lgA, lgB, lgC, Act.put, lsA, lsB, lsC]
 refine wpAnyH_ready (rs := [7]) (by kernel_rfl) (by simp) ?_
 refine (AllReadyH.cons rfl (fun K hK => ?_) AllReadyH.nil)
 go_simp
 go_at_call 66
 with_reducible refine (CZ.out X11 DX11.out).mono ?_
 rintro e X13 ⟨rfl, cX13⟩
 have bX13 := hid cX13
 clear cX13
 have DX13 := hid (btr DX11.out bX13.out)
 have r14 := hid (row_on r12.out bX13.out)
 (try go_wp2_with fail)
 refine hK.out _ _ ?_ (fun hHeld => ?_)
 ·(try dsimp only); exact ⟨row_cell r14.out 1, row_cell r14.out 2⟩
 clear hK K
 try simp only [lgA, lgB, lgC, Act.put, lsA, lsB, lsC]
 refine' tkz 8 rfl ?_ ?_
 rotate_left
 ·(intro w hSw; (try dsimp only at hSw); go_simp; try (with_reducible rfl))
 try simp only [lgA, lgB, lgC, Act.put, lsA, lsB, lsC]
 refine' tkz 9 rfl ?_ ?_
 rotate_left
 ·(intro w hSw; (try dsimp only at hSw); go_simp; try (with_reducible rfl))
 try simp only [lgA, lgB, lgC, Act.put, lsA, lsB, lsC]
 refine wpAnyH_done (by kernel_rfl) ?_ _
 have B9 := hid DX13.out
 have R9 := hid r14.out
 obtain ⟨w9, h9⟩ : ∃ U, X13 = U := ⟨_, rfl⟩
 rw [h9] at B9 R9 ⊢
 clear h9
 have s1 := SY.out w9 B9.out
 have s2 := SZ.out w9 B9.out
 have e0 := row_cell R9.out 0
 have e1 := row_cell R9.out 1
 have e2 := row_cell R9.out 2
 have e3 := row_cell R9.out 3
 have e4 := row_cell R9.out 4
 have e5 := row_cell R9.out 5
 simp only [lqA, lqB, lqC] at e0 e1 e2 e3 e4 e5
 go_wp2_with (go_at_call 21; with_reducible refine (CT.out _).mono ?_; rintro e wa ⟨rfl, ha⟩; have HA := hid ha; clear ha)
 go_ret
 exact ⟨rfl, btr (btr BW.out B9.out) HA.out⟩
end Go.Proofs.YtlhbgaiiehljpaaGreat.Ac
