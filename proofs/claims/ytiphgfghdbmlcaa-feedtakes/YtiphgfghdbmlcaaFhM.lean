/-
  The document's Recover.
-/
import Derived.Test.YtiphgfghdbmlcaaFhK
import Derived.Test.YtiphgfghdbmlcaaFfD
import Derived.Maps.AppendAt
import Derived.Deep.MidRow
namespace Go.Proofs.Ytiphgfghdbmlcaa
open Go.RowKit Go.Deep Go.Shelf
set_option linter.unusedVariables false
set_option linter.unusedSimpArgs false
set_option maxHeartbeats 8000000
set_option maxRecDepth 100000
attribute [local go_sem ↓] Go.wp_at_zero Go.wp_at_succ
/-- levels that may be read are put behind nothing, in a region that draws its order. -/
theorem step_lv {w : World} {ops : Array Oper} {oo : Oper} {a : Act} {K : Act → World → Prop} {Q : Exit → Act → World → Prop} {E : Prop} (hgd : oo.guard = none) (s x : Operand)
    (ho : oo.op = .call { callee := .builtin .append, args := #[s, x], argTypes := #[28, 28] }) (base : Nat) (v : Value) (hs : a.eval s = v) (h1 : w.ownsRow base 89 3 v 0 (lvc []))
    (q : Option Addr) (c m : Nat) (xs : List Lv) (hx : a.eval x = .slice q m c) (hr : Rl w q c xs) (hl : xs.length = m) (h63 : m ≤ 262144) (hbase : base ≤ w.heap.size)
    (h : ∀ p' c' w', Hid (w'.ownsRow base 89 3 (.slice p' m c') m (lvc xs)) → Hid (w.grownBy w' v.ownBlock) → Hid ((Value.slice p' m c').ownBlock = v.ownBlock ∨ (Value.slice p' m c').ownBlock = some w.heap.size) → K (a.put oo.dst (.slice p' m c')) w') : if Region.wanted oo (yielded ops a.tmps) = true then Oper.wp Try.prog oo a w K Q else E := by
  have hw : Region.wanted oo (yielded ops a.tmps) = true := by simp [Region.wanted, hgd]
  rw [if_pos hw]
  obtain ⟨i0, hi, hz0, hz1, hz2⟩ := info_parts infoL3
  cases q with
  | none =>
    obtain ⟨rfl, rfl⟩ := hr.nil rfl
    simp only [List.length_nil] at hl
    subst hl
    have hrun := run_append_owned_none (P := Try.prog) (w := w) base 28 oo.type 89 i0 3 Try.underlying28 hi v 0 (lvc []) h1
    obtain ⟨p', c', rfl⟩ := own_form h1
    unfold Oper.wp
    simp [Oper.upon, execOp, ho, resolve, invoke, builtin, hs, hx, hrun, Result.andThen]
    exact h p' c' w (hid h1) (hid (grown_refl _ _)) (hid (.inl rfl))
  | some ad =>
    obtain ⟨v', w', hrun, h2, h3, _, h5⟩ := run_append_own_at (P := Try.prog) w base 28 oo.type 89 i0 _ 3 24 Try.underlying28 hi hz0 hz1 hz2 rfl (by decide) v 0 (lvc []) h1 ad m c (lvc xs) (by rw [lvc_len, hl]) (hr.get ad rfl) (lvc_one _) (by unfold maxLen; omega) (by omega) hbase
    rw [Nat.zero_add] at h2
    obtain ⟨p', c', rfl⟩ := own_form h2
    unfold Oper.wp
    simp [Oper.upon, execOp, ho, resolve, invoke, builtin, hs, hx, hrun, Result.andThen]
    exact h p' c' w' (hid h2) (hid h3) (hid h5)
theorem step_store_mid {P : Program} {w : World} {ops : Array Oper} {o : Oper} {a : Act} {K : Act → World → Prop} {Q : Exit → Act → World → Prop} {E : Prop} (hgd : o.guard = none) (ty : TypeId) (x y : Operand) (ho : o.op = .store ty x y) (b j : Nat) (cells : Array Value) (hx : a.eval x = .pointer (some ⟨b, j, none⟩)) (hy : a.eval y = .agg cells) (ht : w.there b j cells.size) (hi : (P.info? ty).map (·.size) = some cells.size) (h1 : cells.all (·.oneCell') = true)
    (h : K (a.put o.dst undef) (w.setCells b j cells.toList)) : if Region.wanted o (yielded ops a.tmps) = true then Oper.wp P o a w K Q else E := by
  have hw : Region.wanted o (yielded ops a.tmps) = true := by simp [Region.wanted, hgd]
  rw [if_pos hw]
  exact wp_store_mid ty x y ho b j cells hx hy ht hi h1 h
theorem infoP3m : (Try.prog.info? 30).map (·.size) = some 3 := by kernel_rfl
theorem ne_e {a b : Nat} (h : a ≠ b) {n c m d : Nat} : ∀ k, (Value.slice (some ⟨a, 0, none⟩) n c).ownBlock = some k → some k ≠ (Value.slice (some ⟨b, 0, none⟩) m d).ownBlock := fun k hk e => by
  have h1 : some a = some k := hk
  have h2 : some k = some b := e
  injection (h1.trans h2) with h3
  exact h h3
theorem ne_p {v u : Value} {a s b : Nat} (hl : v.ownBlock = some a ∨ v.ownBlock = some s) (hu : u.ownBlock = some b) (h1 : a ≠ b) (h2 : s ≠ b) : ∀ k, v.ownBlock = some k → some k ≠ u.ownBlock := fun k hk e => by
  rw [hu] at e
  injection e with e
  rw [hk] at hl
  rcases hl with h | h <;> injection h with h <;> omega
theorem new_ne {base : Nat} {w : World} {v : Value} {n : Nat} {xs : List Value} (h : w.ownsRow base 89 3 v n xs) : ∀ k, v.ownBlock = some k → some k ≠ (Value.slice (some ⟨w.heap.size, 0, none⟩) 0 0).ownBlock := fun k hk e => by
  obtain ⟨cu, hc⟩ := own_ty h hk
  have := row_lt hc
  have e' : some k = some w.heap.size := e
  injection e' with e'
  omega
theorem own_l0 (w : World) : (w.alloc (.cells #[] 89)).ownsRow w.heap.size 89 3 (.slice (some ⟨w.heap.size, 0, none⟩) 0 0) 0 (lvc []) := ⟨rfl, .inr ⟨w.heap.size, 0, #[], rfl, Nat.le_refl _, World.alloc_heap_new _ _, Nat.le_refl _, by unfold maxLen; omega, rfl, rfl⟩⟩
theorem own_grL {base : Nat} {U V : World} {v u : Value} {n : Nat} {xs : List Value} (ho : U.ownsRow base 89 3 v n xs) (hg : U.grownBy V u.ownBlock) (hne : ∀ k, v.ownBlock = some k → some k ≠ u.ownBlock) : V.ownsRow base 89 3 v n xs := own_same ho (fun k hk => hg.block k (by obtain ⟨cu, hcu⟩ := own_ty ho hk; exact row_lt hcu) (hne k hk))
theorem rrec_bad (hold : Nat) (hh : hold ≤ 1024) (sq gr : Int) (l1 l2 : List Lv) (L : List Dm) (la : Dm) (hg : Sg hold ⟨sq, gr, l1, l2, L, la⟩) (ps : Int) (hps : 0 ≤ ps ∧ ps < 18446744073709551616) (b1 b2 : Option Addr) (d1 d2 : Nat) (M1 M2 : List Lv) (p1 p2 p3 : Option Addr) (c1 c2 c3 : Nat) (w : World) (r1 : Rl w b1 d1 M1) (r2 : Rl w b2 d2 M2) (h : Rd w ⟨sq, gr, l1, l2, L, la⟩ p1 c1 p2 c2 p3 c3) (hok : (lok 1 M1 && lok 2 M2) = false) :
    Calls Try.prog 38 #[.agg #[.int .i64 hold, .int .u64 sq, .slice p1 l1.length c1, .slice p2 l2.length c2, .slice p3 L.length c3, .int .u64 gr, .int .u64 la.sq, .int .i64 la.kd, .int .i64 la.sd, .int .i64 la.pr, .int .u64 la.qt, .int .i64 la.ct], .agg #[.int .u64 ps, .slice b1 M1.length d1, .slice b2 M2.length d2]] w fun e w' => ∃ v, e = .returned (.tuple #[v, .int .i64 1]) ∧ Rb w hold ⟨sq, gr, l1, l2, L, la⟩ p1 p2 p3 v w' := by
  obtain ⟨n1, hn1⟩ : ∃ n, l1.length = n := ⟨_, rfl⟩
  obtain ⟨n2, hn2⟩ : ∃ n, l2.length = n := ⟨_, rfl⟩
  obtain ⟨n, hn⟩ : ∃ n, L.length = n := ⟨_, rfl⟩
  obtain ⟨m1, hm1⟩ : ∃ n, M1.length = n := ⟨_, rfl⟩
  obtain ⟨m2, hm2⟩ : ∃ n, M2.length = n := ⟨_, rfl⟩
  rw [hn1, hn2, hn, hm1, hm2]
  obtain ⟨R, hR⟩ : ∃ R, w.heap.size = R := ⟨_, rfl⟩
  obtain ⟨W, hW⟩ : ∃ W, ((w.alloc (.cells #[.int .i64 hold, .int .u64 sq, .slice p1 n1 c1, .slice p2 n2 c2, .slice p3 n c3, .int .u64 gr, .int .u64 la.sq, .int .i64 la.kd, .int .i64 la.sd, .int .i64 la.pr, .int .u64 la.qt, .int .i64 la.ct] 57)).alloc (.cells #[.int .u64 ps, .slice b1 m1 d1, .slice b2 m2 d2] 30)).alloc (.cells #[.int .i64 0, .int .u64 0, .slice none 0 0, .slice none 0 0, .slice none 0 0, .int .u64 0, .int .u64 0, .int .i64 0, .int .i64 0, .int .i64 0, .int .u64 0, .int .i64 0] 57) = W := ⟨_, rfl⟩
  obtain ⟨hb0, x0, x1, x2⟩ := alloc3 hR hW
  have HB := hid hb0
  have HRO := hid x0
  have HDO := hid x1
  have HZO := hid x2
  have HRD := hid h
  have HG := hid hg
  have HW := hid hW
  have HR := hid hR
  have HN := hid hn
  have HN1 := hid hn1
  have HN2 := hid hn2
  have HM1 := hid hm1
  have HM2 := hid hm2
  have CM := hid (can_any ps b1 b2 d1 d2 M1 M2 W (r1.on hb0) (r2.on hb0))
  rw [hok, hm1, hm2] at CM
  have hsq := hg.sq
  dsimp only at hsq
  have hn1024 : n ≤ 1024 := by have := hg.len; dsimp only at this; omega
  have j0 := row_cell HDO.out 0
  have j1 := row_cell HDO.out 1
  have j2 := row_cell HDO.out 2
  clear hb0 x0 x1 x2 h hg hW hR hn hn1 hn2 hok r1 r2 hm1 hm2
  go_enter Try.func38, Try.ntmps38
  go_upto_region 1 with fail
  rw [HW.out, HR.out]
  go_upto_region 2 with (go_at_call 61; with_reducible refine (CM.out).mono ?_; rintro e V1 ⟨rfl, hb⟩; have BV1 := hid hb; have HRO1 := hid (row_on HRO.out hb); have HDO1 := hid (row_on HDO.out hb); have HZ1 := hid (row_on HZO.out hb); clear hb)
  obtain ⟨k0, k1, k2, k3, k4, k5, k6, k7, k8, k9, k10, k11⟩ := row12c HRO1.out
  have AS := hid (show (#[.int .i64 0, .int .u64 0, .slice none 0 0, .slice none 0 0, .slice none 0 0, .int .u64 0, .int .u64 0, .int .i64 0, .int .i64 0, .int .i64 0, .int .u64 0, .int .i64 0] : Array Value).size = (#[.int .i64 hold, .int .u64 sq, .slice p1 n1 c1, .slice p2 n2 c2, .slice p3 n c3, .int .u64 gr, .int .u64 la.sq, .int .i64 la.kd, .int .i64 la.sd, .int .i64 la.pr, .int .u64 la.qt, .int .i64 la.ct] : Array Value).size from rfl)
  have AA := hid (show (#[.int .i64 hold, .int .u64 sq, .slice p1 n1 c1, .slice p2 n2 c2, .slice p3 n c3, .int .u64 gr, .int .u64 la.sq, .int .i64 la.kd, .int .i64 la.sd, .int .i64 la.pr, .int .u64 la.qt, .int .i64 la.ct] : Array Value).all (·.oneCell') = true from by simp [Value.oneCell'])
  have AI := hid (infoRSa (.int .i64 hold) (.int .u64 sq) (.slice p1 n1 c1) (.slice p2 n2 c2) (.slice p3 n c3) (.int .u64 gr) (.int .u64 la.sq) (.int .i64 la.kd) (.int .i64 la.sd) (.int .i64 la.pr) (.int .u64 la.qt) (.int .i64 la.ct))
  go_wp2_with (refine wpList_store_row (by rfl) 57 (.tmp 4) (.tmp 11) (by rfl) (R + 1 + 1) #[.int .i64 hold, .int .u64 sq, .slice p1 n1 c1, .slice p2 n2 c2, .slice p3 n c3, .int .u64 gr, .int .u64 la.sq, .int .i64 la.kd, .int .i64 la.sd, .int .i64 la.pr, .int .u64 la.qt, .int .i64 la.ct] (by rfl) (by rfl) 57 _ HZ1.out AI.out AS.out AA.out ?_)
  refine bodyPost_ret (res_ct (fn := Try.f38) Try.results38 _ _ (R + 1 + 1) 57 #[.int .i64 hold, .int .u64 sq, .slice p1 n1 c1, .slice p2 n2 c2, .slice p3 n c3, .int .u64 gr, .int .u64 la.sq, .int .i64 la.kd, .int .i64 la.sd, .int .i64 la.pr, .int .u64 la.qt, .int .i64 la.ct] (0, 0) _ (.int .i64 1) (by rfl) (by rfl) (setRow_heap _ _ _ _ 57 (0, 0) HZ1.out) Try.underlying57 rfl infoRS) rfl ?_
  have hz : Below w.heap.size w (V1.setRow (R + 1 + 1) #[.int .i64 hold, .int .u64 sq, .slice p1 n1 c1, .slice p2 n2 c2, .slice p3 n c3, .int .u64 gr, .int .u64 la.sq, .int .i64 la.kd, .int .i64 la.sd, .int .i64 la.pr, .int .u64 la.qt, .int .i64 la.ct]) := setRow_below (btr HB.out BV1.out) (by have := HR.out; omega)
  have hd := (HRD.out.on (btr HB.out BV1.out))
  refine ⟨_, rfl, p1, c1, p2, c2, p3, c3, by rw [HN.out, HN1.out, HN2.out], ?_, Fr.refl _ _, Fr.refl _ _, Fr.refl _ _, hz⟩
  exact hd.kept (setRow_kp _ _ _) (fun g hg e => by obtain ⟨cu, hc⟩ := hd.o1.ty hg; exact row_ne hc HZ1.out (by decide) e) (fun g hg e => by obtain ⟨cu, hc⟩ := hd.o2.ty hg; exact row_ne hc HZ1.out (by decide) e) (fun g hg e => by obtain ⟨cu, hc⟩ := hd.o3.ty hg; exact row_ne hc HZ1.out (by decide) e)
theorem rrec_old (hold : Nat) (hh : hold ≤ 1024) (sq gr : Int) (l1 l2 : List Lv) (L : List Dm) (la : Dm) (hg : Sg hold ⟨sq, gr, l1, l2, L, la⟩) (ps : Int) (hps : 0 ≤ ps ∧ ps < 18446744073709551616) (b1 b2 : Option Addr) (d1 d2 : Nat) (M1 M2 : List Lv) (p1 p2 p3 : Option Addr) (c1 c2 c3 : Nat) (w : World) (r1 : Rl w b1 d1 M1) (r2 : Rl w b2 d2 M2) (h : Rd w ⟨sq, gr, l1, l2, L, la⟩ p1 c1 p2 c2 p3 c3) (hok : (lok 1 M1 && lok 2 M2) = true) (hlt : ps < sq) :
    Calls Try.prog 38 #[.agg #[.int .i64 hold, .int .u64 sq, .slice p1 l1.length c1, .slice p2 l2.length c2, .slice p3 L.length c3, .int .u64 gr, .int .u64 la.sq, .int .i64 la.kd, .int .i64 la.sd, .int .i64 la.pr, .int .u64 la.qt, .int .i64 la.ct], .agg #[.int .u64 ps, .slice b1 M1.length d1, .slice b2 M2.length d2]] w fun e w' => ∃ v, e = .returned (.tuple #[v, .int .i64 180]) ∧ Rb w hold ⟨sq, gr, l1, l2, L, la⟩ p1 p2 p3 v w' := by
  obtain ⟨n1, hn1⟩ : ∃ n, l1.length = n := ⟨_, rfl⟩
  obtain ⟨n2, hn2⟩ : ∃ n, l2.length = n := ⟨_, rfl⟩
  obtain ⟨n, hn⟩ : ∃ n, L.length = n := ⟨_, rfl⟩
  obtain ⟨m1, hm1⟩ : ∃ n, M1.length = n := ⟨_, rfl⟩
  obtain ⟨m2, hm2⟩ : ∃ n, M2.length = n := ⟨_, rfl⟩
  rw [hn1, hn2, hn, hm1, hm2]
  obtain ⟨R, hR⟩ : ∃ R, w.heap.size = R := ⟨_, rfl⟩
  obtain ⟨W, hW⟩ : ∃ W, ((w.alloc (.cells #[.int .i64 hold, .int .u64 sq, .slice p1 n1 c1, .slice p2 n2 c2, .slice p3 n c3, .int .u64 gr, .int .u64 la.sq, .int .i64 la.kd, .int .i64 la.sd, .int .i64 la.pr, .int .u64 la.qt, .int .i64 la.ct] 57)).alloc (.cells #[.int .u64 ps, .slice b1 m1 d1, .slice b2 m2 d2] 30)).alloc (.cells #[.int .i64 0, .int .u64 0, .slice none 0 0, .slice none 0 0, .slice none 0 0, .int .u64 0, .int .u64 0, .int .i64 0, .int .i64 0, .int .i64 0, .int .u64 0, .int .i64 0] 57) = W := ⟨_, rfl⟩
  obtain ⟨hb0, x0, x1, x2⟩ := alloc3 hR hW
  have HB := hid hb0
  have HRO := hid x0
  have HDO := hid x1
  have HZO := hid x2
  have HRD := hid h
  have HG := hid hg
  have HW := hid hW
  have HR := hid hR
  have HN := hid hn
  have HN1 := hid hn1
  have HN2 := hid hn2
  have HM1 := hid hm1
  have HM2 := hid hm2
  have CM := hid (can_any ps b1 b2 d1 d2 M1 M2 W (r1.on hb0) (r2.on hb0))
  rw [hok, hm1, hm2] at CM
  have hsq := hg.sq
  dsimp only at hsq
  have hn1024 : n ≤ 1024 := by have := hg.len; dsimp only at this; omega
  have j0 := row_cell HDO.out 0
  have j1 := row_cell HDO.out 1
  have j2 := row_cell HDO.out 2
  clear hb0 x0 x1 x2 h hg hW hR hn hn1 hn2 hok r1 r2 hm1 hm2
  go_enter Try.func38, Try.ntmps38
  go_upto_region 1 with fail
  rw [HW.out, HR.out]
  go_upto_region 3 with (go_at_call 61; with_reducible refine (CM.out).mono ?_; rintro e V1 ⟨rfl, hb⟩; have BV1 := hid hb; have HRO1 := hid (row_on HRO.out hb); have HDO1 := hid (row_on HDO.out hb); have HZ1 := hid (row_on HZO.out hb); clear hb)
  obtain ⟨k0, k1, k2, k3, k4, k5, k6, k7, k8, k9, k10, k11⟩ := row12c HRO1.out
  clear j0 j1 j2
  have j0 := row_cell HDO1.out 0
  have g1 : decide (ps < sq) = true := by simpa using hlt
  go_upto_region 4 with fail
  have AS := hid (show (#[.int .i64 0, .int .u64 0, .slice none 0 0, .slice none 0 0, .slice none 0 0, .int .u64 0, .int .u64 0, .int .i64 0, .int .i64 0, .int .i64 0, .int .u64 0, .int .i64 0] : Array Value).size = (#[.int .i64 hold, .int .u64 sq, .slice p1 n1 c1, .slice p2 n2 c2, .slice p3 n c3, .int .u64 gr, .int .u64 la.sq, .int .i64 la.kd, .int .i64 la.sd, .int .i64 la.pr, .int .u64 la.qt, .int .i64 la.ct] : Array Value).size from rfl)
  have AA := hid (show (#[.int .i64 hold, .int .u64 sq, .slice p1 n1 c1, .slice p2 n2 c2, .slice p3 n c3, .int .u64 gr, .int .u64 la.sq, .int .i64 la.kd, .int .i64 la.sd, .int .i64 la.pr, .int .u64 la.qt, .int .i64 la.ct] : Array Value).all (·.oneCell') = true from by simp [Value.oneCell'])
  have AI := hid (infoRSa (.int .i64 hold) (.int .u64 sq) (.slice p1 n1 c1) (.slice p2 n2 c2) (.slice p3 n c3) (.int .u64 gr) (.int .u64 la.sq) (.int .i64 la.kd) (.int .i64 la.sd) (.int .i64 la.pr) (.int .u64 la.qt) (.int .i64 la.ct))
  go_wp2_with (refine wpList_store_row (by rfl) 57 (.tmp 4) (.tmp 18) (by rfl) (R + 1 + 1) #[.int .i64 hold, .int .u64 sq, .slice p1 n1 c1, .slice p2 n2 c2, .slice p3 n c3, .int .u64 gr, .int .u64 la.sq, .int .i64 la.kd, .int .i64 la.sd, .int .i64 la.pr, .int .u64 la.qt, .int .i64 la.ct] (by rfl) (by rfl) 57 _ HZ1.out AI.out AS.out AA.out ?_)
  refine bodyPost_ret (res_ct (fn := Try.f38) Try.results38 _ _ (R + 1 + 1) 57 #[.int .i64 hold, .int .u64 sq, .slice p1 n1 c1, .slice p2 n2 c2, .slice p3 n c3, .int .u64 gr, .int .u64 la.sq, .int .i64 la.kd, .int .i64 la.sd, .int .i64 la.pr, .int .u64 la.qt, .int .i64 la.ct] (0, 0) _ (.int .i64 180) (by rfl) (by rfl) (setRow_heap _ _ _ _ 57 (0, 0) HZ1.out) Try.underlying57 rfl infoRS) rfl ?_
  have hz : Below w.heap.size w (V1.setRow (R + 1 + 1) #[.int .i64 hold, .int .u64 sq, .slice p1 n1 c1, .slice p2 n2 c2, .slice p3 n c3, .int .u64 gr, .int .u64 la.sq, .int .i64 la.kd, .int .i64 la.sd, .int .i64 la.pr, .int .u64 la.qt, .int .i64 la.ct]) := setRow_below (btr HB.out BV1.out) (by have := HR.out; omega)
  have hd := (HRD.out.on (btr HB.out BV1.out))
  refine ⟨_, rfl, p1, c1, p2, c2, p3, c3, by rw [HN.out, HN1.out, HN2.out], ?_, Fr.refl _ _, Fr.refl _ _, Fr.refl _ _, hz⟩
  exact hd.kept (setRow_kp _ _ _) (fun g hg e => by obtain ⟨cu, hc⟩ := hd.o1.ty hg; exact row_ne hc HZ1.out (by decide) e) (fun g hg e => by obtain ⟨cu, hc⟩ := hd.o2.ty hg; exact row_ne hc HZ1.out (by decide) e) (fun g hg e => by obtain ⟨cu, hc⟩ := hd.o3.ty hg; exact row_ne hc HZ1.out (by decide) e)
theorem rrec_ok (hold : Nat) (hh : hold ≤ 1024) (sq gr : Int) (l1 l2 : List Lv) (L : List Dm) (la : Dm) (hg : Sg hold ⟨sq, gr, l1, l2, L, la⟩) (ps : Int) (hps : 0 ≤ ps ∧ ps < 18446744073709551616) (b1 b2 : Option Addr) (d1 d2 : Nat) (M1 M2 : List Lv) (p1 p2 p3 : Option Addr) (c1 c2 c3 : Nat) (w : World) (r1 : Rl w b1 d1 M1) (r2 : Rl w b2 d2 M2) (h : Rd w ⟨sq, gr, l1, l2, L, la⟩ p1 c1 p2 c2 p3 c3) (hok : (lok 1 M1 && lok 2 M2) = true) (hge : ¬ ps < sq) :
    Calls Try.prog 38 #[.agg #[.int .i64 hold, .int .u64 sq, .slice p1 l1.length c1, .slice p2 l2.length c2, .slice p3 L.length c3, .int .u64 gr, .int .u64 la.sq, .int .i64 la.kd, .int .i64 la.sd, .int .i64 la.pr, .int .u64 la.qt, .int .i64 la.ct], .agg #[.int .u64 ps, .slice b1 M1.length d1, .slice b2 M2.length d2]] w fun e w' => ∃ v, e = .returned (.tuple #[v, .int .i64 0]) ∧ Rb w hold (goS ⟨ps, gr, M1, M2, L.filter (fun d => decide (ps < d.sq)), la⟩) p1 p2 p3 v w' := by
  obtain ⟨n1, hn1⟩ : ∃ n, l1.length = n := ⟨_, rfl⟩
  obtain ⟨n2, hn2⟩ : ∃ n, l2.length = n := ⟨_, rfl⟩
  obtain ⟨n, hn⟩ : ∃ n, L.length = n := ⟨_, rfl⟩
  obtain ⟨m1, hm1⟩ : ∃ n, M1.length = n := ⟨_, rfl⟩
  obtain ⟨m2, hm2⟩ : ∃ n, M2.length = n := ⟨_, rfl⟩
  rw [hn1, hn2, hn, hm1, hm2]
  obtain ⟨R, hR⟩ : ∃ R, w.heap.size = R := ⟨_, rfl⟩
  obtain ⟨W, hW⟩ : ∃ W, ((w.alloc (.cells #[.int .i64 hold, .int .u64 sq, .slice p1 n1 c1, .slice p2 n2 c2, .slice p3 n c3, .int .u64 gr, .int .u64 la.sq, .int .i64 la.kd, .int .i64 la.sd, .int .i64 la.pr, .int .u64 la.qt, .int .i64 la.ct] 57)).alloc (.cells #[.int .u64 ps, .slice b1 m1 d1, .slice b2 m2 d2] 30)).alloc (.cells #[.int .i64 0, .int .u64 0, .slice none 0 0, .slice none 0 0, .slice none 0 0, .int .u64 0, .int .u64 0, .int .i64 0, .int .i64 0, .int .i64 0, .int .u64 0, .int .i64 0] 57) = W := ⟨_, rfl⟩
  obtain ⟨hb0, x0, x1, x2⟩ := alloc3 hR hW
  have HB := hid hb0
  have HRO := hid x0
  have HDO := hid x1
  have HZO := hid x2
  have HRD := hid h
  have HG := hid hg
  have HW := hid hW
  have HR := hid hR
  have HN := hid hn
  have HN1 := hid hn1
  have HN2 := hid hn2
  have HM1 := hid hm1
  have HM2 := hid hm2
  have CM := hid (can_any ps b1 b2 d1 d2 M1 M2 W (r1.on hb0) (r2.on hb0))
  rw [hok, hm1, hm2] at CM
  have hsq := hg.sq
  dsimp only at hsq
  have hn1024 : n ≤ 1024 := by have := hg.len; dsimp only at this; omega
  have hok2 := hok
  rw [Bool.and_eq_true] at hok2
  have hb1 : m1 ≤ 262144 := by rw [← hm1]; exact ((lok_iff _ _).1 hok2.1).len
  have hb2 : m2 ≤ 262144 := by rw [← hm2]; exact ((lok_iff _ _).1 hok2.2).len
  have HPG := hid (hg.pic hps hok2.1 hok2.2)
  dsimp only at HPG
  have HR1 := hid r1
  have HR2 := hid r2
  clear hok2
  have j0 := row_cell HDO.out 0
  have j1 := row_cell HDO.out 1
  have j2 := row_cell HDO.out 2
  clear hb0 x0 x1 x2 h hg hW hR hn hn1 hn2 hok r1 r2 hm1 hm2
  go_enter Try.func38, Try.ntmps38
  go_upto_region 1 with fail
  rw [HW.out, HR.out]
  go_upto_region 3 with (go_at_call 61; with_reducible refine (CM.out).mono ?_; rintro e V1 ⟨rfl, hb⟩; have BV1 := hid hb; have HRO1 := hid (row_on HRO.out hb); have HDO1 := hid (row_on HDO.out hb); have HZ1 := hid (row_on HZO.out hb); clear hb)
  obtain ⟨k0, k1, k2, k3, k4, k5, k6, k7, k8, k9, k10, k11⟩ := row12c HRO1.out
  clear j0 j1 j2
  have j0 := row_cell HDO1.out 0
  have j1 := row_cell HDO1.out 1
  have j2 := row_cell HDO1.out 2
  have g1 : decide (ps < sq) = false := by simpa using hge
  go_upto_region 5 with fail
  clear k0 k4 k5 k6 k7 k8 k9 k10 k11
  have BW1 := hid (btr HB.out BV1.out)
  have HRX := hid (show ∀ U, Below V1.heap.size V1 U → Rl U b1 d1 M1 ∧ Rl U b2 d2 M2 from fun U hU => ⟨HR1.out.on (btr BW1.out hU), HR2.out.on (btr BW1.out hU)⟩)
  have sR : R < V1.heap.size := row_lt HRO1.out
  have sR1 : R + 1 < V1.heap.size := row_lt HDO1.out
  have F1 := row_frz HRO1.out 1
  have F2 := row_frz HRO1.out 2
  have F3 := row_frz HRO1.out 3
  refine reg_cut (X := Nat × Nat × Option Addr × Nat × Option Addr × Nat) (fun a t => ((((((((((((a.put (some 19) (.pointer (some ⟨R + 1, 0, none⟩))).put (some 20) (.int .u64 ps)).put (some 21) (.slice (some ⟨t.1, 0, none⟩) 0 0)).put (some 22) (.pointer (some ⟨R + 1, 1, none⟩))).put (some 23) (.slice b1 m1 d1)).put (some 24) (.slice t.2.2.1 m1 t.2.2.2.1)).put (some 25) (.slice (some ⟨t.2.1, 0, none⟩) 0 0)).put (some 26) (.pointer (some ⟨R + 1, 2, none⟩))).put (some 27) (.slice b2 m2 d2)).put (some 28) (.slice t.2.2.2.2.1 m2 t.2.2.2.2.2)).put (some 29) (.agg #[.int .u64 ps, .slice t.2.2.1 m1 t.2.2.2.1, .slice t.2.2.2.2.1 m2 t.2.2.2.2.2])).put (some 30) (.pointer (some ⟨R, 1, none⟩)))) (fun t V => Hid (∃ wb : World, Kp (fun j => j = R) wb V ∧ Below V1.heap.size V1 wb ∧ wb.ownsRow V1.heap.size 89 3 (.slice t.2.2.1 m1 t.2.2.2.1) m1 (lvc M1) ∧ wb.ownsRow V1.heap.size 89 3 (.slice t.2.2.2.2.1 m2 t.2.2.2.2.2) m2 (lvc M2) ∧ V.heap[R]? = some (.cells #[.int .i64 hold, .int .u64 ps, .slice t.2.2.1 m1 t.2.2.2.1, .slice t.2.2.2.2.1 m2 t.2.2.2.2.2, .slice p3 n c3, .int .u64 gr, .int .u64 la.sq, .int .i64 la.kd, .int .i64 la.sd, .int .i64 la.pr, .int .u64 la.qt, .int .i64 la.ct] 57 (0, 0)))) ?_ ?_
  · obtain ⟨V0, hV0⟩ : ∃ U, V1.drew = U := ⟨_, rfl⟩
    have D0 := hid (show Below V1.heap.size V1 V0 from by rw [← hV0]; exact bdrew1 _)
    have r0 := hid (row_on HDO1.out D0.out)
    refine wp_region_held_drew (S := (fun U => U.cell? ⟨R + 1, 0, none⟩ = some (.int .u64 ps) ∧ U.cell? ⟨R + 1, 1, none⟩ = some (.slice b1 m1 d1) ∧ U.cell? ⟨R + 1, 2, none⟩ = some (.slice b2 m2 d2))) (by kernel_rfl) ?_ (fun hHeld => ?_)
    · (try dsimp only); rw [hV0]; exact ⟨row_cell r0.out 0, row_cell r0.out 1, row_cell r0.out 2⟩
    rw [hV0] at hHeld ⊢
    clear hV0 j0 j1 j2 k1 k2 k3 F1 F2 F3 sR sR1 g1
    refine' wpAnyH_take (i := 0) (oi := _) (v := _) rfl (by kernel_rfl) (by kernel_rfl) (by kernel_rfl) (fun _ _ _ h => h) (Or.inl ⟨by kernel_rfl, ?_⟩) (by assumption) ?_
    rotate_left
    · (intro w hSw; (try dsimp only at hSw); go_simp; try (with_reducible rfl))
    try simp only [List.getElem_toArray, List.getElem_cons_succ, List.getElem_cons_zero, Act.put, List.setIfInBounds_toArray, List.set_cons_zero, List.set_cons_succ]
    refine' wpAnyH_take (i := 1) (oi := _) (v := _) rfl (by kernel_rfl) (by kernel_rfl) (by kernel_rfl) (fun _ _ _ h => h) (Or.inl ⟨by kernel_rfl, ?_⟩) (by assumption) ?_
    rotate_left
    · (intro w hSw; (try dsimp only at hSw); go_simp; try (with_reducible rfl))
    try simp only [List.getElem_toArray, List.getElem_cons_succ, List.getElem_cons_zero, Act.put, List.setIfInBounds_toArray, List.set_cons_zero, List.set_cons_succ]
    refine' wpAnyH_take (i := 3) (oi := _) (v := _) rfl (by kernel_rfl) (by kernel_rfl) (by kernel_rfl) (fun _ _ _ h => h) (Or.inl ⟨by kernel_rfl, ?_⟩) (by assumption) ?_
    rotate_left
    · (intro w hSw; (try dsimp only at hSw); go_simp; try (with_reducible rfl))
    try simp only [List.getElem_toArray, List.getElem_cons_succ, List.getElem_cons_zero, Act.put, List.setIfInBounds_toArray, List.set_cons_zero, List.set_cons_succ]
    refine' wpAnyH_take (i := 4) (oi := _) (v := _) rfl (by kernel_rfl) (by kernel_rfl) (by kernel_rfl) (fun _ _ _ h => h) (Or.inl ⟨by kernel_rfl, ?_⟩) (by assumption) ?_
    rotate_left
    · (intro w hSw; (try dsimp only at hSw); go_simp; try (with_reducible rfl))
    try simp only [List.getElem_toArray, List.getElem_cons_succ, List.getElem_cons_zero, Act.put, List.setIfInBounds_toArray, List.set_cons_zero, List.set_cons_succ]
    refine' wpAnyH_take (i := 7) (oi := _) (v := _) rfl (by kernel_rfl) (by kernel_rfl) (by kernel_rfl) (fun _ _ _ h => h) (Or.inl ⟨by kernel_rfl, ?_⟩) (by assumption) ?_
    rotate_left
    · (intro w hSw; (try dsimp only at hSw); go_simp; try (with_reducible rfl))
    try simp only [List.getElem_toArray, List.getElem_cons_succ, List.getElem_cons_zero, Act.put, List.setIfInBounds_toArray, List.set_cons_zero, List.set_cons_succ]
    refine' wpAnyH_take (i := 8) (oi := _) (v := _) rfl (by kernel_rfl) (by kernel_rfl) (by kernel_rfl) (fun _ _ _ h => h) (Or.inl ⟨by kernel_rfl, ?_⟩) (by assumption) ?_
    rotate_left
    · (intro w hSw; (try dsimp only at hSw); go_simp; try (with_reducible rfl))
    try simp only [List.getElem_toArray, List.getElem_cons_succ, List.getElem_cons_zero, Act.put, List.setIfInBounds_toArray, List.set_cons_zero, List.set_cons_succ]
    refine wpAnyH_ready (rs := [2, 6]) (by kernel_rfl) (by simp) ?_
    refine (AllReadyH.cons (o := _) rfl (fun K hK => ?_) (AllReadyH.cons (o := _) rfl (fun K hK => ?_) AllReadyH.nil))
    · go_simp
      obtain ⟨X1, hX1⟩ : ∃ X, V0.alloc (.cells #[] 89) = X := ⟨_, rfl⟩
      have bX1 : Below V0.heap.size V0 X1 := by rw [← hX1]; exact ball _ _
      have DX1 := hid (btr D0.out bX1)
      have eX1 := hid (show X1.ownsRow V1.heap.size 89 3 (.slice (some ⟨V0.heap.size, 0, none⟩) 0 0) 0 (lvc []) from by rw [← hX1]; exact own_base (own_l0 V0) D0.out.size)
      obtain ⟨g1, hg1⟩ : ∃ g, V0.heap.size = g := ⟨_, rfl⟩
      rw [hg1] at eX1
      rw [hX1, hg1]
      have sX1 : g1 < X1.heap.size := by obtain ⟨cu, hc⟩ := own_ty eX1.out rfl; exact row_lt hc
      clear hX1 hg1
      have r2 := hid (row_on HDO1.out DX1.out)
      refine hK.out _ _ ?_ (fun hHeld => ?_)
      · (try dsimp only); exact ⟨row_cell r2.out 0, row_cell r2.out 1, row_cell r2.out 2⟩
      clear hK K
      try simp only [List.getElem_toArray, List.getElem_cons_succ, List.getElem_cons_zero, Act.put, List.setIfInBounds_toArray, List.set_cons_zero, List.set_cons_succ]
      refine wpAnyH_ready (rs := [5, 6]) (by kernel_rfl) (by simp) ?_
      refine (AllReadyH.cons (o := _) rfl (fun K hK => ?_) (AllReadyH.cons (o := _) rfl (fun K hK => ?_) AllReadyH.nil))
      · refine step_lv (by rfl) (.tmp 21) (.tmp 23) (by rfl) V1.heap.size _ (by rfl) eX1.out b1 d1 m1 M1 (by rfl) (HRX.out _ DX1.out).1 HM1.out hb1 DX1.out.size ?_
        intro P1 C1 Y3 G1 GA1 GL1
        have DY3 := hid (below_grown (base := 0) DX1.out eX1.out GA1.out)
        have r4 := hid (row_on HDO1.out DY3.out)
        refine hK.out _ _ ?_ (fun hHeld => ?_)
        · (try dsimp only); exact ⟨row_cell r4.out 0, row_cell r4.out 1, row_cell r4.out 2⟩
        clear hK K
        try simp only [List.getElem_toArray, List.getElem_cons_succ, List.getElem_cons_zero, Act.put, List.setIfInBounds_toArray, List.set_cons_zero, List.set_cons_succ]
        refine wpAnyH_ready (rs := [6]) (by kernel_rfl) (by simp) ?_
        refine (AllReadyH.cons (o := _) rfl (fun K hK => ?_) AllReadyH.nil)
        go_simp
        obtain ⟨X5, hX5⟩ : ∃ X, Y3.alloc (.cells #[] 89) = X := ⟨_, rfl⟩
        have bX5 : Below Y3.heap.size Y3 X5 := by rw [← hX5]; exact ball _ _
        have DX5 := hid (btr DY3.out bX5)
        have eX5 := hid (show X5.ownsRow V1.heap.size 89 3 (.slice (some ⟨Y3.heap.size, 0, none⟩) 0 0) 0 (lvc []) from by rw [← hX5]; exact own_base (own_l0 Y3) DY3.out.size)
        have n6 := hid (new_ne G1.out)
        have q7 := hid (own_on G1.out bX5)
        obtain ⟨g2, hg2⟩ : ∃ g, Y3.heap.size = g := ⟨_, rfl⟩
        rw [hg2] at eX5
        rw [hg2] at n6
        rw [hX5, hg2]
        have sX5 : g2 < X5.heap.size := by obtain ⟨cu, hc⟩ := own_ty eX5.out rfl; exact row_lt hc
        clear hX5 hg2
        have r8 := hid (row_on HDO1.out DX5.out)
        refine hK.out _ _ ?_ (fun hHeld => ?_)
        · (try dsimp only); exact ⟨row_cell r8.out 0, row_cell r8.out 1, row_cell r8.out 2⟩
        clear hK K
        try simp only [List.getElem_toArray, List.getElem_cons_succ, List.getElem_cons_zero, Act.put, List.setIfInBounds_toArray, List.set_cons_zero, List.set_cons_succ]
        refine wpAnyH_ready (rs := [9]) (by kernel_rfl) (by simp) ?_
        refine (AllReadyH.cons (o := _) rfl (fun K hK => ?_) AllReadyH.nil)
        refine step_lv (by rfl) (.tmp 25) (.tmp 27) (by rfl) V1.heap.size _ (by rfl) eX5.out b2 d2 m2 M2 (by rfl) (HRX.out _ DX5.out).2 HM2.out hb2 DX5.out.size ?_
        intro P2 C2 Y9 G2 GA2 GL2
        have DY9 := hid (below_grown (base := 0) DX5.out eX5.out GA2.out)
        have o10 := hid (own_grL q7.out GA2.out n6.out)
        have r11 := hid (row_on HDO1.out DY9.out)
        refine hK.out _ _ ?_ (fun hHeld => ?_)
        · (try dsimp only); exact ⟨row_cell r11.out 0, row_cell r11.out 1, row_cell r11.out 2⟩
        clear hK K
        try simp only [List.getElem_toArray, List.getElem_cons_succ, List.getElem_cons_zero, Act.put, List.setIfInBounds_toArray, List.set_cons_zero, List.set_cons_succ]
        refine' wpAnyH_take (i := 10) (oi := _) (v := _) rfl (by kernel_rfl) (by kernel_rfl) (by kernel_rfl) (fun _ _ _ h => h) (Or.inl ⟨by kernel_rfl, ?_⟩) (by assumption) ?_
        rotate_left
        · (intro w hSw; (try dsimp only at hSw); go_simp; try (with_reducible rfl))
        try simp only [List.getElem_toArray, List.getElem_cons_succ, List.getElem_cons_zero, Act.put, List.setIfInBounds_toArray, List.set_cons_zero, List.set_cons_succ]
        refine' wpAnyH_take (i := 11) (oi := _) (v := _) rfl (by kernel_rfl) (by kernel_rfl) (by kernel_rfl) (fun _ _ _ h => h) (Or.inl ⟨by kernel_rfl, ?_⟩) (by assumption) ?_
        rotate_left
        · (intro w hSw; (try dsimp only at hSw); go_simp; try (with_reducible rfl))
        try simp only [List.getElem_toArray, List.getElem_cons_succ, List.getElem_cons_zero, Act.put, List.setIfInBounds_toArray, List.set_cons_zero, List.set_cons_succ]
        refine wpAnyH_ready (rs := [12]) (by kernel_rfl) (by simp) ?_
        refine (AllReadyH.cons (o := _) rfl (fun K hK => ?_) AllReadyH.nil)
        have TH := hid (row_there (row_on HRO1.out DY9.out) 1 3 (by simp))
        refine step_store_mid (by rfl) 30 (.tmp 30) (.tmp 29) (by rfl) R 1 #[.int .u64 ps, .slice P1 m1 C1, .slice P2 m2 C2] (by rfl) (by rfl) TH.out infoP3m (by simp [Value.oneCell']) ?_
        obtain ⟨Z, hZ⟩ : ∃ Z, Y9.setCells R 1 #[.int .u64 ps, .slice P1 m1 C1, .slice P2 m2 C2].toList = Z := ⟨_, rfl⟩
        have hZ' : ((Y9.setCell ⟨R, 1, none⟩ (.int .u64 ps)).setCell ⟨R, 2, none⟩ (.slice P1 m1 C1)).setCell ⟨R, 3, none⟩ (.slice P2 m2 C2) = Z := hZ
        have HR5 := hid (show Z.heap[R]? = some (.cells #[.int .i64 hold, .int .u64 ps, .slice P1 m1 C1, .slice P2 m2 C2, .slice p3 n c3, .int .u64 gr, .int .u64 la.sq, .int .i64 la.kd, .int .i64 la.sd, .int .i64 la.pr, .int .u64 la.qt, .int .i64 la.ct] 57 (0, 0)) from by rw [← hZ']; exact set_row _ (set_row _ (set_row _ (row_on HRO1.out DY9.out))))
        have K5 := hid (show Kp (fun j => j = R) Y9 Z from by rw [← hZ']; exact ((Kp.set _ _ _ _).trans (Kp.set _ _ _ _) (fun _ _ h => h)).trans (Kp.set _ _ _ _) (fun _ _ h => h))
        have rZ := hid (K5.out.row r11.out (fun e => by have e' : R + 1 = R := e; omega))
        rw [hZ]
        clear hZ hZ'
        refine hK.out _ _ ?_ (fun hHeld => ?_)
        · (try dsimp only); exact ⟨row_cell rZ.out 0, row_cell rZ.out 1, row_cell rZ.out 2⟩
        clear hK K
        try simp only [List.getElem_toArray, List.getElem_cons_succ, List.getElem_cons_zero, Act.put, List.setIfInBounds_toArray, List.set_cons_zero, List.set_cons_succ]
        refine wpAnyH_done (by kernel_rfl) ?_ _
        exact ⟨(g1, g2, P1, C1, P2, C2), by kernel_rfl, Y9, K5.out, DY9.out, o10.out, G2.out, HR5.out⟩
      · go_simp
        obtain ⟨X12, hX12⟩ : ∃ X, X1.alloc (.cells #[] 89) = X := ⟨_, rfl⟩
        have bX12 : Below X1.heap.size X1 X12 := by rw [← hX12]; exact ball _ _
        have DX12 := hid (btr DX1.out bX12)
        have eX12 := hid (show X12.ownsRow V1.heap.size 89 3 (.slice (some ⟨X1.heap.size, 0, none⟩) 0 0) 0 (lvc []) from by rw [← hX12]; exact own_base (own_l0 X1) DX1.out.size)
        have lX12 : g1 < X1.heap.size := by obtain ⟨cu, hc⟩ := own_ty eX1.out rfl; exact row_lt hc
        have o13 := hid (own_on eX1.out bX12)
        obtain ⟨g2, hg2⟩ : ∃ g, X1.heap.size = g := ⟨_, rfl⟩
        have ne12 : g1 ≠ g2 := by omega
        rw [hg2] at eX12
        rw [hX12, hg2]
        have sX12 : g2 < X12.heap.size := by obtain ⟨cu, hc⟩ := own_ty eX12.out rfl; exact row_lt hc
        clear hX12 hg2
        have r14 := hid (row_on HDO1.out DX12.out)
        refine hK.out _ _ ?_ (fun hHeld => ?_)
        · (try dsimp only); exact ⟨row_cell r14.out 0, row_cell r14.out 1, row_cell r14.out 2⟩
        clear hK K
        try simp only [List.getElem_toArray, List.getElem_cons_succ, List.getElem_cons_zero, Act.put, List.setIfInBounds_toArray, List.set_cons_zero, List.set_cons_succ]
        refine wpAnyH_ready (rs := [5]) (by kernel_rfl) (by simp) ?_
        refine (AllReadyH.cons (o := _) rfl (fun K hK => ?_) AllReadyH.nil)
        refine step_lv (by rfl) (.tmp 21) (.tmp 23) (by rfl) V1.heap.size _ (by rfl) o13.out b1 d1 m1 M1 (by rfl) (HRX.out _ DX12.out).1 HM1.out hb1 DX12.out.size ?_
        intro P1 C1 Y15 G1 GA1 GL1
        have DY15 := hid (below_grown (base := 0) DX12.out o13.out GA1.out)
        have o16 := hid (own_grL eX12.out GA1.out (ne_e ne12.symm))
        have szW : g2 < X12.heap.size := by obtain ⟨cu, hc⟩ := own_ty eX12.out rfl; exact row_lt hc
        have n17 := hid (ne_p (u := .slice (some ⟨g2, 0, none⟩) 0 0) (b := g2) GL1.out rfl ne12 (by omega))
        have r18 := hid (row_on HDO1.out DY15.out)
        refine hK.out _ _ ?_ (fun hHeld => ?_)
        · (try dsimp only); exact ⟨row_cell r18.out 0, row_cell r18.out 1, row_cell r18.out 2⟩
        clear hK K
        try simp only [List.getElem_toArray, List.getElem_cons_succ, List.getElem_cons_zero, Act.put, List.setIfInBounds_toArray, List.set_cons_zero, List.set_cons_succ]
        refine wpAnyH_ready (rs := [9]) (by kernel_rfl) (by simp) ?_
        refine (AllReadyH.cons (o := _) rfl (fun K hK => ?_) AllReadyH.nil)
        refine step_lv (by rfl) (.tmp 25) (.tmp 27) (by rfl) V1.heap.size _ (by rfl) o16.out b2 d2 m2 M2 (by rfl) (HRX.out _ DY15.out).2 HM2.out hb2 DY15.out.size ?_
        intro P2 C2 Y19 G2 GA2 GL2
        have DY19 := hid (below_grown (base := 0) DY15.out o16.out GA2.out)
        have o20 := hid (own_grL G1.out GA2.out n17.out)
        have r21 := hid (row_on HDO1.out DY19.out)
        refine hK.out _ _ ?_ (fun hHeld => ?_)
        · (try dsimp only); exact ⟨row_cell r21.out 0, row_cell r21.out 1, row_cell r21.out 2⟩
        clear hK K
        try simp only [List.getElem_toArray, List.getElem_cons_succ, List.getElem_cons_zero, Act.put, List.setIfInBounds_toArray, List.set_cons_zero, List.set_cons_succ]
        refine' wpAnyH_take (i := 10) (oi := _) (v := _) rfl (by kernel_rfl) (by kernel_rfl) (by kernel_rfl) (fun _ _ _ h => h) (Or.inl ⟨by kernel_rfl, ?_⟩) (by assumption) ?_
        rotate_left
        · (intro w hSw; (try dsimp only at hSw); go_simp; try (with_reducible rfl))
        try simp only [List.getElem_toArray, List.getElem_cons_succ, List.getElem_cons_zero, Act.put, List.setIfInBounds_toArray, List.set_cons_zero, List.set_cons_succ]
        refine' wpAnyH_take (i := 11) (oi := _) (v := _) rfl (by kernel_rfl) (by kernel_rfl) (by kernel_rfl) (fun _ _ _ h => h) (Or.inl ⟨by kernel_rfl, ?_⟩) (by assumption) ?_
        rotate_left
        · (intro w hSw; (try dsimp only at hSw); go_simp; try (with_reducible rfl))
        try simp only [List.getElem_toArray, List.getElem_cons_succ, List.getElem_cons_zero, Act.put, List.setIfInBounds_toArray, List.set_cons_zero, List.set_cons_succ]
        refine wpAnyH_ready (rs := [12]) (by kernel_rfl) (by simp) ?_
        refine (AllReadyH.cons (o := _) rfl (fun K hK => ?_) AllReadyH.nil)
        have TH := hid (row_there (row_on HRO1.out DY19.out) 1 3 (by simp))
        refine step_store_mid (by rfl) 30 (.tmp 30) (.tmp 29) (by rfl) R 1 #[.int .u64 ps, .slice P1 m1 C1, .slice P2 m2 C2] (by rfl) (by rfl) TH.out infoP3m (by simp [Value.oneCell']) ?_
        obtain ⟨Z, hZ⟩ : ∃ Z, Y19.setCells R 1 #[.int .u64 ps, .slice P1 m1 C1, .slice P2 m2 C2].toList = Z := ⟨_, rfl⟩
        have hZ' : ((Y19.setCell ⟨R, 1, none⟩ (.int .u64 ps)).setCell ⟨R, 2, none⟩ (.slice P1 m1 C1)).setCell ⟨R, 3, none⟩ (.slice P2 m2 C2) = Z := hZ
        have HR5 := hid (show Z.heap[R]? = some (.cells #[.int .i64 hold, .int .u64 ps, .slice P1 m1 C1, .slice P2 m2 C2, .slice p3 n c3, .int .u64 gr, .int .u64 la.sq, .int .i64 la.kd, .int .i64 la.sd, .int .i64 la.pr, .int .u64 la.qt, .int .i64 la.ct] 57 (0, 0)) from by rw [← hZ']; exact set_row _ (set_row _ (set_row _ (row_on HRO1.out DY19.out))))
        have K5 := hid (show Kp (fun j => j = R) Y19 Z from by rw [← hZ']; exact ((Kp.set _ _ _ _).trans (Kp.set _ _ _ _) (fun _ _ h => h)).trans (Kp.set _ _ _ _) (fun _ _ h => h))
        have rZ := hid (K5.out.row r21.out (fun e => by have e' : R + 1 = R := e; omega))
        rw [hZ]
        clear hZ hZ'
        refine hK.out _ _ ?_ (fun hHeld => ?_)
        · (try dsimp only); exact ⟨row_cell rZ.out 0, row_cell rZ.out 1, row_cell rZ.out 2⟩
        clear hK K
        try simp only [List.getElem_toArray, List.getElem_cons_succ, List.getElem_cons_zero, Act.put, List.setIfInBounds_toArray, List.set_cons_zero, List.set_cons_succ]
        refine wpAnyH_done (by kernel_rfl) ?_ _
        exact ⟨(g1, g2, P1, C1, P2, C2), by kernel_rfl, Y19, K5.out, DY19.out, o20.out, G2.out, HR5.out⟩
    · go_simp
      obtain ⟨X22, hX22⟩ : ∃ X, V0.alloc (.cells #[] 89) = X := ⟨_, rfl⟩
      have bX22 : Below V0.heap.size V0 X22 := by rw [← hX22]; exact ball _ _
      have DX22 := hid (btr D0.out bX22)
      have eX22 := hid (show X22.ownsRow V1.heap.size 89 3 (.slice (some ⟨V0.heap.size, 0, none⟩) 0 0) 0 (lvc []) from by rw [← hX22]; exact own_base (own_l0 V0) D0.out.size)
      obtain ⟨g2, hg2⟩ : ∃ g, V0.heap.size = g := ⟨_, rfl⟩
      rw [hg2] at eX22
      rw [hX22, hg2]
      have sX22 : g2 < X22.heap.size := by obtain ⟨cu, hc⟩ := own_ty eX22.out rfl; exact row_lt hc
      clear hX22 hg2
      have r23 := hid (row_on HDO1.out DX22.out)
      refine hK.out _ _ ?_ (fun hHeld => ?_)
      · (try dsimp only); exact ⟨row_cell r23.out 0, row_cell r23.out 1, row_cell r23.out 2⟩
      clear hK K
      try simp only [List.getElem_toArray, List.getElem_cons_succ, List.getElem_cons_zero, Act.put, List.setIfInBounds_toArray, List.set_cons_zero, List.set_cons_succ]
      refine wpAnyH_ready (rs := [2]) (by kernel_rfl) (by simp) ?_
      refine (AllReadyH.cons (o := _) rfl (fun K hK => ?_) AllReadyH.nil)
      go_simp
      obtain ⟨X24, hX24⟩ : ∃ X, X22.alloc (.cells #[] 89) = X := ⟨_, rfl⟩
      have bX24 : Below X22.heap.size X22 X24 := by rw [← hX24]; exact ball _ _
      have DX24 := hid (btr DX22.out bX24)
      have eX24 := hid (show X24.ownsRow V1.heap.size 89 3 (.slice (some ⟨X22.heap.size, 0, none⟩) 0 0) 0 (lvc []) from by rw [← hX24]; exact own_base (own_l0 X22) DX22.out.size)
      have lX24 : g2 < X22.heap.size := by obtain ⟨cu, hc⟩ := own_ty eX22.out rfl; exact row_lt hc
      have o25 := hid (own_on eX22.out bX24)
      obtain ⟨g1, hg1⟩ : ∃ g, X22.heap.size = g := ⟨_, rfl⟩
      have ne12 : g1 ≠ g2 := by omega
      rw [hg1] at eX24
      rw [hX24, hg1]
      have sX24 : g1 < X24.heap.size := by obtain ⟨cu, hc⟩ := own_ty eX24.out rfl; exact row_lt hc
      clear hX24 hg1
      have r26 := hid (row_on HDO1.out DX24.out)
      refine hK.out _ _ ?_ (fun hHeld => ?_)
      · (try dsimp only); exact ⟨row_cell r26.out 0, row_cell r26.out 1, row_cell r26.out 2⟩
      clear hK K
      try simp only [List.getElem_toArray, List.getElem_cons_succ, List.getElem_cons_zero, Act.put, List.setIfInBounds_toArray, List.set_cons_zero, List.set_cons_succ]
      refine wpAnyH_ready (rs := [5]) (by kernel_rfl) (by simp) ?_
      refine (AllReadyH.cons (o := _) rfl (fun K hK => ?_) AllReadyH.nil)
      refine step_lv (by rfl) (.tmp 21) (.tmp 23) (by rfl) V1.heap.size _ (by rfl) eX24.out b1 d1 m1 M1 (by rfl) (HRX.out _ DX24.out).1 HM1.out hb1 DX24.out.size ?_
      intro P1 C1 Y27 G1 GA1 GL1
      have DY27 := hid (below_grown (base := 0) DX24.out eX24.out GA1.out)
      have o28 := hid (own_grL o25.out GA1.out (ne_e ne12.symm))
      have szW : g2 < X24.heap.size := by obtain ⟨cu, hc⟩ := own_ty o25.out rfl; exact row_lt hc
      have n29 := hid (ne_p (u := .slice (some ⟨g2, 0, none⟩) 0 0) (b := g2) GL1.out rfl ne12 (by omega))
      have r30 := hid (row_on HDO1.out DY27.out)
      refine hK.out _ _ ?_ (fun hHeld => ?_)
      · (try dsimp only); exact ⟨row_cell r30.out 0, row_cell r30.out 1, row_cell r30.out 2⟩
      clear hK K
      try simp only [List.getElem_toArray, List.getElem_cons_succ, List.getElem_cons_zero, Act.put, List.setIfInBounds_toArray, List.set_cons_zero, List.set_cons_succ]
      refine wpAnyH_ready (rs := [9]) (by kernel_rfl) (by simp) ?_
      refine (AllReadyH.cons (o := _) rfl (fun K hK => ?_) AllReadyH.nil)
      refine step_lv (by rfl) (.tmp 25) (.tmp 27) (by rfl) V1.heap.size _ (by rfl) o28.out b2 d2 m2 M2 (by rfl) (HRX.out _ DY27.out).2 HM2.out hb2 DY27.out.size ?_
      intro P2 C2 Y31 G2 GA2 GL2
      have DY31 := hid (below_grown (base := 0) DY27.out o28.out GA2.out)
      have o32 := hid (own_grL G1.out GA2.out n29.out)
      have r33 := hid (row_on HDO1.out DY31.out)
      refine hK.out _ _ ?_ (fun hHeld => ?_)
      · (try dsimp only); exact ⟨row_cell r33.out 0, row_cell r33.out 1, row_cell r33.out 2⟩
      clear hK K
      try simp only [List.getElem_toArray, List.getElem_cons_succ, List.getElem_cons_zero, Act.put, List.setIfInBounds_toArray, List.set_cons_zero, List.set_cons_succ]
      refine' wpAnyH_take (i := 10) (oi := _) (v := _) rfl (by kernel_rfl) (by kernel_rfl) (by kernel_rfl) (fun _ _ _ h => h) (Or.inl ⟨by kernel_rfl, ?_⟩) (by assumption) ?_
      rotate_left
      · (intro w hSw; (try dsimp only at hSw); go_simp; try (with_reducible rfl))
      try simp only [List.getElem_toArray, List.getElem_cons_succ, List.getElem_cons_zero, Act.put, List.setIfInBounds_toArray, List.set_cons_zero, List.set_cons_succ]
      refine' wpAnyH_take (i := 11) (oi := _) (v := _) rfl (by kernel_rfl) (by kernel_rfl) (by kernel_rfl) (fun _ _ _ h => h) (Or.inl ⟨by kernel_rfl, ?_⟩) (by assumption) ?_
      rotate_left
      · (intro w hSw; (try dsimp only at hSw); go_simp; try (with_reducible rfl))
      try simp only [List.getElem_toArray, List.getElem_cons_succ, List.getElem_cons_zero, Act.put, List.setIfInBounds_toArray, List.set_cons_zero, List.set_cons_succ]
      refine wpAnyH_ready (rs := [12]) (by kernel_rfl) (by simp) ?_
      refine (AllReadyH.cons (o := _) rfl (fun K hK => ?_) AllReadyH.nil)
      have TH := hid (row_there (row_on HRO1.out DY31.out) 1 3 (by simp))
      refine step_store_mid (by rfl) 30 (.tmp 30) (.tmp 29) (by rfl) R 1 #[.int .u64 ps, .slice P1 m1 C1, .slice P2 m2 C2] (by rfl) (by rfl) TH.out infoP3m (by simp [Value.oneCell']) ?_
      obtain ⟨Z, hZ⟩ : ∃ Z, Y31.setCells R 1 #[.int .u64 ps, .slice P1 m1 C1, .slice P2 m2 C2].toList = Z := ⟨_, rfl⟩
      have hZ' : ((Y31.setCell ⟨R, 1, none⟩ (.int .u64 ps)).setCell ⟨R, 2, none⟩ (.slice P1 m1 C1)).setCell ⟨R, 3, none⟩ (.slice P2 m2 C2) = Z := hZ
      have HR5 := hid (show Z.heap[R]? = some (.cells #[.int .i64 hold, .int .u64 ps, .slice P1 m1 C1, .slice P2 m2 C2, .slice p3 n c3, .int .u64 gr, .int .u64 la.sq, .int .i64 la.kd, .int .i64 la.sd, .int .i64 la.pr, .int .u64 la.qt, .int .i64 la.ct] 57 (0, 0)) from by rw [← hZ']; exact set_row _ (set_row _ (set_row _ (row_on HRO1.out DY31.out))))
      have K5 := hid (show Kp (fun j => j = R) Y31 Z from by rw [← hZ']; exact ((Kp.set _ _ _ _).trans (Kp.set _ _ _ _) (fun _ _ h => h)).trans (Kp.set _ _ _ _) (fun _ _ h => h))
      have rZ := hid (K5.out.row r33.out (fun e => by have e' : R + 1 = R := e; omega))
      rw [hZ]
      clear hZ hZ'
      refine hK.out _ _ ?_ (fun hHeld => ?_)
      · (try dsimp only); exact ⟨row_cell rZ.out 0, row_cell rZ.out 1, row_cell rZ.out 2⟩
      clear hK K
      try simp only [List.getElem_toArray, List.getElem_cons_succ, List.getElem_cons_zero, Act.put, List.setIfInBounds_toArray, List.set_cons_zero, List.set_cons_succ]
      refine wpAnyH_done (by kernel_rfl) ?_ _
      exact ⟨(g1, g2, P1, C1, P2, C2), by kernel_rfl, Y31, K5.out, DY31.out, o32.out, G2.out, HR5.out⟩
  · rintro ⟨g1', g2', P1, C1, P2, C2⟩ V5 hTT
    obtain ⟨wb, k5, vb, e1', e2', hr5⟩ := hTT.out
    try simp only [List.getElem_toArray, List.getElem_cons_succ, List.getElem_cons_zero, Act.put, List.setIfInBounds_toArray, List.set_cons_zero, List.set_cons_succ]
    have K5 := hid k5
    have VB := hid vb
    have E1 := hid e1'
    have E2 := hid e2'
    have HR5 := hid hr5
    clear hTT k5 vb e1' e2' hr5 j0 j1 j2 k1 k2 k3 F1 F2 F3 sR sR1 g1
    have HDO5 := hid (K5.out.row (row_on HDO1.out VB.out) (fun e => by have e' : R + 1 = R := e; omega))
    have HZ5 := hid (K5.out.row (row_on HZ1.out VB.out) (fun e => by have e' : R + 1 + 1 = R := e; omega))
    have BWB := hid (btr BW1.out VB.out)
    have HB5 := hid (show Below w.heap.size w V5 from BWB.out.trans (K5.out.below BWB.out.size (fun g hg e => by have := HR.out; omega)))
    have hRb := row_on HRO1.out VB.out
    have ns : ∀ g t cu, t ≠ 57 → wb.heap[g]? = some (.cells cu t (0, 0)) → ¬ g = R := fun g t cu ht hc e => row_ne hc hRb ht e
    have HL1 := hid (show Lo 0 V5 P1 C1 M1 from by
      have h0 : Lo 0 wb P1 C1 M1 := by unfold Lo; rw [HM1.out]; exact own_base E1.out (Nat.zero_le _)
      exact h0.kept K5.out (fun g hg => by obtain ⟨cu, hc⟩ := h0.ty hg; exact ns _ _ _ (by decide) hc))
    have HL2 := hid (show Lo 0 V5 P2 C2 M2 from by
      have h0 : Lo 0 wb P2 C2 M2 := by unfold Lo; rw [HM2.out]; exact own_base E2.out (Nat.zero_le _)
      exact h0.kept K5.out (fun g hg => by obtain ⟨cu, hc⟩ := h0.ty hg; exact ns _ _ _ (by decide) hc))
    have HL3 := hid (show Dw 0 V5 p3 c3 L from by
      have h0 := (HRD.out.on BWB.out).o3
      exact h0.kept K5.out (fun g hg => by obtain ⟨cu, hc⟩ := h0.ty hg; exact ns _ _ _ (by decide) hc))
    have HF1 := hid (show Fr w.heap.size p1 P1 from fun g hg => .inr (Nat.le_trans BW1.out.size (own_geP E1.out hg)))
    have HF2 := hid (show Fr w.heap.size p2 P2 from fun g hg => .inr (Nat.le_trans BW1.out.size (own_geP E2.out hg)))
    clear hRb ns
    go_wp2
    go_loopw [6, 7] (fun lv iv wr => ∃ (i : Nat) (q : Option Addr) (m dd : Nat), i ≤ n ∧ lv = .slice q m dd ∧ iv = .int .i64 i ∧ Hid (m = ((L.take i).filter (fun d => decide (ps < d.sq))).length) ∧ Hid (wr.ownsRow V5.heap.size 48 6 (.slice q m dd) m (dvc ((L.take i).filter (fun d => decide (ps < d.sq))))) ∧ Hid (Below V5.heap.size V5 wr)) (fun _ iv _ => n - (intOf iv).toNat)
    case atStart => exact ⟨0, none, 0, 0, by omega, rfl, rfl, by simp [Hid], by show World.ownsRow _ _ _ _ _ _ _; simp only [List.take_zero, List.filter_nil]; exact own_nil V5 V5.heap.size 48 6, Below.refl _ _⟩
    case round =>
      obtain ⟨i, q, m, dd, hi, rfl, rfl, HM, HO, HBW⟩ := hrel
      have hm : m ≤ 1024 := by
        have h1 := HM.out
        have h2 := List.length_filter_le (fun d : Dm => decide (ps < d.sq)) (L.take i)
        rw [List.length_take] at h2
        have := HN.out
        omega
      have k4 := row_cell (row_on HR5.out HBW.out) 4
      have j0 := row_cell (row_on HDO5.out HBW.out) 0
      by_cases hlt : i < n
      · have hil : i < L.length := by have := HN.out; omega
        obtain ⟨g, rfl, sg, a0, a1, a2, a3, a4, a5⟩ := (HL3.out.on HBW.out).cells (i := i) hil
        obtain ⟨y, hy⟩ : ∃ y, L[i] = y := ⟨_, rfl⟩
        rw [hy] at a0 a1 a2 a3 a4 a5
        have HTK := hid (show L.take (i + 1) = L.take i ++ [y] from by rw [List.take_add_one, List.getElem?_eq_getElem hil, hy]; rfl)
        have hcap : n ≤ c3 := by have := (own_cap HL3.out).1; have := HN.out; omega
        have hmax : c3 ≤ 9223372036854775807 := by have := (own_cap HL3.out).2.1; unfold maxLen at this; omega
        have i0 : (0 : Int) ≤ (i : Int) := by omega
        have i1 : (i : Int) < (n : Int) := by omega
        have HCE := hid (show ∀ U, Below wr.heap.size wr U → U.cell? ⟨g, i * 6, none⟩ = some (.int .u64 y.sq) ∧ U.cell? ⟨g, i * 6 + 1, none⟩ = some (.int .i64 y.kd) ∧ U.cell? ⟨g, i * 6 + 2, none⟩ = some (.int .i64 y.sd) ∧ U.cell? ⟨g, i * 6 + 3, none⟩ = some (.int .i64 y.pr) ∧ U.cell? ⟨g, i * 6 + 4, none⟩ = some (.int .u64 y.qt) ∧ U.cell? ⟨g, i * 6 + 5, none⟩ = some (.int .i64 y.ct) from fun U hU => ⟨(hU.cell (p := ⟨g, _, none⟩) sg).trans a0, (hU.cell (p := ⟨g, _, none⟩) sg).trans a1, (hU.cell (p := ⟨g, _, none⟩) sg).trans a2, (hU.cell (p := ⟨g, _, none⟩) sg).trans a3, (hU.cell (p := ⟨g, _, none⟩) sg).trans a4, (hU.cell (p := ⟨g, _, none⟩) sg).trans a5⟩)
        clear hy a1 a2 a3 a4 a5 sg
        by_cases hx : ps < y.sq
        · have q1 : decide (ps < y.sq) = true := by simpa using hx
          have HX := hid hx
          clear hx
          go_upto_region 10 with fail
          go_quiet (fail)
          go_upto_region 11 with fail
          obtain ⟨V, hV⟩ : ∃ V, wr.drewN nq = V := ⟨_, rfl⟩
          have BV := hid (show Below wr.heap.size wr V from by rw [← hV]; exact bdrew _ _)
          have HOV := hid (show V.ownsRow V5.heap.size 48 6 (.slice q m dd) m (dvc ((L.take i).filter (fun d => decide (ps < d.sq)))) from by rw [← hV]; exact own_on HO.out (bdrew _ _))
          rw [hV]
          clear hV k4 j0 a0
          obtain ⟨a0, a1, a2, a3, a4, a5⟩ := HCE.out V BV.out
          have k4 := row_cell (row_on HR5.out (btr HBW.out BV.out)) 4
          have HOv := hid (own_on HOV.out (ball V (.cells #[.int .u64 y.sq, .int .i64 y.kd, .int .i64 y.sd, .int .i64 y.pr, .int .u64 y.qt, .int .i64 y.ct] 48)))
          have HBv := hid (btr (btr HBW.out BV.out) (ball V (.cells #[.int .u64 y.sq, .int .i64 y.kd, .int .i64 y.sd, .int .i64 y.pr, .int .u64 y.qt, .int .i64 y.ct] 48)))
          have RN := hid (rd_new V y)
          have HLN := hid (dvc_len [y])
          go_wp2_with (at_builtin; refine wpList_app_rd (by rfl) (.tmp 47) (.tmp 53) 39 48 _ 6 48 (by rfl) Try.underlying39 infoD6 rfl (by decide) V5.heap.size _ m (dvc ((L.take i).filter (fun d => decide (ps < d.sq)))) (by rfl) HOv.out (some ⟨V.heap.size, 0, none⟩) 1 1 (dvc [y]) (by rfl) (fun e => by cases e) HLN.out RN.out (dvc_one _) (by unfold maxLen; omega) (by omega) HBv.out.size ?_; intro v' U3 hown hgrow; obtain ⟨q3, d3, rfl⟩ := own_form hown; have HO3 := hid hown; have HB3 := hid (below_grown (base := 0) HBv.out HOv.out hgrow); clear hown hgrow)
          go_roundw
          case rel => exact ⟨i + 1, q3, m + 1, d3, by omega, rfl, by go_num, by show m + 1 = _; rw [HTK.out, List.filter_append, List.length_append, ← HM.out]; simp [HX.out], by show World.ownsRow _ _ _ _ _ _ _; rw [HTK.out, List.filter_append, dvc_app, show [y].filter (fun d => decide (ps < d.sq)) = [y] from by simp [HX.out]]; exact HO3.out, HB3.out⟩
          case measure => simp [intOf]; omega
        · have q1 : decide (ps < y.sq) = false := by simpa using hx
          have HX := hid hx
          clear hx
          go_upto_region 10 with fail
          go_quiet (fail)
          go_wp2
          go_roundw
          case rel => exact ⟨i + 1, q, m, dd, by omega, rfl, by go_num, by show m = _; rw [HTK.out, List.filter_append, show [y].filter (fun d => decide (ps < d.sq)) = [] from by simp; have := HX.out; omega, List.append_nil]; exact HM.out, by show World.ownsRow _ _ _ _ _ _ _; rw [HTK.out, List.filter_append, show [y].filter (fun d => decide (ps < d.sq)) = [] from by simp; have := HX.out; omega, List.append_nil]; exact own_on HO.out (bdrew _ _), btr HBW.out (bdrew _ _)⟩
          case measure => simp [intOf]; omega
      · obtain ⟨C, hC⟩ : ∃ C, L.filter (fun d => decide (ps < d.sq)) = C := ⟨_, rfl⟩
        have HC := hid hC
        have hC2 : (L.take i).filter (fun d => decide (ps < d.sq)) = C := by rw [List.take_of_length_le (by have := HN.out; omega)]; exact hC
        rw [hC2] at HM HO
        clear hC hC2
        rw [HC.out] at HPG
        have fz4 := row_frz (row_on HR5.out HBW.out) 4
        go_upto_region 13 with fail
        obtain ⟨V7, hV7⟩ : ∃ V, wr.setCell ⟨R, 4, none⟩ (.slice q m dd) = V := ⟨_, rfl⟩
        have HR7 := hid (show V7.heap[R]? = some (.cells #[.int .i64 hold, .int .u64 ps, .slice P1 m1 C1, .slice P2 m2 C2, .slice q m dd, .int .u64 gr, .int .u64 la.sq, .int .i64 la.kd, .int .i64 la.sd, .int .i64 la.pr, .int .u64 la.qt, .int .i64 la.ct] 57 (0, 0)) from by rw [← hV7]; exact set_row _ (row_on HR5.out HBW.out))
        have K7 := hid (show Kp (fun j => j = R) wr V7 from by rw [← hV7]; exact Kp.set _ _ _ _)
        have HZ7 := hid (K7.out.row (row_on HZ5.out HBW.out) (fun e => by have e' : R + 1 + 1 = R := e; omega))
        have B5W := hid (btr HB5.out HBW.out)
        have HB7 := hid (show Below w.heap.size w V7 from B5W.out.trans (K7.out.below B5W.out.size (fun g hg e => by have := HR.out; omega)))
        have HRD7 := hid (show Rd V7 ⟨ps, gr, M1, M2, C, la⟩ P1 C1 P2 C2 q dd from by
          have hRw := row_on HR5.out HBW.out
          have h1 := HL1.out.on HBW.out
          have h2 := HL2.out.on HBW.out
          have h3 : Dw 0 wr q dd C := by unfold Dw; rw [← HM.out]; exact own_base HO.out (Nat.zero_le _)
          exact ⟨h1.kept K7.out (fun g hg e => by obtain ⟨cu, hc⟩ := h1.ty hg; exact row_ne hc hRw (by decide) e), h2.kept K7.out (fun g hg e => by obtain ⟨cu, hc⟩ := h2.ty hg; exact row_ne hc hRw (by decide) e), h3.kept K7.out (fun g hg e => by obtain ⟨cu, hc⟩ := h3.ty hg; exact row_ne hc hRw (by decide) e)⟩)
        have HF3 := hid (show Fr w.heap.size p3 q from fun g hg => .inr (Nat.le_trans HB5.out.size (own_geP HO.out hg)))
        rw [hV7]
        clear hV7 k4 j0 fz4
        have CG := hid (rgoes_any hold hh ⟨ps, gr, M1, M2, C, la⟩ HPG.out P1 P2 q C1 C2 dd V7 HRD7.out)
        dsimp only at CG
        rw [HM1.out, HM2.out, ← HM.out] at CG
        obtain ⟨N, hNN⟩ : ∃ N, goS ⟨ps, gr, M1, M2, C, la⟩ = N := ⟨_, rfl⟩
        rw [hNN] at CG
        have HNN := hid hNN
        clear hNN
        obtain ⟨k0, k1, k2, k3, k4, k5, k6, k7, k8, k9, k10, k11⟩ := row12c HR7.out
        go_wp2_with (first | (go_at_call 57; (with_reducible refine (CG.out).mono ?_); rintro e V8 ⟨v, rfl, s1, g1, s2, g2, s3, g3, rfl, x1, x2, x3, x4, x5⟩; have Y1 := hid x1; have Y2 := hid x2; have Y3 := hid x3; have Y4 := hid x4; have BV8 := hid (btr HB7.out x5); have HZ8 := hid (row_on HZ7.out x5); have AA := hid (show (#[.int .i64 hold, .int .u64 N.sq, .slice s1 N.l1.length g1, .slice s2 N.l2.length g2, .slice s3 N.L.length g3, .int .u64 N.gr, .int .u64 N.la.sq, .int .i64 N.la.kd, .int .i64 N.la.sd, .int .i64 N.la.pr, .int .u64 N.la.qt, .int .i64 N.la.ct] : Array Value).all (·.oneCell') = true from by simp [Value.oneCell']); clear x1 x2 x3 x4 x5) | (refine wpList_store_row (by rfl) 57 (.tmp 4) (.tmp 58) (by rfl) (R + 1 + 1) #[.int .i64 hold, .int .u64 N.sq, .slice s1 N.l1.length g1, .slice s2 N.l2.length g2, .slice s3 N.L.length g3, .int .u64 N.gr, .int .u64 N.la.sq, .int .i64 N.la.kd, .int .i64 N.la.sd, .int .i64 N.la.pr, .int .u64 N.la.qt, .int .i64 N.la.ct] (by rfl) (by rfl) 57 _ HZ8.out (infoRSa _ _ _ _ _ _ _ _ _ _ _ _) (by rfl) AA.out ?_))
        refine bodyPost_ret (res_ct (fn := Try.f38) Try.results38 _ _ (R + 1 + 1) 57 #[.int .i64 hold, .int .u64 N.sq, .slice s1 N.l1.length g1, .slice s2 N.l2.length g2, .slice s3 N.L.length g3, .int .u64 N.gr, .int .u64 N.la.sq, .int .i64 N.la.kd, .int .i64 N.la.sd, .int .i64 N.la.pr, .int .u64 N.la.qt, .int .i64 N.la.ct] (0, 0) _ (.int .i64 0) (by rfl) (by rfl) (setRow_heap _ _ _ _ 57 (0, 0) HZ8.out) Try.underlying57 rfl infoRS) rfl ?_
        have hz : Below w.heap.size w (V8.setRow (R + 1 + 1) #[.int .i64 hold, .int .u64 N.sq, .slice s1 N.l1.length g1, .slice s2 N.l2.length g2, .slice s3 N.L.length g3, .int .u64 N.gr, .int .u64 N.la.sq, .int .i64 N.la.kd, .int .i64 N.la.sd, .int .i64 N.la.pr, .int .u64 N.la.qt, .int .i64 N.la.ct]) := setRow_below BV8.out (by have := HR.out; omega)
        have hd := Y1.out
        have z7 := HB7.out.size
        refine ⟨_, rfl, s1, g1, s2, g2, s3, g3, by rw [HC.out, HNN.out], ?_, fun g hg => ?_, fun g hg => ?_, fun g hg => ?_, hz⟩
        · rw [HC.out, HNN.out]
          exact hd.kept (setRow_kp _ _ _) (fun g hg e => by obtain ⟨cu, hc⟩ := hd.o1.ty hg; exact row_ne hc HZ8.out (by decide) e) (fun g hg e => by obtain ⟨cu, hc⟩ := hd.o2.ty hg; exact row_ne hc HZ8.out (by decide) e) (fun g hg e => by obtain ⟨cu, hc⟩ := hd.o3.ty hg; exact row_ne hc HZ8.out (by decide) e)
        · rcases Y2.out g hg with e | e
          · exact HF1.out g e
          · exact .inr (by omega)
        · rcases Y3.out g hg with e | e
          · exact HF2.out g e
          · exact .inr (by omega)
        · rcases Y4.out g hg with e | e
          · exact HF3.out g e
          · exact .inr (by omega)
theorem rrecover_any (hold : Nat) (hh : hold ≤ 1024) (s : Ss) (hg : Sg hold s) (ps : Int) (hps : 0 ≤ ps ∧ ps < 18446744073709551616) (b1 b2 : Option Addr) (d1 d2 : Nat) (M1 M2 : List Lv) (p1 p2 p3 : Option Addr) (c1 c2 c3 : Nat) (w : World) (r1 : Rl w b1 d1 M1) (r2 : Rl w b2 d2 M2) (h : Rd w s p1 c1 p2 c2 p3 c3) :
    Calls Try.prog 38 #[.agg #[.int .i64 hold, .int .u64 s.sq, .slice p1 s.l1.length c1, .slice p2 s.l2.length c2, .slice p3 s.L.length c3, .int .u64 s.gr, .int .u64 s.la.sq, .int .i64 s.la.kd, .int .i64 s.la.sd, .int .i64 s.la.pr, .int .u64 s.la.qt, .int .i64 s.la.ct], .agg #[.int .u64 ps, .slice b1 M1.length d1, .slice b2 M2.length d2]] w fun e w' => ∃ v, e = .returned (.tuple #[v, .int .i64 (rcE s ps M1 M2)]) ∧ Rb w hold (rcS s ps M1 M2) p1 p2 p3 v w' := by
  obtain ⟨sq, gr, l1, l2, L, la⟩ := s
  cases hno : (lok 1 M1 && lok 2 M2) with
  | false =>
    have e1 : rcE ⟨sq, gr, l1, l2, L, la⟩ ps M1 M2 = 1 := by unfold rcE; rw [if_pos hno]
    have e2 : rcS ⟨sq, gr, l1, l2, L, la⟩ ps M1 M2 = ⟨sq, gr, l1, l2, L, la⟩ := by unfold rcS; rw [if_pos hno]
    rw [e1, e2]
    exact rrec_bad hold hh sq gr l1 l2 L la hg ps hps b1 b2 d1 d2 M1 M2 p1 p2 p3 c1 c2 c3 w r1 r2 h hno
  | true =>
    have hno' : ¬ (lok 1 M1 && lok 2 M2) = false := by simp [hno]
    by_cases hlt : ps < sq
    · have e1 : rcE ⟨sq, gr, l1, l2, L, la⟩ ps M1 M2 = 180 := by unfold rcE; rw [if_neg hno', if_pos hlt]
      have e2 : rcS ⟨sq, gr, l1, l2, L, la⟩ ps M1 M2 = ⟨sq, gr, l1, l2, L, la⟩ := by unfold rcS; rw [if_neg hno', if_pos hlt]
      rw [e1, e2]
      exact rrec_old hold hh sq gr l1 l2 L la hg ps hps b1 b2 d1 d2 M1 M2 p1 p2 p3 c1 c2 c3 w r1 r2 h hno hlt
    · have e1 : rcE ⟨sq, gr, l1, l2, L, la⟩ ps M1 M2 = 0 := by unfold rcE; rw [if_neg hno', if_neg hlt]
      have e2 : rcS ⟨sq, gr, l1, l2, L, la⟩ ps M1 M2 = goS ⟨ps, gr, M1, M2, L.filter (fun d => decide (ps < d.sq)), la⟩ := by unfold rcS; rw [if_neg hno', if_neg hlt]
      rw [e1, e2]
      exact rrec_ok hold hh sq gr l1 l2 L la hg ps hps b1 b2 d1 d2 M1 M2 p1 p2 p3 c1 c2 c3 w r1 r2 h hno hlt
end Go.Proofs.Ytiphgfghdbmlcaa
