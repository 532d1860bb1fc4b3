/-
  The document's Take.
-/
import Derived.Test.YtiphgfghdbmlcaaFhK
namespace Go.Proofs.Ytiphgfghdbmlcaa
open Go.RowKit Go.Deep Go.Shelf
set_option linter.unusedVariables false
set_option linter.unusedSimpArgs false
set_option maxHeartbeats 8000000
set_option maxRecDepth 100000
theorem own_d1 (w : World) (x : Dm) : (w.alloc (.cells #[.int .u64 x.sq, .int .i64 x.kd, .int .i64 x.sd, .int .i64 x.pr, .int .u64 x.qt, .int .i64 x.ct] 48)).ownsRow w.heap.size 48 6 (.slice (some ⟨w.heap.size, 0, none⟩) 1 1) 1 (dvc [x]) := ⟨rfl, .inr ⟨w.heap.size, 1, _, rfl, Nat.le_refl _, World.alloc_heap_new _ _, Nat.le_refl _, by unfold maxLen; omega, rfl, rfl⟩⟩
theorem own_grD {base : Nat} {U V : World} {v u : Value} {n : Nat} {xs : List Value} (ho : U.ownsRow base 48 6 v n xs) (hg : U.grownBy V u.ownBlock) (hne : ∀ k, v.ownBlock = some k → some k ≠ u.ownBlock) : V.ownsRow base 48 6 v n xs := own_same ho (fun k hk => hg.block k (by obtain ⟨cu, hcu⟩ := own_ty ho hk; exact row_lt hcu) (hne k hk))
theorem own_rd {base : Nat} {w : World} {q : Option Addr} {n c : Nat} {xs : List Dm} (h : w.ownsRow base 48 6 (.slice q n c) n (dvc xs)) : ∀ ad, q = some ad → ∀ j u, (dvc xs)[j]? = some u → w.cell? (ad.add j) = some u := fun ad e => by
  subst e
  exact (own_cells h).2
theorem rtake_bad (hold : Nat) (hh : hold ≤ 1024) (sq gr : Int) (l1 l2 : List Lv) (L : List Dm) (la d : Dm) (hg : Sg hold ⟨sq, gr, l1, l2, L, la⟩) (hq : 0 ≤ d.sq ∧ d.sq < 18446744073709551616) (p1 p2 p3 : Option Addr) (c1 c2 c3 : Nat) (w : World) (h : Rd w ⟨sq, gr, l1, l2, L, la⟩ p1 c1 p2 c2 p3 c3) (hok : dOk d = false) :
    Calls Try.prog 35 #[.agg #[.int .i64 hold, .int .u64 sq, .slice p1 l1.length c1, .slice p2 l2.length c2, .slice p3 L.length c3, .int .u64 gr, .int .u64 la.sq, .int .i64 la.kd, .int .i64 la.sd, .int .i64 la.pr, .int .u64 la.qt, .int .i64 la.ct], .agg #[.int .u64 d.sq, .int .i64 d.kd, .int .i64 d.sd, .int .i64 d.pr, .int .u64 d.qt, .int .i64 d.ct]] w fun e w' => ∃ v, e = .returned (.tuple #[v, .int .i64 1]) ∧ Rb w hold ⟨sq, gr, l1, l2, L, la⟩ p1 p2 p3 v w' := by
  obtain ⟨n1, hn1⟩ : ∃ n, l1.length = n := ⟨_, rfl⟩
  obtain ⟨n2, hn2⟩ : ∃ n, l2.length = n := ⟨_, rfl⟩
  obtain ⟨n, hn⟩ : ∃ n, L.length = n := ⟨_, rfl⟩
  rw [hn1, hn2, hn]
  obtain ⟨R, hR⟩ : ∃ R, w.heap.size = R := ⟨_, rfl⟩
  obtain ⟨W, hW⟩ : ∃ W, ((w.alloc (.cells #[.int .i64 hold, .int .u64 sq, .slice p1 n1 c1, .slice p2 n2 c2, .slice p3 n c3, .int .u64 gr, .int .u64 la.sq, .int .i64 la.kd, .int .i64 la.sd, .int .i64 la.pr, .int .u64 la.qt, .int .i64 la.ct] 57)).alloc (.cells #[.int .u64 d.sq, .int .i64 d.kd, .int .i64 d.sd, .int .i64 d.pr, .int .u64 d.qt, .int .i64 d.ct] 48)).alloc (.cells #[.int .i64 0, .int .u64 0, .slice none 0 0, .slice none 0 0, .slice none 0 0, .int .u64 0, .int .u64 0, .int .i64 0, .int .i64 0, .int .i64 0, .int .u64 0, .int .i64 0] 57) = W := ⟨_, rfl⟩
  obtain ⟨hb0, x0, x1, x2⟩ := alloc3 hR hW
  have HB := hid hb0
  have HRO := hid x0
  have HDO := hid x1
  have HZO := hid x2
  have HRD := hid h
  have HG := hid hg
  have HW := hid hW
  have HR := hid hR
  have HN := hid hn
  have HN1 := hid hn1
  have HN2 := hid hn2
  have CM := hid (fun U => message_any d U)
  rw [hok] at CM
  have hsq := hg.sq
  dsimp only at hsq
  have hn1024 : n ≤ 1024 := by have := hg.len; dsimp only at this; omega
  have CH := hid (fun (U : World) (hU : Below w.heap.size w U) => rheld_any hold sq gr d.sq n1 n2 c1 c2 c3 0 p1 p2 p3 L la U (h.on hU).o3)
  rw [hn] at CH
  obtain ⟨j0, j1, j2, j3, j4, j5⟩ := row6 HDO.out
  clear hb0 x0 x1 x2 h hg hW hR hn hn1 hn2 hok
  go_enter Try.func35, Try.ntmps35
  go_upto_region 1 with fail
  rw [HW.out, HR.out]
  go_upto_region 2 with (go_at_call 31; with_reducible refine (CM.out _).mono ?_; rintro e V1 ⟨rfl, hb⟩; have BV1 := hid hb; have HRO1 := hid (row_on HRO.out hb); have HDO1 := hid (row_on HDO.out hb); have HZ1 := hid (row_on HZO.out hb); have CHW := hid (CH.out V1 (btr HB.out hb)); clear hb)
  obtain ⟨k0, k1, k2, k3, k4, k5, k6, k7, k8, k9, k10, k11⟩ := row12c HRO1.out
  have AS := hid (show (#[.int .i64 0, .int .u64 0, .slice none 0 0, .slice none 0 0, .slice none 0 0, .int .u64 0, .int .u64 0, .int .i64 0, .int .i64 0, .int .i64 0, .int .u64 0, .int .i64 0] : Array Value).size = (#[.int .i64 hold, .int .u64 sq, .slice p1 n1 c1, .slice p2 n2 c2, .slice p3 n c3, .int .u64 gr, .int .u64 la.sq, .int .i64 la.kd, .int .i64 la.sd, .int .i64 la.pr, .int .u64 la.qt, .int .i64 la.ct] : Array Value).size from rfl)
  have AA := hid (show (#[.int .i64 hold, .int .u64 sq, .slice p1 n1 c1, .slice p2 n2 c2, .slice p3 n c3, .int .u64 gr, .int .u64 la.sq, .int .i64 la.kd, .int .i64 la.sd, .int .i64 la.pr, .int .u64 la.qt, .int .i64 la.ct] : Array Value).all (·.oneCell') = true from by simp [Value.oneCell'])
  have AI := hid (infoRSa (.int .i64 hold) (.int .u64 sq) (.slice p1 n1 c1) (.slice p2 n2 c2) (.slice p3 n c3) (.int .u64 gr) (.int .u64 la.sq) (.int .i64 la.kd) (.int .i64 la.sd) (.int .i64 la.pr) (.int .u64 la.qt) (.int .i64 la.ct))
  go_wp2_with (refine wpList_store_row (by rfl) 57 (.tmp 4) (.tmp 9) (by rfl) (R + 1 + 1) #[.int .i64 hold, .int .u64 sq, .slice p1 n1 c1, .slice p2 n2 c2, .slice p3 n c3, .int .u64 gr, .int .u64 la.sq, .int .i64 la.kd, .int .i64 la.sd, .int .i64 la.pr, .int .u64 la.qt, .int .i64 la.ct] (by rfl) (by rfl) 57 _ HZ1.out AI.out AS.out AA.out ?_)
  refine bodyPost_ret (res_ct (fn := Try.f35) Try.results35 _ _ (R + 1 + 1) 57 #[.int .i64 hold, .int .u64 sq, .slice p1 n1 c1, .slice p2 n2 c2, .slice p3 n c3, .int .u64 gr, .int .u64 la.sq, .int .i64 la.kd, .int .i64 la.sd, .int .i64 la.pr, .int .u64 la.qt, .int .i64 la.ct] (0, 0) _ (.int .i64 1) (by rfl) (by rfl) (setRow_heap _ _ _ _ 57 (0, 0) HZ1.out) Try.underlying57 rfl infoRS) rfl ?_
  have hz : Below w.heap.size w (V1.setRow (R + 1 + 1) #[.int .i64 hold, .int .u64 sq, .slice p1 n1 c1, .slice p2 n2 c2, .slice p3 n c3, .int .u64 gr, .int .u64 la.sq, .int .i64 la.kd, .int .i64 la.sd, .int .i64 la.pr, .int .u64 la.qt, .int .i64 la.ct]) := setRow_below (btr HB.out BV1.out) (by have := HR.out; omega)
  have hd := (HRD.out.on (btr HB.out BV1.out))
  refine ⟨_, rfl, p1, c1, p2, c2, p3, c3, by rw [HN.out, HN1.out, HN2.out], ?_, Fr.refl _ _, Fr.refl _ _, Fr.refl _ _, hz⟩
  exact hd.kept (setRow_kp _ _ _) (fun g hg e => by obtain ⟨cu, hc⟩ := hd.o1.ty hg; exact row_ne hc HZ1.out (by decide) e) (fun g hg e => by obtain ⟨cu, hc⟩ := hd.o2.ty hg; exact row_ne hc HZ1.out (by decide) e) (fun g hg e => by obtain ⟨cu, hc⟩ := hd.o3.ty hg; exact row_ne hc HZ1.out (by decide) e)
theorem rtake_old (hold : Nat) (hh : hold ≤ 1024) (sq gr : Int) (l1 l2 : List Lv) (L : List Dm) (la d : Dm) (hg : Sg hold ⟨sq, gr, l1, l2, L, la⟩) (hq : 0 ≤ d.sq ∧ d.sq < 18446744073709551616) (p1 p2 p3 : Option Addr) (c1 c2 c3 : Nat) (w : World) (h : Rd w ⟨sq, gr, l1, l2, L, la⟩ p1 c1 p2 c2 p3 c3) (hok : dOk d = true) (hlt : d.sq ≤ sq) :
    Calls Try.prog 35 #[.agg #[.int .i64 hold, .int .u64 sq, .slice p1 l1.length c1, .slice p2 l2.length c2, .slice p3 L.length c3, .int .u64 gr, .int .u64 la.sq, .int .i64 la.kd, .int .i64 la.sd, .int .i64 la.pr, .int .u64 la.qt, .int .i64 la.ct], .agg #[.int .u64 d.sq, .int .i64 d.kd, .int .i64 d.sd, .int .i64 d.pr, .int .u64 d.qt, .int .i64 d.ct]] w fun e w' => ∃ v, e = .returned (.tuple #[v, .int .i64 180]) ∧ Rb w hold ⟨sq, gr, l1, l2, L, la⟩ p1 p2 p3 v w' := by
  obtain ⟨n1, hn1⟩ : ∃ n, l1.length = n := ⟨_, rfl⟩
  obtain ⟨n2, hn2⟩ : ∃ n, l2.length = n := ⟨_, rfl⟩
  obtain ⟨n, hn⟩ : ∃ n, L.length = n := ⟨_, rfl⟩
  rw [hn1, hn2, hn]
  obtain ⟨R, hR⟩ : ∃ R, w.heap.size = R := ⟨_, rfl⟩
  obtain ⟨W, hW⟩ : ∃ W, ((w.alloc (.cells #[.int .i64 hold, .int .u64 sq, .slice p1 n1 c1, .slice p2 n2 c2, .slice p3 n c3, .int .u64 gr, .int .u64 la.sq, .int .i64 la.kd, .int .i64 la.sd, .int .i64 la.pr, .int .u64 la.qt, .int .i64 la.ct] 57)).alloc (.cells #[.int .u64 d.sq, .int .i64 d.kd, .int .i64 d.sd, .int .i64 d.pr, .int .u64 d.qt, .int .i64 d.ct] 48)).alloc (.cells #[.int .i64 0, .int .u64 0, .slice none 0 0, .slice none 0 0, .slice none 0 0, .int .u64 0, .int .u64 0, .int .i64 0, .int .i64 0, .int .i64 0, .int .u64 0, .int .i64 0] 57) = W := ⟨_, rfl⟩
  obtain ⟨hb0, x0, x1, x2⟩ := alloc3 hR hW
  have HB := hid hb0
  have HRO := hid x0
  have HDO := hid x1
  have HZO := hid x2
  have HRD := hid h
  have HG := hid hg
  have HW := hid hW
  have HR := hid hR
  have HN := hid hn
  have HN1 := hid hn1
  have HN2 := hid hn2
  have CM := hid (fun U => message_any d U)
  rw [hok] at CM
  have hsq := hg.sq
  dsimp only at hsq
  have hn1024 : n ≤ 1024 := by have := hg.len; dsimp only at this; omega
  have CH := hid (fun (U : World) (hU : Below w.heap.size w U) => rheld_any hold sq gr d.sq n1 n2 c1 c2 c3 0 p1 p2 p3 L la U (h.on hU).o3)
  rw [hn] at CH
  obtain ⟨j0, j1, j2, j3, j4, j5⟩ := row6 HDO.out
  clear hb0 x0 x1 x2 h hg hW hR hn hn1 hn2 hok
  go_enter Try.func35, Try.ntmps35
  go_upto_region 1 with fail
  rw [HW.out, HR.out]
  go_upto_region 3 with (go_at_call 31; with_reducible refine (CM.out _).mono ?_; rintro e V1 ⟨rfl, hb⟩; have BV1 := hid hb; have HRO1 := hid (row_on HRO.out hb); have HDO1 := hid (row_on HDO.out hb); have HZ1 := hid (row_on HZO.out hb); have CHW := hid (CH.out V1 (btr HB.out hb)); clear hb)
  obtain ⟨k0, k1, k2, k3, k4, k5, k6, k7, k8, k9, k10, k11⟩ := row12c HRO1.out
  clear j0 j1 j2 j3 j4 j5
  obtain ⟨j0, j1, j2, j3, j4, j5⟩ := row6 HDO1.out
  have g1 : decide (d.sq ≤ sq) = true := by simpa using hlt
  go_upto_region 4 with fail
  have AS := hid (show (#[.int .i64 0, .int .u64 0, .slice none 0 0, .slice none 0 0, .slice none 0 0, .int .u64 0, .int .u64 0, .int .i64 0, .int .i64 0, .int .i64 0, .int .u64 0, .int .i64 0] : Array Value).size = (#[.int .i64 hold, .int .u64 sq, .slice p1 n1 c1, .slice p2 n2 c2, .slice p3 n c3, .int .u64 gr, .int .u64 la.sq, .int .i64 la.kd, .int .i64 la.sd, .int .i64 la.pr, .int .u64 la.qt, .int .i64 la.ct] : Array Value).size from rfl)
  have AA := hid (show (#[.int .i64 hold, .int .u64 sq, .slice p1 n1 c1, .slice p2 n2 c2, .slice p3 n c3, .int .u64 gr, .int .u64 la.sq, .int .i64 la.kd, .int .i64 la.sd, .int .i64 la.pr, .int .u64 la.qt, .int .i64 la.ct] : Array Value).all (·.oneCell') = true from by simp [Value.oneCell'])
  have AI := hid (infoRSa (.int .i64 hold) (.int .u64 sq) (.slice p1 n1 c1) (.slice p2 n2 c2) (.slice p3 n c3) (.int .u64 gr) (.int .u64 la.sq) (.int .i64 la.kd) (.int .i64 la.sd) (.int .i64 la.pr) (.int .u64 la.qt) (.int .i64 la.ct))
  go_wp2_with (refine wpList_store_row (by rfl) 57 (.tmp 4) (.tmp 23) (by rfl) (R + 1 + 1) #[.int .i64 hold, .int .u64 sq, .slice p1 n1 c1, .slice p2 n2 c2, .slice p3 n c3, .int .u64 gr, .int .u64 la.sq, .int .i64 la.kd, .int .i64 la.sd, .int .i64 la.pr, .int .u64 la.qt, .int .i64 la.ct] (by rfl) (by rfl) 57 _ HZ1.out AI.out AS.out AA.out ?_)
  refine bodyPost_ret (res_ct (fn := Try.f35) Try.results35 _ _ (R + 1 + 1) 57 #[.int .i64 hold, .int .u64 sq, .slice p1 n1 c1, .slice p2 n2 c2, .slice p3 n c3, .int .u64 gr, .int .u64 la.sq, .int .i64 la.kd, .int .i64 la.sd, .int .i64 la.pr, .int .u64 la.qt, .int .i64 la.ct] (0, 0) _ (.int .i64 180) (by rfl) (by rfl) (setRow_heap _ _ _ _ 57 (0, 0) HZ1.out) Try.underlying57 rfl infoRS) rfl ?_
  have hz : Below w.heap.size w (V1.setRow (R + 1 + 1) #[.int .i64 hold, .int .u64 sq, .slice p1 n1 c1, .slice p2 n2 c2, .slice p3 n c3, .int .u64 gr, .int .u64 la.sq, .int .i64 la.kd, .int .i64 la.sd, .int .i64 la.pr, .int .u64 la.qt, .int .i64 la.ct]) := setRow_below (btr HB.out BV1.out) (by have := HR.out; omega)
  have hd := (HRD.out.on (btr HB.out BV1.out))
  refine ⟨_, rfl, p1, c1, p2, c2, p3, c3, by rw [HN.out, HN1.out, HN2.out], ?_, Fr.refl _ _, Fr.refl _ _, Fr.refl _ _, hz⟩
  exact hd.kept (setRow_kp _ _ _) (fun g hg e => by obtain ⟨cu, hc⟩ := hd.o1.ty hg; exact row_ne hc HZ1.out (by decide) e) (fun g hg e => by obtain ⟨cu, hc⟩ := hd.o2.ty hg; exact row_ne hc HZ1.out (by decide) e) (fun g hg e => by obtain ⟨cu, hc⟩ := hd.o3.ty hg; exact row_ne hc HZ1.out (by decide) e)
theorem rtake_held (hold : Nat) (hh : hold ≤ 1024) (sq gr : Int) (l1 l2 : List Lv) (L : List Dm) (la d : Dm) (hg : Sg hold ⟨sq, gr, l1, l2, L, la⟩) (hq : 0 ≤ d.sq ∧ d.sq < 18446744073709551616) (p1 p2 p3 : Option Addr) (c1 c2 c3 : Nat) (w : World) (h : Rd w ⟨sq, gr, l1, l2, L, la⟩ p1 c1 p2 c2 p3 c3) (hok : dOk d = true) (hlt : sq < d.sq) (hx : hasN L d.sq = true) :
    Calls Try.prog 35 #[.agg #[.int .i64 hold, .int .u64 sq, .slice p1 l1.length c1, .slice p2 l2.length c2, .slice p3 L.length c3, .int .u64 gr, .int .u64 la.sq, .int .i64 la.kd, .int .i64 la.sd, .int .i64 la.pr, .int .u64 la.qt, .int .i64 la.ct], .agg #[.int .u64 d.sq, .int .i64 d.kd, .int .i64 d.sd, .int .i64 d.pr, .int .u64 d.qt, .int .i64 d.ct]] w fun e w' => ∃ v, e = .returned (.tuple #[v, .int .i64 180]) ∧ Rb w hold ⟨sq, gr, l1, l2, L, la⟩ p1 p2 p3 v w' := by
  obtain ⟨n1, hn1⟩ : ∃ n, l1.length = n := ⟨_, rfl⟩
  obtain ⟨n2, hn2⟩ : ∃ n, l2.length = n := ⟨_, rfl⟩
  obtain ⟨n, hn⟩ : ∃ n, L.length = n := ⟨_, rfl⟩
  rw [hn1, hn2, hn]
  obtain ⟨R, hR⟩ : ∃ R, w.heap.size = R := ⟨_, rfl⟩
  obtain ⟨W, hW⟩ : ∃ W, ((w.alloc (.cells #[.int .i64 hold, .int .u64 sq, .slice p1 n1 c1, .slice p2 n2 c2, .slice p3 n c3, .int .u64 gr, .int .u64 la.sq, .int .i64 la.kd, .int .i64 la.sd, .int .i64 la.pr, .int .u64 la.qt, .int .i64 la.ct] 57)).alloc (.cells #[.int .u64 d.sq, .int .i64 d.kd, .int .i64 d.sd, .int .i64 d.pr, .int .u64 d.qt, .int .i64 d.ct] 48)).alloc (.cells #[.int .i64 0, .int .u64 0, .slice none 0 0, .slice none 0 0, .slice none 0 0, .int .u64 0, .int .u64 0, .int .i64 0, .int .i64 0, .int .i64 0, .int .u64 0, .int .i64 0] 57) = W := ⟨_, rfl⟩
  obtain ⟨hb0, x0, x1, x2⟩ := alloc3 hR hW
  have HB := hid hb0
  have HRO := hid x0
  have HDO := hid x1
  have HZO := hid x2
  have HRD := hid h
  have HG := hid hg
  have HW := hid hW
  have HR := hid hR
  have HN := hid hn
  have HN1 := hid hn1
  have HN2 := hid hn2
  have CM := hid (fun U => message_any d U)
  rw [hok] at CM
  have hsq := hg.sq
  dsimp only at hsq
  have hn1024 : n ≤ 1024 := by have := hg.len; dsimp only at this; omega
  have CH := hid (fun (U : World) (hU : Below w.heap.size w U) => rheld_any hold sq gr d.sq n1 n2 c1 c2 c3 0 p1 p2 p3 L la U (h.on hU).o3)
  rw [hn] at CH
  obtain ⟨i, _, hi1, _⟩ := hix_yes hx hg.nd
  rw [hi1, show hixI (some i) = (i : Int) from rfl] at CH
  clear hi1
  obtain ⟨j0, j1, j2, j3, j4, j5⟩ := row6 HDO.out
  clear hb0 x0 x1 x2 h hg hW hR hn hn1 hn2 hok
  go_enter Try.func35, Try.ntmps35
  go_upto_region 1 with fail
  rw [HW.out, HR.out]
  go_upto_region 3 with (go_at_call 31; with_reducible refine (CM.out _).mono ?_; rintro e V1 ⟨rfl, hb⟩; have BV1 := hid hb; have HRO1 := hid (row_on HRO.out hb); have HDO1 := hid (row_on HDO.out hb); have HZ1 := hid (row_on HZO.out hb); have CHW := hid (CH.out V1 (btr HB.out hb)); clear hb)
  obtain ⟨k0, k1, k2, k3, k4, k5, k6, k7, k8, k9, k10, k11⟩ := row12c HRO1.out
  clear j0 j1 j2 j3 j4 j5
  obtain ⟨j0, j1, j2, j3, j4, j5⟩ := row6 HDO1.out
  have g1 : decide (d.sq ≤ sq) = false := by simp; omega
  have g2 : ¬ d.sq ≤ sq := by omega
  have g3 : (0 : Int) ≤ (i : Int) := by omega
  go_upto_region 4 with (go_at_call 55; with_reducible refine (CHW.out).mono ?_; rintro e V2 ⟨rfl, hb⟩; have BV2 := hid (btr BV1.out hb); have HRO2 := hid (row_on HRO1.out hb); have HDO2 := hid (row_on HDO1.out hb); have HZ2 := hid (row_on HZ1.out hb); clear hb)
  clear k0 k1 k2 k3 k4 k5 k6 k7 k8 k9 k10 k11 j0 j1 j2 j3 j4 j5
  obtain ⟨k0, k1, k2, k3, k4, k5, k6, k7, k8, k9, k10, k11⟩ := row12c HRO2.out
  obtain ⟨j0, j1, j2, j3, j4, j5⟩ := row6 HDO2.out
  have AS := hid (show (#[.int .i64 0, .int .u64 0, .slice none 0 0, .slice none 0 0, .slice none 0 0, .int .u64 0, .int .u64 0, .int .i64 0, .int .i64 0, .int .i64 0, .int .u64 0, .int .i64 0] : Array Value).size = (#[.int .i64 hold, .int .u64 sq, .slice p1 n1 c1, .slice p2 n2 c2, .slice p3 n c3, .int .u64 gr, .int .u64 la.sq, .int .i64 la.kd, .int .i64 la.sd, .int .i64 la.pr, .int .u64 la.qt, .int .i64 la.ct] : Array Value).size from rfl)
  have AA := hid (show (#[.int .i64 hold, .int .u64 sq, .slice p1 n1 c1, .slice p2 n2 c2, .slice p3 n c3, .int .u64 gr, .int .u64 la.sq, .int .i64 la.kd, .int .i64 la.sd, .int .i64 la.pr, .int .u64 la.qt, .int .i64 la.ct] : Array Value).all (·.oneCell') = true from by simp [Value.oneCell'])
  have AI := hid (infoRSa (.int .i64 hold) (.int .u64 sq) (.slice p1 n1 c1) (.slice p2 n2 c2) (.slice p3 n c3) (.int .u64 gr) (.int .u64 la.sq) (.int .i64 la.kd) (.int .i64 la.sd) (.int .i64 la.pr) (.int .u64 la.qt) (.int .i64 la.ct))
  go_wp2_with (refine wpList_store_row (by rfl) 57 (.tmp 4) (.tmp 23) (by rfl) (R + 1 + 1) #[.int .i64 hold, .int .u64 sq, .slice p1 n1 c1, .slice p2 n2 c2, .slice p3 n c3, .int .u64 gr, .int .u64 la.sq, .int .i64 la.kd, .int .i64 la.sd, .int .i64 la.pr, .int .u64 la.qt, .int .i64 la.ct] (by rfl) (by rfl) 57 _ HZ2.out AI.out AS.out AA.out ?_)
  refine bodyPost_ret (res_ct (fn := Try.f35) Try.results35 _ _ (R + 1 + 1) 57 #[.int .i64 hold, .int .u64 sq, .slice p1 n1 c1, .slice p2 n2 c2, .slice p3 n c3, .int .u64 gr, .int .u64 la.sq, .int .i64 la.kd, .int .i64 la.sd, .int .i64 la.pr, .int .u64 la.qt, .int .i64 la.ct] (0, 0) _ (.int .i64 180) (by rfl) (by rfl) (setRow_heap _ _ _ _ 57 (0, 0) HZ2.out) Try.underlying57 rfl infoRS) rfl ?_
  have hz : Below w.heap.size w (V2.setRow (R + 1 + 1) #[.int .i64 hold, .int .u64 sq, .slice p1 n1 c1, .slice p2 n2 c2, .slice p3 n c3, .int .u64 gr, .int .u64 la.sq, .int .i64 la.kd, .int .i64 la.sd, .int .i64 la.pr, .int .u64 la.qt, .int .i64 la.ct]) := setRow_below (btr HB.out BV2.out) (by have := HR.out; omega)
  have hd := (HRD.out.on (btr HB.out BV2.out))
  refine ⟨_, rfl, p1, c1, p2, c2, p3, c3, by rw [HN.out, HN1.out, HN2.out], ?_, Fr.refl _ _, Fr.refl _ _, Fr.refl _ _, hz⟩
  exact hd.kept (setRow_kp _ _ _) (fun g hg e => by obtain ⟨cu, hc⟩ := hd.o1.ty hg; exact row_ne hc HZ2.out (by decide) e) (fun g hg e => by obtain ⟨cu, hc⟩ := hd.o2.ty hg; exact row_ne hc HZ2.out (by decide) e) (fun g hg e => by obtain ⟨cu, hc⟩ := hd.o3.ty hg; exact row_ne hc HZ2.out (by decide) e)
theorem rtake_full (hold : Nat) (hh : hold ≤ 1024) (sq gr : Int) (l1 l2 : List Lv) (L : List Dm) (la d : Dm) (hg : Sg hold ⟨sq, gr, l1, l2, L, la⟩) (hq : 0 ≤ d.sq ∧ d.sq < 18446744073709551616) (p1 p2 p3 : Option Addr) (c1 c2 c3 : Nat) (w : World) (h : Rd w ⟨sq, gr, l1, l2, L, la⟩ p1 c1 p2 c2 p3 c3) (hok : dOk d = true) (hx : hasN L d.sq = false) (hlt : sq < d.sq) (hgap : ¬ d.sq = sq + 1) (hr : ¬ L.length < hold) :
    Calls Try.prog 35 #[.agg #[.int .i64 hold, .int .u64 sq, .slice p1 l1.length c1, .slice p2 l2.length c2, .slice p3 L.length c3, .int .u64 gr, .int .u64 la.sq, .int .i64 la.kd, .int .i64 la.sd, .int .i64 la.pr, .int .u64 la.qt, .int .i64 la.ct], .agg #[.int .u64 d.sq, .int .i64 d.kd, .int .i64 d.sd, .int .i64 d.pr, .int .u64 d.qt, .int .i64 d.ct]] w fun e w' => ∃ v, e = .returned (.tuple #[v, .int .i64 181]) ∧ Rb w hold ⟨sq, max gr d.sq, l1, l2, L, la⟩ p1 p2 p3 v w' := by
  obtain ⟨n1, hn1⟩ : ∃ n, l1.length = n := ⟨_, rfl⟩
  obtain ⟨n2, hn2⟩ : ∃ n, l2.length = n := ⟨_, rfl⟩
  obtain ⟨n, hn⟩ : ∃ n, L.length = n := ⟨_, rfl⟩
  rw [hn1, hn2, hn]
  obtain ⟨R, hR⟩ : ∃ R, w.heap.size = R := ⟨_, rfl⟩
  obtain ⟨W, hW⟩ : ∃ W, ((w.alloc (.cells #[.int .i64 hold, .int .u64 sq, .slice p1 n1 c1, .slice p2 n2 c2, .slice p3 n c3, .int .u64 gr, .int .u64 la.sq, .int .i64 la.kd, .int .i64 la.sd, .int .i64 la.pr, .int .u64 la.qt, .int .i64 la.ct] 57)).alloc (.cells #[.int .u64 d.sq, .int .i64 d.kd, .int .i64 d.sd, .int .i64 d.pr, .int .u64 d.qt, .int .i64 d.ct] 48)).alloc (.cells #[.int .i64 0, .int .u64 0, .slice none 0 0, .slice none 0 0, .slice none 0 0, .int .u64 0, .int .u64 0, .int .i64 0, .int .i64 0, .int .i64 0, .int .u64 0, .int .i64 0] 57) = W := ⟨_, rfl⟩
  obtain ⟨hb0, x0, x1, x2⟩ := alloc3 hR hW
  have HB := hid hb0
  have HRO := hid x0
  have HDO := hid x1
  have HZO := hid x2
  have HRD := hid h
  have HG := hid hg
  have HW := hid hW
  have HR := hid hR
  have HN := hid hn
  have HN1 := hid hn1
  have HN2 := hid hn2
  have CM := hid (fun U => message_any d U)
  rw [hok] at CM
  have hsq := hg.sq
  dsimp only at hsq
  have hn1024 : n ≤ 1024 := by have := hg.len; dsimp only at this; omega
  have CH := hid (fun (U : World) (hU : Below w.heap.size w U) => rheld_any hold sq gr d.sq n1 n2 c1 c2 c3 0 p1 p2 p3 L la U (h.on hU).o3)
  rw [hn] at CH
  rw [hix_no hx, show hixI none = -1 from rfl] at CH
  rw [hn] at hr
  have w1 : IntKind.u64.wrap (sq + 1) = sq + 1 := by rw [IntKind.wrap_u64]; omega
  have g4 : (d.sq != sq + 1) = true := by simpa using hgap
  have g5 : decide ((n : Int) < (hold : Int)) = false := by simp; omega
  obtain ⟨j0, j1, j2, j3, j4, j5⟩ := row6 HDO.out
  clear hb0 x0 x1 x2 h hg hW hR hn hn1 hn2 hok
  go_enter Try.func35, Try.ntmps35
  go_upto_region 1 with fail
  rw [HW.out, HR.out]
  go_upto_region 3 with (go_at_call 31; with_reducible refine (CM.out _).mono ?_; rintro e V1 ⟨rfl, hb⟩; have BV1 := hid hb; have HRO1 := hid (row_on HRO.out hb); have HDO1 := hid (row_on HDO.out hb); have HZ1 := hid (row_on HZO.out hb); have CHW := hid (CH.out V1 (btr HB.out hb)); clear hb)
  obtain ⟨k0, k1, k2, k3, k4, k5, k6, k7, k8, k9, k10, k11⟩ := row12c HRO1.out
  clear j0 j1 j2 j3 j4 j5
  obtain ⟨j0, j1, j2, j3, j4, j5⟩ := row6 HDO1.out
  have g1 : decide (d.sq ≤ sq) = false := by simp; omega
  have g2 : ¬ d.sq ≤ sq := by omega
  go_upto_region 5 with (go_at_call 55; with_reducible refine (CHW.out).mono ?_; rintro e V2 ⟨rfl, hb⟩; have BV2 := hid (btr BV1.out hb); have HRO2 := hid (row_on HRO1.out hb); have HDO2 := hid (row_on HDO1.out hb); have HZ2 := hid (row_on HZ1.out hb); clear hb)
  clear k0 k1 k2 k3 k4 k5 k6 k7 k8 k9 k10 k11 j0 j1 j2 j3 j4 j5
  obtain ⟨k0, k1, k2, k3, k4, k5, k6, k7, k8, k9, k10, k11⟩ := row12c HRO2.out
  obtain ⟨j0, j1, j2, j3, j4, j5⟩ := row6 HDO2.out
  by_cases hgr : gr < d.sq
  · have HGR := hid (show max gr d.sq = d.sq from by omega)
    have fz := row_frz HRO2.out 5
    go_upto_region 7 with fail
    obtain ⟨V3, hV3⟩ : ∃ V, V2.setCell ⟨R, 5, none⟩ (.int .u64 d.sq) = V := ⟨_, rfl⟩
    have K3 := hid (show Kp (fun j => j = R) V2 V3 from by rw [← hV3]; exact Kp.set _ _ _ _)
    have HRO3 := hid (show V3.heap[R]? = some (.cells #[.int .i64 hold, .int .u64 sq, .slice p1 n1 c1, .slice p2 n2 c2, .slice p3 n c3, .int .u64 (max gr d.sq), .int .u64 la.sq, .int .i64 la.kd, .int .i64 la.sd, .int .i64 la.pr, .int .u64 la.qt, .int .i64 la.ct] 57 (0, 0)) from by rw [HGR.out, ← hV3]; exact set_row _ HRO2.out)
    rw [hV3]
    clear hV3 fz hgr
    have HDO3 := hid (K3.out.row HDO2.out (fun e => by have e' : R + 1 = R := e; omega))
    have HZ3 := hid (K3.out.row HZ2.out (fun e => by have e' : R + 1 + 1 = R := e; omega))
    have HB3 := hid (show Below w.heap.size w V3 from (btr HB.out BV2.out).trans (K3.out.below (btr HB.out BV2.out).size (fun g hg e => by have := HR.out; omega)))
    obtain ⟨G, hG⟩ : ∃ G, max gr d.sq = G := ⟨_, rfl⟩
    rw [hG] at HRO3
    have HGG := hid hG
    clear hG k0 k1 k2 k3 k4 k5 k6 k7 k8 k9 k10 k11 j0 j1 j2 j3 j4 j5
    obtain ⟨k0, k1, k2, k3, k4, k5, k6, k7, k8, k9, k10, k11⟩ := row12c HRO3.out
    obtain ⟨j0, j1, j2, j3, j4, j5⟩ := row6 HDO3.out
    go_upto_region 10 with fail
    have AS := hid (show (#[.int .i64 0, .int .u64 0, .slice none 0 0, .slice none 0 0, .slice none 0 0, .int .u64 0, .int .u64 0, .int .i64 0, .int .i64 0, .int .i64 0, .int .u64 0, .int .i64 0] : Array Value).size = (#[.int .i64 hold, .int .u64 sq, .slice p1 n1 c1, .slice p2 n2 c2, .slice p3 n c3, .int .u64 G, .int .u64 la.sq, .int .i64 la.kd, .int .i64 la.sd, .int .i64 la.pr, .int .u64 la.qt, .int .i64 la.ct] : Array Value).size from rfl)
    have AA := hid (show (#[.int .i64 hold, .int .u64 sq, .slice p1 n1 c1, .slice p2 n2 c2, .slice p3 n c3, .int .u64 G, .int .u64 la.sq, .int .i64 la.kd, .int .i64 la.sd, .int .i64 la.pr, .int .u64 la.qt, .int .i64 la.ct] : Array Value).all (·.oneCell') = true from by simp [Value.oneCell'])
    have AI := hid (infoRSa (.int .i64 hold) (.int .u64 sq) (.slice p1 n1 c1) (.slice p2 n2 c2) (.slice p3 n c3) (.int .u64 G) (.int .u64 la.sq) (.int .i64 la.kd) (.int .i64 la.sd) (.int .i64 la.pr) (.int .u64 la.qt) (.int .i64 la.ct))
    go_wp2_with (refine wpList_store_row (by rfl) 57 (.tmp 4) (.tmp 53) (by rfl) (R + 1 + 1) #[.int .i64 hold, .int .u64 sq, .slice p1 n1 c1, .slice p2 n2 c2, .slice p3 n c3, .int .u64 G, .int .u64 la.sq, .int .i64 la.kd, .int .i64 la.sd, .int .i64 la.pr, .int .u64 la.qt, .int .i64 la.ct] (by rfl) (by rfl) 57 _ HZ3.out AI.out AS.out AA.out ?_)
    refine bodyPost_ret (res_ct (fn := Try.f35) Try.results35 _ _ (R + 1 + 1) 57 #[.int .i64 hold, .int .u64 sq, .slice p1 n1 c1, .slice p2 n2 c2, .slice p3 n c3, .int .u64 G, .int .u64 la.sq, .int .i64 la.kd, .int .i64 la.sd, .int .i64 la.pr, .int .u64 la.qt, .int .i64 la.ct] (0, 0) _ (.int .i64 181) (by rfl) (by rfl) (setRow_heap _ _ _ _ 57 (0, 0) HZ3.out) Try.underlying57 rfl infoRS) rfl ?_
    have hz : Below w.heap.size w (V3.setRow (R + 1 + 1) #[.int .i64 hold, .int .u64 sq, .slice p1 n1 c1, .slice p2 n2 c2, .slice p3 n c3, .int .u64 G, .int .u64 la.sq, .int .i64 la.kd, .int .i64 la.sd, .int .i64 la.pr, .int .u64 la.qt, .int .i64 la.ct]) := setRow_below HB3.out (by have := HR.out; omega)
    have hd := (show Rd V3 ⟨sq, max gr d.sq, l1, l2, L, la⟩ p1 c1 p2 c2 p3 c3 from ⟨(HRD.out.on HB3.out).o1, (HRD.out.on HB3.out).o2, (HRD.out.on HB3.out).o3⟩)
    refine ⟨_, rfl, p1, c1, p2, c2, p3, c3, by rw [HGG.out, HN.out, HN1.out, HN2.out], ?_, Fr.refl _ _, Fr.refl _ _, Fr.refl _ _, hz⟩
    exact hd.kept (setRow_kp _ _ _) (fun g hg e => by obtain ⟨cu, hc⟩ := hd.o1.ty hg; exact row_ne hc HZ3.out (by decide) e) (fun g hg e => by obtain ⟨cu, hc⟩ := hd.o2.ty hg; exact row_ne hc HZ3.out (by decide) e) (fun g hg e => by obtain ⟨cu, hc⟩ := hd.o3.ty hg; exact row_ne hc HZ3.out (by decide) e)
  · have HGR := hid (show max gr d.sq = gr from by omega)
    have hgr' : decide (gr < d.sq) = false := by simpa using hgr
    go_upto_region 7 with fail
    obtain ⟨V3, hV3⟩ : ∃ V, V2 = V := ⟨_, rfl⟩
    have K3 := hid (show Kp (fun j => j = R) V2 V3 from by rw [← hV3]; exact Kp.refl _ _)
    have HRO3 := hid (show V3.heap[R]? = some (.cells #[.int .i64 hold, .int .u64 sq, .slice p1 n1 c1, .slice p2 n2 c2, .slice p3 n c3, .int .u64 (max gr d.sq), .int .u64 la.sq, .int .i64 la.kd, .int .i64 la.sd, .int .i64 la.pr, .int .u64 la.qt, .int .i64 la.ct] 57 (0, 0)) from by rw [HGR.out, ← hV3]; exact HRO2.out)
    rw [hV3]
    clear hV3 hgr hgr'
    have HDO3 := hid (K3.out.row HDO2.out (fun e => by have e' : R + 1 = R := e; omega))
    have HZ3 := hid (K3.out.row HZ2.out (fun e => by have e' : R + 1 + 1 = R := e; omega))
    have HB3 := hid (show Below w.heap.size w V3 from (btr HB.out BV2.out).trans (K3.out.below (btr HB.out BV2.out).size (fun g hg e => by have := HR.out; omega)))
    obtain ⟨G, hG⟩ : ∃ G, max gr d.sq = G := ⟨_, rfl⟩
    rw [hG] at HRO3
    have HGG := hid hG
    clear hG k0 k1 k2 k3 k4 k5 k6 k7 k8 k9 k10 k11 j0 j1 j2 j3 j4 j5
    obtain ⟨k0, k1, k2, k3, k4, k5, k6, k7, k8, k9, k10, k11⟩ := row12c HRO3.out
    obtain ⟨j0, j1, j2, j3, j4, j5⟩ := row6 HDO3.out
    go_upto_region 10 with fail
    have AS := hid (show (#[.int .i64 0, .int .u64 0, .slice none 0 0, .slice none 0 0, .slice none 0 0, .int .u64 0, .int .u64 0, .int .i64 0, .int .i64 0, .int .i64 0, .int .u64 0, .int .i64 0] : Array Value).size = (#[.int .i64 hold, .int .u64 sq, .slice p1 n1 c1, .slice p2 n2 c2, .slice p3 n c3, .int .u64 G, .int .u64 la.sq, .int .i64 la.kd, .int .i64 la.sd, .int .i64 la.pr, .int .u64 la.qt, .int .i64 la.ct] : Array Value).size from rfl)
    have AA := hid (show (#[.int .i64 hold, .int .u64 sq, .slice p1 n1 c1, .slice p2 n2 c2, .slice p3 n c3, .int .u64 G, .int .u64 la.sq, .int .i64 la.kd, .int .i64 la.sd, .int .i64 la.pr, .int .u64 la.qt, .int .i64 la.ct] : Array Value).all (·.oneCell') = true from by simp [Value.oneCell'])
    have AI := hid (infoRSa (.int .i64 hold) (.int .u64 sq) (.slice p1 n1 c1) (.slice p2 n2 c2) (.slice p3 n c3) (.int .u64 G) (.int .u64 la.sq) (.int .i64 la.kd) (.int .i64 la.sd) (.int .i64 la.pr) (.int .u64 la.qt) (.int .i64 la.ct))
    go_wp2_with (refine wpList_store_row (by rfl) 57 (.tmp 4) (.tmp 53) (by rfl) (R + 1 + 1) #[.int .i64 hold, .int .u64 sq, .slice p1 n1 c1, .slice p2 n2 c2, .slice p3 n c3, .int .u64 G, .int .u64 la.sq, .int .i64 la.kd, .int .i64 la.sd, .int .i64 la.pr, .int .u64 la.qt, .int .i64 la.ct] (by rfl) (by rfl) 57 _ HZ3.out AI.out AS.out AA.out ?_)
    refine bodyPost_ret (res_ct (fn := Try.f35) Try.results35 _ _ (R + 1 + 1) 57 #[.int .i64 hold, .int .u64 sq, .slice p1 n1 c1, .slice p2 n2 c2, .slice p3 n c3, .int .u64 G, .int .u64 la.sq, .int .i64 la.kd, .int .i64 la.sd, .int .i64 la.pr, .int .u64 la.qt, .int .i64 la.ct] (0, 0) _ (.int .i64 181) (by rfl) (by rfl) (setRow_heap _ _ _ _ 57 (0, 0) HZ3.out) Try.underlying57 rfl infoRS) rfl ?_
    have hz : Below w.heap.size w (V3.setRow (R + 1 + 1) #[.int .i64 hold, .int .u64 sq, .slice p1 n1 c1, .slice p2 n2 c2, .slice p3 n c3, .int .u64 G, .int .u64 la.sq, .int .i64 la.kd, .int .i64 la.sd, .int .i64 la.pr, .int .u64 la.qt, .int .i64 la.ct]) := setRow_below HB3.out (by have := HR.out; omega)
    have hd := (show Rd V3 ⟨sq, max gr d.sq, l1, l2, L, la⟩ p1 c1 p2 c2 p3 c3 from ⟨(HRD.out.on HB3.out).o1, (HRD.out.on HB3.out).o2, (HRD.out.on HB3.out).o3⟩)
    refine ⟨_, rfl, p1, c1, p2, c2, p3, c3, by rw [HGG.out, HN.out, HN1.out, HN2.out], ?_, Fr.refl _ _, Fr.refl _ _, Fr.refl _ _, hz⟩
    exact hd.kept (setRow_kp _ _ _) (fun g hg e => by obtain ⟨cu, hc⟩ := hd.o1.ty hg; exact row_ne hc HZ3.out (by decide) e) (fun g hg e => by obtain ⟨cu, hc⟩ := hd.o2.ty hg; exact row_ne hc HZ3.out (by decide) e) (fun g hg e => by obtain ⟨cu, hc⟩ := hd.o3.ty hg; exact row_ne hc HZ3.out (by decide) e)
theorem rtake_gap (hold : Nat) (hh : hold ≤ 1024) (sq gr : Int) (l1 l2 : List Lv) (L : List Dm) (la d : Dm) (hg : Sg hold ⟨sq, gr, l1, l2, L, la⟩) (hq : 0 ≤ d.sq ∧ d.sq < 18446744073709551616) (p1 p2 p3 : Option Addr) (c1 c2 c3 : Nat) (w : World) (h : Rd w ⟨sq, gr, l1, l2, L, la⟩ p1 c1 p2 c2 p3 c3) (hok : dOk d = true) (hx : hasN L d.sq = false) (hlt : sq < d.sq) (hgap : ¬ d.sq = sq + 1) (hr : L.length < hold) :
    Calls Try.prog 35 #[.agg #[.int .i64 hold, .int .u64 sq, .slice p1 l1.length c1, .slice p2 l2.length c2, .slice p3 L.length c3, .int .u64 gr, .int .u64 la.sq, .int .i64 la.kd, .int .i64 la.sd, .int .i64 la.pr, .int .u64 la.qt, .int .i64 la.ct], .agg #[.int .u64 d.sq, .int .i64 d.kd, .int .i64 d.sd, .int .i64 d.pr, .int .u64 d.qt, .int .i64 d.ct]] w fun e w' => ∃ v, e = .returned (.tuple #[v, .int .i64 181]) ∧ Rb w hold ⟨sq, max gr d.sq, l1, l2, L ++ [d], la⟩ p1 p2 p3 v w' := by
  obtain ⟨n1, hn1⟩ : ∃ n, l1.length = n := ⟨_, rfl⟩
  obtain ⟨n2, hn2⟩ : ∃ n, l2.length = n := ⟨_, rfl⟩
  obtain ⟨n, hn⟩ : ∃ n, L.length = n := ⟨_, rfl⟩
  rw [hn1, hn2, hn]
  obtain ⟨R, hR⟩ : ∃ R, w.heap.size = R := ⟨_, rfl⟩
  obtain ⟨W, hW⟩ : ∃ W, ((w.alloc (.cells #[.int .i64 hold, .int .u64 sq, .slice p1 n1 c1, .slice p2 n2 c2, .slice p3 n c3, .int .u64 gr, .int .u64 la.sq, .int .i64 la.kd, .int .i64 la.sd, .int .i64 la.pr, .int .u64 la.qt, .int .i64 la.ct] 57)).alloc (.cells #[.int .u64 d.sq, .int .i64 d.kd, .int .i64 d.sd, .int .i64 d.pr, .int .u64 d.qt, .int .i64 d.ct] 48)).alloc (.cells #[.int .i64 0, .int .u64 0, .slice none 0 0, .slice none 0 0, .slice none 0 0, .int .u64 0, .int .u64 0, .int .i64 0, .int .i64 0, .int .i64 0, .int .u64 0, .int .i64 0] 57) = W := ⟨_, rfl⟩
  obtain ⟨hb0, x0, x1, x2⟩ := alloc3 hR hW
  have HB := hid hb0
  have HRO := hid x0
  have HDO := hid x1
  have HZO := hid x2
  have HRD := hid h
  have HG := hid hg
  have HW := hid hW
  have HR := hid hR
  have HN := hid hn
  have HN1 := hid hn1
  have HN2 := hid hn2
  have CM := hid (fun U => message_any d U)
  rw [hok] at CM
  have hsq := hg.sq
  dsimp only at hsq
  have hn1024 : n ≤ 1024 := by have := hg.len; dsimp only at this; omega
  have CH := hid (fun (U : World) (hU : Below w.heap.size w U) => rheld_any hold sq gr d.sq n1 n2 c1 c2 c3 0 p1 p2 p3 L la U (h.on hU).o3)
  rw [hn] at CH
  rw [hix_no hx, show hixI none = -1 from rfl] at CH
  rw [hn] at hr
  have w1 : IntKind.u64.wrap (sq + 1) = sq + 1 := by rw [IntKind.wrap_u64]; omega
  have g4 : (d.sq != sq + 1) = true := by simpa using hgap
  have g5 : decide ((n : Int) < (hold : Int)) = true := by simp; omega
  have g6 : n < hold := by omega
  obtain ⟨j0, j1, j2, j3, j4, j5⟩ := row6 HDO.out
  clear hb0 x0 x1 x2 h hg hW hR hn hn1 hn2 hok
  go_enter Try.func35, Try.ntmps35
  go_upto_region 1 with fail
  rw [HW.out, HR.out]
  go_upto_region 3 with (go_at_call 31; with_reducible refine (CM.out _).mono ?_; rintro e V1 ⟨rfl, hb⟩; have BV1 := hid hb; have HRO1 := hid (row_on HRO.out hb); have HDO1 := hid (row_on HDO.out hb); have HZ1 := hid (row_on HZO.out hb); have CHW := hid (CH.out V1 (btr HB.out hb)); clear hb)
  obtain ⟨k0, k1, k2, k3, k4, k5, k6, k7, k8, k9, k10, k11⟩ := row12c HRO1.out
  clear j0 j1 j2 j3 j4 j5
  obtain ⟨j0, j1, j2, j3, j4, j5⟩ := row6 HDO1.out
  have g1 : decide (d.sq ≤ sq) = false := by simp; omega
  have g2 : ¬ d.sq ≤ sq := by omega
  go_upto_region 5 with (go_at_call 55; with_reducible refine (CHW.out).mono ?_; rintro e V2 ⟨rfl, hb⟩; have BV2 := hid (btr BV1.out hb); have HRO2 := hid (row_on HRO1.out hb); have HDO2 := hid (row_on HDO1.out hb); have HZ2 := hid (row_on HZ1.out hb); clear hb)
  clear k0 k1 k2 k3 k4 k5 k6 k7 k8 k9 k10 k11 j0 j1 j2 j3 j4 j5
  obtain ⟨k0, k1, k2, k3, k4, k5, k6, k7, k8, k9, k10, k11⟩ := row12c HRO2.out
  obtain ⟨j0, j1, j2, j3, j4, j5⟩ := row6 HDO2.out
  by_cases hgr : gr < d.sq
  · have HGR := hid (show max gr d.sq = d.sq from by omega)
    have fz := row_frz HRO2.out 5
    go_upto_region 7 with fail
    obtain ⟨V3, hV3⟩ : ∃ V, V2.setCell ⟨R, 5, none⟩ (.int .u64 d.sq) = V := ⟨_, rfl⟩
    have K3 := hid (show Kp (fun j => j = R) V2 V3 from by rw [← hV3]; exact Kp.set _ _ _ _)
    have HRO3 := hid (show V3.heap[R]? = some (.cells #[.int .i64 hold, .int .u64 sq, .slice p1 n1 c1, .slice p2 n2 c2, .slice p3 n c3, .int .u64 (max gr d.sq), .int .u64 la.sq, .int .i64 la.kd, .int .i64 la.sd, .int .i64 la.pr, .int .u64 la.qt, .int .i64 la.ct] 57 (0, 0)) from by rw [HGR.out, ← hV3]; exact set_row _ HRO2.out)
    rw [hV3]
    clear hV3 fz hgr
    have HDO3 := hid (K3.out.row HDO2.out (fun e => by have e' : R + 1 = R := e; omega))
    have HZ3 := hid (K3.out.row HZ2.out (fun e => by have e' : R + 1 + 1 = R := e; omega))
    have HB3 := hid (show Below w.heap.size w V3 from (btr HB.out BV2.out).trans (K3.out.below (btr HB.out BV2.out).size (fun g hg e => by have := HR.out; omega)))
    obtain ⟨G, hG⟩ : ∃ G, max gr d.sq = G := ⟨_, rfl⟩
    rw [hG] at HRO3
    have HGG := hid hG
    clear hG k0 k1 k2 k3 k4 k5 k6 k7 k8 k9 k10 k11 j0 j1 j2 j3 j4 j5
    obtain ⟨k0, k1, k2, k3, k4, k5, k6, k7, k8, k9, k10, k11⟩ := row12c HRO3.out
    obtain ⟨j0, j1, j2, j3, j4, j5⟩ := row6 HDO3.out
    have HLB := hid (show ∀ U, Below V3.heap.size V3 U → U.ownsRow 0 48 6 (.slice p3 n c3) n (dvc L) from fun U hU => by
      have h1 := (HRD.out.on (btr HB3.out hU)).o3
      unfold Dw at h1
      dsimp only at h1
      rw [HN.out] at h1
      exact h1)
    have sR : R < V3.heap.size := row_lt HRO3.out
    have sR1 : R + 1 < V3.heap.size := row_lt HDO3.out
    have fz := row_frz HRO3.out 4
    have B1 := hid (show Below V3.heap.size V3 ((V3.alloc (.cells #[] 48)).drew) from btr (ball _ _) (bdrew1 _))
    have B2 := hid (show Below V3.heap.size V3 (((V3.alloc (.cells #[] 48)).alloc (.cells #[.int .u64 d.sq, .int .i64 d.kd, .int .i64 d.sd, .int .i64 d.pr, .int .u64 d.qt, .int .i64 d.ct] 48)).drew) from btr (btr (ball _ _) (ball _ _)) (bdrew1 _))
    have B3 := hid (show Below V3.heap.size V3 (((V3.alloc (.cells #[.int .u64 d.sq, .int .i64 d.kd, .int .i64 d.sd, .int .i64 d.pr, .int .u64 d.qt, .int .i64 d.ct] 48)).alloc (.cells #[] 48)).drew) from btr (btr (ball _ _) (ball _ _)) (bdrew1 _))
    have O1 := hid (show ((V3.alloc (.cells #[] 48)).drew).ownsRow V3.heap.size 48 6 (.slice (some ⟨V3.heap.size, 0, none⟩) 0 0) 0 (dvc []) from own_on (own_d0 V3) (bdrew1 _))
    have O2 := hid (show (((V3.alloc (.cells #[] 48)).alloc (.cells #[.int .u64 d.sq, .int .i64 d.kd, .int .i64 d.sd, .int .i64 d.pr, .int .u64 d.qt, .int .i64 d.ct] 48)).drew).ownsRow V3.heap.size 48 6 (.slice (some ⟨V3.heap.size, 0, none⟩) 0 0) 0 (dvc []) from own_on (own_d0 V3) (btr (ball _ _) (bdrew1 _)))
    have O3 := hid (show (((V3.alloc (.cells #[.int .u64 d.sq, .int .i64 d.kd, .int .i64 d.sd, .int .i64 d.pr, .int .u64 d.qt, .int .i64 d.ct] 48)).alloc (.cells #[] 48)).drew).ownsRow V3.heap.size 48 6 (.slice (some ⟨V3.heap.size + 1, 0, none⟩) 0 0) 0 (dvc []) from by
      have := own_on (own_d0 (V3.alloc (.cells #[.int .u64 d.sq, .int .i64 d.kd, .int .i64 d.sd, .int .i64 d.pr, .int .u64 d.qt, .int .i64 d.ct] 48))) (bdrew1 _)
      rw [show (V3.alloc (.cells #[.int .u64 d.sq, .int .i64 d.kd, .int .i64 d.sd, .int .i64 d.pr, .int .u64 d.qt, .int .i64 d.ct] 48)).heap.size = V3.heap.size + 1 from by simp] at this
      exact own_base this (by omega))
    have X2 := hid (show (((V3.alloc (.cells #[] 48)).alloc (.cells #[.int .u64 d.sq, .int .i64 d.kd, .int .i64 d.sd, .int .i64 d.pr, .int .u64 d.qt, .int .i64 d.ct] 48)).drew).ownsRow 0 48 6 (.slice (some ⟨V3.heap.size + 1, 0, none⟩) 1 1) 1 (dvc [d]) from by
      have := own_on (own_d1 (V3.alloc (.cells #[] 48)) d) (bdrew1 _)
      rw [show (V3.alloc (.cells #[] 48)).heap.size = V3.heap.size + 1 from by simp] at this
      exact own_base this (by omega))
    have X3 := hid (show (((V3.alloc (.cells #[.int .u64 d.sq, .int .i64 d.kd, .int .i64 d.sd, .int .i64 d.pr, .int .u64 d.qt, .int .i64 d.ct] 48)).alloc (.cells #[] 48)).drew).ownsRow 0 48 6 (.slice (some ⟨V3.heap.size, 0, none⟩) 1 1) 1 (dvc [d]) from own_base (own_on (own_d1 V3 d) (btr (ball _ _) (bdrew1 _))) (Nat.zero_le _))
    have Q1 := hid (own_rd (HLB.out _ B1.out))
    have Q2 := hid (own_rd (HLB.out _ B2.out))
    have Q3 := hid (own_rd (HLB.out _ B3.out))
    have QN := hid (show p3 = none → n = 0 ∧ c3 = 0 from (own_cap (HLB.out _ B1.out)).2.2)
    obtain ⟨nk, hnk⟩ : ∃ k, (L ++ [d]).length = k := ⟨_, rfl⟩
    have hnk1 : n + 1 = nk := by rw [← hnk, List.length_append, HN.out]; rfl
    have HNK := hid hnk
    clear hnk
    go_upto_region 9 with fail
    go_region_law (first | (refine step_dw (by rfl) (.tmp 45) (.tmp 47) (by rfl) V3.heap.size _ 0 [] (by rfl) O1.out p3 c3 n L (by rfl) QN.out HN.out Q1.out n (by omega) L rfl (by omega) B1.out.size ?_; intro pa ca wa HA1 HA2; have VA := hid (below_grown (base := 0) B1.out O1.out HA2.out); obtain ⟨f0, f1, f2, f3, f4, f5⟩ := row6 (row_on HDO3.out VA.out)) | (refine step_dw (by rfl) (.tmp 45) (.tmp 47) (by rfl) V3.heap.size _ 0 [] (by rfl) O2.out p3 c3 n L (by rfl) QN.out HN.out Q2.out n (by omega) L rfl (by omega) B2.out.size ?_; intro pa ca wa HA1 HA2; have VA := hid (below_grown (base := 0) B2.out O2.out HA2.out); obtain ⟨f0, f1, f2, f3, f4, f5⟩ := row6 (row_on HDO3.out VA.out); have QX := hid (own_grD X2.out HA2.out (fun k hk => by cases hk; simp [Value.ownBlock]))) | (refine step_dw (by rfl) (.tmp 45) (.tmp 47) (by rfl) V3.heap.size _ 0 [] (by rfl) O3.out p3 c3 n L (by rfl) QN.out HN.out Q3.out n (by omega) L rfl (by omega) B3.out.size ?_; intro pa ca wa HA1 HA2; have VA := hid (below_grown (base := 0) B3.out O3.out HA2.out); obtain ⟨f0, f1, f2, f3, f4, f5⟩ := row6 (row_on HDO3.out VA.out); have QX := hid (own_grD X3.out HA2.out (fun k hk => by cases hk; simp [Value.ownBlock]))) | (refine step_dw (by rfl) (.tmp 48) (.tmp 50) (by rfl) V3.heap.size _ n L (by rfl) HA1.out _ _ 1 [d] (by rfl) (fun e => by cases e) rfl (own_rd QX.out) nk hnk1 (L ++ [d]) rfl (by omega) VA.out.size ?_; intro pb cb wb HB1 HB2; have VB := hid (below_grown (base := 0) VA.out HA1.out HB2.out); have e4 := row_cell (row_on HRO3.out VB.out) 4; have fzb := row_frz (row_on HRO3.out VB.out) 4) | (refine step_dw (by rfl) (.tmp 48) (.tmp 50) (by rfl) V3.heap.size _ n L (by rfl) (own_on HA1.out (ball _ _)) _ _ 1 [d] (by rfl) (fun e => by cases e) rfl (own_rd (own_d1 wa d)) nk hnk1 (L ++ [d]) rfl (by omega) (Nat.le_trans VA.out.size (ball _ _).size) ?_; intro pb cb wb HB1 HB2; have VB := hid (below_grown (base := 0) (btr VA.out (ball _ _)) (own_on HA1.out (ball _ _)) HB2.out); have e4 := row_cell (row_on HRO3.out VB.out) 4; have fzb := row_frz (row_on HRO3.out VB.out) 4))
    all_goals
      clear k0 k1 k2 k3 k4 k5 k6 k7 k8 k9 k10 k11 j0 j1 j2 j3 j4 j5 fz fzb e4 f0 f1 f2 f3 f4 f5
      obtain ⟨V5, hV5⟩ : ∃ V, wb.setCell ⟨R, 4, none⟩ (.slice pb nk cb) = V := ⟨_, rfl⟩
      have HR5 := hid (show V5.heap[R]? = some (.cells #[.int .i64 hold, .int .u64 sq, .slice p1 n1 c1, .slice p2 n2 c2, .slice pb nk cb, .int .u64 G, .int .u64 la.sq, .int .i64 la.kd, .int .i64 la.sd, .int .i64 la.pr, .int .u64 la.qt, .int .i64 la.ct] 57 (0, 0)) from by rw [← hV5]; exact set_row _ (row_on HRO3.out VB.out))
      have K5 := hid (show Kp (fun j => j = R) wb V5 from by rw [← hV5]; exact Kp.set _ _ _ _)
      have HZ5 := hid (K5.out.row (row_on HZ3.out VB.out) (fun e => by have e' : R + 1 + 1 = R := e; omega))
      have HB5 := hid (show Below w.heap.size w V5 from (btr HB3.out VB.out).trans (K5.out.below (btr HB3.out VB.out).size (fun g hg e => by have := HR.out; omega)))
      have HRD5 := hid (show Rd V5 ⟨sq, G, l1, l2, L ++ [d], la⟩ p1 c1 p2 c2 pb cb from by
        have hd := HRD.out.on (btr HB3.out VB.out)
        have hw : Dw 0 wb pb cb (L ++ [d]) := by
          unfold Dw
          rw [HNK.out]
          exact own_base HB1.out (Nat.zero_le _)
        have hRb := row_on HRO3.out VB.out
        exact ⟨hd.o1.kept K5.out (fun g hg e => by obtain ⟨cu, hc⟩ := hd.o1.ty hg; exact row_ne hc hRb (by decide) e), hd.o2.kept K5.out (fun g hg e => by obtain ⟨cu, hc⟩ := hd.o2.ty hg; exact row_ne hc hRb (by decide) e), hw.kept K5.out (fun g hg e => by obtain ⟨cu, hc⟩ := hw.ty hg; exact row_ne hc hRb (by decide) e)⟩)
      have HPB := hid (show Fr w.heap.size p3 pb from fun g hg => .inr (Nat.le_trans HB3.out.size (own_geP HB1.out hg)))
      rw [hV5]
      clear hV5
      obtain ⟨k0, k1, k2, k3, k4, k5, k6, k7, k8, k9, k10, k11⟩ := row12c HR5.out
      go_upto_region 10 with fail
      have AS := hid (show (#[.int .i64 0, .int .u64 0, .slice none 0 0, .slice none 0 0, .slice none 0 0, .int .u64 0, .int .u64 0, .int .i64 0, .int .i64 0, .int .i64 0, .int .u64 0, .int .i64 0] : Array Value).size = (#[.int .i64 hold, .int .u64 sq, .slice p1 n1 c1, .slice p2 n2 c2, .slice pb nk cb, .int .u64 G, .int .u64 la.sq, .int .i64 la.kd, .int .i64 la.sd, .int .i64 la.pr, .int .u64 la.qt, .int .i64 la.ct] : Array Value).size from rfl)
      have AA := hid (show (#[.int .i64 hold, .int .u64 sq, .slice p1 n1 c1, .slice p2 n2 c2, .slice pb nk cb, .int .u64 G, .int .u64 la.sq, .int .i64 la.kd, .int .i64 la.sd, .int .i64 la.pr, .int .u64 la.qt, .int .i64 la.ct] : Array Value).all (·.oneCell') = true from by simp [Value.oneCell'])
      have AI := hid (infoRSa (.int .i64 hold) (.int .u64 sq) (.slice p1 n1 c1) (.slice p2 n2 c2) (.slice pb nk cb) (.int .u64 G) (.int .u64 la.sq) (.int .i64 la.kd) (.int .i64 la.sd) (.int .i64 la.pr) (.int .u64 la.qt) (.int .i64 la.ct))
      go_wp2_with (refine wpList_store_row (by rfl) 57 (.tmp 4) (.tmp 53) (by rfl) (R + 1 + 1) #[.int .i64 hold, .int .u64 sq, .slice p1 n1 c1, .slice p2 n2 c2, .slice pb nk cb, .int .u64 G, .int .u64 la.sq, .int .i64 la.kd, .int .i64 la.sd, .int .i64 la.pr, .int .u64 la.qt, .int .i64 la.ct] (by rfl) (by rfl) 57 _ HZ5.out AI.out AS.out AA.out ?_)
      refine bodyPost_ret (res_ct (fn := Try.f35) Try.results35 _ _ (R + 1 + 1) 57 #[.int .i64 hold, .int .u64 sq, .slice p1 n1 c1, .slice p2 n2 c2, .slice pb nk cb, .int .u64 G, .int .u64 la.sq, .int .i64 la.kd, .int .i64 la.sd, .int .i64 la.pr, .int .u64 la.qt, .int .i64 la.ct] (0, 0) _ (.int .i64 181) (by rfl) (by rfl) (setRow_heap _ _ _ _ 57 (0, 0) HZ5.out) Try.underlying57 rfl infoRS) rfl ?_
      have hz : Below w.heap.size w (V5.setRow (R + 1 + 1) #[.int .i64 hold, .int .u64 sq, .slice p1 n1 c1, .slice p2 n2 c2, .slice pb nk cb, .int .u64 G, .int .u64 la.sq, .int .i64 la.kd, .int .i64 la.sd, .int .i64 la.pr, .int .u64 la.qt, .int .i64 la.ct]) := setRow_below HB5.out (by have := HR.out; omega)
      have hd := HRD5.out
      refine ⟨_, rfl, p1, c1, p2, c2, pb, cb, by rw [HGG.out, HNK.out, HN1.out, HN2.out], ?_, Fr.refl _ _, Fr.refl _ _, HPB.out, hz⟩
      exact (by rw [HGG.out]; exact hd.kept (setRow_kp _ _ _) (fun g hg e => by obtain ⟨cu, hc⟩ := hd.o1.ty hg; exact row_ne hc HZ5.out (by decide) e) (fun g hg e => by obtain ⟨cu, hc⟩ := hd.o2.ty hg; exact row_ne hc HZ5.out (by decide) e) (fun g hg e => by obtain ⟨cu, hc⟩ := hd.o3.ty hg; exact row_ne hc HZ5.out (by decide) e))
  · have HGR := hid (show max gr d.sq = gr from by omega)
    have hgr' : decide (gr < d.sq) = false := by simpa using hgr
    go_upto_region 7 with fail
    obtain ⟨V3, hV3⟩ : ∃ V, V2 = V := ⟨_, rfl⟩
    have K3 := hid (show Kp (fun j => j = R) V2 V3 from by rw [← hV3]; exact Kp.refl _ _)
    have HRO3 := hid (show V3.heap[R]? = some (.cells #[.int .i64 hold, .int .u64 sq, .slice p1 n1 c1, .slice p2 n2 c2, .slice p3 n c3, .int .u64 (max gr d.sq), .int .u64 la.sq, .int .i64 la.kd, .int .i64 la.sd, .int .i64 la.pr, .int .u64 la.qt, .int .i64 la.ct] 57 (0, 0)) from by rw [HGR.out, ← hV3]; exact HRO2.out)
    rw [hV3]
    clear hV3 hgr hgr'
    have HDO3 := hid (K3.out.row HDO2.out (fun e => by have e' : R + 1 = R := e; omega))
    have HZ3 := hid (K3.out.row HZ2.out (fun e => by have e' : R + 1 + 1 = R := e; omega))
    have HB3 := hid (show Below w.heap.size w V3 from (btr HB.out BV2.out).trans (K3.out.below (btr HB.out BV2.out).size (fun g hg e => by have := HR.out; omega)))
    obtain ⟨G, hG⟩ : ∃ G, max gr d.sq = G := ⟨_, rfl⟩
    rw [hG] at HRO3
    have HGG := hid hG
    clear hG k0 k1 k2 k3 k4 k5 k6 k7 k8 k9 k10 k11 j0 j1 j2 j3 j4 j5
    obtain ⟨k0, k1, k2, k3, k4, k5, k6, k7, k8, k9, k10, k11⟩ := row12c HRO3.out
    obtain ⟨j0, j1, j2, j3, j4, j5⟩ := row6 HDO3.out
    have HLB := hid (show ∀ U, Below V3.heap.size V3 U → U.ownsRow 0 48 6 (.slice p3 n c3) n (dvc L) from fun U hU => by
      have h1 := (HRD.out.on (btr HB3.out hU)).o3
      unfold Dw at h1
      dsimp only at h1
      rw [HN.out] at h1
      exact h1)
    have sR : R < V3.heap.size := row_lt HRO3.out
    have sR1 : R + 1 < V3.heap.size := row_lt HDO3.out
    have fz := row_frz HRO3.out 4
    have B1 := hid (show Below V3.heap.size V3 ((V3.alloc (.cells #[] 48)).drew) from btr (ball _ _) (bdrew1 _))
    have B2 := hid (show Below V3.heap.size V3 (((V3.alloc (.cells #[] 48)).alloc (.cells #[.int .u64 d.sq, .int .i64 d.kd, .int .i64 d.sd, .int .i64 d.pr, .int .u64 d.qt, .int .i64 d.ct] 48)).drew) from btr (btr (ball _ _) (ball _ _)) (bdrew1 _))
    have B3 := hid (show Below V3.heap.size V3 (((V3.alloc (.cells #[.int .u64 d.sq, .int .i64 d.kd, .int .i64 d.sd, .int .i64 d.pr, .int .u64 d.qt, .int .i64 d.ct] 48)).alloc (.cells #[] 48)).drew) from btr (btr (ball _ _) (ball _ _)) (bdrew1 _))
    have O1 := hid (show ((V3.alloc (.cells #[] 48)).drew).ownsRow V3.heap.size 48 6 (.slice (some ⟨V3.heap.size, 0, none⟩) 0 0) 0 (dvc []) from own_on (own_d0 V3) (bdrew1 _))
    have O2 := hid (show (((V3.alloc (.cells #[] 48)).alloc (.cells #[.int .u64 d.sq, .int .i64 d.kd, .int .i64 d.sd, .int .i64 d.pr, .int .u64 d.qt, .int .i64 d.ct] 48)).drew).ownsRow V3.heap.size 48 6 (.slice (some ⟨V3.heap.size, 0, none⟩) 0 0) 0 (dvc []) from own_on (own_d0 V3) (btr (ball _ _) (bdrew1 _)))
    have O3 := hid (show (((V3.alloc (.cells #[.int .u64 d.sq, .int .i64 d.kd, .int .i64 d.sd, .int .i64 d.pr, .int .u64 d.qt, .int .i64 d.ct] 48)).alloc (.cells #[] 48)).drew).ownsRow V3.heap.size 48 6 (.slice (some ⟨V3.heap.size + 1, 0, none⟩) 0 0) 0 (dvc []) from by
      have := own_on (own_d0 (V3.alloc (.cells #[.int .u64 d.sq, .int .i64 d.kd, .int .i64 d.sd, .int .i64 d.pr, .int .u64 d.qt, .int .i64 d.ct] 48))) (bdrew1 _)
      rw [show (V3.alloc (.cells #[.int .u64 d.sq, .int .i64 d.kd, .int .i64 d.sd, .int .i64 d.pr, .int .u64 d.qt, .int .i64 d.ct] 48)).heap.size = V3.heap.size + 1 from by simp] at this
      exact own_base this (by omega))
    have X2 := hid (show (((V3.alloc (.cells #[] 48)).alloc (.cells #[.int .u64 d.sq, .int .i64 d.kd, .int .i64 d.sd, .int .i64 d.pr, .int .u64 d.qt, .int .i64 d.ct] 48)).drew).ownsRow 0 48 6 (.slice (some ⟨V3.heap.size + 1, 0, none⟩) 1 1) 1 (dvc [d]) from by
      have := own_on (own_d1 (V3.alloc (.cells #[] 48)) d) (bdrew1 _)
      rw [show (V3.alloc (.cells #[] 48)).heap.size = V3.heap.size + 1 from by simp] at this
      exact own_base this (by omega))
    have X3 := hid (show (((V3.alloc (.cells #[.int .u64 d.sq, .int .i64 d.kd, .int .i64 d.sd, .int .i64 d.pr, .int .u64 d.qt, .int .i64 d.ct] 48)).alloc (.cells #[] 48)).drew).ownsRow 0 48 6 (.slice (some ⟨V3.heap.size, 0, none⟩) 1 1) 1 (dvc [d]) from own_base (own_on (own_d1 V3 d) (btr (ball _ _) (bdrew1 _))) (Nat.zero_le _))
    have Q1 := hid (own_rd (HLB.out _ B1.out))
    have Q2 := hid (own_rd (HLB.out _ B2.out))
    have Q3 := hid (own_rd (HLB.out _ B3.out))
    have QN := hid (show p3 = none → n = 0 ∧ c3 = 0 from (own_cap (HLB.out _ B1.out)).2.2)
    obtain ⟨nk, hnk⟩ : ∃ k, (L ++ [d]).length = k := ⟨_, rfl⟩
    have hnk1 : n + 1 = nk := by rw [← hnk, List.length_append, HN.out]; rfl
    have HNK := hid hnk
    clear hnk
    go_upto_region 9 with fail
    go_region_law (first | (refine step_dw (by rfl) (.tmp 45) (.tmp 47) (by rfl) V3.heap.size _ 0 [] (by rfl) O1.out p3 c3 n L (by rfl) QN.out HN.out Q1.out n (by omega) L rfl (by omega) B1.out.size ?_; intro pa ca wa HA1 HA2; have VA := hid (below_grown (base := 0) B1.out O1.out HA2.out); obtain ⟨f0, f1, f2, f3, f4, f5⟩ := row6 (row_on HDO3.out VA.out)) | (refine step_dw (by rfl) (.tmp 45) (.tmp 47) (by rfl) V3.heap.size _ 0 [] (by rfl) O2.out p3 c3 n L (by rfl) QN.out HN.out Q2.out n (by omega) L rfl (by omega) B2.out.size ?_; intro pa ca wa HA1 HA2; have VA := hid (below_grown (base := 0) B2.out O2.out HA2.out); obtain ⟨f0, f1, f2, f3, f4, f5⟩ := row6 (row_on HDO3.out VA.out); have QX := hid (own_grD X2.out HA2.out (fun k hk => by cases hk; simp [Value.ownBlock]))) | (refine step_dw (by rfl) (.tmp 45) (.tmp 47) (by rfl) V3.heap.size _ 0 [] (by rfl) O3.out p3 c3 n L (by rfl) QN.out HN.out Q3.out n (by omega) L rfl (by omega) B3.out.size ?_; intro pa ca wa HA1 HA2; have VA := hid (below_grown (base := 0) B3.out O3.out HA2.out); obtain ⟨f0, f1, f2, f3, f4, f5⟩ := row6 (row_on HDO3.out VA.out); have QX := hid (own_grD X3.out HA2.out (fun k hk => by cases hk; simp [Value.ownBlock]))) | (refine step_dw (by rfl) (.tmp 48) (.tmp 50) (by rfl) V3.heap.size _ n L (by rfl) HA1.out _ _ 1 [d] (by rfl) (fun e => by cases e) rfl (own_rd QX.out) nk hnk1 (L ++ [d]) rfl (by omega) VA.out.size ?_; intro pb cb wb HB1 HB2; have VB := hid (below_grown (base := 0) VA.out HA1.out HB2.out); have e4 := row_cell (row_on HRO3.out VB.out) 4; have fzb := row_frz (row_on HRO3.out VB.out) 4) | (refine step_dw (by rfl) (.tmp 48) (.tmp 50) (by rfl) V3.heap.size _ n L (by rfl) (own_on HA1.out (ball _ _)) _ _ 1 [d] (by rfl) (fun e => by cases e) rfl (own_rd (own_d1 wa d)) nk hnk1 (L ++ [d]) rfl (by omega) (Nat.le_trans VA.out.size (ball _ _).size) ?_; intro pb cb wb HB1 HB2; have VB := hid (below_grown (base := 0) (btr VA.out (ball _ _)) (own_on HA1.out (ball _ _)) HB2.out); have e4 := row_cell (row_on HRO3.out VB.out) 4; have fzb := row_frz (row_on HRO3.out VB.out) 4))
    all_goals
      clear k0 k1 k2 k3 k4 k5 k6 k7 k8 k9 k10 k11 j0 j1 j2 j3 j4 j5 fz fzb e4 f0 f1 f2 f3 f4 f5
      obtain ⟨V5, hV5⟩ : ∃ V, wb.setCell ⟨R, 4, none⟩ (.slice pb nk cb) = V := ⟨_, rfl⟩
      have HR5 := hid (show V5.heap[R]? = some (.cells #[.int .i64 hold, .int .u64 sq, .slice p1 n1 c1, .slice p2 n2 c2, .slice pb nk cb, .int .u64 G, .int .u64 la.sq, .int .i64 la.kd, .int .i64 la.sd, .int .i64 la.pr, .int .u64 la.qt, .int .i64 la.ct] 57 (0, 0)) from by rw [← hV5]; exact set_row _ (row_on HRO3.out VB.out))
      have K5 := hid (show Kp (fun j => j = R) wb V5 from by rw [← hV5]; exact Kp.set _ _ _ _)
      have HZ5 := hid (K5.out.row (row_on HZ3.out VB.out) (fun e => by have e' : R + 1 + 1 = R := e; omega))
      have HB5 := hid (show Below w.heap.size w V5 from (btr HB3.out VB.out).trans (K5.out.below (btr HB3.out VB.out).size (fun g hg e => by have := HR.out; omega)))
      have HRD5 := hid (show Rd V5 ⟨sq, G, l1, l2, L ++ [d], la⟩ p1 c1 p2 c2 pb cb from by
        have hd := HRD.out.on (btr HB3.out VB.out)
        have hw : Dw 0 wb pb cb (L ++ [d]) := by
          unfold Dw
          rw [HNK.out]
          exact own_base HB1.out (Nat.zero_le _)
        have hRb := row_on HRO3.out VB.out
        exact ⟨hd.o1.kept K5.out (fun g hg e => by obtain ⟨cu, hc⟩ := hd.o1.ty hg; exact row_ne hc hRb (by decide) e), hd.o2.kept K5.out (fun g hg e => by obtain ⟨cu, hc⟩ := hd.o2.ty hg; exact row_ne hc hRb (by decide) e), hw.kept K5.out (fun g hg e => by obtain ⟨cu, hc⟩ := hw.ty hg; exact row_ne hc hRb (by decide) e)⟩)
      have HPB := hid (show Fr w.heap.size p3 pb from fun g hg => .inr (Nat.le_trans HB3.out.size (own_geP HB1.out hg)))
      rw [hV5]
      clear hV5
      obtain ⟨k0, k1, k2, k3, k4, k5, k6, k7, k8, k9, k10, k11⟩ := row12c HR5.out
      go_upto_region 10 with fail
      have AS := hid (show (#[.int .i64 0, .int .u64 0, .slice none 0 0, .slice none 0 0, .slice none 0 0, .int .u64 0, .int .u64 0, .int .i64 0, .int .i64 0, .int .i64 0, .int .u64 0, .int .i64 0] : Array Value).size = (#[.int .i64 hold, .int .u64 sq, .slice p1 n1 c1, .slice p2 n2 c2, .slice pb nk cb, .int .u64 G, .int .u64 la.sq, .int .i64 la.kd, .int .i64 la.sd, .int .i64 la.pr, .int .u64 la.qt, .int .i64 la.ct] : Array Value).size from rfl)
      have AA := hid (show (#[.int .i64 hold, .int .u64 sq, .slice p1 n1 c1, .slice p2 n2 c2, .slice pb nk cb, .int .u64 G, .int .u64 la.sq, .int .i64 la.kd, .int .i64 la.sd, .int .i64 la.pr, .int .u64 la.qt, .int .i64 la.ct] : Array Value).all (·.oneCell') = true from by simp [Value.oneCell'])
      have AI := hid (infoRSa (.int .i64 hold) (.int .u64 sq) (.slice p1 n1 c1) (.slice p2 n2 c2) (.slice pb nk cb) (.int .u64 G) (.int .u64 la.sq) (.int .i64 la.kd) (.int .i64 la.sd) (.int .i64 la.pr) (.int .u64 la.qt) (.int .i64 la.ct))
      go_wp2_with (refine wpList_store_row (by rfl) 57 (.tmp 4) (.tmp 53) (by rfl) (R + 1 + 1) #[.int .i64 hold, .int .u64 sq, .slice p1 n1 c1, .slice p2 n2 c2, .slice pb nk cb, .int .u64 G, .int .u64 la.sq, .int .i64 la.kd, .int .i64 la.sd, .int .i64 la.pr, .int .u64 la.qt, .int .i64 la.ct] (by rfl) (by rfl) 57 _ HZ5.out AI.out AS.out AA.out ?_)
      refine bodyPost_ret (res_ct (fn := Try.f35) Try.results35 _ _ (R + 1 + 1) 57 #[.int .i64 hold, .int .u64 sq, .slice p1 n1 c1, .slice p2 n2 c2, .slice pb nk cb, .int .u64 G, .int .u64 la.sq, .int .i64 la.kd, .int .i64 la.sd, .int .i64 la.pr, .int .u64 la.qt, .int .i64 la.ct] (0, 0) _ (.int .i64 181) (by rfl) (by rfl) (setRow_heap _ _ _ _ 57 (0, 0) HZ5.out) Try.underlying57 rfl infoRS) rfl ?_
      have hz : Below w.heap.size w (V5.setRow (R + 1 + 1) #[.int .i64 hold, .int .u64 sq, .slice p1 n1 c1, .slice p2 n2 c2, .slice pb nk cb, .int .u64 G, .int .u64 la.sq, .int .i64 la.kd, .int .i64 la.sd, .int .i64 la.pr, .int .u64 la.qt, .int .i64 la.ct]) := setRow_below HB5.out (by have := HR.out; omega)
      have hd := HRD5.out
      refine ⟨_, rfl, p1, c1, p2, c2, pb, cb, by rw [HGG.out, HNK.out, HN1.out, HN2.out], ?_, Fr.refl _ _, Fr.refl _ _, HPB.out, hz⟩
      exact (by rw [HGG.out]; exact hd.kept (setRow_kp _ _ _) (fun g hg e => by obtain ⟨cu, hc⟩ := hd.o1.ty hg; exact row_ne hc HZ5.out (by decide) e) (fun g hg e => by obtain ⟨cu, hc⟩ := hd.o2.ty hg; exact row_ne hc HZ5.out (by decide) e) (fun g hg e => by obtain ⟨cu, hc⟩ := hd.o3.ty hg; exact row_ne hc HZ5.out (by decide) e))
theorem rtake_next (hold : Nat) (hh : hold ≤ 1024) (sq gr : Int) (l1 l2 : List Lv) (L : List Dm) (la d : Dm) (hg : Sg hold ⟨sq, gr, l1, l2, L, la⟩) (hq : 0 ≤ d.sq ∧ d.sq < 18446744073709551616) (p1 p2 p3 : Option Addr) (c1 c2 c3 : Nat) (w : World) (h : Rd w ⟨sq, gr, l1, l2, L, la⟩ p1 c1 p2 c2 p3 c3) (hok : dOk d = true) (hx : hasN L d.sq = false) (hnx : d.sq = sq + 1) :
    Calls Try.prog 35 #[.agg #[.int .i64 hold, .int .u64 sq, .slice p1 l1.length c1, .slice p2 l2.length c2, .slice p3 L.length c3, .int .u64 gr, .int .u64 la.sq, .int .i64 la.kd, .int .i64 la.sd, .int .i64 la.pr, .int .u64 la.qt, .int .i64 la.ct], .agg #[.int .u64 d.sq, .int .i64 d.kd, .int .i64 d.sd, .int .i64 d.pr, .int .u64 d.qt, .int .i64 d.ct]] w fun e w' => ∃ v, e = .returned (.tuple #[v, .int .i64 0]) ∧ Rb w hold (goS (doS ⟨sq, max gr d.sq, l1, l2, L, la⟩ d)) p1 p2 p3 v w' := by
  obtain ⟨n1, hn1⟩ : ∃ n, l1.length = n := ⟨_, rfl⟩
  obtain ⟨n2, hn2⟩ : ∃ n, l2.length = n := ⟨_, rfl⟩
  obtain ⟨n, hn⟩ : ∃ n, L.length = n := ⟨_, rfl⟩
  rw [hn1, hn2, hn]
  obtain ⟨R, hR⟩ : ∃ R, w.heap.size = R := ⟨_, rfl⟩
  obtain ⟨W, hW⟩ : ∃ W, ((w.alloc (.cells #[.int .i64 hold, .int .u64 sq, .slice p1 n1 c1, .slice p2 n2 c2, .slice p3 n c3, .int .u64 gr, .int .u64 la.sq, .int .i64 la.kd, .int .i64 la.sd, .int .i64 la.pr, .int .u64 la.qt, .int .i64 la.ct] 57)).alloc (.cells #[.int .u64 d.sq, .int .i64 d.kd, .int .i64 d.sd, .int .i64 d.pr, .int .u64 d.qt, .int .i64 d.ct] 48)).alloc (.cells #[.int .i64 0, .int .u64 0, .slice none 0 0, .slice none 0 0, .slice none 0 0, .int .u64 0, .int .u64 0, .int .i64 0, .int .i64 0, .int .i64 0, .int .u64 0, .int .i64 0] 57) = W := ⟨_, rfl⟩
  obtain ⟨hb0, x0, x1, x2⟩ := alloc3 hR hW
  have HB := hid hb0
  have HRO := hid x0
  have HDO := hid x1
  have HZO := hid x2
  have HRD := hid h
  have HG := hid hg
  have HW := hid hW
  have HR := hid hR
  have HN := hid hn
  have HN1 := hid hn1
  have HN2 := hid hn2
  have CM := hid (fun U => message_any d U)
  rw [hok] at CM
  have hsq := hg.sq
  dsimp only at hsq
  have hn1024 : n ≤ 1024 := by have := hg.len; dsimp only at this; omega
  have CH := hid (fun (U : World) (hU : Below w.heap.size w U) => rheld_any hold sq gr d.sq n1 n2 c1 c2 c3 0 p1 p2 p3 L la U (h.on hU).o3)
  rw [hn] at CH
  rw [hix_no hx, show hixI none = -1 from rfl] at CH
  have hlt : sq < d.sq := by omega
  have w1 : IntKind.u64.wrap (sq + 1) = sq + 1 := by rw [IntKind.wrap_u64]; omega
  have g4 : (d.sq != sq + 1) = false := by simp [hnx]
  have HOK := hid hok
  have HNX := hid hnx
  clear hnx
  obtain ⟨j0, j1, j2, j3, j4, j5⟩ := row6 HDO.out
  clear hb0 x0 x1 x2 h hg hW hR hn hn1 hn2 hok
  go_enter Try.func35, Try.ntmps35
  go_upto_region 1 with fail
  rw [HW.out, HR.out]
  go_upto_region 3 with (go_at_call 31; with_reducible refine (CM.out _).mono ?_; rintro e V1 ⟨rfl, hb⟩; have BV1 := hid hb; have HRO1 := hid (row_on HRO.out hb); have HDO1 := hid (row_on HDO.out hb); have HZ1 := hid (row_on HZO.out hb); have CHW := hid (CH.out V1 (btr HB.out hb)); clear hb)
  obtain ⟨k0, k1, k2, k3, k4, k5, k6, k7, k8, k9, k10, k11⟩ := row12c HRO1.out
  clear j0 j1 j2 j3 j4 j5
  obtain ⟨j0, j1, j2, j3, j4, j5⟩ := row6 HDO1.out
  have g1 : decide (d.sq ≤ sq) = false := by simp; omega
  have g2 : ¬ d.sq ≤ sq := by omega
  go_upto_region 5 with (go_at_call 55; with_reducible refine (CHW.out).mono ?_; rintro e V2 ⟨rfl, hb⟩; have BV2 := hid (btr BV1.out hb); have HRO2 := hid (row_on HRO1.out hb); have HDO2 := hid (row_on HDO1.out hb); have HZ2 := hid (row_on HZ1.out hb); clear hb)
  clear k0 k1 k2 k3 k4 k5 k6 k7 k8 k9 k10 k11 j0 j1 j2 j3 j4 j5
  obtain ⟨k0, k1, k2, k3, k4, k5, k6, k7, k8, k9, k10, k11⟩ := row12c HRO2.out
  obtain ⟨j0, j1, j2, j3, j4, j5⟩ := row6 HDO2.out
  by_cases hgr : gr < d.sq
  · have HGR := hid (show max gr d.sq = d.sq from by omega)
    have fz := row_frz HRO2.out 5
    go_upto_region 7 with fail
    obtain ⟨V3, hV3⟩ : ∃ V, V2.setCell ⟨R, 5, none⟩ (.int .u64 d.sq) = V := ⟨_, rfl⟩
    have K3 := hid (show Kp (fun j => j = R) V2 V3 from by rw [← hV3]; exact Kp.set _ _ _ _)
    have HRO3 := hid (show V3.heap[R]? = some (.cells #[.int .i64 hold, .int .u64 sq, .slice p1 n1 c1, .slice p2 n2 c2, .slice p3 n c3, .int .u64 (max gr d.sq), .int .u64 la.sq, .int .i64 la.kd, .int .i64 la.sd, .int .i64 la.pr, .int .u64 la.qt, .int .i64 la.ct] 57 (0, 0)) from by rw [HGR.out, ← hV3]; exact set_row _ HRO2.out)
    rw [hV3]
    clear hV3 fz hgr
    have HDO3 := hid (K3.out.row HDO2.out (fun e => by have e' : R + 1 = R := e; omega))
    have HZ3 := hid (K3.out.row HZ2.out (fun e => by have e' : R + 1 + 1 = R := e; omega))
    have HB3 := hid (show Below w.heap.size w V3 from (btr HB.out BV2.out).trans (K3.out.below (btr HB.out BV2.out).size (fun g hg e => by have := HR.out; omega)))
    obtain ⟨G, hG⟩ : ∃ G, max gr d.sq = G := ⟨_, rfl⟩
    rw [hG] at HRO3
    have HGG := hid hG
    clear hG k0 k1 k2 k3 k4 k5 k6 k7 k8 k9 k10 k11 j0 j1 j2 j3 j4 j5
    obtain ⟨k0, k1, k2, k3, k4, k5, k6, k7, k8, k9, k10, k11⟩ := row12c HRO3.out
    obtain ⟨j0, j1, j2, j3, j4, j5⟩ := row6 HDO3.out
    have CD := hid (rdoes_any d HOK.out hold ⟨sq, G, l1, l2, L, la⟩ p1 p2 p3 c1 c2 n c3 V3 (HRD.out.on HB3.out).o1 (HRD.out.on HB3.out).o2 HG.out.k1.len HG.out.k2.len)
    have HSD := hid (show Sg hold (doS ⟨sq, G, l1, l2, L, la⟩ d) from by have := (HG.out.up hq).doS HOK.out hq; dsimp only at this; rw [HGG.out] at this; exact this)
    dsimp only at CD
    rw [HN1.out, HN2.out] at CD
    obtain ⟨N, hNN⟩ : ∃ N, doS ⟨sq, G, l1, l2, L, la⟩ d = N := ⟨_, rfl⟩
    rw [hNN] at CD HSD
    have HNL := hid (show N.L = L ∧ N.gr = G from by rw [← hNN]; exact ⟨rfl, rfl⟩)
    have HNN := hid hNN
    clear hNN
    have CG := hid (fun (q1 q2 : Option Addr) (e1 e2 : Nat) (U : World) (hU : Rd U N q1 e1 q2 e2 p3 c3) => rgoes_any hold hh N HSD.out q1 q2 p3 e1 e2 c3 U hU)
    rw [HNL.out.1, HNL.out.2, HN.out] at CG
    obtain ⟨m1, hm1⟩ : ∃ k, N.l1.length = k := ⟨_, rfl⟩
    obtain ⟨m2, hm2⟩ : ∃ k, N.l2.length = k := ⟨_, rfl⟩
    rw [hm1, hm2] at CD CG
    clear hm1 hm2
    go_upto_region 11 with fail
    go_wp2_with (first | (go_at_call 56; with_reducible refine (CD.out).mono ?_; rintro e V4 ⟨r1, f1, r2, f2, rfl, x1, x2, x3, x4, x5⟩; have X3 := hid x3; have X4 := hid x4; have BV4 := hid (btr HB3.out x5); have HZ4 := hid (row_on HZ3.out x5); have CGV := hid (CG.out r1 r2 f1 f2 V4 ⟨x1, x2, by rw [HNL.out.1]; exact (HRD.out.on (btr HB3.out x5)).o3⟩); clear x1 x2 x3 x4 x5) | (go_at_call 57; (with_reducible refine (CGV.out).mono ?_); rintro e V5 ⟨v, rfl, s1, g1, s2, g2, s3, g3, rfl, x1, x2, x3, x4, x5⟩; have Y1 := hid x1; have Y2 := hid x2; have Y3 := hid x3; have Y4 := hid x4; have BV5 := hid (btr BV4.out x5); have HZ5 := hid (row_on HZ4.out x5); have AA := hid (show (#[.int .i64 hold, .int .u64 (goS N).sq, .slice s1 (goS N).l1.length g1, .slice s2 (goS N).l2.length g2, .slice s3 (goS N).L.length g3, .int .u64 (goS N).gr, .int .u64 (goS N).la.sq, .int .i64 (goS N).la.kd, .int .i64 (goS N).la.sd, .int .i64 (goS N).la.pr, .int .u64 (goS N).la.qt, .int .i64 (goS N).la.ct] : Array Value).all (·.oneCell') = true from by simp [Value.oneCell']); clear x1 x2 x3 x4 x5) | (refine wpList_store_row (by rfl) 57 (.tmp 4) (.tmp 57) (by rfl) (R + 1 + 1) #[.int .i64 hold, .int .u64 (goS N).sq, .slice s1 (goS N).l1.length g1, .slice s2 (goS N).l2.length g2, .slice s3 (goS N).L.length g3, .int .u64 (goS N).gr, .int .u64 (goS N).la.sq, .int .i64 (goS N).la.kd, .int .i64 (goS N).la.sd, .int .i64 (goS N).la.pr, .int .u64 (goS N).la.qt, .int .i64 (goS N).la.ct] (by rfl) (by rfl) 57 _ HZ5.out (infoRSa _ _ _ _ _ _ _ _ _ _ _ _) (by rfl) AA.out ?_))
    refine bodyPost_ret (res_ct (fn := Try.f35) Try.results35 _ _ (R + 1 + 1) 57 #[.int .i64 hold, .int .u64 (goS N).sq, .slice s1 (goS N).l1.length g1, .slice s2 (goS N).l2.length g2, .slice s3 (goS N).L.length g3, .int .u64 (goS N).gr, .int .u64 (goS N).la.sq, .int .i64 (goS N).la.kd, .int .i64 (goS N).la.sd, .int .i64 (goS N).la.pr, .int .u64 (goS N).la.qt, .int .i64 (goS N).la.ct] (0, 0) _ (.int .i64 0) (by rfl) (by rfl) (setRow_heap _ _ _ _ 57 (0, 0) HZ5.out) Try.underlying57 rfl infoRS) rfl ?_
    have hz : Below w.heap.size w (V5.setRow (R + 1 + 1) #[.int .i64 hold, .int .u64 (goS N).sq, .slice s1 (goS N).l1.length g1, .slice s2 (goS N).l2.length g2, .slice s3 (goS N).L.length g3, .int .u64 (goS N).gr, .int .u64 (goS N).la.sq, .int .i64 (goS N).la.kd, .int .i64 (goS N).la.sd, .int .i64 (goS N).la.pr, .int .u64 (goS N).la.qt, .int .i64 (goS N).la.ct]) := setRow_below BV5.out (by have := HR.out; omega)
    have hd := Y1.out
    have z4 := BV4.out.size
    have z3 := HB3.out.size
    refine ⟨_, rfl, s1, g1, s2, g2, s3, g3, by rw [HGG.out, HNN.out], ?_, fun g hg => ?_, fun g hg => ?_, fun g hg => ?_, hz⟩
    · rw [HGG.out, HNN.out]
      exact hd.kept (setRow_kp _ _ _) (fun g hg e => by obtain ⟨cu, hc⟩ := hd.o1.ty hg; exact row_ne hc HZ5.out (by decide) e) (fun g hg e => by obtain ⟨cu, hc⟩ := hd.o2.ty hg; exact row_ne hc HZ5.out (by decide) e) (fun g hg e => by obtain ⟨cu, hc⟩ := hd.o3.ty hg; exact row_ne hc HZ5.out (by decide) e)
    · rcases Y2.out g hg with e | e
      · rcases X3.out g e with e | e
        · exact .inl e
        · exact .inr (by omega)
      · exact .inr (by omega)
    · rcases Y3.out g hg with e | e
      · rcases X4.out g e with e | e
        · exact .inl e
        · exact .inr (by omega)
      · exact .inr (by omega)
    · rcases Y4.out g hg with e | e
      · exact .inl e
      · exact .inr (by omega)
  · have HGR := hid (show max gr d.sq = gr from by omega)
    have hgr' : decide (gr < d.sq) = false := by simpa using hgr
    go_upto_region 7 with fail
    obtain ⟨V3, hV3⟩ : ∃ V, V2 = V := ⟨_, rfl⟩
    have K3 := hid (show Kp (fun j => j = R) V2 V3 from by rw [← hV3]; exact Kp.refl _ _)
    have HRO3 := hid (show V3.heap[R]? = some (.cells #[.int .i64 hold, .int .u64 sq, .slice p1 n1 c1, .slice p2 n2 c2, .slice p3 n c3, .int .u64 (max gr d.sq), .int .u64 la.sq, .int .i64 la.kd, .int .i64 la.sd, .int .i64 la.pr, .int .u64 la.qt, .int .i64 la.ct] 57 (0, 0)) from by rw [HGR.out, ← hV3]; exact HRO2.out)
    rw [hV3]
    clear hV3 hgr hgr'
    have HDO3 := hid (K3.out.row HDO2.out (fun e => by have e' : R + 1 = R := e; omega))
    have HZ3 := hid (K3.out.row HZ2.out (fun e => by have e' : R + 1 + 1 = R := e; omega))
    have HB3 := hid (show Below w.heap.size w V3 from (btr HB.out BV2.out).trans (K3.out.below (btr HB.out BV2.out).size (fun g hg e => by have := HR.out; omega)))
    obtain ⟨G, hG⟩ : ∃ G, max gr d.sq = G := ⟨_, rfl⟩
    rw [hG] at HRO3
    have HGG := hid hG
    clear hG k0 k1 k2 k3 k4 k5 k6 k7 k8 k9 k10 k11 j0 j1 j2 j3 j4 j5
    obtain ⟨k0, k1, k2, k3, k4, k5, k6, k7, k8, k9, k10, k11⟩ := row12c HRO3.out
    obtain ⟨j0, j1, j2, j3, j4, j5⟩ := row6 HDO3.out
    have CD := hid (rdoes_any d HOK.out hold ⟨sq, G, l1, l2, L, la⟩ p1 p2 p3 c1 c2 n c3 V3 (HRD.out.on HB3.out).o1 (HRD.out.on HB3.out).o2 HG.out.k1.len HG.out.k2.len)
    have HSD := hid (show Sg hold (doS ⟨sq, G, l1, l2, L, la⟩ d) from by have := (HG.out.up hq).doS HOK.out hq; dsimp only at this; rw [HGG.out] at this; exact this)
    dsimp only at CD
    rw [HN1.out, HN2.out] at CD
    obtain ⟨N, hNN⟩ : ∃ N, doS ⟨sq, G, l1, l2, L, la⟩ d = N := ⟨_, rfl⟩
    rw [hNN] at CD HSD
    have HNL := hid (show N.L = L ∧ N.gr = G from by rw [← hNN]; exact ⟨rfl, rfl⟩)
    have HNN := hid hNN
    clear hNN
    have CG := hid (fun (q1 q2 : Option Addr) (e1 e2 : Nat) (U : World) (hU : Rd U N q1 e1 q2 e2 p3 c3) => rgoes_any hold hh N HSD.out q1 q2 p3 e1 e2 c3 U hU)
    rw [HNL.out.1, HNL.out.2, HN.out] at CG
    obtain ⟨m1, hm1⟩ : ∃ k, N.l1.length = k := ⟨_, rfl⟩
    obtain ⟨m2, hm2⟩ : ∃ k, N.l2.length = k := ⟨_, rfl⟩
    rw [hm1, hm2] at CD CG
    clear hm1 hm2
    go_upto_region 11 with fail
    go_wp2_with (first | (go_at_call 56; with_reducible refine (CD.out).mono ?_; rintro e V4 ⟨r1, f1, r2, f2, rfl, x1, x2, x3, x4, x5⟩; have X3 := hid x3; have X4 := hid x4; have BV4 := hid (btr HB3.out x5); have HZ4 := hid (row_on HZ3.out x5); have CGV := hid (CG.out r1 r2 f1 f2 V4 ⟨x1, x2, by rw [HNL.out.1]; exact (HRD.out.on (btr HB3.out x5)).o3⟩); clear x1 x2 x3 x4 x5) | (go_at_call 57; (with_reducible refine (CGV.out).mono ?_); rintro e V5 ⟨v, rfl, s1, g1, s2, g2, s3, g3, rfl, x1, x2, x3, x4, x5⟩; have Y1 := hid x1; have Y2 := hid x2; have Y3 := hid x3; have Y4 := hid x4; have BV5 := hid (btr BV4.out x5); have HZ5 := hid (row_on HZ4.out x5); have AA := hid (show (#[.int .i64 hold, .int .u64 (goS N).sq, .slice s1 (goS N).l1.length g1, .slice s2 (goS N).l2.length g2, .slice s3 (goS N).L.length g3, .int .u64 (goS N).gr, .int .u64 (goS N).la.sq, .int .i64 (goS N).la.kd, .int .i64 (goS N).la.sd, .int .i64 (goS N).la.pr, .int .u64 (goS N).la.qt, .int .i64 (goS N).la.ct] : Array Value).all (·.oneCell') = true from by simp [Value.oneCell']); clear x1 x2 x3 x4 x5) | (refine wpList_store_row (by rfl) 57 (.tmp 4) (.tmp 57) (by rfl) (R + 1 + 1) #[.int .i64 hold, .int .u64 (goS N).sq, .slice s1 (goS N).l1.length g1, .slice s2 (goS N).l2.length g2, .slice s3 (goS N).L.length g3, .int .u64 (goS N).gr, .int .u64 (goS N).la.sq, .int .i64 (goS N).la.kd, .int .i64 (goS N).la.sd, .int .i64 (goS N).la.pr, .int .u64 (goS N).la.qt, .int .i64 (goS N).la.ct] (by rfl) (by rfl) 57 _ HZ5.out (infoRSa _ _ _ _ _ _ _ _ _ _ _ _) (by rfl) AA.out ?_))
    refine bodyPost_ret (res_ct (fn := Try.f35) Try.results35 _ _ (R + 1 + 1) 57 #[.int .i64 hold, .int .u64 (goS N).sq, .slice s1 (goS N).l1.length g1, .slice s2 (goS N).l2.length g2, .slice s3 (goS N).L.length g3, .int .u64 (goS N).gr, .int .u64 (goS N).la.sq, .int .i64 (goS N).la.kd, .int .i64 (goS N).la.sd, .int .i64 (goS N).la.pr, .int .u64 (goS N).la.qt, .int .i64 (goS N).la.ct] (0, 0) _ (.int .i64 0) (by rfl) (by rfl) (setRow_heap _ _ _ _ 57 (0, 0) HZ5.out) Try.underlying57 rfl infoRS) rfl ?_
    have hz : Below w.heap.size w (V5.setRow (R + 1 + 1) #[.int .i64 hold, .int .u64 (goS N).sq, .slice s1 (goS N).l1.length g1, .slice s2 (goS N).l2.length g2, .slice s3 (goS N).L.length g3, .int .u64 (goS N).gr, .int .u64 (goS N).la.sq, .int .i64 (goS N).la.kd, .int .i64 (goS N).la.sd, .int .i64 (goS N).la.pr, .int .u64 (goS N).la.qt, .int .i64 (goS N).la.ct]) := setRow_below BV5.out (by have := HR.out; omega)
    have hd := Y1.out
    have z4 := BV4.out.size
    have z3 := HB3.out.size
    refine ⟨_, rfl, s1, g1, s2, g2, s3, g3, by rw [HGG.out, HNN.out], ?_, fun g hg => ?_, fun g hg => ?_, fun g hg => ?_, hz⟩
    · rw [HGG.out, HNN.out]
      exact hd.kept (setRow_kp _ _ _) (fun g hg e => by obtain ⟨cu, hc⟩ := hd.o1.ty hg; exact row_ne hc HZ5.out (by decide) e) (fun g hg e => by obtain ⟨cu, hc⟩ := hd.o2.ty hg; exact row_ne hc HZ5.out (by decide) e) (fun g hg e => by obtain ⟨cu, hc⟩ := hd.o3.ty hg; exact row_ne hc HZ5.out (by decide) e)
    · rcases Y2.out g hg with e | e
      · rcases X3.out g e with e | e
        · exact .inl e
        · exact .inr (by omega)
      · exact .inr (by omega)
    · rcases Y3.out g hg with e | e
      · rcases X4.out g e with e | e
        · exact .inl e
        · exact .inr (by omega)
      · exact .inr (by omega)
    · rcases Y4.out g hg with e | e
      · exact .inl e
      · exact .inr (by omega)
theorem rtake_any (hold : Nat) (hh : hold ≤ 1024) (s : Ss) (d : Dm) (hg : Sg hold s) (hq : 0 ≤ d.sq ∧ d.sq < 18446744073709551616) (p1 p2 p3 : Option Addr) (c1 c2 c3 : Nat) (w : World) (h : Rd w s p1 c1 p2 c2 p3 c3) :
    Calls Try.prog 35 #[.agg #[.int .i64 hold, .int .u64 s.sq, .slice p1 s.l1.length c1, .slice p2 s.l2.length c2, .slice p3 s.L.length c3, .int .u64 s.gr, .int .u64 s.la.sq, .int .i64 s.la.kd, .int .i64 s.la.sd, .int .i64 s.la.pr, .int .u64 s.la.qt, .int .i64 s.la.ct], .agg #[.int .u64 d.sq, .int .i64 d.kd, .int .i64 d.sd, .int .i64 d.pr, .int .u64 d.qt, .int .i64 d.ct]] w fun e w' => ∃ v, e = .returned (.tuple #[v, .int .i64 (tkE s d)]) ∧ Rb w hold (tkS hold s d) p1 p2 p3 v w' := by
  obtain ⟨sq, gr, l1, l2, L, la⟩ := s
  cases hok : dOk d with
  | false =>
    have e1 : tkE ⟨sq, gr, l1, l2, L, la⟩ d = 1 := by unfold tkE; rw [if_pos hok]
    have e2 : tkS hold ⟨sq, gr, l1, l2, L, la⟩ d = ⟨sq, gr, l1, l2, L, la⟩ := by unfold tkS; rw [if_pos hok]
    rw [e1, e2]
    exact rtake_bad hold hh sq gr l1 l2 L la d hg hq p1 p2 p3 c1 c2 c3 w h hok
  | true =>
    have hok' : ¬ dOk d = false := by simp [hok]
    by_cases hst : d.sq ≤ sq ∨ hasN L d.sq = true
    · have e1 : tkE ⟨sq, gr, l1, l2, L, la⟩ d = 180 := by unfold tkE; rw [if_neg hok', if_pos hst]
      have e2 : tkS hold ⟨sq, gr, l1, l2, L, la⟩ d = ⟨sq, gr, l1, l2, L, la⟩ := by unfold tkS; rw [if_neg hok', if_pos hst]
      rw [e1, e2]
      by_cases ho : d.sq ≤ sq
      · exact rtake_old hold hh sq gr l1 l2 L la d hg hq p1 p2 p3 c1 c2 c3 w h hok ho
      · exact rtake_held hold hh sq gr l1 l2 L la d hg hq p1 p2 p3 c1 c2 c3 w h hok (by omega) (hst.resolve_left ho)
    · have hlt : sq < d.sq := by have := fun h => hst (.inl h); omega
      have hx : hasN L d.sq = false := by cases hq : hasN L d.sq with | false => rfl | true => exact absurd (.inr hq) hst
      by_cases hnx : d.sq = sq + 1
      · have e1 : tkE ⟨sq, gr, l1, l2, L, la⟩ d = 0 := by unfold tkE; rw [if_neg hok', if_neg hst, if_pos hnx]
        have e2 : tkS hold ⟨sq, gr, l1, l2, L, la⟩ d = goS (doS ⟨sq, max gr d.sq, l1, l2, L, la⟩ d) := by unfold tkS; rw [if_neg hok', if_neg hst, if_pos hnx]
        rw [e1, e2]
        exact rtake_next hold hh sq gr l1 l2 L la d hg hq p1 p2 p3 c1 c2 c3 w h hok hx hnx
      · have e1 : tkE ⟨sq, gr, l1, l2, L, la⟩ d = 181 := by unfold tkE; rw [if_neg hok', if_neg hst, if_neg hnx]
        rw [e1]
        by_cases hr : L.length < hold
        · have e2 : tkS hold ⟨sq, gr, l1, l2, L, la⟩ d = ⟨sq, max gr d.sq, l1, l2, L ++ [d], la⟩ := by unfold tkS; rw [if_neg hok', if_neg hst, if_neg hnx]; simp [hr]
          rw [e2]
          exact rtake_gap hold hh sq gr l1 l2 L la d hg hq p1 p2 p3 c1 c2 c3 w h hok hx hlt hnx hr
        · have e2 : tkS hold ⟨sq, gr, l1, l2, L, la⟩ d = ⟨sq, max gr d.sq, l1, l2, L, la⟩ := by unfold tkS; rw [if_neg hok', if_neg hst, if_neg hnx]; simp [hr]
          rw [e2]
          exact rtake_full hold hh sq gr l1 l2 L la d hg hq p1 p2 p3 c1 c2 c3 w h hok hx hlt hnx hr
end Go.Proofs.Ytiphgfghdbmlcaa
