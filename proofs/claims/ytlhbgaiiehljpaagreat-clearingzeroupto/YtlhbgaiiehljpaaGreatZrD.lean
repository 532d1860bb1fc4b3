/-
  ZrD
-/
import Derived.Test.YtlhbgaiiehljpaaGreatGAa
import Derived.Test.YtlhbgaiiehljpaaGreatGCb
import Derived.Test.YtlhbgaiiehljpaaGreatGCa
namespace Go.Proofs.YtlhbgaiiehljpaaGreat.Ac
open List renaming getElem?_toArray → lqA, getElem?_cons_succ → lqB, getElem?_cons_zero → lqC
open List renaming getElem_toArray → lgA, getElem_cons_succ → lgB, getElem_cons_zero → lgC, setIfInBounds_toArray → lsA, set_cons_zero → lsB, set_cons_succ → lsC
open Go.RowKit Go.Deep Go.Maps MonM Go.Proofs.YtlhbgaiiehljpaaGreat
set_option linter.unusedVariables false
set_option linter.unusedSimpArgs false
set_option maxHeartbeats 8000000
set_option maxRecDepth 100000
attribute [local go_sem ↓] Go.wp_at_zero Go.wp_at_succ
theorem bdwN (w : World) (n : Nat) : Below w.heap.size w (w.drewN n) := ⟨rfl, rfl, rfl, Nat.le_refl _, fun _ _ => rfl⟩
theorem Lz.on {w w' : World} {p : Option Addr} {l : List Dl} (h : Lz w p l) (hb : Below w.heap.size w w') : Lz w' p l := fun k hk => by
 obtain ⟨b, off, e, hl, h1⟩ := h k hk
 exact ⟨b, off, e, Nat.lt_of_lt_of_le hl hb.size, fun j hj => (hb.cell (p := ⟨b, off + k * 6 + j, none⟩) hl).trans (h1 j hj)⟩
theorem zero_some (l : List Dl) (q : Option Addr) (cap nl : Nat) (w : World) (hz : Lz w q l) (hok : ∀ x ∈ l, x.ok) (hn : l.length = nl) (hb : nl ≤ 1048576) :
  Calls Tryz.prog 3 #[.slice q nl cap] w fun e w' => e = .returned (.bool true) ∧ Below w.heap.size w w' := by
 have CL := hid (lives_ok w)
 have HZ := hid hz
 have CN := hid (fun (U : World) (hU : Lz U q l) => show Calls Tryz.prog 6 #[.slice q nl cap] U fun e w' => ∃ q n d er, e = .returned (.tuple #[.slice q n d, .int .i64 er]) ∧ NeZ U.heap.size w' q n er l d ∧ Below U.heap.size U w' from netted_z hU hok hn (by omega))
 have CC0 := hid (fun (U : World) => show Calls Tryz.prog 8 #[.int .i64 0] U fun e w' => e = .returned (.agg #[.int .u64 0, .int .u64 0]) ∧ Below U.heap.size U w' from cents_any 0 U (by decide) (by decide))
 have CG1 := hid (fun (U : World) => show Calls Tryz.prog 11 #[.agg #[.int .u64 0, .int .u64 0]] U fun e w' => e = .returned (.int .i64 0) ∧ Below U.heap.size U w' from sign_any 0 U (by unfold Amt; omega))
 have HZ9 := hid (show nerr l = 0 → ∀ (r : List Nt), r.length ≤ 2 * l.length → RelN (nst e0 l) r → ∃ g, dues (fun _ => none) (nma r) = some g ∧ ∀ d, Rel g d → Zr r d from fun h0 r h1 h2 => zr_of h0 (by omega) hok h2 h1)
 have HLN := hid hn
 clear hz hok hn
 go_enter Tryz.func3, Tryz.ntmps3
 go_upto_region 3 with (go_at_call 5; with_reducible refine CL.out.mono ?_; rintro e w1 ⟨rfl, h1⟩; have B1 := hid h1; clear h1)
 have C1 := hid (CN.out w1 (HZ.out.on B1.out))
 go_upto_region 4 with (go_at_call 6; with_reducible refine C1.out.mono ?_; rintro e w2 ⟨q2, n, d2, er2, rfl, h1, h2⟩; have P2 := hid h1; have B2 := hid h2; clear h1 h2)
 clear C1 CN HZ CL
 by_cases e2 : er2 = 0
 ·subst e2
  obtain ⟨r, hrn, hrel2, hown⟩ : ∃ r : List Nt, r.length = n ∧ RelN (nst e0 l) r ∧ w2.ownsRow w1.heap.size 38 6 (.slice q2 n d2) n (ncs r) := (P2.out.2.2 rfl).2
  have HN := hid hrn
  have HNB := hid (show n ≤ 2097152 from by have := (P2.out.2.2 rfl).1; have := HLN.out; omega)
  have O2 := hid hown
  obtain ⟨g, hg, hZr⟩ := HZ9.out P2.out.1.symm r (by rw [hrn]; exact (P2.out.2.2 rfl).1) hrel2
  have C2 := hid (dues_z (U := w2) (d := d2) (nz_own hrn hown) (fun x hx => ⟨(hrel2.ok x hx).1, (hrel2.ok x hx).2.2.1⟩) hrn (by have := HNB.out; omega) hg hZr)
  clear hrn hrel2 hown hg hZr P2 HZ9
  go_upto_region 7 with (go_at_call 7; with_reducible refine C2.out.mono ?_; rintro e w3 ⟨q3, dn, d3, dl0, rfl, h1, h2, h3, h4⟩; have HDN := hid h1; have HZR := hid h2; have OD := hid h3; have B3 := hid h4; clear h1 h2 h3 h4)
  have OW := hid (own_on O2.out B3.out)
  have HDNB := hid (show dn ≤ 4294967296 from by have := HZR.out.dlen; have := HDN.out; omega)
  have BALL := hid (btr (btr B1.out B2.out) B3.out)
  clear C2 O2 B1 B2 B3
  go_upto_region 9 with fail
  have CC1 := hid (CC0.out w3)
  go_upto_region 10 with (first
   | (go_at_call 8; with_reducible refine CC1.out.mono ?_; rintro e w4 ⟨rfl, h4⟩; have B4 := hid h4; clear h4)
   | (go_at_call 8; with_reducible refine (CC0.out _).mono ?_; rintro e w5 ⟨rfl, h5⟩; have B5 := hid h5; clear h5))
  clear CC1
  obtain ⟨gT, hgT⟩ : ∃ g, w5.heap.size = g := ⟨_, rfl⟩
  obtain ⟨V5, hV5⟩ : ∃ V, w5.alloc (.cells #[.int .u64 0, .int .u64 0] 33) = V := ⟨_, rfl⟩
  obtain ⟨V6, hV6⟩ : ∃ V, V5.alloc (.cells #[.int .u64 0, .int .u64 0] 33) = V := ⟨_, rfl⟩
  have s5 : V5.heap.size = gT + 1 := by rw [← hV5, ← hgT]; simp
  have BX5 := hid (btr B4.out B5.out)
  have BX6 := hid (btr BX5.out (show Below w5.heap.size w5 V6 from by rw [← hV6, ← hV5]; exact btr (ball _ _) (ball _ _)))
  have RT6 := hid (show V6.heap[gT]? = some (.cells #[.int .u64 (hiW (sL (·.a) (r.take 0))), .int .u64 (loW (sL (·.a) (r.take 0)))] 33 (0, 0)) from by rw [← hV6]; exact row_on (by rw [← hV5, ← hgT]; exact World.alloc_heap_new _ _) (ball _ _))
  obtain ⟨gO, hgO⟩ : ∃ g, gT + 1 = g := ⟨_, rfl⟩
  have RO6 := hid (show V6.heap[gO]? = some (.cells #[.int .u64 0, .int .u64 0] 33 (0, 0)) from by rw [← hV6, ← hgO, ← s5]; exact World.alloc_heap_new _ _)
  have NTO := hid (show gT ≠ gO from by omega)
  have LOT := hid (show w3.heap.size ≤ gT from by rw [← hgT]; exact BX5.out.size)
  have LOO := hid (show w3.heap.size ≤ gO from by have := LOT.out; omega)
  have BW6 := BX6
  rw [hV5, hV6, hgT, hgO]
  clear hgT hV5 hV6 s5 BX5 BX6 B4 B5 hgO
  go_upto_region 11 with fail
  go_loopw [9] (fun iv wr => ∃ i : Nat, i ≤ n ∧ iv = .int .i64 i ∧ Hid (Below w3.heap.size w3 wr) ∧ Hid (wr.heap[gT]? = some (.cells #[.int .u64 (hiW (sL (·.a) (r.take i))), .int .u64 (loW (sL (·.a) (r.take i)))] 33 (0, 0))) ∧ Hid (wr.heap[gO]? = some (.cells #[.int .u64 0, .int .u64 0] 33 (0, 0)))) (fun iv _ => n - (intOf iv).toNat)
  case atStart => exact ⟨0, Nat.zero_le _, rfl, BW6, RT6, RO6⟩
  case round =>
   clear BW6 RT6 RO6
   obtain ⟨i, hin, rfl, BWo, RT, RO⟩ := hrel
   obtain ⟨wo, hwo⟩ : ∃ x, x = wr := ⟨_, rfl⟩
   subst hwo
   by_cases hlt : i < n
   ·have hir : i < r.length := by rw [HN.out]; exact hlt
    obtain ⟨gn, rfl⟩ : ∃ g, q2 = some ⟨g, 0, none⟩ := by
     obtain ⟨g, e, _⟩ := own_some OW.out (by omega)
     exact ⟨g, e⟩
    have A0 := hid (fun (U : World) (hU : Below w3.heap.size w3 U) (j : Nat) (hj : j < 6) (u : Value) (e : (nce r[i])[j]? = some u) => nets_cell (own_on OW.out hU) hir hj e)
    have HA0 := hid (fun U hU => A0.out U hU 0 (by decide) _ rfl)
    have HA1 := hid (fun U hU => A0.out U hU 1 (by decide) _ rfl)
    have HA4 := hid (fun U hU => A0.out U hU 4 (by decide) _ rfl)
    have HA5 := hid (fun U hU => A0.out U hU 5 (by decide) _ rfl)
    have HPN := hid (HZR.out.pan hir)
    obtain ⟨x, hxx⟩ : ∃ x, r[i] = x := ⟨_, rfl⟩
    have HXX := hid hxx
    rw [hxx] at A0 HA0 HA1 HA4 HA5 HPN
    obtain ⟨xm, xi, xb, xs, xa⟩ := x
    dsimp only at HA0 HA1 HA4 HA5 HPN
    have CS := hid (fun U => lsum_any (sL (·.a) (r.take i)) xa U (HZR.out.pa i) HPN.out.2)
    rw [HPN.out.1] at CS
    unfold mv at CS
    have i0 : (0 : Int) ≤ (i : Int) := by omega
    have i1 : (i : Int) < (n : Int) := by omega
    have wi : IntKind.i64.wrap ((i : Int) + 1) = ((i + 1 : Nat) : Int) := by have := HNB.out; rw [IntKind.wrap_i64]; omega
    have HLT := hid hlt
    obtain ⟨ah, eah⟩ : ∃ z, hiW xa = z := ⟨_, rfl⟩
    obtain ⟨al, eal⟩ : ∃ z, loW xa = z := ⟨_, rfl⟩
    obtain ⟨th, eth⟩ : ∃ z, hiW (sL (·.a) (r.take i)) = z := ⟨_, rfl⟩
    obtain ⟨tl, etl⟩ : ∃ z, loW (sL (·.a) (r.take i)) = z := ⟨_, rfl⟩
    obtain ⟨th1, eth1⟩ : ∃ z, hiW (sL (·.a) (r.take (i + 1))) = z := ⟨_, rfl⟩
    obtain ⟨tl1, etl1⟩ : ∃ z, loW (sL (·.a) (r.take (i + 1))) = z := ⟨_, rfl⟩
    rw [eah] at HA4 CS
    rw [eal] at HA5 CS
    rw [eth, etl, eth1, etl1] at CS
    rw [eth, etl] at RT
    have HE1 := hid eth1
    have HE2 := hid etl1
    clear hxx eah eal eth etl eth1 etl1 A0 HPN hlt hin
    go_upto_region 13 with fail
    obtain ⟨V1, hV1⟩ : ∃ U, wo.drew = U := ⟨_, rfl⟩
    have bV1 := hid (show Below wo.heap.size wo V1 from by rw [← hV1]; exact bdrew1 _)
    have DV1 := hid (btr BWo.out bV1.out)
    have r2 := hid (row_on RT.out bV1.out)
    have r3 := hid (row_on RO.out bV1.out)
    refine wp_region_held_drew (S := (fun U => U.cell? ⟨gn, i * 6 + 4, none⟩ = some (.int .u64 ah) ∧ U.cell? ⟨gn, i * 6 + 5, none⟩ = some (.int .u64 al))) (by kernel_rfl) ?_ (fun hHeld => ?_)
    ·(try dsimp only); rw [hV1]; exact ⟨HA4.out _ DV1.out, HA5.out _ DV1.out⟩
    rw [hV1] at hHeld ⊢
    clear hV1
    refine' tkz 1 rfl ?_ ?_
    rotate_left
    ·(intro w hSw; (try dsimp only at hSw); go_simp; try (with_reducible rfl))
    try simp only [lgA, lgB, lgC, Act.put, lsA, lsB, lsC]
    refine' tkz 2 rfl ?_ ?_
    rotate_left
    ·(intro w hSw; (try dsimp only at hSw); go_simp; try (with_reducible rfl))
    try simp only [lgA, lgB, lgC, Act.put, lsA, lsB, lsC]
    refine' tkz 3 rfl ?_ ?_
    rotate_left
    ·(intro w hSw; (try dsimp only at hSw); go_simp; try (with_reducible rfl))
    try simp only [lgA, lgB, lgC, Act.put, lsA, lsB, lsC]
    refine' tkz 4 rfl ?_ ?_
    rotate_left
    ·(intro w hSw; (try dsimp only at hSw); go_simp; try (with_reducible rfl))
    try simp only [lgA, lgB, lgC, Act.put, lsA, lsB, lsC]
    refine' tkz 5 rfl ?_ ?_
    rotate_left
    ·(intro w hSw; (try dsimp only at hSw); go_simp; try (with_reducible rfl))
    try simp only [lgA, lgB, lgC, Act.put, lsA, lsB, lsC]
    refine wpAnyH_ready (rs := [0]) (by kernel_rfl) (by simp) ?_
    refine (AllReadyH.cons rfl (fun K hK => ?_) AllReadyH.nil)
    have z0 := row_cell r2.out 0
    have z1 := row_cell r2.out 1
    simp only [lqA, lqB, lqC] at z0 z1
    go_simp
    refine hK.out _ _ ?_ (fun hHeld => ?_)
    ·(try dsimp only); exact ⟨HA4.out _ DV1.out, HA5.out _ DV1.out⟩
    clear hK K z0 z1
    try simp only [lgA, lgB, lgC, Act.put, lsA, lsB, lsC]
    refine wpAnyH_ready (rs := [6]) (by kernel_rfl) (by simp) ?_
    refine (AllReadyH.cons rfl (fun K hK => ?_) AllReadyH.nil)
    go_simp
    go_at_call 9
    with_reducible refine (CS.out V1).mono ?_
    rintro e X4 ⟨rfl, cX4⟩
    have bX4 := hid cX4
    clear cX4
    have DX4 := hid (btr DV1.out bX4.out)
    have r5 := hid (row_on r2.out bX4.out)
    have r6 := hid (row_on r3.out bX4.out)
    (try go_wp2_with fail)
    refine hK.out _ _ ?_ (fun hHeld => ?_)
    ·(try dsimp only); exact ⟨HA4.out _ DX4.out, HA5.out _ DX4.out⟩
    clear hK K
    try simp only [lgA, lgB, lgC, Act.put, lsA, lsB, lsC]
    refine wpAnyH_ready (rs := [7]) (by kernel_rfl) (by simp) ?_
    refine (AllReadyH.cons rfl (fun K hK => ?_) AllReadyH.nil)
    refine step_store_row (by rfl) 33 (.tmp 7) (.tmp 49) (by rfl) gT #[.int .u64 th1, .int .u64 tl1] (by rfl) (by rfl) 33 _ r5.out infoM2 (by rfl) (by simp [Value.oneCell']) ?_
    have AY7 := hid (setRow_heap X4 gT _ #[.int .u64 th1, .int .u64 tl1] 33 (0, 0) r5.out)
    have kY7 := hid (setRow_kp X4 gT #[.int .u64 th1, .int .u64 tl1])
    have r8 := hid (kY7.out.row r6.out (fun e => NTO.out.symm e))
    have DY7 := hid (show Below _ _ _ from DX4.out.trans (kY7.out.below DX4.out.size (fun g hg e => by have := LOT.out; omega)))
    obtain ⟨Y7, hY7⟩ : ∃ Y, X4.setRow gT #[.int .u64 th1, .int .u64 tl1] = Y := ⟨_, rfl⟩
    rw [hY7] at AY7 kY7 DY7 r8 ⊢
    clear hY7
    refine hK.out _ _ ?_ (fun hHeld => ?_)
    ·(try dsimp only); exact ⟨HA4.out _ DY7.out, HA5.out _ DY7.out⟩
    clear hK K
    try simp only [lgA, lgB, lgC, Act.put, lsA, lsB, lsC]
    refine wpAnyH_done (by kernel_rfl) ?_ _
    have BV1 := hid DY7.out
    have RT1 := hid AY7.out
    have RO1 := hid r8.out
    obtain ⟨V1, hV1⟩ : ∃ V, Y7 = V := ⟨_, rfl⟩
    rw [hV1] at BV1 RT1 RO1 ⊢
    clear hV1
    rw [← HE1.out, ← HE2.out] at RT1
    go_upto_region 16 with fail
    have BVR := hid (Below.refl V1.heap.size V1)
    go_loopw [12, 10, 11] (fun kv bv sv wr => ∃ k : Nat, k ≤ n ∧ kv = .int .i64 k ∧ bv = .int .u64 (sL (gB xi) (r.take k) % 18446744073709551616) ∧ sv = .int .u64 (sL (gS xi) (r.take k) % 18446744073709551616) ∧ Hid (Below V1.heap.size V1 wr)) (fun kv _ _ _ => n - (intOf kv).toNat)
    case atStart => exact ⟨0, Nat.zero_le _, rfl, rfl, rfl, BVR⟩
    case round =>
     clear BVR
     obtain ⟨k, hkn, rfl, rfl, rfl, BX⟩ := hrel
     by_cases hlk : k < n
     ·have hk : k < r.length := by rw [HN.out]; exact hlk
      have B0 := hid (btr BV1.out BX.out)
      have C0 := hid (fun (U : World) (hU : Below w3.heap.size w3 U) (j : Nat) (hj : j < 6) (u : Value) (e : (nce r[k])[j]? = some u) => nets_cell (own_on OW.out hU) hk hj e)
      have HC1 := hid (fun U hU => C0.out U hU 1 (by decide) _ rfl)
      have HC2 := hid (fun U hU => C0.out U hU 2 (by decide) _ rfl)
      have HC3 := hid (fun U hU => C0.out U hU 3 (by decide) _ rfl)
      have k0 : (0 : Int) ≤ (k : Int) := by omega
      have k1 : (k : Int) < (n : Int) := by omega
      have wk : IntKind.i64.wrap ((k : Int) + 1) = ((k + 1 : Nat) : Int) := by have := HNB.out; rw [IntKind.wrap_i64]; omega
      have HYES := hid (fun e => pb_yes (i := xi) hk e)
      have HNOO := hid (fun e => pb_no (i := xi) hk e)
      obtain ⟨y, hy⟩ : ∃ y, r[k] = y := ⟨_, rfl⟩
      rw [hy] at C0 HC1 HC2 HC3 HYES HNOO
      obtain ⟨ym, yi, yb, ys, ya⟩ := y
      dsimp only at HC1 HC2 HC3 HYES HNOO
      obtain ⟨p, hp⟩ : ∃ z, sL (gB xi) (r.take k) % 18446744073709551616 = z := ⟨_, rfl⟩
      obtain ⟨s, hs⟩ : ∃ z, sL (gS xi) (r.take k) % 18446744073709551616 = z := ⟨_, rfl⟩
      rw [hp, hs] at HYES
      rw [hp, hs]
      have HP := hid hp
      have HS := hid hs
      have HLK := hid hlk
      have f1 := HC1.out wr B0.out
      have f2 := HC2.out wr B0.out
      have f3 := HC3.out wr B0.out
      have f4 := HA1.out wr B0.out
      clear hy hk hp hs C0
      by_cases c : yi = xi
      ·obtain ⟨u1, u2⟩ := HYES.out c
       have ec : (yi == xi) = true := by simpa using c
       have HU1 := hid u1
       have HU2 := hid u2
       obtain ⟨p1, hp1⟩ : ∃ z, IntKind.u64.wrap (p + yb) = z := ⟨_, rfl⟩
       obtain ⟨s1, hs1⟩ : ∃ z, IntKind.u64.wrap (s + ys) = z := ⟨_, rfl⟩
       rw [hp1] at HU1
       rw [hs1] at HU2
       clear c u1 u2
       go_upto_region 18 with fail
       go_big_quiet (fail)
       have BX2 := hid (btr BX.out (bdwN _ nq))
       have B2 := hid (btr BV1.out BX2.out)
       have g2 := HC2.out _ B2.out
       have g3 := HC3.out _ B2.out
       go_wp2
       go_roundw
       case rel => exact ⟨k + 1, HLK.out, by go_num, by rw [HU1.out], by rw [HU2.out], BX2⟩
       case measure => have := HLK.out; simp [intOf]; omega
      ·obtain ⟨u1, u2⟩ := HNOO.out c
       have ec : (yi == xi) = false := by simpa using c
       have HU1 := hid u1
       have HU2 := hid u2
       clear c u1 u2
       go_upto_region 18 with fail
       go_big_quiet (fail)
       have BX2 := hid (btr BX.out (bdwN _ nq))
       go_wp2
       go_roundw
       case rel => exact ⟨k + 1, HLK.out, by go_num, by rw [HU1.out, HP.out], by rw [HU2.out, HS.out], BX2⟩
       case measure => have := HLK.out; simp [intOf]; omega
     ·obtain rfl : k = n := by omega
      have kF : decide ((k : Int) < (k : Int)) = false := by simp
      have HEV := hid (show sL (gB xi) (r.take k) % 18446744073709551616 = sL (gS xi) (r.take k) % 18446744073709551616 from by rw [List.take_of_length_le (by rw [HN.out]; exact Nat.le_refl _)]; exact HZR.out.even xi)
      obtain ⟨p, hp⟩ : ∃ z, sL (gB xi) (r.take k) % 18446744073709551616 = z := ⟨_, rfl⟩
      rw [hp] at HEV
      rw [hp, ← HEV.out]
      clear hp HEV
      have epp : (p != p) = false := by simp
      have B0 := hid (btr BV1.out BX.out)
      have RT2 := hid (row_on RT1.out BX.out)
      have RO2 := hid (row_on RO1.out BX.out)
      go_upto_region 21 with fail
      have f0 : wr.cell? ⟨gn, i * 6, none⟩ = some (.int .u32 xm) := HA0.out wr B0.out
      have f1 := HA1.out wr B0.out
      by_cases hi0 : i = 0
      ·subst hi0
       go_big_quiet (fail)
       have BX2 := hid (btr B0.out (bdwN _ nq))
       have RT3 := hid (row_on RT2.out (bdwN _ nq))
       have RO3 := hid (row_on RO2.out (bdwN _ nq))
       go_wp2
       go_roundw
       case rel => exact ⟨1, HLT.out, by go_num, BX2, RT3, RO3⟩
       case measure => have := HLT.out; simp [intOf]; omega
      ·obtain ⟨j, hj⟩ : ∃ j, j + 1 = i := ⟨i - 1, by omega⟩
       have ig : (0 : Int) < (i : Int) := by omega
       have ig2 : decide ((0 : Int) < (i : Int)) = true := decide_eq_true ig
       have ig3 : decide (0 < i) = true := decide_eq_true (by omega)
       have ig4 : 0 < i := by omega
       have j0 : (0 : Int) ≤ (j : Int) := by omega
       have j1 : (j : Int) < (k : Int) := by omega
       have wj : IntKind.i64.wrap ((i : Int) - 1) = (j : Int) := by have := HNB.out; rw [IntKind.wrap_i64]; omega
       have hjr : j < r.length := by rw [HN.out]; omega
       have hjr1 : j + 1 < r.length := by rw [HN.out]; omega
       have HUP := hid (HZR.out.up j hjr1)
       have hxj : r[j+1] = ⟨xm, xi, xb, xs, xa⟩ := by rw [← HXX.out]; simp only [hj]
       rw [hxj] at HUP
       have D0 := nets_cell (own_on OW.out B0.out) hjr (j := 0) (by decide) rfl
       have D1 := nets_cell (own_on OW.out B0.out) hjr (j := 1) (by decide) rfl
       rw [Nat.add_zero] at D0
       obtain ⟨y, hy⟩ : ∃ y, r[j] = y := ⟨_, rfl⟩
       rw [hy] at D0 D1 HUP
       obtain ⟨ym, yi, yb, ys, ya⟩ := y
       dsimp only at D0 D1 HUP
       have HJ := hid hj
       clear hj hjr hjr1 hxj hy hi0
       have d1 : decide (xm < ym) = false := decide_eq_false (by have := HUP.out; omega)
       by_cases c : ym = xm
       ·have c1 : (ym == xm) = true := by simpa using c
        have c2 : decide (xi ≤ yi) = false := decide_eq_false (by have := HUP.out; omega)
        clear c
        go_big_quiet (fail)
        have BX2 := hid (btr B0.out (bdwN _ nq))
        have RT3 := hid (row_on RT2.out (bdwN _ nq))
        have RO3 := hid (row_on RO2.out (bdwN _ nq))
        go_wp2
        go_roundw
        case rel => exact ⟨i + 1, HLT.out, by go_num, BX2, RT3, RO3⟩
        case measure => have := HLT.out; simp [intOf]; omega
       ·have c1 : (ym == xm) = false := by simpa using c
        clear c
        go_big_quiet (fail)
        have BX2 := hid (btr B0.out (bdwN _ nq))
        have RT3 := hid (row_on RT2.out (bdwN _ nq))
        have RO3 := hid (row_on RO2.out (bdwN _ nq))
        go_wp2
        go_roundw
        case rel => exact ⟨i + 1, HLT.out, by go_num, BX2, RT3, RO3⟩
        case measure => have := HLT.out; simp [intOf]; omega
   ·obtain rfl : n = i := by omega
    have iF : decide ((n : Int) < (n : Int)) = false := by simp
    have ez : sL (·.a) (r.take n) = 0 := by rw [List.take_of_length_le (by rw [HN.out]; exact Nat.le_refl _)]; exact HZR.out.zero
    rw [ez, show hiW 0 = 0 from rfl, show loW 0 = 0 from rfl] at RT
    clear ez
    go_upto_region 24 with fail
    go_loopw [13] (fun iv wr => ∃ i : Nat, i ≤ dn ∧ iv = .int .i64 i ∧ Hid (Below w3.heap.size w3 wr) ∧ Hid (wr.heap[gT]? = some (.cells #[.int .u64 0, .int .u64 0] 33 (0, 0))) ∧ Hid (wr.heap[gO]? = some (.cells #[.int .u64 (hiW (sL (·.2) (dl0.take i))), .int .u64 (loW (sL (·.2) (dl0.take i)))] 33 (0, 0)))) (fun iv _ => dn - (intOf iv).toNat)
    case atStart => exact ⟨0, Nat.zero_le _, rfl, BWo, RT, RO⟩
    case round =>
     clear BWo RT RO
     obtain ⟨i, hin, rfl, BWo, RT, RO⟩ := hrel
     obtain ⟨wo, hwo⟩ : ∃ x, x = wr := ⟨_, rfl⟩
     subst hwo
     by_cases hlt : i < dn
     ·have hir : i < dl0.length := by rw [HDN.out]; exact hlt
      obtain ⟨gd, rfl⟩ : ∃ g, q3 = some ⟨g, 0, none⟩ := by
       obtain ⟨g, e, _⟩ := own_some OD.out (by omega)
       exact ⟨g, e⟩
      have HD0 := hid (fun (U : World) (hU : Below w3.heap.size w3 U) => dues_cell (own_on OD.out hU) hir (j := 0) (by decide) rfl)
      have HD1 := hid (fun (U : World) (hU : Below w3.heap.size w3 U) => dues_cell (own_on OD.out hU) hir (j := 1) (by decide) rfl)
      have HD2 := hid (fun (U : World) (hU : Below w3.heap.size w3 U) => dues_cell (own_on OD.out hU) hir (j := 2) (by decide) rfl)
      have HDU := hid (show dl0[i].2 = sL (gM dl0[i].1) r from (HZR.out.du dl0[i] (List.getElem_mem _)).2)
      have HPN := hid (HZR.out.pdn hir)
      obtain ⟨x, hxx⟩ : ∃ x, dl0[i] = x := ⟨_, rfl⟩
      have HXX := hid hxx
      rw [hxx] at HD0 HD1 HD2 HDU HPN
      obtain ⟨dm, dv⟩ := x
      dsimp only at HD0 HD1 HD2 HDU HPN
      simp only [Nat.add_zero] at HD0
      have CS2 := hid (fun U => lsum_any (sL (·.2) (dl0.take i)) dv U (HZR.out.pd i) HPN.out.2)
      rw [HPN.out.1] at CS2
      unfold mv at CS2
      have CC := hid (fun U => mcompare_any dv dv U HPN.out.2 HPN.out.2)
      rw [show cmp3 dv dv = 0 from by simp [cmp3]] at CC
      unfold mv at CC
      have i0 : (0 : Int) ≤ (i : Int) := by omega
      have i1 : (i : Int) < (dn : Int) := by omega
      have wi : IntKind.i64.wrap ((i : Int) + 1) = ((i + 1 : Nat) : Int) := by have := HDNB.out; rw [IntKind.wrap_i64]; omega
      have HLT := hid hlt
      obtain ⟨dh, edh⟩ : ∃ z, hiW dv = z := ⟨_, rfl⟩
      obtain ⟨dl, edl⟩ : ∃ z, loW dv = z := ⟨_, rfl⟩
      obtain ⟨oh, eth⟩ : ∃ z, hiW (sL (·.2) (dl0.take i)) = z := ⟨_, rfl⟩
      obtain ⟨ol, etl⟩ : ∃ z, loW (sL (·.2) (dl0.take i)) = z := ⟨_, rfl⟩
      obtain ⟨oh1, eth1⟩ : ∃ z, hiW (sL (·.2) (dl0.take (i + 1))) = z := ⟨_, rfl⟩
      obtain ⟨ol1, etl1⟩ : ∃ z, loW (sL (·.2) (dl0.take (i + 1))) = z := ⟨_, rfl⟩
      rw [edh] at HD1 CS2 CC
      rw [edl] at HD2 CS2 CC
      rw [eth, etl, eth1, etl1] at CS2
      rw [eth, etl] at RO
      have HE1 := hid eth1
      have HE2 := hid etl1
      have HDH := hid edh
      have HDL := hid edl
      clear hxx edh edl eth etl eth1 etl1 HPN hlt hin
      have CC7 := hid (CC0.out wo)
      go_upto_region 27 with (go_at_call 8; with_reducible refine (CC0.out _).mono ?_; rintro e w7 ⟨rfl, h7⟩; have B7 := hid h7; clear h7)
      clear CC7
      obtain ⟨gM0, hgM⟩ : ∃ g, w7.heap.size = g := ⟨_, rfl⟩
      obtain ⟨W7, hW7⟩ : ∃ W, w7.alloc (.cells #[.int .u64 0, .int .u64 0] 33) = W := ⟨_, rfl⟩
      have B8 := hid (show Below w7.heap.size w7 W7 from by rw [← hW7]; exact ball _ _)
      have BM0 := hid (btr BWo.out (btr B7.out B8.out))
      have RTm0 := hid (row_on (row_on RT.out B7.out) B8.out)
      have ROm0 := hid (row_on (row_on RO.out B7.out) B8.out)
      have RMm0 := hid (show W7.heap[gM0]? = some (.cells #[.int .u64 (hiW (sL (gM dm) (r.take 0))), .int .u64 (loW (sL (gM dm) (r.take 0)))] 33 (0, 0)) from by rw [← hW7, ← hgM]; exact World.alloc_heap_new _ _)
      have NTM := hid (show gT ≠ gM0 from by have := row_lt (row_on RT.out B7.out); omega)
      have NOM := hid (show gO ≠ gM0 from by have := row_lt (row_on RO.out B7.out); omega)
      have LOM := hid (show w3.heap.size ≤ gM0 from by rw [← hgM]; exact (btr BWo.out B7.out).size)
      rw [hW7, hgM]
      clear hgM hW7 B7 B8
      go_upto_region 28 with fail
      go_loopw [15] (fun kv wr => ∃ k : Nat, k ≤ n ∧ kv = .int .i64 k ∧ Hid (Below w3.heap.size w3 wr) ∧ Hid (wr.heap[gT]? = some (.cells #[.int .u64 0, .int .u64 0] 33 (0, 0))) ∧ Hid (wr.heap[gO]? = some (.cells #[.int .u64 oh, .int .u64 ol] 33 (0, 0))) ∧ Hid (wr.heap[gM0]? = some (.cells #[.int .u64 (hiW (sL (gM dm) (r.take k))), .int .u64 (loW (sL (gM dm) (r.take k)))] 33 (0, 0)))) (fun kv _ => n - (intOf kv).toNat)
      case atStart => exact ⟨0, Nat.zero_le _, rfl, BM0, RTm0, ROm0, RMm0⟩
      case round =>
       clear BM0 RTm0 ROm0 RMm0
       obtain ⟨k, hkn, rfl, BM, RTm, ROm, RMm⟩ := hrel
       by_cases hlk : k < n
       ·have hk : k < r.length := by rw [HN.out]; exact hlk
        obtain ⟨gn, rfl⟩ : ∃ g, q2 = some ⟨g, 0, none⟩ := by
         obtain ⟨g, e, _⟩ := own_some OW.out (by omega)
         exact ⟨g, e⟩
        have C0 := hid (fun (U : World) (hU : Below w3.heap.size w3 U) (j : Nat) (hj : j < 6) (u : Value) (e : (nce r[k])[j]? = some u) => nets_cell (own_on OW.out hU) hk hj e)
        have HC0 := hid (fun U hU => C0.out U hU 0 (by decide) _ rfl)
        have HC4 := hid (fun U hU => C0.out U hU 4 (by decide) _ rfl)
        have HC5 := hid (fun U hU => C0.out U hU 5 (by decide) _ rfl)
        have k0 : (0 : Int) ≤ (k : Int) := by omega
        have k1 : (k : Int) < (n : Int) := by omega
        have wk : IntKind.i64.wrap ((k : Int) + 1) = ((k + 1 : Nat) : Int) := by have := HNB.out; rw [IntKind.wrap_i64]; omega
        have HYES := hid (fun e => HZR.out.pmn (m := dm) hk e)
        have HNOO := hid (fun e => pm_no (m := dm) hk e)
        have HAY := hid (HZR.out.pan hk).2
        obtain ⟨y, hy⟩ : ∃ y, r[k] = y := ⟨_, rfl⟩
        rw [hy] at C0 HC0 HC4 HC5 HYES HNOO HAY
        obtain ⟨ym, yi, yb, ys, ya⟩ := y
        dsimp only at HC0 HC4 HC5 HYES HNOO HAY
        have HLK := hid hlk
        have f1 : wr.cell? ⟨gn, k * 6, none⟩ = some (.int .u32 ym) := HC0.out wr BM.out
        have f2 : wr.cell? ⟨gd, i * 3, none⟩ = some (.int .u32 dm) := HD0.out wr BM.out
        clear hy hk C0
        by_cases c : ym = dm
        ·have ec : (ym == dm) = true := by simpa using c
         have CS := hid (fun U => lsum_any (sL (gM dm) (r.take k)) ya U (HZR.out.pm dm k) HAY.out)
         rw [HYES.out c] at CS
         unfold mv at CS
         obtain ⟨yah, eah⟩ : ∃ z, hiW ya = z := ⟨_, rfl⟩
         obtain ⟨yal, eal⟩ : ∃ z, loW ya = z := ⟨_, rfl⟩
         obtain ⟨mh, eth⟩ : ∃ z, hiW (sL (gM dm) (r.take k)) = z := ⟨_, rfl⟩
         obtain ⟨ml, etl⟩ : ∃ z, loW (sL (gM dm) (r.take k)) = z := ⟨_, rfl⟩
         obtain ⟨mh1, eth1⟩ : ∃ z, hiW (sL (gM dm) (r.take (k + 1))) = z := ⟨_, rfl⟩
         obtain ⟨ml1, etl1⟩ : ∃ z, loW (sL (gM dm) (r.take (k + 1))) = z := ⟨_, rfl⟩
         rw [eah] at HC4 CS
         rw [eal] at HC5 CS
         rw [eth, etl, eth1, etl1] at CS
         rw [eth, etl] at RMm
         have HM1 := hid eth1
         have HM2 := hid etl1
         clear c eah eal eth etl eth1 etl1
         go_upto_region 30 with fail
         go_big_quiet (fail)
         obtain ⟨vq, hvq⟩ : ∃ v, v = wr.drewN nq := ⟨_, rfl⟩
         have BQ := hid (show Below w3.heap.size w3 vq from by rw [hvq]; exact btr BM.out (bdwN _ nq))
         have RTq := hid (show vq.heap[gT]? = some (.cells #[.int .u64 0, .int .u64 0] 33 (0, 0)) from by rw [hvq]; exact row_on RTm.out (bdwN _ nq))
         have ROq := hid (show vq.heap[gO]? = some (.cells #[.int .u64 oh, .int .u64 ol] 33 (0, 0)) from by rw [hvq]; exact row_on ROm.out (bdwN _ nq))
         have RMq := hid (show vq.heap[gM0]? = some (.cells #[.int .u64 mh, .int .u64 ml] 33 (0, 0)) from by rw [hvq]; exact row_on RMm.out (bdwN _ nq))
         rw [← hvq]
         clear hvq f1 f2
         go_upto_region 31 with fail
         obtain ⟨V9, hV9⟩ : ∃ U, vq.drew = U := ⟨_, rfl⟩
         have bV9 := hid (show Below vq.heap.size vq V9 from by rw [← hV9]; exact bdrew1 _)
         have DV9 := hid (btr BQ.out bV9.out)
         have r10 := hid (row_on RTq.out bV9.out)
         have r11 := hid (row_on ROq.out bV9.out)
         have r12 := hid (row_on RMq.out bV9.out)
         refine wp_region_held_drew (S := (fun U => U.cell? ⟨gn, k * 6 + 4, none⟩ = some (.int .u64 yah) ∧ U.cell? ⟨gn, k * 6 + 5, none⟩ = some (.int .u64 yal))) (by kernel_rfl) ?_ (fun hHeld => ?_)
         ·(try dsimp only); rw [hV9]; exact ⟨HC4.out _ DV9.out, HC5.out _ DV9.out⟩
         rw [hV9] at hHeld ⊢
         clear hV9
         refine' tkz 1 rfl ?_ ?_
         rotate_left
         ·(intro w hSw; (try dsimp only at hSw); go_simp; try (with_reducible rfl))
         try simp only [lgA, lgB, lgC, Act.put, lsA, lsB, lsC]
         refine' tkz 2 rfl ?_ ?_
         rotate_left
         ·(intro w hSw; (try dsimp only at hSw); go_simp; try (with_reducible rfl))
         try simp only [lgA, lgB, lgC, Act.put, lsA, lsB, lsC]
         refine' tkz 3 rfl ?_ ?_
         rotate_left
         ·(intro w hSw; (try dsimp only at hSw); go_simp; try (with_reducible rfl))
         try simp only [lgA, lgB, lgC, Act.put, lsA, lsB, lsC]
         refine' tkz 4 rfl ?_ ?_
         rotate_left
         ·(intro w hSw; (try dsimp only at hSw); go_simp; try (with_reducible rfl))
         try simp only [lgA, lgB, lgC, Act.put, lsA, lsB, lsC]
         refine' tkz 5 rfl ?_ ?_
         rotate_left
         ·(intro w hSw; (try dsimp only at hSw); go_simp; try (with_reducible rfl))
         try simp only [lgA, lgB, lgC, Act.put, lsA, lsB, lsC]
         refine wpAnyH_ready (rs := [0]) (by kernel_rfl) (by simp) ?_
         refine (AllReadyH.cons rfl (fun K hK => ?_) AllReadyH.nil)
         have z0 := row_cell r12.out 0
         have z1 := row_cell r12.out 1
         simp only [lqA, lqB, lqC] at z0 z1
         go_simp
         refine hK.out _ _ ?_ (fun hHeld => ?_)
         ·(try dsimp only); exact ⟨HC4.out _ DV9.out, HC5.out _ DV9.out⟩
         clear hK K z0 z1
         try simp only [lgA, lgB, lgC, Act.put, lsA, lsB, lsC]
         refine wpAnyH_ready (rs := [6]) (by kernel_rfl) (by simp) ?_
         refine (AllReadyH.cons rfl (fun K hK => ?_) AllReadyH.nil)
         go_simp
         go_at_call 9
         with_reducible refine (CS.out V9).mono ?_
         rintro e X13 ⟨rfl, cX13⟩
         have bX13 := hid cX13
         clear cX13
         have DX13 := hid (btr DV9.out bX13.out)
         have r14 := hid (row_on r10.out bX13.out)
         have r15 := hid (row_on r11.out bX13.out)
         have r16 := hid (row_on r12.out bX13.out)
         (try go_wp2_with fail)
         refine hK.out _ _ ?_ (fun hHeld => ?_)
         ·(try dsimp only); exact ⟨HC4.out _ DX13.out, HC5.out _ DX13.out⟩
         clear hK K
         try simp only [lgA, lgB, lgC, Act.put, lsA, lsB, lsC]
         refine wpAnyH_ready (rs := [7]) (by kernel_rfl) (by simp) ?_
         refine (AllReadyH.cons rfl (fun K hK => ?_) AllReadyH.nil)
         refine step_store_row (by rfl) 33 (.tmp 14) (.tmp 160) (by rfl) gM0 #[.int .u64 mh1, .int .u64 ml1] (by rfl) (by rfl) 33 _ r16.out infoM2 (by rfl) (by simp [Value.oneCell']) ?_
         have AY17 := hid (setRow_heap X13 gM0 _ #[.int .u64 mh1, .int .u64 ml1] 33 (0, 0) r16.out)
         have kY17 := hid (setRow_kp X13 gM0 #[.int .u64 mh1, .int .u64 ml1])
         have r18 := hid (kY17.out.row r14.out (fun e => NTM.out e))
         have r19 := hid (kY17.out.row r15.out (fun e => NOM.out e))
         have DY17 := hid (show Below _ _ _ from DX13.out.trans (kY17.out.below DX13.out.size (fun g hg e => by have := LOM.out; omega)))
         obtain ⟨Y17, hY17⟩ : ∃ Y, X13.setRow gM0 #[.int .u64 mh1, .int .u64 ml1] = Y := ⟨_, rfl⟩
         rw [hY17] at AY17 kY17 DY17 r18 r19 ⊢
         clear hY17
         refine hK.out _ _ ?_ (fun hHeld => ?_)
         ·(try dsimp only); exact ⟨HC4.out _ DY17.out, HC5.out _ DY17.out⟩
         clear hK K
         try simp only [lgA, lgB, lgC, Act.put, lsA, lsB, lsC]
         refine wpAnyH_done (by kernel_rfl) ?_ _
         have BV1 := hid DY17.out
         have RT2 := hid r18.out
         have RO2 := hid r19.out
         have RM2 := hid AY17.out
         obtain ⟨V1, hV1⟩ : ∃ V, Y17 = V := ⟨_, rfl⟩
         rw [hV1] at BV1 RT2 RO2 RM2 ⊢
         clear hV1
         rw [← HM1.out, ← HM2.out] at RM2
         (try go_wp2)
         go_roundw
         case rel => exact ⟨k + 1, HLK.out, by go_num, BV1, RT2, RO2, RM2⟩
         case measure => have := HLK.out; simp [intOf]; omega
        ·have ec : (ym == dm) = false := by simpa using c
         have HM0 := hid (HNOO.out c)
         clear c
         go_upto_region 30 with fail
         go_big_quiet (fail)
         have BQ := hid (btr BM.out (bdwN _ nq))
         have RTq := hid (row_on RTm.out (bdwN _ nq))
         have ROq := hid (row_on ROm.out (bdwN _ nq))
         have RMq := hid (row_on RMm.out (bdwN _ nq))
         rw [← HM0.out] at RMq
         go_wp2
         go_roundw
         case rel => exact ⟨k + 1, HLK.out, by go_num, BQ, RTq, ROq, RMq⟩
         case measure => have := HLK.out; simp [intOf]; omega
       ·obtain rfl : k = n := by omega
        have kF : decide ((k : Int) < (k : Int)) = false := by simp
        have em0 : sL (gM dm) (r.take k) = dv := by rw [List.take_of_length_le (by rw [HN.out]; exact Nat.le_refl _)]; exact HDU.out.symm
        rw [em0, HDH.out, HDL.out] at RMm
        clear em0
        go_upto_region 32 with fail
        by_cases hi0 : i = 0
        ·have iz : decide ((0 : Int) < (i : Int)) = false := decide_eq_false (by omega)
         have iz3 : decide (0 < i) = false := decide_eq_false (by omega)
         clear hi0
         obtain ⟨V20, hV20⟩ : ∃ U, wr.drew = U := ⟨_, rfl⟩
         have bV20 := hid (show Below wr.heap.size wr V20 from by rw [← hV20]; exact bdrew1 _)
         have DV20 := hid (btr BM.out bV20.out)
         have r21 := hid (row_on RTm.out bV20.out)
         have r22 := hid (row_on ROm.out bV20.out)
         have r23 := hid (row_on RMm.out bV20.out)
         refine wp_region_held_drew (S := (fun U => U.cell? ⟨gM0, 0, none⟩ = some (.int .u64 dh) ∧ U.cell? ⟨gM0, 1, none⟩ = some (.int .u64 dl) ∧ U.cell? ⟨gd, i * 3, none⟩ = some (.int .u32 dm) ∧ U.cell? ⟨gd, i * 3 + 1, none⟩ = some (.int .u64 dh) ∧ U.cell? ⟨gd, i * 3 + 2, none⟩ = some (.int .u64 dl))) (by kernel_rfl) ?_ (fun hHeld => ?_)
         ·(try dsimp only); rw [hV20]; exact ⟨row_cell r23.out 0, row_cell r23.out 1, HD0.out _ DV20.out, HD1.out _ DV20.out, HD2.out _ DV20.out⟩
         rw [hV20] at hHeld ⊢
         clear hV20
         refine' tkz 0 rfl ?_ ?_
         rotate_left
         ·(intro w hSw; (try dsimp only at hSw); go_simp; try (with_reducible rfl))
         try simp only [lgA, lgB, lgC, Act.put, lsA, lsB, lsC]
         refine' tkz 1 rfl ?_ ?_
         rotate_left
         ·(intro w hSw; (try dsimp only at hSw); go_simp; try (with_reducible rfl))
         try simp only [lgA, lgB, lgC, Act.put, lsA, lsB, lsC]
         refine' tkz 2 rfl ?_ ?_
         rotate_left
         ·(intro w hSw; (try dsimp only at hSw); go_simp; try (with_reducible rfl))
         try simp only [lgA, lgB, lgC, Act.put, lsA, lsB, lsC]
         refine' tkz 3 rfl ?_ ?_
         rotate_left
         ·(intro w hSw; (try dsimp only at hSw); go_simp; try (with_reducible rfl))
         try simp only [lgA, lgB, lgC, Act.put, lsA, lsB, lsC]
         refine' tkz 4 rfl ?_ ?_
         rotate_left
         ·(intro w hSw; (try dsimp only at hSw); go_simp; try (with_reducible rfl))
         try simp only [lgA, lgB, lgC, Act.put, lsA, lsB, lsC]
         refine' tkz 5 rfl ?_ ?_
         rotate_left
         ·(intro w hSw; (try dsimp only at hSw); go_simp; try (with_reducible rfl))
         try simp only [lgA, lgB, lgC, Act.put, lsA, lsB, lsC]
         refine wpAnyH_ready (rs := [6]) (by kernel_rfl) (by simp) ?_
         refine (AllReadyH.cons rfl (fun K hK => ?_) AllReadyH.nil)
         go_simp
         go_at_call 10
         with_reducible refine (CC.out V20).mono ?_
         rintro e X24 ⟨rfl, cX24⟩
         have bX24 := hid cX24
         clear cX24
         have DX24 := hid (btr DV20.out bX24.out)
         have r25 := hid (row_on r21.out bX24.out)
         have r26 := hid (row_on r22.out bX24.out)
         have r27 := hid (row_on r23.out bX24.out)
         (try go_wp2_with fail)
         refine hK.out _ _ ?_ (fun hHeld => ?_)
         ·(try dsimp only); exact ⟨row_cell r27.out 0, row_cell r27.out 1, HD0.out _ DX24.out, HD1.out _ DX24.out, HD2.out _ DX24.out⟩
         clear hK K
         try simp only [lgA, lgB, lgC, Act.put, lsA, lsB, lsC]
         refine' tkz 7 rfl ?_ ?_
         rotate_left
         ·(intro w hSw; (try dsimp only at hSw); go_simp; try (with_reducible rfl))
         try simp only [lgA, lgB, lgC, Act.put, lsA, lsB, lsC]
         refine' tkz 8 rfl ?_ ?_
         rotate_left
         ·(intro w hSw; (try dsimp only at hSw); go_simp; try (with_reducible rfl))
         try simp only [lgA, lgB, lgC, Act.put, lsA, lsB, lsC]
         refine' tkz 9 rfl ?_ ?_
         rotate_left
         ·(intro w hSw; (try dsimp only at hSw); go_simp; try (with_reducible rfl))
         try simp only [lgA, lgB, lgC, Act.put, lsA, lsB, lsC]
         refine' tkz 10 rfl ?_ ?_
         rotate_left
         ·(intro w hSw; (try dsimp only at hSw); go_simp; try (with_reducible rfl))
         try simp only [lgA, lgB, lgC, Act.put, lsA, lsB, lsC]
         refine' tkz 11 rfl ?_ ?_
         rotate_left
         ·(intro w hSw; (try dsimp only at hSw); go_simp; try (with_reducible rfl))
         try simp only [lgA, lgB, lgC, Act.put, lsA, lsB, lsC]
         refine' wpAnyH_take (i := 12) (oi := _) (v := undef) rfl (by kernel_rfl) (by kernel_rfl) (by kernel_rfl) (fun _ _ _ h => h) (Or.inr ⟨by kernel_rfl, rfl⟩) (by assumption) ?_
         try simp only [lgA, lgB, lgC, Act.put, lsA, lsB, lsC]
         refine' wpAnyH_take (i := 13) (oi := _) (v := undef) rfl (by kernel_rfl) (by kernel_rfl) (by kernel_rfl) (fun _ _ _ h => h) (Or.inr ⟨by kernel_rfl, rfl⟩) (by assumption) ?_
         try simp only [lgA, lgB, lgC, Act.put, lsA, lsB, lsC]
         refine' wpAnyH_take (i := 14) (oi := _) (v := undef) rfl (by kernel_rfl) (by kernel_rfl) (by kernel_rfl) (fun _ _ _ h => h) (Or.inr ⟨by kernel_rfl, rfl⟩) (by assumption) ?_
         try simp only [lgA, lgB, lgC, Act.put, lsA, lsB, lsC]
         refine' wpAnyH_take (i := 15) (oi := _) (v := undef) rfl (by kernel_rfl) (by kernel_rfl) (by kernel_rfl) (fun _ _ _ h => h) (Or.inr ⟨by kernel_rfl, rfl⟩) (by assumption) ?_
         try simp only [lgA, lgB, lgC, Act.put, lsA, lsB, lsC]
         refine' wpAnyH_take (i := 16) (oi := _) (v := undef) rfl (by kernel_rfl) (by kernel_rfl) (by kernel_rfl) (fun _ _ _ h => h) (Or.inr ⟨by kernel_rfl, rfl⟩) (by assumption) ?_
         try simp only [lgA, lgB, lgC, Act.put, lsA, lsB, lsC]
         refine' wpAnyH_take (i := 17) (oi := _) (v := undef) rfl (by kernel_rfl) (by kernel_rfl) (by kernel_rfl) (fun _ _ _ h => h) (Or.inr ⟨by kernel_rfl, rfl⟩) (by assumption) ?_
         try simp only [lgA, lgB, lgC, Act.put, lsA, lsB, lsC]
         refine' wpAnyH_take (i := 18) (oi := _) (v := undef) rfl (by kernel_rfl) (by kernel_rfl) (by kernel_rfl) (fun _ _ _ h => h) (Or.inr ⟨by kernel_rfl, rfl⟩) (by assumption) ?_
         try simp only [lgA, lgB, lgC, Act.put, lsA, lsB, lsC]
         refine' wpAnyH_take (i := 19) (oi := _) (v := undef) rfl (by kernel_rfl) (by kernel_rfl) (by kernel_rfl) (fun _ _ _ h => h) (Or.inr ⟨by kernel_rfl, rfl⟩) (by assumption) ?_
         try simp only [lgA, lgB, lgC, Act.put, lsA, lsB, lsC]
         refine' wpAnyH_take (i := 20) (oi := _) (v := undef) rfl (by kernel_rfl) (by kernel_rfl) (by kernel_rfl) (fun _ _ _ h => h) (Or.inr ⟨by kernel_rfl, rfl⟩) (by assumption) ?_
         try simp only [lgA, lgB, lgC, Act.put, lsA, lsB, lsC]
         refine' wpAnyH_take (i := 21) (oi := _) (v := undef) rfl (by kernel_rfl) (by kernel_rfl) (by kernel_rfl) (fun _ _ _ h => h) (Or.inr ⟨by kernel_rfl, rfl⟩) (by assumption) ?_
         try simp only [lgA, lgB, lgC, Act.put, lsA, lsB, lsC]
         refine' wpAnyH_take (i := 22) (oi := _) (v := undef) rfl (by kernel_rfl) (by kernel_rfl) (by kernel_rfl) (fun _ _ _ h => h) (Or.inr ⟨by kernel_rfl, rfl⟩) (by assumption) ?_
         try simp only [lgA, lgB, lgC, Act.put, lsA, lsB, lsC]
         refine' wpAnyH_take (i := 23) (oi := _) (v := undef) rfl (by kernel_rfl) (by kernel_rfl) (by kernel_rfl) (fun _ _ _ h => h) (Or.inr ⟨by kernel_rfl, rfl⟩) (by assumption) ?_
         try simp only [lgA, lgB, lgC, Act.put, lsA, lsB, lsC]
         refine' tkz 24 rfl ?_ ?_
         rotate_left
         ·(intro w hSw; (try dsimp only at hSw); go_simp; try (with_reducible rfl))
         try simp only [lgA, lgB, lgC, Act.put, lsA, lsB, lsC]
         refine' tkz 25 rfl ?_ ?_
         rotate_left
         ·(intro w hSw; (try dsimp only at hSw); go_simp; try (with_reducible rfl))
         try simp only [lgA, lgB, lgC, Act.put, lsA, lsB, lsC]
         refine wpAnyH_done (by kernel_rfl) ?_ _
         have BV3 := hid DX24.out
         have RT3 := hid r25.out
         have RO3 := hid r26.out
         obtain ⟨V3, hV3⟩ : ∃ V, X24 = V := ⟨_, rfl⟩
         rw [hV3] at BV3 RT3 RO3 ⊢
         clear hV3
         go_upto_region 34 with fail
         obtain ⟨V36, hV36⟩ : ∃ U, V3.drew = U := ⟨_, rfl⟩
         have bV36 := hid (show Below V3.heap.size V3 V36 from by rw [← hV36]; exact bdrew1 _)
         have DV36 := hid (btr BV3.out bV36.out)
         have r37 := hid (row_on RT3.out bV36.out)
         have r38 := hid (row_on RO3.out bV36.out)
         refine wp_region_held_drew (S := (fun U => U.cell? ⟨gd, i * 3 + 1, none⟩ = some (.int .u64 dh) ∧ U.cell? ⟨gd, i * 3 + 2, none⟩ = some (.int .u64 dl))) (by kernel_rfl) ?_ (fun hHeld => ?_)
         ·(try dsimp only); rw [hV36]; exact ⟨HD1.out _ DV36.out, HD2.out _ DV36.out⟩
         rw [hV36] at hHeld ⊢
         clear hV36
         refine' tkz 1 rfl ?_ ?_
         rotate_left
         ·(intro w hSw; (try dsimp only at hSw); go_simp; try (with_reducible rfl))
         try simp only [lgA, lgB, lgC, Act.put, lsA, lsB, lsC]
         refine' tkz 2 rfl ?_ ?_
         rotate_left
         ·(intro w hSw; (try dsimp only at hSw); go_simp; try (with_reducible rfl))
         try simp only [lgA, lgB, lgC, Act.put, lsA, lsB, lsC]
         refine' tkz 3 rfl ?_ ?_
         rotate_left
         ·(intro w hSw; (try dsimp only at hSw); go_simp; try (with_reducible rfl))
         try simp only [lgA, lgB, lgC, Act.put, lsA, lsB, lsC]
         refine' tkz 4 rfl ?_ ?_
         rotate_left
         ·(intro w hSw; (try dsimp only at hSw); go_simp; try (with_reducible rfl))
         try simp only [lgA, lgB, lgC, Act.put, lsA, lsB, lsC]
         refine' tkz 5 rfl ?_ ?_
         rotate_left
         ·(intro w hSw; (try dsimp only at hSw); go_simp; try (with_reducible rfl))
         try simp only [lgA, lgB, lgC, Act.put, lsA, lsB, lsC]
         refine wpAnyH_ready (rs := [0]) (by kernel_rfl) (by simp) ?_
         refine (AllReadyH.cons rfl (fun K hK => ?_) AllReadyH.nil)
         have z0 := row_cell r38.out 0
         have z1 := row_cell r38.out 1
         simp only [lqA, lqB, lqC] at z0 z1
         go_simp
         refine hK.out _ _ ?_ (fun hHeld => ?_)
         ·(try dsimp only); exact ⟨HD1.out _ DV36.out, HD2.out _ DV36.out⟩
         clear hK K z0 z1
         try simp only [lgA, lgB, lgC, Act.put, lsA, lsB, lsC]
         refine wpAnyH_ready (rs := [6]) (by kernel_rfl) (by simp) ?_
         refine (AllReadyH.cons rfl (fun K hK => ?_) AllReadyH.nil)
         go_simp
         go_at_call 9
         with_reducible refine (CS2.out V36).mono ?_
         rintro e X39 ⟨rfl, cX39⟩
         have bX39 := hid cX39
         clear cX39
         have DX39 := hid (btr DV36.out bX39.out)
         have r40 := hid (row_on r37.out bX39.out)
         have r41 := hid (row_on r38.out bX39.out)
         (try go_wp2_with fail)
         refine hK.out _ _ ?_ (fun hHeld => ?_)
         ·(try dsimp only); exact ⟨HD1.out _ DX39.out, HD2.out _ DX39.out⟩
         clear hK K
         try simp only [lgA, lgB, lgC, Act.put, lsA, lsB, lsC]
         refine wpAnyH_ready (rs := [7]) (by kernel_rfl) (by simp) ?_
         refine (AllReadyH.cons rfl (fun K hK => ?_) AllReadyH.nil)
         refine step_store_row (by rfl) 33 (.tmp 8) (.tmp 193) (by rfl) gO #[.int .u64 oh1, .int .u64 ol1] (by rfl) (by rfl) 33 _ r41.out infoM2 (by rfl) (by simp [Value.oneCell']) ?_
         have AY42 := hid (setRow_heap X39 gO _ #[.int .u64 oh1, .int .u64 ol1] 33 (0, 0) r41.out)
         have kY42 := hid (setRow_kp X39 gO #[.int .u64 oh1, .int .u64 ol1])
         have r43 := hid (kY42.out.row r40.out (fun e => NTO.out e))
         have DY42 := hid (show Below _ _ _ from DX39.out.trans (kY42.out.below DX39.out.size (fun g hg e => by have := LOO.out; omega)))
         obtain ⟨Y42, hY42⟩ : ∃ Y, X39.setRow gO #[.int .u64 oh1, .int .u64 ol1] = Y := ⟨_, rfl⟩
         rw [hY42] at AY42 kY42 DY42 r43 ⊢
         clear hY42
         refine hK.out _ _ ?_ (fun hHeld => ?_)
         ·(try dsimp only); exact ⟨HD1.out _ DY42.out, HD2.out _ DY42.out⟩
         clear hK K
         try simp only [lgA, lgB, lgC, Act.put, lsA, lsB, lsC]
         refine wpAnyH_done (by kernel_rfl) ?_ _
         have BV4 := hid DY42.out
         have RT4 := hid r43.out
         have RO4 := hid AY42.out
         obtain ⟨V4, hV4⟩ : ∃ V, Y42 = V := ⟨_, rfl⟩
         rw [hV4] at BV4 RT4 RO4 ⊢
         clear hV4
         rw [← HE1.out, ← HE2.out] at RO4
         (try go_wp2)
         go_roundw
         case rel => exact ⟨i + 1, HLT.out, by go_num, BV4, RT4, RO4⟩
         case measure => have := HLT.out; simp [intOf]; omega
        ·obtain ⟨j, hj⟩ : ∃ j, j + 1 = i := ⟨i - 1, by omega⟩
         have ig : (0 : Int) < (i : Int) := by omega
         have ig2 : decide ((0 : Int) < (i : Int)) = true := decide_eq_true ig
         have ig3 : decide (0 < i) = true := decide_eq_true (by omega)
         have ig4 : 0 < i := by omega
         have j0 : (0 : Int) ≤ (j : Int) := by omega
         have j1 : (j : Int) < (dn : Int) := by have := HLT.out; omega
         have wj : IntKind.i64.wrap ((i : Int) - 1) = (j : Int) := by have := HDNB.out; have := HLT.out; rw [IntKind.wrap_i64]; omega
         have hjr : j < dl0.length := by rw [HDN.out]; have := HLT.out; omega
         have hjr1 : j + 1 < dl0.length := by rw [HDN.out]; have := HLT.out; omega
         have HUP := hid (HZR.out.dup j hjr1)
         have hxj : dl0[j+1] = (dm, dv) := by rw [← HXX.out]; simp only [hj]
         rw [hxj] at HUP
         have HE0 := hid (fun (U : World) (hU : Below w3.heap.size w3 U) => dues_cell (own_on OD.out hU) hjr (j := 0) (by decide) rfl)
         obtain ⟨y, hy⟩ : ∃ y, dl0[j] = y := ⟨_, rfl⟩
         rw [hy] at HE0 HUP
         obtain ⟨em, ev⟩ := y
         dsimp only at HE0 HUP
         simp only [Nat.add_zero] at HE0
         have d1 : decide (dm ≤ em) = false := decide_eq_false (by have := HUP.out; omega)
         clear hj hjr hjr1 hxj hy hi0
         obtain ⟨V28, hV28⟩ : ∃ U, wr.drew = U := ⟨_, rfl⟩
         have bV28 := hid (show Below wr.heap.size wr V28 from by rw [← hV28]; exact bdrew1 _)
         have DV28 := hid (btr BM.out bV28.out)
         have r29 := hid (row_on RTm.out bV28.out)
         have r30 := hid (row_on ROm.out bV28.out)
         have r31 := hid (row_on RMm.out bV28.out)
         refine wp_region_held_drew (S := (fun U => U.cell? ⟨gM0, 0, none⟩ = some (.int .u64 dh) ∧ U.cell? ⟨gM0, 1, none⟩ = some (.int .u64 dl) ∧ U.cell? ⟨gd, i * 3, none⟩ = some (.int .u32 dm) ∧ U.cell? ⟨gd, i * 3 + 1, none⟩ = some (.int .u64 dh) ∧ U.cell? ⟨gd, i * 3 + 2, none⟩ = some (.int .u64 dl) ∧ U.cell? ⟨gd, j * 3, none⟩ = some (.int .u32 em))) (by kernel_rfl) ?_ (fun hHeld => ?_)
         ·(try dsimp only); rw [hV28]; exact ⟨row_cell r31.out 0, row_cell r31.out 1, HD0.out _ DV28.out, HD1.out _ DV28.out, HD2.out _ DV28.out, HE0.out _ DV28.out⟩
         rw [hV28] at hHeld ⊢
         clear hV28
         refine' tkz 0 rfl ?_ ?_
         rotate_left
         ·(intro w hSw; (try dsimp only at hSw); go_simp; try (with_reducible rfl))
         try simp only [lgA, lgB, lgC, Act.put, lsA, lsB, lsC]
         refine' tkz 1 rfl ?_ ?_
         rotate_left
         ·(intro w hSw; (try dsimp only at hSw); go_simp; try (with_reducible rfl))
         try simp only [lgA, lgB, lgC, Act.put, lsA, lsB, lsC]
         refine' tkz 2 rfl ?_ ?_
         rotate_left
         ·(intro w hSw; (try dsimp only at hSw); go_simp; try (with_reducible rfl))
         try simp only [lgA, lgB, lgC, Act.put, lsA, lsB, lsC]
         refine' tkz 3 rfl ?_ ?_
         rotate_left
         ·(intro w hSw; (try dsimp only at hSw); go_simp; try (with_reducible rfl))
         try simp only [lgA, lgB, lgC, Act.put, lsA, lsB, lsC]
         refine' tkz 4 rfl ?_ ?_
         rotate_left
         ·(intro w hSw; (try dsimp only at hSw); go_simp; try (with_reducible rfl))
         try simp only [lgA, lgB, lgC, Act.put, lsA, lsB, lsC]
         refine' tkz 5 rfl ?_ ?_
         rotate_left
         ·(intro w hSw; (try dsimp only at hSw); go_simp; try (with_reducible rfl))
         try simp only [lgA, lgB, lgC, Act.put, lsA, lsB, lsC]
         refine wpAnyH_ready (rs := [6]) (by kernel_rfl) (by simp) ?_
         refine (AllReadyH.cons rfl (fun K hK => ?_) AllReadyH.nil)
         go_simp
         go_at_call 10
         with_reducible refine (CC.out V28).mono ?_
         rintro e X32 ⟨rfl, cX32⟩
         have bX32 := hid cX32
         clear cX32
         have DX32 := hid (btr DV28.out bX32.out)
         have r33 := hid (row_on r29.out bX32.out)
         have r34 := hid (row_on r30.out bX32.out)
         have r35 := hid (row_on r31.out bX32.out)
         (try go_wp2_with fail)
         refine hK.out _ _ ?_ (fun hHeld => ?_)
         ·(try dsimp only); exact ⟨row_cell r35.out 0, row_cell r35.out 1, HD0.out _ DX32.out, HD1.out _ DX32.out, HD2.out _ DX32.out, HE0.out _ DX32.out⟩
         clear hK K
         try simp only [lgA, lgB, lgC, Act.put, lsA, lsB, lsC]
         refine' tkz 7 rfl ?_ ?_
         rotate_left
         ·(intro w hSw; (try dsimp only at hSw); go_simp; try (with_reducible rfl))
         try simp only [lgA, lgB, lgC, Act.put, lsA, lsB, lsC]
         refine' tkz 8 rfl ?_ ?_
         rotate_left
         ·(intro w hSw; (try dsimp only at hSw); go_simp; try (with_reducible rfl))
         try simp only [lgA, lgB, lgC, Act.put, lsA, lsB, lsC]
         refine' tkz 9 rfl ?_ ?_
         rotate_left
         ·(intro w hSw; (try dsimp only at hSw); go_simp; try (with_reducible rfl))
         try simp only [lgA, lgB, lgC, Act.put, lsA, lsB, lsC]
         refine' tkz 10 rfl ?_ ?_
         rotate_left
         ·(intro w hSw; (try dsimp only at hSw); go_simp; try (with_reducible rfl))
         try simp only [lgA, lgB, lgC, Act.put, lsA, lsB, lsC]
         refine' tkz 11 rfl ?_ ?_
         rotate_left
         ·(intro w hSw; (try dsimp only at hSw); go_simp; try (with_reducible rfl))
         try simp only [lgA, lgB, lgC, Act.put, lsA, lsB, lsC]
         refine' tkz 12 rfl ?_ ?_
         rotate_left
         ·(intro w hSw; (try dsimp only at hSw); go_simp; try (with_reducible rfl))
         try simp only [lgA, lgB, lgC, Act.put, lsA, lsB, lsC]
         refine' tkz 13 rfl ?_ ?_
         rotate_left
         ·(intro w hSw; (try dsimp only at hSw); go_simp; try (with_reducible rfl))
         try simp only [lgA, lgB, lgC, Act.put, lsA, lsB, lsC]
         refine' tkz 14 rfl ?_ ?_
         rotate_left
         ·(intro w hSw; (try dsimp only at hSw); go_simp; try (with_reducible rfl))
         try simp only [lgA, lgB, lgC, Act.put, lsA, lsB, lsC]
         refine' tkz 15 rfl ?_ ?_
         rotate_left
         ·(intro w hSw; (try dsimp only at hSw); go_simp; try (with_reducible rfl))
         try simp only [lgA, lgB, lgC, Act.put, lsA, lsB, lsC]
         refine' tkz 16 rfl ?_ ?_
         rotate_left
         ·(intro w hSw; (try dsimp only at hSw); go_simp; try (with_reducible rfl))
         try simp only [lgA, lgB, lgC, Act.put, lsA, lsB, lsC]
         refine' tkz 17 rfl ?_ ?_
         rotate_left
         ·(intro w hSw; (try dsimp only at hSw); go_simp; try (with_reducible rfl))
         try simp only [lgA, lgB, lgC, Act.put, lsA, lsB, lsC]
         refine' tkz 18 rfl ?_ ?_
         rotate_left
         ·(intro w hSw; (try dsimp only at hSw); go_simp; try (with_reducible rfl))
         try simp only [lgA, lgB, lgC, Act.put, lsA, lsB, lsC]
         refine' tkz 19 rfl ?_ ?_
         rotate_left
         ·(intro w hSw; (try dsimp only at hSw); go_simp; try (with_reducible rfl))
         try simp only [lgA, lgB, lgC, Act.put, lsA, lsB, lsC]
         refine' tkz 20 rfl ?_ ?_
         rotate_left
         ·(intro w hSw; (try dsimp only at hSw); go_simp; try (with_reducible rfl))
         try simp only [lgA, lgB, lgC, Act.put, lsA, lsB, lsC]
         refine' tkz 21 rfl ?_ ?_
         rotate_left
         ·(intro w hSw; (try dsimp only at hSw); go_simp; try (with_reducible rfl))
         try simp only [lgA, lgB, lgC, Act.put, lsA, lsB, lsC]
         refine' tkz 22 rfl ?_ ?_
         rotate_left
         ·(intro w hSw; (try dsimp only at hSw); go_simp; try (with_reducible rfl))
         try simp only [lgA, lgB, lgC, Act.put, lsA, lsB, lsC]
         refine' tkz 23 rfl ?_ ?_
         rotate_left
         ·(intro w hSw; (try dsimp only at hSw); go_simp; try (with_reducible rfl))
         try simp only [lgA, lgB, lgC, Act.put, lsA, lsB, lsC]
         refine' tkz 24 rfl ?_ ?_
         rotate_left
         ·(intro w hSw; (try dsimp only at hSw); go_simp; try (with_reducible rfl))
         try simp only [lgA, lgB, lgC, Act.put, lsA, lsB, lsC]
         refine' tkz 25 rfl ?_ ?_
         rotate_left
         ·(intro w hSw; (try dsimp only at hSw); go_simp; try (with_reducible rfl))
         try simp only [lgA, lgB, lgC, Act.put, lsA, lsB, lsC]
         refine wpAnyH_done (by kernel_rfl) ?_ _
         have BV3 := hid DX32.out
         have RT3 := hid r33.out
         have RO3 := hid r34.out
         obtain ⟨V3, hV3⟩ : ∃ V, X32 = V := ⟨_, rfl⟩
         rw [hV3] at BV3 RT3 RO3 ⊢
         clear hV3
         go_upto_region 34 with fail
         obtain ⟨V36, hV36⟩ : ∃ U, V3.drew = U := ⟨_, rfl⟩
         have bV36 := hid (show Below V3.heap.size V3 V36 from by rw [← hV36]; exact bdrew1 _)
         have DV36 := hid (btr BV3.out bV36.out)
         have r37 := hid (row_on RT3.out bV36.out)
         have r38 := hid (row_on RO3.out bV36.out)
         refine wp_region_held_drew (S := (fun U => U.cell? ⟨gd, i * 3 + 1, none⟩ = some (.int .u64 dh) ∧ U.cell? ⟨gd, i * 3 + 2, none⟩ = some (.int .u64 dl))) (by kernel_rfl) ?_ (fun hHeld => ?_)
         ·(try dsimp only); rw [hV36]; exact ⟨HD1.out _ DV36.out, HD2.out _ DV36.out⟩
         rw [hV36] at hHeld ⊢
         clear hV36
         refine' tkz 1 rfl ?_ ?_
         rotate_left
         ·(intro w hSw; (try dsimp only at hSw); go_simp; try (with_reducible rfl))
         try simp only [lgA, lgB, lgC, Act.put, lsA, lsB, lsC]
         refine' tkz 2 rfl ?_ ?_
         rotate_left
         ·(intro w hSw; (try dsimp only at hSw); go_simp; try (with_reducible rfl))
         try simp only [lgA, lgB, lgC, Act.put, lsA, lsB, lsC]
         refine' tkz 3 rfl ?_ ?_
         rotate_left
         ·(intro w hSw; (try dsimp only at hSw); go_simp; try (with_reducible rfl))
         try simp only [lgA, lgB, lgC, Act.put, lsA, lsB, lsC]
         refine' tkz 4 rfl ?_ ?_
         rotate_left
         ·(intro w hSw; (try dsimp only at hSw); go_simp; try (with_reducible rfl))
         try simp only [lgA, lgB, lgC, Act.put, lsA, lsB, lsC]
         refine' tkz 5 rfl ?_ ?_
         rotate_left
         ·(intro w hSw; (try dsimp only at hSw); go_simp; try (with_reducible rfl))
         try simp only [lgA, lgB, lgC, Act.put, lsA, lsB, lsC]
         refine wpAnyH_ready (rs := [0]) (by kernel_rfl) (by simp) ?_
         refine (AllReadyH.cons rfl (fun K hK => ?_) AllReadyH.nil)
         have z0 := row_cell r38.out 0
         have z1 := row_cell r38.out 1
         simp only [lqA, lqB, lqC] at z0 z1
         go_simp
         refine hK.out _ _ ?_ (fun hHeld => ?_)
         ·(try dsimp only); exact ⟨HD1.out _ DV36.out, HD2.out _ DV36.out⟩
         clear hK K z0 z1
         try simp only [lgA, lgB, lgC, Act.put, lsA, lsB, lsC]
         refine wpAnyH_ready (rs := [6]) (by kernel_rfl) (by simp) ?_
         refine (AllReadyH.cons rfl (fun K hK => ?_) AllReadyH.nil)
         go_simp
         go_at_call 9
         with_reducible refine (CS2.out V36).mono ?_
         rintro e X39 ⟨rfl, cX39⟩
         have bX39 := hid cX39
         clear cX39
         have DX39 := hid (btr DV36.out bX39.out)
         have r40 := hid (row_on r37.out bX39.out)
         have r41 := hid (row_on r38.out bX39.out)
         (try go_wp2_with fail)
         refine hK.out _ _ ?_ (fun hHeld => ?_)
         ·(try dsimp only); exact ⟨HD1.out _ DX39.out, HD2.out _ DX39.out⟩
         clear hK K
         try simp only [lgA, lgB, lgC, Act.put, lsA, lsB, lsC]
         refine wpAnyH_ready (rs := [7]) (by kernel_rfl) (by simp) ?_
         refine (AllReadyH.cons rfl (fun K hK => ?_) AllReadyH.nil)
         refine step_store_row (by rfl) 33 (.tmp 8) (.tmp 193) (by rfl) gO #[.int .u64 oh1, .int .u64 ol1] (by rfl) (by rfl) 33 _ r41.out infoM2 (by rfl) (by simp [Value.oneCell']) ?_
         have AY42 := hid (setRow_heap X39 gO _ #[.int .u64 oh1, .int .u64 ol1] 33 (0, 0) r41.out)
         have kY42 := hid (setRow_kp X39 gO #[.int .u64 oh1, .int .u64 ol1])
         have r43 := hid (kY42.out.row r40.out (fun e => NTO.out e))
         have DY42 := hid (show Below _ _ _ from DX39.out.trans (kY42.out.below DX39.out.size (fun g hg e => by have := LOO.out; omega)))
         obtain ⟨Y42, hY42⟩ : ∃ Y, X39.setRow gO #[.int .u64 oh1, .int .u64 ol1] = Y := ⟨_, rfl⟩
         rw [hY42] at AY42 kY42 DY42 r43 ⊢
         clear hY42
         refine hK.out _ _ ?_ (fun hHeld => ?_)
         ·(try dsimp only); exact ⟨HD1.out _ DY42.out, HD2.out _ DY42.out⟩
         clear hK K
         try simp only [lgA, lgB, lgC, Act.put, lsA, lsB, lsC]
         refine wpAnyH_done (by kernel_rfl) ?_ _
         have BV4 := hid DY42.out
         have RT4 := hid r43.out
         have RO4 := hid AY42.out
         obtain ⟨V4, hV4⟩ : ∃ V, Y42 = V := ⟨_, rfl⟩
         rw [hV4] at BV4 RT4 RO4 ⊢
         clear hV4
         rw [← HE1.out, ← HE2.out] at RO4
         (try go_wp2)
         go_roundw
         case rel => exact ⟨i + 1, HLT.out, by go_num, BV4, RT4, RO4⟩
         case measure => have := HLT.out; simp [intOf]; omega
     ·obtain rfl : i = dn := by omega
      have iF : decide ((i : Int) < (i : Int)) = false := by simp
      have ez : sL (·.2) (dl0.take i) = 0 := by rw [List.take_of_length_le (by rw [HDN.out]; exact Nat.le_refl _)]; exact HZR.out.dzero
      rw [ez, show hiW 0 = 0 from rfl, show loW 0 = 0 from rfl] at RO
      clear ez
      go_upto_region 35 with fail
      have t0 := row_cell RT.out 0
      have t1 := row_cell RT.out 1
      have o0 := row_cell RO.out 0
      have o1 := row_cell RO.out 1
      simp only [lqA, lqB, lqC] at t0 t1 o0 o1
      go_wp2_with (first | (go_at_call 11; with_reducible refine (CG1.out wo).mono ?_; rintro e w8 ⟨rfl, h8⟩; have B8 := hid h8; have o2 := row_cell (row_on RO.out h8) 0; have o3 := row_cell (row_on RO.out h8) 1; simp only [lqA, lqB, lqC] at o2 o3; clear h8 o0 o1 t0 t1) | (go_at_call 11; with_reducible refine (CG1.out _).mono ?_; rintro e w9 ⟨rfl, h9⟩; have B9 := hid h9; clear h9))
      go_ret
      exact ⟨rfl, btr BALL.out (btr BWo.out (btr B8.out B9.out))⟩
 ·have P0 := P2.out.2.1 e2
  subst P0
  have ez : (er2 != 0) = true := by simpa using e2
  have BX := hid (btr B1.out B2.out)
  clear P2 e2
  go_wp2
  go_ret
  exact ⟨rfl, BX.out⟩
end Go.Proofs.YtlhbgaiiehljpaaGreat.Ac
