/-
  Take: what is held, and what is done.
-/
import Derived.Test.YtojmcfkbekodpaaRj
namespace Go.Proofs.Ytojmcfkbekodpaa.Fd
open Go.RowKit Go.Deep
set_option linter.unusedVariables false
set_option linter.unusedSimpArgs false
set_option maxHeartbeats 8000000
set_option maxRecDepth 100000
attribute [local go_sem ↓] Go.wp_at_zero Go.wp_at_succ
theorem take_gap {w : World} {S M nm : Nat} {sq hold gr : Int} {p1 : Option Addr} {c1 : Nat} {l1 : List Lv} {p2 : Option Addr} {c2 : Nat} {l2 : List Lv} {L : List Dm} {la : Dm} (h : Sb w S M nm sq hold gr p1 c1 l1 p2 c2 l2 L la) (d : Dm) (hok : dOk d = true) (hq : 0 ≤ d.sq ∧ d.sq < 18446744073709551616) (hx : L.any (fun x => x.sq == d.sq) = false) (hlt : sq < d.sq) (hgap : 1 < d.sq - sq) (hr : (L.length : Int) < hold) (hn : nm < maxLen) :
    Calls Try.prog 17 #[.pointer (some ⟨S, 0, none⟩), .agg #[.int .u64 d.sq, .int .i64 d.kd, .int .i64 d.sd, .int .i64 d.pr, .int .u64 d.qt, .int .i64 d.ct]] w fun e w' => e = .returned (.int .i64 181) ∧ Sb w' S M (nm + 1) sq hold (max gr d.sq) p1 c1 l1 p2 c2 l2 (L ++ [d]) la ∧ Kp (fun g => g = S ∨ g = M) w w' := by
  obtain ⟨R, hR⟩ : ∃ R, w.heap.size = R := ⟨_, rfl⟩
  obtain ⟨W, hW⟩ : ∃ W, w.alloc (.cells #[.int .u64 d.sq, .int .i64 d.kd, .int .i64 d.sd, .int .i64 d.pr, .int .u64 d.qt, .int .i64 d.ct] 47) = W := ⟨_, rfl⟩
  have hb0 : Below w.heap.size w W := by rw [← hW]; exact ball _ _
  have HD := hid (show W.heap[R]? = some (.cells #[.int .u64 d.sq, .int .i64 d.kd, .int .i64 d.sd, .int .i64 d.pr, .int .u64 d.qt, .int .i64 d.ct] 47 (0, 0)) from by rw [← hW, ← hR]; exact World.alloc_heap_new _ _)
  have HS := hid (h.on hb0)
  have HSR := hid HS.out.row
  have HB := hid hb0
  have HW := hid hW
  have HR := hid hR
  have CB := hid (fun U => canBe_any d U)
  rw [hok] at CB
  have LK := hid (show ∀ U, Below W.heap.size W U → (Instr.lookup 103 (.map (some M)) (.int .u64 d.sq) true).run Try.prog U = .ok (.tuple #[.agg #[.int .u64 dm0.sq, .int .i64 dm0.kd, .int .i64 dm0.sd, .int .i64 dm0.pr, .int .u64 dm0.qt, .int .i64 dm0.ct], .bool false]) U from fun U hU => by
    have := (HS.out.hm.on hU).look d.sq hq
    rw [hx, fnd_not hx] at this
    exact this)
  have HX := hid hx
  obtain ⟨G, hG⟩ : ∃ G, max gr d.sq = G := ⟨_, rfl⟩
  have HG := hid (show 0 ≤ G ∧ G < 18446744073709551616 from by rw [← hG]; have := h.gr; omega)
  have hsq := h.sq
  rw [hG]
  have gw : IntKind.u64.wrap (d.sq - sq) = d.sq - sq := by rw [IntKind.wrap_u64]; have := h.sq; omega
  clear h hb0 hW hR hok hx
  go_enter Try.func17, Try.ntmps17
  go_upto_region 1 with fail
  rw [HW.out, HR.out]
  refine reg_cut (X := Nat) (fun a t => ((((((((((((a.put (some 8) (.pointer (some ⟨S, 0, none⟩))).put (some 9) (.pointer (some ⟨S, 0, none⟩))).put (some 10) (.pointer (some ⟨S, 4, none⟩))).put (some 11) (.map (some M))).put (some 12) (.pointer (some ⟨R, 0, none⟩))).put (some 13) (.int .u64 d.sq)).put (some 14) (.tuple #[.agg #[.int .u64 dm0.sq, .int .i64 dm0.kd, .int .i64 dm0.sd, .int .i64 dm0.pr, .int .u64 dm0.qt, .int .i64 dm0.ct], .bool false])).put (some 7) (.tuple #[.agg #[.int .u64 dm0.sq, .int .i64 dm0.kd, .int .i64 dm0.sd, .int .i64 dm0.pr, .int .u64 dm0.qt, .int .i64 dm0.ct], .bool false])).put (some 15) (.agg #[.int .u64 dm0.sq, .int .i64 dm0.kd, .int .i64 dm0.sd, .int .i64 dm0.pr, .int .u64 dm0.qt, .int .i64 dm0.ct])).put (some 16) (.bool false)).put (some 5) (.pointer (some ⟨t, 0, none⟩))).put (some 6) (.bool false))) (fun t V => Hid (Below W.heap.size W V)) ?_ ?_
  · obtain ⟨V25, hV25⟩ : ∃ U, W.drew = U := ⟨_, rfl⟩
    have BV25 := hid (show Below W.heap.size W V25 from by rw [← hV25]; exact bdrew1 _)
    have r26 := hid (row_on HSR.out BV25.out)
    have r27 := hid (row_on HD.out BV25.out)
    refine wp_region_held_drew (S := (fun U => U.cell? ⟨S, 4, none⟩ = some (.map (some M)) ∧ U.cell? ⟨R, 0, none⟩ = some (.int .u64 d.sq) ∧ (Instr.lookup 103 (.map (some M)) (.int .u64 d.sq) true).run Try.prog U = .ok (.tuple #[.agg #[.int .u64 dm0.sq, .int .i64 dm0.kd, .int .i64 dm0.sd, .int .i64 dm0.pr, .int .u64 dm0.qt, .int .i64 dm0.ct], .bool false]) U)) (by kernel_rfl) ?_ (fun hHeld => ?_)
    · (try dsimp only); rw [hV25]; exact ⟨row_cell r26.out 4, row_cell r27.out 0, LK.out _ BV25.out⟩
    rw [hV25] at hHeld ⊢
    clear hV25
    refine' wpAnyH_take (i := 0) (oi := _) (v := _) rfl (by kernel_rfl) (by kernel_rfl) (by kernel_rfl) (fun _ _ _ h => h) (Or.inl ⟨by kernel_rfl, ?_⟩) (by assumption) ?_
    rotate_left
    · (intro w hSw; (try dsimp only at hSw); go_simp; try (with_reducible rfl))
    try simp only [List.getElem_toArray, List.getElem_cons_succ, List.getElem_cons_zero, Act.put, List.setIfInBounds_toArray, List.set_cons_zero, List.set_cons_succ]
    refine' wpAnyH_take (i := 1) (oi := _) (v := _) rfl (by kernel_rfl) (by kernel_rfl) (by kernel_rfl) (fun _ _ _ h => h) (Or.inl ⟨by kernel_rfl, ?_⟩) (by assumption) ?_
    rotate_left
    · (intro w hSw; (try dsimp only at hSw); go_simp; try (with_reducible rfl))
    try simp only [List.getElem_toArray, List.getElem_cons_succ, List.getElem_cons_zero, Act.put, List.setIfInBounds_toArray, List.set_cons_zero, List.set_cons_succ]
    refine' wpAnyH_take (i := 2) (oi := _) (v := _) rfl (by kernel_rfl) (by kernel_rfl) (by kernel_rfl) (fun _ _ _ h => h) (Or.inl ⟨by kernel_rfl, ?_⟩) (by assumption) ?_
    rotate_left
    · (intro w hSw; (try dsimp only at hSw); go_simp; try (with_reducible rfl))
    try simp only [List.getElem_toArray, List.getElem_cons_succ, List.getElem_cons_zero, Act.put, List.setIfInBounds_toArray, List.set_cons_zero, List.set_cons_succ]
    refine' wpAnyH_take (i := 3) (oi := _) (v := _) rfl (by kernel_rfl) (by kernel_rfl) (by kernel_rfl) (fun _ _ _ h => h) (Or.inl ⟨by kernel_rfl, ?_⟩) (by assumption) ?_
    rotate_left
    · (intro w hSw; (try dsimp only at hSw); go_simp; try (with_reducible rfl))
    try simp only [List.getElem_toArray, List.getElem_cons_succ, List.getElem_cons_zero, Act.put, List.setIfInBounds_toArray, List.set_cons_zero, List.set_cons_succ]
    refine' wpAnyH_take (i := 4) (oi := _) (v := _) rfl (by kernel_rfl) (by kernel_rfl) (by kernel_rfl) (fun _ _ _ h => h) (Or.inl ⟨by kernel_rfl, ?_⟩) (by assumption) ?_
    rotate_left
    · (intro w hSw; (try dsimp only at hSw); go_simp; try (with_reducible rfl))
    try simp only [List.getElem_toArray, List.getElem_cons_succ, List.getElem_cons_zero, Act.put, List.setIfInBounds_toArray, List.set_cons_zero, List.set_cons_succ]
    refine' wpAnyH_take (i := 5) (oi := _) (v := _) rfl (by kernel_rfl) (by kernel_rfl) (by kernel_rfl) (fun _ _ _ h => h) (Or.inl ⟨by kernel_rfl, ?_⟩) (by assumption) ?_
    rotate_left
    · (intro w hSw; (try dsimp only at hSw); go_simp; try (with_reducible rfl))
    try simp only [List.getElem_toArray, List.getElem_cons_succ, List.getElem_cons_zero, Act.put, List.setIfInBounds_toArray, List.set_cons_zero, List.set_cons_succ]
    refine' wpAnyH_take (i := 6) (oi := _) (v := _) rfl (by kernel_rfl) (by kernel_rfl) (by kernel_rfl) (fun _ _ _ h => h) (Or.inl ⟨by kernel_rfl, ?_⟩) (by assumption) ?_
    rotate_left
    · (intro w hSw; (try dsimp only at hSw); go_simp; try (with_reducible rfl))
    try simp only [List.getElem_toArray, List.getElem_cons_succ, List.getElem_cons_zero, Act.put, List.setIfInBounds_toArray, List.set_cons_zero, List.set_cons_succ]
    refine' wpAnyH_take (i := 7) (oi := _) (v := _) rfl (by kernel_rfl) (by kernel_rfl) (by kernel_rfl) (fun _ _ _ h => h) (Or.inl ⟨by kernel_rfl, ?_⟩) (by assumption) ?_
    rotate_left
    · (intro w hSw; (try dsimp only at hSw); go_simp; try (with_reducible rfl))
    try simp only [List.getElem_toArray, List.getElem_cons_succ, List.getElem_cons_zero, Act.put, List.setIfInBounds_toArray, List.set_cons_zero, List.set_cons_succ]
    refine' wpAnyH_take (i := 8) (oi := _) (v := _) rfl (by kernel_rfl) (by kernel_rfl) (by kernel_rfl) (fun _ _ _ h => h) (Or.inl ⟨by kernel_rfl, ?_⟩) (by assumption) ?_
    rotate_left
    · (intro w hSw; (try dsimp only at hSw); go_simp; try (with_reducible rfl))
    try simp only [List.getElem_toArray, List.getElem_cons_succ, List.getElem_cons_zero, Act.put, List.setIfInBounds_toArray, List.set_cons_zero, List.set_cons_succ]
    refine' wpAnyH_take (i := 9) (oi := _) (v := _) rfl (by kernel_rfl) (by kernel_rfl) (by kernel_rfl) (fun _ _ _ h => h) (Or.inl ⟨by kernel_rfl, ?_⟩) (by assumption) ?_
    rotate_left
    · (intro w hSw; (try dsimp only at hSw); go_simp; try (with_reducible rfl))
    try simp only [List.getElem_toArray, List.getElem_cons_succ, List.getElem_cons_zero, Act.put, List.setIfInBounds_toArray, List.set_cons_zero, List.set_cons_succ]
    refine wpAnyH_ready (rs := [10]) (by kernel_rfl) (by simp) ?_
    refine (AllReadyH.cons (o := _) rfl (fun K hK => ?_) AllReadyH.nil)
    go_simp
    obtain ⟨X28, hX28⟩ : ∃ X, V25.alloc (.cells #[.int .u64 0, .int .i64 0, .int .i64 0, .int .i64 0, .int .u64 0, .int .i64 0] 47) = X := ⟨_, rfl⟩
    have bX28 : Below V25.heap.size V25 X28 := by rw [← hX28]; exact ball _ _
    have r30 := hid (row_on r26.out bX28)
    have r31 := hid (row_on r27.out bX28)
    have DX28 := hid (btr BV25.out bX28)
    have zX28 : X28.heap[V25.heap.size]? = some (.cells #[.int .u64 0, .int .i64 0, .int .i64 0, .int .i64 0, .int .u64 0, .int .i64 0] 47 (0, 0)) := by rw [← hX28]; exact World.alloc_heap_new _ _
    have yg29 := BV25.out.size
    obtain ⟨g29, hg29⟩ : ∃ g, V25.heap.size = g := ⟨_, rfl⟩
    have n32 : g29 ≠ S := by have := row_lt r26.out; omega
    have n33 : g29 ≠ R := by have := row_lt r27.out; omega
    rw [hg29] at zX28 yg29
    have ZX28 := hid zX28
    rw [hX28, hg29]
    clear hX28 hg29 zX28 bX28
    refine hK.out _ _ ?_ (fun hHeld => ?_)
    · (try dsimp only); exact ⟨row_cell r30.out 4, row_cell r31.out 0, LK.out _ DX28.out⟩
    clear hK K
    try simp only [List.getElem_toArray, List.getElem_cons_succ, List.getElem_cons_zero, Act.put, List.setIfInBounds_toArray, List.set_cons_zero, List.set_cons_succ]
    refine wpAnyH_ready (rs := [11]) (by kernel_rfl) (by simp) ?_
    refine (AllReadyH.cons (o := _) rfl (fun K hK => ?_) AllReadyH.nil)
    refine step_store_row (by rfl) 47 (.tmp 5) (.tmp 15) (by rfl) g29 #[.int .u64 dm0.sq, .int .i64 dm0.kd, .int .i64 dm0.sd, .int .i64 dm0.pr, .int .u64 dm0.qt, .int .i64 dm0.ct] (by rfl) (by rfl) 47 _ ZX28.out infoD (by rfl) (by simp [Value.oneCell']) ?_
    obtain ⟨Y34, hY34⟩ : ∃ Y, X28.setRow g29 #[.int .u64 dm0.sq, .int .i64 dm0.kd, .int .i64 dm0.sd, .int .i64 dm0.pr, .int .u64 dm0.qt, .int .i64 dm0.ct] = Y := ⟨_, rfl⟩
    have KY34 := hid (show Kp (fun j => j = g29) X28 Y34 from by rw [← hY34]; exact setRow_kp _ _ _)
    have AY34 := hid (show Y34.heap[g29]? = some (.cells #[.int .u64 dm0.sq, .int .i64 dm0.kd, .int .i64 dm0.sd, .int .i64 dm0.pr, .int .u64 dm0.qt, .int .i64 dm0.ct] 47 (0, 0)) from by rw [← hY34]; exact setRow_heap X28 g29 _ _ 47 (0, 0) ZX28.out)
    have DY34 := hid (show Below W.heap.size W Y34 from by rw [← hY34]; exact setRow_below DX28.out yg29)
    have r35 := hid (KY34.out.row r30.out (fun e => n32.symm e))
    have r36 := hid (KY34.out.row r31.out (fun e => n33.symm e))
    rw [hY34]
    refine hK.out _ _ ?_ (fun hHeld => ?_)
    · (try dsimp only); exact ⟨row_cell r35.out 4, row_cell r36.out 0, LK.out _ DY34.out⟩
    clear hK K hY34
    try simp only [List.getElem_toArray, List.getElem_cons_succ, List.getElem_cons_zero, Act.put, List.setIfInBounds_toArray, List.set_cons_zero, List.set_cons_succ]
    refine' wpAnyH_take (i := 12) (oi := _) (v := _) rfl (by kernel_rfl) (by kernel_rfl) (by kernel_rfl) (fun _ _ _ h => h) (Or.inl ⟨by kernel_rfl, ?_⟩) (by assumption) ?_
    rotate_left
    · (intro w hSw; (try dsimp only at hSw); go_simp; try (with_reducible rfl))
    try simp only [List.getElem_toArray, List.getElem_cons_succ, List.getElem_cons_zero, Act.put, List.setIfInBounds_toArray, List.set_cons_zero, List.set_cons_succ]
    refine wpAnyH_done (by kernel_rfl) ?_ _
    exact ⟨g29, by kernel_rfl, DY34⟩
  · rintro P V BVH
    have BV := BVH.out
    try simp only [List.getElem_toArray, List.getElem_cons_succ, List.getElem_cons_zero, Act.put, List.setIfInBounds_toArray, List.set_cons_zero, List.set_cons_succ]
    obtain ⟨j0, j1, j2, j3, j4, j5⟩ := row6 (row_on HD.out BV)
    go_upto_region 4 with (go_at_call 39; with_reducible refine (CB.out _).mono ?_; rintro e V1 ⟨rfl, hb⟩; have BV1 := hid (btr BV hb); clear hb)
    clear j0 j1 j2 j3 j4 j5 LK
    have HS1 := hid (HS.out.on BV1.out)
    have HD1 := hid (row_on HD.out BV1.out)
    obtain ⟨k0, k1, k2, k3, k4, k5⟩ := row12 HS1.out.row
    obtain ⟨j0, j1, j2, j3, j4, j5⟩ := row6 HD1.out
    have g1 : decide (d.sq ≤ sq) = false := by simp; omega
    have g2 : ¬ d.sq ≤ sq := by omega
    go_quiet (fail)
    go_upto_region 6 with fail
    obtain ⟨V2, hV2⟩ : ∃ V2, V1.drewN nq = V2 := ⟨_, rfl⟩
    have BV2 := hid (show Below V1.heap.size V1 V2 from by rw [← hV2]; exact bdrew _ _)
    rw [hV2]
    clear hV2 k0 k1 k2 k3 k4 k5 j0 j1 j2 j3 j4 j5
    have HS2 := hid (HS1.out.on BV2.out)
    have HD2 := hid (row_on HD1.out BV2.out)
    have k5 := row_cell HS2.out.row 5
    have f5 := row_frz HS2.out.row 5
    obtain ⟨j0, j1, j2, j3, j4, j5⟩ := row6 HD2.out
    go_region_law fail
    all_goals
      clear k5 f5 j0 j1 j2 j3 j4 j5
      obtain ⟨V3, hV3⟩ : ∃ V3, (V2.setCell ⟨S, 5, none⟩ (.int .u64 G)).drew = V3 := ⟨_, rfl⟩
      have hs2 := HS2.out
      have K3 := hid (show Kp (fun g => g = S) V2 V3 from by rw [← hV3]; exact (Kp.set _ _ _ _).trans (Kp.of (fun _ => False) (bdrew1 _)) (fun _ _ h => h.elim))
      have HS3 := hid (show Sb V3 S M nm sq hold G p1 c1 l1 p2 c2 l2 L la from ⟨by rw [← hV3]; exact row_on (set_row _ hs2.row) (bdrew1 _), hs2.o1.kept K3.out (fun g hg e => by obtain ⟨cu, hc⟩ := hs2.o1.ty hg; exact row_ne hc hs2.row (by decide) e), hs2.o2.kept K3.out (fun g hg e => by obtain ⟨cu, hc⟩ := hs2.o2.ty hg; exact row_ne hc hs2.row (by decide) e), hs2.k1, hs2.k2, hs2.hm.kept K3.out (fun e => map_ne hs2.hm hs2.row e), hs2.sq, HG.out⟩)
      have HD3 := hid (K3.out.row HD2.out (fun e => row_ne HD2.out hs2.row (by decide) e))
      have KV3 := hid (show Kp (fun g => g = S) w V3 from (Kp.of _ (btr (btr HB.out BV1.out) BV2.out)).trans K3.out (fun _ _ h => h))
      rw [hV3]
      clear hV3 hs2 K3
      obtain ⟨k0, k1, k2, k3, k4, k5⟩ := row12 HS3.out.row
      obtain ⟨j0, j1, j2, j3, j4, j5⟩ := row6 HD3.out
      go_upto_region 7 with fail
      go_quiet (fail)
      obtain ⟨V4, hV4⟩ : ∃ V4, V3.drewN nq = V4 := ⟨_, rfl⟩
      have BV4 := hid (show Below V3.heap.size V3 V4 from by rw [← hV4]; exact bdrew _ _)
      rw [hV4]
      clear hV4 k0 k1 k2 k3 k4 k5 j0 j1 j2 j3 j4 j5
      have HS4 := hid (HS3.out.on BV4.out)
      have KV4 := hid (show Kp (fun g => g = S) w V4 from KV3.out.trans (Kp.of (fun _ => False) BV4.out) (fun _ _ h => h.elim))
      have HD4 := hid (row_on HD3.out BV4.out)
      obtain ⟨j0, j1, j2, j3, j4, j5⟩ := row6 HD4.out
      have CK := hid (keep_any HS4.out d hq HX.out hr hn)
      go_wp2_with (go_at_call 40; with_reducible refine (CK.out).mono ?_; rintro e V5 ⟨rfl, h1, h2⟩; have F1 := hid h1; have F2 := hid h2; clear h1 h2)
      go_ret
      exact ⟨rfl, F1.out, (KV4.out.mono (fun _ _ h => .inl h)).trans F2.out (fun _ _ h => .inr h)⟩
theorem take_next {w : World} {S M nm : Nat} {sq hold gr : Int} {p1 : Option Addr} {c1 : Nat} {l1 : List Lv} {p2 : Option Addr} {c2 : Nat} {l2 : List Lv} {L : List Dm} {la : Dm} (h : Sb w S M nm sq hold gr p1 c1 l1 p2 c2 l2 L la) (d : Dm) (hok : dOk d = true) (hq : 0 ≤ d.sq ∧ d.sq < 18446744073709551616) (hx : L.any (fun x => x.sq == d.sq) = false) (hlt : sq < d.sq) (hnx : d.sq = sq + 1) (a1 : d.kd = 1) (a2 : d.sd = 2) (a3 : dgn d = false) (a4 : ∀ k (hk : k < l2.length), bt 2 l2[k].pr d.pr = true) (a5 : Lok 2 (l2 ++ [(⟨d.pr, d.qt, d.ct⟩ : Lv)])) (a6 : ∀ g, ¬ OfP p1 g) (m : Dm) (b1 : L.any (fun x => x.sq == uw (d.sq + 1)) = true) (b2 : fnd L (uw (d.sq + 1)) = m) (b3 : L.Pairwise (fun x y => x.sq ≠ y.sq)) (b4 : (L.filter (fun d => d.sq != m.sq)).any (fun x => x.sq == uw (m.sq + 1)) = false) (b5 : m.kd = 1) (b6 : m.sd = 2) (b7 : dgn m = false) (b8 : ∀ k (hk : k < (l2 ++ [(⟨d.pr, d.qt, d.ct⟩ : Lv)]).length), bt 2 (l2 ++ [(⟨d.pr, d.qt, d.ct⟩ : Lv)])[k].pr m.pr = true) (b9 : Lok 2 (l2 ++ [(⟨d.pr, d.qt, d.ct⟩ : Lv)] ++ [(⟨m.pr, m.qt, m.ct⟩ : Lv)])) :
    Calls Try.prog 17 #[.pointer (some ⟨S, 0, none⟩), .agg #[.int .u64 d.sq, .int .i64 d.kd, .int .i64 d.sd, .int .i64 d.pr, .int .u64 d.qt, .int .i64 d.ct]] w fun e w' => e = .returned (.int .i64 0) ∧ ∃ q c', Sb w' S M nm m.sq hold (max gr d.sq) p1 c1 l1 q c' (l2 ++ [(⟨d.pr, d.qt, d.ct⟩ : Lv)] ++ [(⟨m.pr, m.qt, m.ct⟩ : Lv)]) (L.filter (fun d => d.sq != m.sq)) la ∧ Kp (fun g => g = S ∨ g = M ∨ OfP p2 g) w w' := by
  obtain ⟨R, hR⟩ : ∃ R, w.heap.size = R := ⟨_, rfl⟩
  obtain ⟨W, hW⟩ : ∃ W, w.alloc (.cells #[.int .u64 d.sq, .int .i64 d.kd, .int .i64 d.sd, .int .i64 d.pr, .int .u64 d.qt, .int .i64 d.ct] 47) = W := ⟨_, rfl⟩
  have hb0 : Below w.heap.size w W := by rw [← hW]; exact ball _ _
  have HD := hid (show W.heap[R]? = some (.cells #[.int .u64 d.sq, .int .i64 d.kd, .int .i64 d.sd, .int .i64 d.pr, .int .u64 d.qt, .int .i64 d.ct] 47 (0, 0)) from by rw [← hW, ← hR]; exact World.alloc_heap_new _ _)
  have HS := hid (h.on hb0)
  have HSR := hid HS.out.row
  have HB := hid hb0
  have HW := hid hW
  have HR := hid hR
  have CB := hid (fun U => canBe_any d U)
  rw [hok] at CB
  have LK := hid (show ∀ U, Below W.heap.size W U → (Instr.lookup 103 (.map (some M)) (.int .u64 d.sq) true).run Try.prog U = .ok (.tuple #[.agg #[.int .u64 dm0.sq, .int .i64 dm0.kd, .int .i64 dm0.sd, .int .i64 dm0.pr, .int .u64 dm0.qt, .int .i64 dm0.ct], .bool false]) U from fun U hU => by
    have := (HS.out.hm.on hU).look d.sq hq
    rw [hx, fnd_not hx] at this
    exact this)
  have HX := hid hx
  obtain ⟨G, hG⟩ : ∃ G, max gr d.sq = G := ⟨_, rfl⟩
  have HG := hid (show 0 ≤ G ∧ G < 18446744073709551616 from by rw [← hG]; have := h.gr; omega)
  have hsq := h.sq
  rw [hG]
  have gw : IntKind.u64.wrap (d.sq - sq) = 1 := by rw [IntKind.wrap_u64]; have := h.sq; omega
  have A1 := hid a1
  have A2 := hid a2
  have A3 := hid a3
  have A4 := hid a4
  have A5 := hid a5
  have A6 := hid a6
  have B1 := hid b1
  have B2 := hid b2
  have B3 := hid b3
  have B4 := hid b4
  have B5 := hid b5
  have B6 := hid b6
  have B7 := hid b7
  have B8 := hid b8
  have B9 := hid b9
  clear hnx a1 a2 a3 a4 a5 a6 b1 b2 b3 b4 b5 b6 b7 b8 b9
  clear h hb0 hW hR hok hx
  go_enter Try.func17, Try.ntmps17
  go_upto_region 1 with fail
  rw [HW.out, HR.out]
  refine reg_cut (X := Nat) (fun a t => ((((((((((((a.put (some 8) (.pointer (some ⟨S, 0, none⟩))).put (some 9) (.pointer (some ⟨S, 0, none⟩))).put (some 10) (.pointer (some ⟨S, 4, none⟩))).put (some 11) (.map (some M))).put (some 12) (.pointer (some ⟨R, 0, none⟩))).put (some 13) (.int .u64 d.sq)).put (some 14) (.tuple #[.agg #[.int .u64 dm0.sq, .int .i64 dm0.kd, .int .i64 dm0.sd, .int .i64 dm0.pr, .int .u64 dm0.qt, .int .i64 dm0.ct], .bool false])).put (some 7) (.tuple #[.agg #[.int .u64 dm0.sq, .int .i64 dm0.kd, .int .i64 dm0.sd, .int .i64 dm0.pr, .int .u64 dm0.qt, .int .i64 dm0.ct], .bool false])).put (some 15) (.agg #[.int .u64 dm0.sq, .int .i64 dm0.kd, .int .i64 dm0.sd, .int .i64 dm0.pr, .int .u64 dm0.qt, .int .i64 dm0.ct])).put (some 16) (.bool false)).put (some 5) (.pointer (some ⟨t, 0, none⟩))).put (some 6) (.bool false))) (fun t V => Hid (Below W.heap.size W V)) ?_ ?_
  · obtain ⟨V37, hV37⟩ : ∃ U, W.drew = U := ⟨_, rfl⟩
    have BV37 := hid (show Below W.heap.size W V37 from by rw [← hV37]; exact bdrew1 _)
    have r38 := hid (row_on HSR.out BV37.out)
    have r39 := hid (row_on HD.out BV37.out)
    refine wp_region_held_drew (S := (fun U => U.cell? ⟨S, 4, none⟩ = some (.map (some M)) ∧ U.cell? ⟨R, 0, none⟩ = some (.int .u64 d.sq) ∧ (Instr.lookup 103 (.map (some M)) (.int .u64 d.sq) true).run Try.prog U = .ok (.tuple #[.agg #[.int .u64 dm0.sq, .int .i64 dm0.kd, .int .i64 dm0.sd, .int .i64 dm0.pr, .int .u64 dm0.qt, .int .i64 dm0.ct], .bool false]) U)) (by kernel_rfl) ?_ (fun hHeld => ?_)
    · (try dsimp only); rw [hV37]; exact ⟨row_cell r38.out 4, row_cell r39.out 0, LK.out _ BV37.out⟩
    rw [hV37] at hHeld ⊢
    clear hV37
    refine' wpAnyH_take (i := 0) (oi := _) (v := _) rfl (by kernel_rfl) (by kernel_rfl) (by kernel_rfl) (fun _ _ _ h => h) (Or.inl ⟨by kernel_rfl, ?_⟩) (by assumption) ?_
    rotate_left
    · (intro w hSw; (try dsimp only at hSw); go_simp; try (with_reducible rfl))
    try simp only [List.getElem_toArray, List.getElem_cons_succ, List.getElem_cons_zero, Act.put, List.setIfInBounds_toArray, List.set_cons_zero, List.set_cons_succ]
    refine' wpAnyH_take (i := 1) (oi := _) (v := _) rfl (by kernel_rfl) (by kernel_rfl) (by kernel_rfl) (fun _ _ _ h => h) (Or.inl ⟨by kernel_rfl, ?_⟩) (by assumption) ?_
    rotate_left
    · (intro w hSw; (try dsimp only at hSw); go_simp; try (with_reducible rfl))
    try simp only [List.getElem_toArray, List.getElem_cons_succ, List.getElem_cons_zero, Act.put, List.setIfInBounds_toArray, List.set_cons_zero, List.set_cons_succ]
    refine' wpAnyH_take (i := 2) (oi := _) (v := _) rfl (by kernel_rfl) (by kernel_rfl) (by kernel_rfl) (fun _ _ _ h => h) (Or.inl ⟨by kernel_rfl, ?_⟩) (by assumption) ?_
    rotate_left
    · (intro w hSw; (try dsimp only at hSw); go_simp; try (with_reducible rfl))
    try simp only [List.getElem_toArray, List.getElem_cons_succ, List.getElem_cons_zero, Act.put, List.setIfInBounds_toArray, List.set_cons_zero, List.set_cons_succ]
    refine' wpAnyH_take (i := 3) (oi := _) (v := _) rfl (by kernel_rfl) (by kernel_rfl) (by kernel_rfl) (fun _ _ _ h => h) (Or.inl ⟨by kernel_rfl, ?_⟩) (by assumption) ?_
    rotate_left
    · (intro w hSw; (try dsimp only at hSw); go_simp; try (with_reducible rfl))
    try simp only [List.getElem_toArray, List.getElem_cons_succ, List.getElem_cons_zero, Act.put, List.setIfInBounds_toArray, List.set_cons_zero, List.set_cons_succ]
    refine' wpAnyH_take (i := 4) (oi := _) (v := _) rfl (by kernel_rfl) (by kernel_rfl) (by kernel_rfl) (fun _ _ _ h => h) (Or.inl ⟨by kernel_rfl, ?_⟩) (by assumption) ?_
    rotate_left
    · (intro w hSw; (try dsimp only at hSw); go_simp; try (with_reducible rfl))
    try simp only [List.getElem_toArray, List.getElem_cons_succ, List.getElem_cons_zero, Act.put, List.setIfInBounds_toArray, List.set_cons_zero, List.set_cons_succ]
    refine' wpAnyH_take (i := 5) (oi := _) (v := _) rfl (by kernel_rfl) (by kernel_rfl) (by kernel_rfl) (fun _ _ _ h => h) (Or.inl ⟨by kernel_rfl, ?_⟩) (by assumption) ?_
    rotate_left
    · (intro w hSw; (try dsimp only at hSw); go_simp; try (with_reducible rfl))
    try simp only [List.getElem_toArray, List.getElem_cons_succ, List.getElem_cons_zero, Act.put, List.setIfInBounds_toArray, List.set_cons_zero, List.set_cons_succ]
    refine' wpAnyH_take (i := 6) (oi := _) (v := _) rfl (by kernel_rfl) (by kernel_rfl) (by kernel_rfl) (fun _ _ _ h => h) (Or.inl ⟨by kernel_rfl, ?_⟩) (by assumption) ?_
    rotate_left
    · (intro w hSw; (try dsimp only at hSw); go_simp; try (with_reducible rfl))
    try simp only [List.getElem_toArray, List.getElem_cons_succ, List.getElem_cons_zero, Act.put, List.setIfInBounds_toArray, List.set_cons_zero, List.set_cons_succ]
    refine' wpAnyH_take (i := 7) (oi := _) (v := _) rfl (by kernel_rfl) (by kernel_rfl) (by kernel_rfl) (fun _ _ _ h => h) (Or.inl ⟨by kernel_rfl, ?_⟩) (by assumption) ?_
    rotate_left
    · (intro w hSw; (try dsimp only at hSw); go_simp; try (with_reducible rfl))
    try simp only [List.getElem_toArray, List.getElem_cons_succ, List.getElem_cons_zero, Act.put, List.setIfInBounds_toArray, List.set_cons_zero, List.set_cons_succ]
    refine' wpAnyH_take (i := 8) (oi := _) (v := _) rfl (by kernel_rfl) (by kernel_rfl) (by kernel_rfl) (fun _ _ _ h => h) (Or.inl ⟨by kernel_rfl, ?_⟩) (by assumption) ?_
    rotate_left
    · (intro w hSw; (try dsimp only at hSw); go_simp; try (with_reducible rfl))
    try simp only [List.getElem_toArray, List.getElem_cons_succ, List.getElem_cons_zero, Act.put, List.setIfInBounds_toArray, List.set_cons_zero, List.set_cons_succ]
    refine' wpAnyH_take (i := 9) (oi := _) (v := _) rfl (by kernel_rfl) (by kernel_rfl) (by kernel_rfl) (fun _ _ _ h => h) (Or.inl ⟨by kernel_rfl, ?_⟩) (by assumption) ?_
    rotate_left
    · (intro w hSw; (try dsimp only at hSw); go_simp; try (with_reducible rfl))
    try simp only [List.getElem_toArray, List.getElem_cons_succ, List.getElem_cons_zero, Act.put, List.setIfInBounds_toArray, List.set_cons_zero, List.set_cons_succ]
    refine wpAnyH_ready (rs := [10]) (by kernel_rfl) (by simp) ?_
    refine (AllReadyH.cons (o := _) rfl (fun K hK => ?_) AllReadyH.nil)
    go_simp
    obtain ⟨X40, hX40⟩ : ∃ X, V37.alloc (.cells #[.int .u64 0, .int .i64 0, .int .i64 0, .int .i64 0, .int .u64 0, .int .i64 0] 47) = X := ⟨_, rfl⟩
    have bX40 : Below V37.heap.size V37 X40 := by rw [← hX40]; exact ball _ _
    have r42 := hid (row_on r38.out bX40)
    have r43 := hid (row_on r39.out bX40)
    have DX40 := hid (btr BV37.out bX40)
    have zX40 : X40.heap[V37.heap.size]? = some (.cells #[.int .u64 0, .int .i64 0, .int .i64 0, .int .i64 0, .int .u64 0, .int .i64 0] 47 (0, 0)) := by rw [← hX40]; exact World.alloc_heap_new _ _
    have yg41 := BV37.out.size
    obtain ⟨g41, hg41⟩ : ∃ g, V37.heap.size = g := ⟨_, rfl⟩
    have n44 : g41 ≠ S := by have := row_lt r38.out; omega
    have n45 : g41 ≠ R := by have := row_lt r39.out; omega
    rw [hg41] at zX40 yg41
    have ZX40 := hid zX40
    rw [hX40, hg41]
    clear hX40 hg41 zX40 bX40
    refine hK.out _ _ ?_ (fun hHeld => ?_)
    · (try dsimp only); exact ⟨row_cell r42.out 4, row_cell r43.out 0, LK.out _ DX40.out⟩
    clear hK K
    try simp only [List.getElem_toArray, List.getElem_cons_succ, List.getElem_cons_zero, Act.put, List.setIfInBounds_toArray, List.set_cons_zero, List.set_cons_succ]
    refine wpAnyH_ready (rs := [11]) (by kernel_rfl) (by simp) ?_
    refine (AllReadyH.cons (o := _) rfl (fun K hK => ?_) AllReadyH.nil)
    refine step_store_row (by rfl) 47 (.tmp 5) (.tmp 15) (by rfl) g41 #[.int .u64 dm0.sq, .int .i64 dm0.kd, .int .i64 dm0.sd, .int .i64 dm0.pr, .int .u64 dm0.qt, .int .i64 dm0.ct] (by rfl) (by rfl) 47 _ ZX40.out infoD (by rfl) (by simp [Value.oneCell']) ?_
    obtain ⟨Y46, hY46⟩ : ∃ Y, X40.setRow g41 #[.int .u64 dm0.sq, .int .i64 dm0.kd, .int .i64 dm0.sd, .int .i64 dm0.pr, .int .u64 dm0.qt, .int .i64 dm0.ct] = Y := ⟨_, rfl⟩
    have KY46 := hid (show Kp (fun j => j = g41) X40 Y46 from by rw [← hY46]; exact setRow_kp _ _ _)
    have AY46 := hid (show Y46.heap[g41]? = some (.cells #[.int .u64 dm0.sq, .int .i64 dm0.kd, .int .i64 dm0.sd, .int .i64 dm0.pr, .int .u64 dm0.qt, .int .i64 dm0.ct] 47 (0, 0)) from by rw [← hY46]; exact setRow_heap X40 g41 _ _ 47 (0, 0) ZX40.out)
    have DY46 := hid (show Below W.heap.size W Y46 from by rw [← hY46]; exact setRow_below DX40.out yg41)
    have r47 := hid (KY46.out.row r42.out (fun e => n44.symm e))
    have r48 := hid (KY46.out.row r43.out (fun e => n45.symm e))
    rw [hY46]
    refine hK.out _ _ ?_ (fun hHeld => ?_)
    · (try dsimp only); exact ⟨row_cell r47.out 4, row_cell r48.out 0, LK.out _ DY46.out⟩
    clear hK K hY46
    try simp only [List.getElem_toArray, List.getElem_cons_succ, List.getElem_cons_zero, Act.put, List.setIfInBounds_toArray, List.set_cons_zero, List.set_cons_succ]
    refine' wpAnyH_take (i := 12) (oi := _) (v := _) rfl (by kernel_rfl) (by kernel_rfl) (by kernel_rfl) (fun _ _ _ h => h) (Or.inl ⟨by kernel_rfl, ?_⟩) (by assumption) ?_
    rotate_left
    · (intro w hSw; (try dsimp only at hSw); go_simp; try (with_reducible rfl))
    try simp only [List.getElem_toArray, List.getElem_cons_succ, List.getElem_cons_zero, Act.put, List.setIfInBounds_toArray, List.set_cons_zero, List.set_cons_succ]
    refine wpAnyH_done (by kernel_rfl) ?_ _
    exact ⟨g41, by kernel_rfl, DY46⟩
  · rintro P V BVH
    have BV := BVH.out
    try simp only [List.getElem_toArray, List.getElem_cons_succ, List.getElem_cons_zero, Act.put, List.setIfInBounds_toArray, List.set_cons_zero, List.set_cons_succ]
    obtain ⟨j0, j1, j2, j3, j4, j5⟩ := row6 (row_on HD.out BV)
    go_upto_region 4 with (go_at_call 39; with_reducible refine (CB.out _).mono ?_; rintro e V1 ⟨rfl, hb⟩; have BV1 := hid (btr BV hb); clear hb)
    clear j0 j1 j2 j3 j4 j5 LK
    have HS1 := hid (HS.out.on BV1.out)
    have HD1 := hid (row_on HD.out BV1.out)
    obtain ⟨k0, k1, k2, k3, k4, k5⟩ := row12 HS1.out.row
    obtain ⟨j0, j1, j2, j3, j4, j5⟩ := row6 HD1.out
    have g1 : decide (d.sq ≤ sq) = false := by simp; omega
    have g2 : ¬ d.sq ≤ sq := by omega
    go_quiet (fail)
    go_upto_region 6 with fail
    obtain ⟨V2, hV2⟩ : ∃ V2, V1.drewN nq = V2 := ⟨_, rfl⟩
    have BV2 := hid (show Below V1.heap.size V1 V2 from by rw [← hV2]; exact bdrew _ _)
    rw [hV2]
    clear hV2 k0 k1 k2 k3 k4 k5 j0 j1 j2 j3 j4 j5
    have HS2 := hid (HS1.out.on BV2.out)
    have HD2 := hid (row_on HD1.out BV2.out)
    have k5 := row_cell HS2.out.row 5
    have f5 := row_frz HS2.out.row 5
    obtain ⟨j0, j1, j2, j3, j4, j5⟩ := row6 HD2.out
    go_region_law fail
    all_goals
      clear k5 f5 j0 j1 j2 j3 j4 j5
      obtain ⟨V3, hV3⟩ : ∃ V3, (V2.setCell ⟨S, 5, none⟩ (.int .u64 G)).drew = V3 := ⟨_, rfl⟩
      have hs2 := HS2.out
      have K3 := hid (show Kp (fun g => g = S) V2 V3 from by rw [← hV3]; exact (Kp.set _ _ _ _).trans (Kp.of (fun _ => False) (bdrew1 _)) (fun _ _ h => h.elim))
      have HS3 := hid (show Sb V3 S M nm sq hold G p1 c1 l1 p2 c2 l2 L la from ⟨by rw [← hV3]; exact row_on (set_row _ hs2.row) (bdrew1 _), hs2.o1.kept K3.out (fun g hg e => by obtain ⟨cu, hc⟩ := hs2.o1.ty hg; exact row_ne hc hs2.row (by decide) e), hs2.o2.kept K3.out (fun g hg e => by obtain ⟨cu, hc⟩ := hs2.o2.ty hg; exact row_ne hc hs2.row (by decide) e), hs2.k1, hs2.k2, hs2.hm.kept K3.out (fun e => map_ne hs2.hm hs2.row e), hs2.sq, HG.out⟩)
      have HD3 := hid (K3.out.row HD2.out (fun e => row_ne HD2.out hs2.row (by decide) e))
      have KV3 := hid (show Kp (fun g => g = S) w V3 from (Kp.of _ (btr (btr HB.out BV1.out) BV2.out)).trans K3.out (fun _ _ h => h))
      rw [hV3]
      clear hV3 hs2 K3
      obtain ⟨k0, k1, k2, k3, k4, k5⟩ := row12 HS3.out.row
      obtain ⟨j0, j1, j2, j3, j4, j5⟩ := row6 HD3.out
      go_upto_region 7 with fail
      go_quiet (fail)
      obtain ⟨V4, hV4⟩ : ∃ V4, V3.drewN nq = V4 := ⟨_, rfl⟩
      have BV4 := hid (show Below V3.heap.size V3 V4 from by rw [← hV4]; exact bdrew _ _)
      rw [hV4]
      clear hV4 k0 k1 k2 k3 k4 k5 j0 j1 j2 j3 j4 j5
      have HS4 := hid (HS3.out.on BV4.out)
      have KV4 := hid (show Kp (fun g => g = S) w V4 from KV3.out.trans (Kp.of (fun _ => False) BV4.out) (fun _ _ h => h.elim))
      have HD4 := hid (row_on HD3.out BV4.out)
      obtain ⟨j0, j1, j2, j3, j4, j5⟩ := row6 HD4.out
      have CK := hid (do_sell HS4.out d hq A1.out A2.out A3.out A4.out A5.out (fun g hg => (A6.out g hg).elim))
      go_upto_region 11 with (go_at_call 41; with_reducible refine (CK.out).mono ?_; rintro e V5 ⟨rfl, q, c', h1, h2, h3⟩; have F1 := hid h1; have F2 := hid h2; have F3 := hid h3; clear h1 h2 h3)
      have CU := hid (catch_one F1.out m B1.out B2.out B3.out B4.out B5.out B6.out B7.out B8.out B9.out (fun g hg => (A6.out g hg).elim))
      clear CK j0 j1 j2 j3 j4 j5
      go_wp2_with (go_at_call 42; with_reducible refine (CU.out).mono ?_; rintro e V6 ⟨rfl, q2, c2', h1, h2, h3⟩; have G1 := hid h1; have G2 := hid h2; have G3 := hid h3; clear h1 h2 h3)
      go_ret
      refine ⟨rfl, q2, c2', G1.out, ?_⟩
      refine ((KV4.out.mono (fun _ _ h => .inl h)).trans F2.out (fun _ _ h => h.elim .inl (fun h => .inr (.inr h)))).trans G2.out (fun g hg h => ?_)
      rcases h with h | h | h
      · exact .inl h
      · exact .inr (.inl h)
      · rcases F3.out g h with h | h
        · exact .inr (.inr h)
        · have := KV4.out.size; omega
end Go.Proofs.Ytojmcfkbekodpaa.Fd
